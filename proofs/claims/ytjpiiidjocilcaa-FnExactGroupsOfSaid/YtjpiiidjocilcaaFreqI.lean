/- The frequency of a class: the program's FrequencyOf, and what it calls. -/
import Derived.Test.YtjpiiidjocilcaaFreq
import Derived.Test.YtjpiiidjocilcaaTlImpl
import Derived.Test.YtjpiiidjocilcaaCalMath
namespace Go.Proofs.Ytjpiiidjocilcaa
open Go.RowKit
set_option linter.unusedVariables false
set_option linter.unusedSimpArgs false
theorem implClass_any (k : Int) (w : World) : Calls Try.prog 59 #[.int .i64 k] w fun e w' => e = .returned (.bool (clsB k)) ∧ w = w' := by
  by_cases h0 : 0 ≤ k
  · by_cases h1 : k ≤ 10
    · have e : clsB k = true := by unfold clsB; simp [h0, h1]
      rw [e]
      go_enter Try.func59, Try.ntmps59
      go_wp2
      go_ret
      exact ⟨rfl, rfl⟩
    · have e : clsB k = false := by unfold clsB; simp [h1]
      rw [e]
      go_enter Try.func59, Try.ntmps59
      go_wp2
      go_ret
      exact ⟨rfl, rfl⟩
  · have e : clsB k = false := by unfold clsB; simp [h0]
    rw [e]
    go_enter Try.func59, Try.ntmps59
    go_wp2
    go_ret
    exact ⟨rfl, rfl⟩
set_option maxHeartbeats 1000000 in
theorem implGcd_nat (x y : Nat) (w : World) (hx : x ≤ 4611686018427387904) (hy : y ≤ 4611686018427387904) :
    Calls Try.prog 86 #[.int .i64 x, .int .i64 y] w fun e w' => e = .returned (.int .i64 (gcdZ x y)) ∧ Below w.heap.size w w' := by
  obtain ⟨z, hz⟩ : ∃ z, gcdZ x y = z := ⟨_, rfl⟩
  rw [hz]
  have HZ := Lib.hid hz
  clear hz
  go_enter Try.func86, Try.ntmps86
  go_wp2
  go_loopw [0, 1] (fun p q wr => ∃ m n : Nat, p = .int .i64 m ∧ q = .int .i64 n ∧ m ≤ 4611686018427387904 ∧ n ≤ 4611686018427387904 ∧ gcdZ m n = z ∧ Below w.heap.size w wr) (fun _ q _ => (intOf q).toNat)
  case atStart => exact ⟨x, y, rfl, rfl, hx, hy, HZ.out, Below.refl _ _⟩
  case round =>
    obtain ⟨m, n, rfl, rfl, hm, hn, hg, hb⟩ := hrel
    have HG := Lib.hid hg
    have HB := Lib.hid hb
    clear hg hb
    by_cases h : 0 < n
    · have h0 : (0 : Int) < (n : Int) := by omega
      have hs := Lib.hid (gcdZ_step (x := m) h)
      have e1 : (m : Int).tmod n = ((m % n : Nat) : Int) := by rw [Int.tmod_eq_emod_of_nonneg (by omega), ← Int.natCast_emod]
      have hlt : m % n < n := Nat.mod_lt _ h
      obtain ⟨t, ht⟩ : ∃ t, m % n = t := ⟨_, rfl⟩
      rw [ht] at e1 hlt
      have HT := Lib.hid e1
      clear ht
      have hn0 : ¬ (n : Int) = 0 := by omega
      have hn1 : ((n : Int) != 0) = true := by simp; omega
      go_wp2_with fail
      go_region
      go_wp2
      go_roundw
      case rel => exact ⟨n, t, rfl, rfl, hn, by omega, by rw [← HT.out, hs.out]; exact HG.out, HB.out.drew⟩
      case measure => simp [intOf]; omega
    · obtain rfl : n = 0 := by omega
      go_wp2
      go_ret
      exact ⟨by rw [← HG.out, show ((0 : Nat) : Int) = 0 from rfl, gcdZ_zero]; rfl, HB.out⟩
theorem implGcd_any (a b : Int) (W : World) (h1 : 0 ≤ a) (h2 : 0 ≤ b) (h3 : a ≤ 1000000) (h4 : b ≤ 1000000) :
    Calls Try.prog 86 #[.int .i64 a, .int .i64 b] W fun e w' => e = .returned (.int .i64 (gcdZ a b)) ∧ Below W.heap.size W w' := by
  obtain ⟨x, rfl⟩ := Int.eq_ofNat_of_zero_le h1
  obtain ⟨y, rfl⟩ := Int.eq_ofNat_of_zero_le h2
  exact implGcd_nat x y W (by omega) (by omega)
/-- the frequency of a group -/
theorem freqG_any (f ca hi : Int) (w : World) (h0 : 1 ≤ ca) (h1 : 0 ≤ hi) (h2 : hi ≤ ca) (h3 : ca ≤ 100000) :
    Calls Try.prog 66 #[.agg #[.int .i64 f, .int .i64 ca, .int .i64 hi]] w fun e w' => e = .returned (.agg #[.int .i64 (redN hi ca), .int .i64 (redD hi ca)]) ∧ Below w.heap.size w w' := by
  have HC := Lib.hid (fun W => implGcd_any hi ca W (by omega) (by omega) (by omega) (by omega))
  have hp := gcdZ_ge (a := hi) (b := ca) (by omega)
  have HN := Lib.hid (show redN hi ca = hi / (gcdZ hi ca) from rfl)
  have HD := Lib.hid (show redD hi ca = ca / (gcdZ hi ca) from rfl)
  generalize gcdZ hi ca = z at *
  have hz : ¬ z = 0 := by omega
  have b1 : 0 ≤ hi / z ∧ hi / z ≤ hi := ⟨Int.ediv_nonneg (by omega) (by omega), Int.ediv_le_self _ (by omega)⟩
  have b2 : 0 ≤ ca / z ∧ ca / z ≤ ca := ⟨Int.ediv_nonneg (by omega) (by omega), Int.ediv_le_self _ (by omega)⟩
  have t1 : hi.tdiv z = hi / z := Int.tdiv_eq_ediv_of_nonneg (by omega)
  have t2 : ca.tdiv z = ca / z := Int.tdiv_eq_ediv_of_nonneg (by omega)
  rw [HN.out, HD.out]
  clear HN HD
  obtain ⟨p, hp1⟩ : ∃ p, hi / z = p := ⟨_, rfl⟩
  obtain ⟨q, hq1⟩ : ∃ q, ca / z = q := ⟨_, rfl⟩
  rw [hp1] at b1 t1
  rw [hq1] at b2 t2
  rw [hp1, hq1]
  clear hp1 hq1
  have B0 := Lib.hid (((Below.refl w.heap.size w).alloc (Nat.le_refl _) (.cells #[.int .i64 f, .int .i64 ca, .int .i64 hi] 83)).alloc (by simp) (.cells #[.int .i64 0, .int .i64 0] 38))
  go_enter Try.func66, Try.ntmps66
  go_wp2_with fail
  refine (HC.out _).mono ?_
  rintro e w1 ⟨rfl, b1'⟩
  have k1 := b1'.cell (p := ⟨w.heap.size, 1, none⟩) (by simp <;> omega)
  have k2 := b1'.cell (p := ⟨w.heap.size, 2, none⟩) (by simp <;> omega)
  have k3 := b1'.cell (p := ⟨w.heap.size + 1, 0, none⟩) (by simp)
  have k4 := b1'.cell (p := ⟨w.heap.size + 1, 1, none⟩) (by simp)
  obtain ⟨hc, hf⟩ := bcell b1'
  have B1 := Lib.hid (B0.out.trans (b1'.mono B0.out.size))
  have hz1 := b1'.size
  simp at hz1
  clear b1'
  go_wp2_with fail
  go_region
  go_wp2
  refine bodyPost_ret (v := .agg #[.int .i64 p, .int .i64 q]) (by simp [results, Try.results66, go_sem, hc, hf]) rfl ⟨rfl, ?_⟩
  first | exact (B1.out.drew.setCell (by simp) _).setCell (by simp) _ | exact ((B1.out.setCell (by simp) _).setCell (by simp) _).drew
/-- the group of a class -/
theorem groupOf_any (a b : Option Addr) (l r : List Int) (c d : Nat) (k : Nat) (w : World) (hl : Ints .i64 w w.heap.size a l) (hr : Ints .i64 w w.heap.size b r) (hk : k < l.length) (hk2 : k < r.length) (hm : l.length ≤ 1048576) (hm2 : r.length ≤ 1048576) :
    Calls Try.prog 65 #[.agg #[.slice a l.length c, .slice b r.length d], .int .i64 k] w fun e w' => e = .returned (.agg #[.int .i64 k, .int .i64 l[k], .int .i64 r[k]]) ∧ Below w.heap.size w w' := by
  obtain ⟨q1, o1, rfl, hb1, hc1⟩ := hl.at_ hk
  obtain ⟨q2, o2, rfl, hb2, hc2⟩ := hr.at_ hk2
  have hi : (k : Int) < (l.length : Int) := by omega
  have hi0 : (0 : Int) ≤ (k : Int) := by omega
  have hi2 : (k : Int) < (r.length : Int) := by omega
  generalize l[k] = x at *
  generalize r[k] = y at *
  have B0 := Lib.hid (fun ob => ((Below.refl w.heap.size w).alloc (Nat.le_refl _) (.cells #[.slice (some ⟨q1, o1, none⟩) l.length c, .slice (some ⟨q2, o2, none⟩) r.length d] 27)).alloc (by simp) ob)
  have n1 : ¬ q1 = w.heap.size := by omega
  have n2 : ¬ q2 = w.heap.size := by omega
  have n3 : ¬ q1 = w.heap.size + 1 := by omega
  have n4 : ¬ q2 = w.heap.size + 1 := by omega
  clear hl hr
  go_enter Try.func65, Try.ntmps65
  go_wp2_with fail
  go_region
  go_wp2
  refine bodyPost_ret (v := .agg #[.int .i64 k, .int .i64 x, .int .i64 y]) (by simp [results, Try.results65, go_sem]) rfl ⟨rfl, ?_⟩
  exact (B0.out _).drew
set_option maxHeartbeats 4000000 in
theorem implFreq_any (a b : Option Addr) (l r : List Int) (c d : Nat) (k : Int) (w : World) (hl : Ints .i64 w w.heap.size a l) (hr : Ints .i64 w w.heap.size b r) :
    Calls Try.prog 25 #[.agg #[.slice a l.length c, .slice b r.length d], .int .i64 k] w fun e w' => e = .returned (.tuple #[.agg #[.int .i64 (frqN l r k), .int .i64 (frqD l r k)], .bool (frqB l r k)]) ∧ Below w.heap.size w w' := by
  have hlW := (ints_alloc (ints_alloc hl (.cells #[.slice a l.length c, .slice b r.length d] 27)) (.cells #[.int .i64 0, .int .i64 0] 38))
  have hrW := (ints_alloc (ints_alloc hr (.cells #[.slice a l.length c, .slice b r.length d] 27)) (.cells #[.int .i64 0, .int .i64 0] 38))
  have HL := Lib.hid hl
  have HR := Lib.hid hr
  have B0 := Lib.hid (((Below.refl w.heap.size w).alloc (Nat.le_refl _) (.cells #[.slice a l.length c, .slice b r.length d] 27)).alloc (by simp) (.cells #[.int .i64 0, .int .i64 0] 38))
  have HG := Lib.hid (implTlIs_any a b l r c d _ hlW hrW)
  clear hl hr hlW hrW
  have HC := Lib.hid (fun W => implClass_any k W)
  cases hg : tlB l r with
  | false =>
    have e0 : frqB l r k = false := by unfold frqB; rw [hg]; rfl
    have e1 : frqN l r k = 0 := by unfold frqN; rw [e0]; rfl
    have e2 : frqD l r k = 0 := by unfold frqD; rw [e0]; rfl
    rw [e0, e1, e2]
    rw [hg] at HG
    clear hg e0 e1 e2
    go_enter Try.func25, Try.ntmps25
    go_wp2_with fail
    refine HG.out.mono ?_
    rintro e w1 ⟨rfl, b1⟩
    have c2 := b1.cell (p := ⟨w.heap.size + 1, 0, none⟩) (by simp)
    have c3 := b1.cell (p := ⟨w.heap.size + 1, 1, none⟩) (by simp)
    obtain ⟨hc, hf⟩ := bcell b1
    have B1 := Lib.hid (B0.out.trans (b1.mono B0.out.size))
    have hz := b1.size
    simp at hz
    clear b1
    go_wp2
    refine bodyPost_ret (v := .tuple #[.agg #[.int .i64 0, .int .i64 0], .bool false]) (by simp [results, Try.results25, go_sem, hc, hf]) rfl ⟨rfl, ?_⟩
    exact (B1.out.setCell (by simp) _).setCell (by simp) _
  | true =>
    rw [hg] at HG
    obtain ⟨hl11, hr11⟩ := tl_len hg
    cases hk : clsB k with
    | false =>
      have e0 : frqB l r k = false := by unfold frqB; rw [hg, hk]; rfl
      have e1 : frqN l r k = 0 := by unfold frqN; rw [e0]; rfl
      have e2 : frqD l r k = 0 := by unfold frqD; rw [e0]; rfl
      rw [e0, e1, e2]
      rw [hk] at HC
      clear hg hk e0 e1 e2 hl11 hr11
      go_enter Try.func25, Try.ntmps25
      go_wp2_with fail
      refine HG.out.mono ?_
      rintro e w1 ⟨rfl, b1⟩
      have c0 := b1.cell (p := ⟨w.heap.size, 0, none⟩) (by simp <;> omega)
      have c1 := b1.cell (p := ⟨w.heap.size, 1, none⟩) (by simp <;> omega)
      have c2 := b1.cell (p := ⟨w.heap.size + 1, 0, none⟩) (by simp)
      have c3 := b1.cell (p := ⟨w.heap.size + 1, 1, none⟩) (by simp)
      obtain ⟨hc, hf⟩ := bcell b1
      have B1 := Lib.hid (B0.out.trans (b1.mono B0.out.size))
      have hz := b1.size
      simp at hz
      clear b1
      go_wp2_with (go_at_call 59; refine (HC.out _).mono ?_; rintro e w2 ⟨rfl, rfl⟩)
      refine bodyPost_ret (v := .tuple #[.agg #[.int .i64 0, .int .i64 0], .bool false]) (by simp [results, Try.results25, go_sem, hc, hf]) rfl ⟨rfl, ?_⟩
      exact (B1.out.setCell (by simp) _).setCell (by simp) _
    | true =>
      rw [hk] at HC
      have ik := cls_in hk
      obtain ⟨n, rfl⟩ := Int.eq_ofNat_of_zero_le ik.1
      have hn : n < l.length := by omega
      have hn2 : n < r.length := by omega
      have hi : (n : Int) < (l.length : Int) := by omega
      have hi0 : (0 : Int) ≤ (n : Int) := by omega
      have hi2 : (n : Int) < (r.length : Int) := by omega
      have hcs := tl_at hg hn hn2
      have eb : frqB l r n = !(l[n] == 0) := by unfold frqB; rw [hg, hk, Int.toNat_natCast, getD_at l hn]; rfl
      obtain ⟨q1, o1, rfl, hb1, hc1⟩ := HL.out.at_ hn
      obtain ⟨q2, o2, rfl, hb2, hc2⟩ := HR.out.at_ hn2
      have en : frqN l r n = if frqB l r n = true then redN r[n] l[n] else 0 := by unfold frqN; rw [Int.toNat_natCast, getD_at l hn, getD_at r hn2]
      have ed : frqD l r n = if frqB l r n = true then redD r[n] l[n] else 0 := by unfold frqD; rw [Int.toNat_natCast, getD_at l hn, getD_at r hn2]
      rw [eb] at en ed ⊢
      rw [en, ed]
      clear en ed eb hg hk ik
      obtain ⟨x, hx0⟩ : ∃ x, l[n] = x := ⟨_, rfl⟩
      obtain ⟨y, hy0⟩ : ∃ y, r[n] = y := ⟨_, rfl⟩
      rw [hx0] at hcs hc1 ⊢
      rw [hy0] at hcs hc2 ⊢
      have HX := Lib.hid hx0
      have HY := Lib.hid hy0
      clear hx0 hy0
      have hx : (0 ≤ x ∧ x ≤ 1000) ∧ (0 ≤ y ∧ y ≤ x) := by unfold caseB at hcs; simpa using hcs
      have hlm : l.length ≤ 1048576 := by omega
      have hrm : r.length ≤ 1048576 := by omega
      clear hcs hl11 hr11
      by_cases x0 : x = 0
      · subst x0
        clear hx
        show Calls _ _ _ _ fun e w' => e = .returned (.tuple #[.agg #[.int .i64 0, .int .i64 0], .bool false]) ∧ _
        go_enter Try.func25, Try.ntmps25
        go_wp2_with fail
        refine HG.out.mono ?_
        rintro e w1 ⟨rfl, b1⟩
        have c0 := b1.cell (p := ⟨w.heap.size, 0, none⟩) (by simp <;> omega)
        have c1 := b1.cell (p := ⟨w.heap.size, 1, none⟩) (by simp <;> omega)
        have c2 := b1.cell (p := ⟨w.heap.size + 1, 0, none⟩) (by simp)
        have c3 := b1.cell (p := ⟨w.heap.size + 1, 1, none⟩) (by simp)
        obtain ⟨hc, hf⟩ := bcell b1
        have B1 := Lib.hid (B0.out.trans (b1.mono B0.out.size))
        have hz := b1.size
        simp at hz
        clear b1
        have p1 := (B1.out.cell (p := ⟨q1, o1 + n, none⟩) hb1).trans hc1
        have p2 := (B1.out.cell (p := ⟨q2, o2 + n, none⟩) hb2).trans hc2
        go_wp2_with (go_at_call 59; refine (HC.out _).mono ?_; rintro e w2 ⟨rfl, rfl⟩)
        refine bodyPost_ret (v := .tuple #[.agg #[.int .i64 0, .int .i64 0], .bool false]) (by simp [results, Try.results25, go_sem, hc, hf]) rfl ⟨rfl, ?_⟩
        exact (B1.out.setCell (by simp) _).setCell (by simp) _
      · have xn : (x == 0) = false := by simp [x0]
        rw [xn]
        show Calls _ _ _ _ fun e w' => e = .returned (.tuple #[.agg #[.int .i64 (redN y x), .int .i64 (redD y x)], .bool true]) ∧ _
        have HS := Lib.hid (fun W => freqG_any n x y W (by omega) (by omega) (by omega) (by omega))
        have HQ := Lib.hid (fun W (h : Ints .i64 W W.heap.size (some ⟨q1, o1, none⟩) l) (h' : Ints .i64 W W.heap.size (some ⟨q2, o2, none⟩) r) => (groupOf_any (some ⟨q1, o1, none⟩) (some ⟨q2, o2, none⟩) l r c d n W h h' hn hn2 (by omega) (by omega)))
        rw [HX.out, HY.out] at HQ
        generalize redN y x = fn at *
        generalize redD y x = fd at *
        clear hx
        go_enter Try.func25, Try.ntmps25
        go_wp2_with fail
        refine HG.out.mono ?_
        rintro e w1 ⟨rfl, b1⟩
        have c0 := b1.cell (p := ⟨w.heap.size, 0, none⟩) (by simp <;> omega)
        have c1 := b1.cell (p := ⟨w.heap.size, 1, none⟩) (by simp <;> omega)
        have c2 := b1.cell (p := ⟨w.heap.size + 1, 0, none⟩) (by simp)
        have c3 := b1.cell (p := ⟨w.heap.size + 1, 1, none⟩) (by simp)
        obtain ⟨hc, hf⟩ := bcell b1
        have B1 := Lib.hid (B0.out.trans (b1.mono B0.out.size))
        have hz := b1.size
        simp at hz
        clear b1
        have p1 := (B1.out.cell (p := ⟨q1, o1 + n, none⟩) hb1).trans hc1
        have p2 := (B1.out.cell (p := ⟨q2, o2 + n, none⟩) hb2).trans hc2
        go_wp2_with (go_at_call 59; refine (HC.out _).mono ?_; rintro e w2 ⟨rfl, rfl⟩)
        have hc0 : ∀ W, Below w1.heap.size w1 W → W.cell? ⟨w.heap.size, 0, none⟩ = some (.slice (some ⟨q1, o1, none⟩) l.length c) ∧ W.cell? ⟨w.heap.size, 1, none⟩ = some (.slice (some ⟨q2, o2, none⟩) r.length d) ∧ W.cell? ⟨q1, o1 + n, none⟩ = some (.int .i64 x) ∧ W.cell? ⟨q2, o2 + n, none⟩ = some (.int .i64 y) := fun W G =>
          ⟨(G.cell (p := ⟨w.heap.size, 0, none⟩) (by simp; omega)).trans (c0.trans (by simp [go_sem])), (G.cell (p := ⟨w.heap.size, 1, none⟩) (by simp; omega)).trans (c1.trans (by simp [go_sem])),
            (G.cell (p := ⟨q1, o1 + n, none⟩) (by simp; omega)).trans p1, (G.cell (p := ⟨q2, o2 + n, none⟩) (by simp; omega)).trans p2⟩
        have CF := Lib.hid hc0
        clear hc0
        have gf0 : ∀ W, Below w1.heap.size w1 W → W.cell? ⟨w.heap.size + 1, 0, none⟩ = some (.int .i64 0) ∧ W.cell? ⟨w.heap.size + 1, 1, none⟩ = some (.int .i64 0) ∧ W.frozen? ⟨w.heap.size + 1, 0, none⟩ = false ∧ W.frozen? ⟨w.heap.size + 1, 1, none⟩ = false ∧ w.heap.size + 1 < W.heap.size := fun W G =>
          ⟨(G.cell (p := ⟨w.heap.size + 1, 0, none⟩) (by simp; omega)).trans (c2.trans (by simp [go_sem])), (G.cell (p := ⟨w.heap.size + 1, 1, none⟩) (by simp; omega)).trans (c3.trans (by simp [go_sem])),
            (G.frozen (p := ⟨w.heap.size + 1, 0, none⟩) (by simp; omega)).trans ((hf _ _ (by simp)).trans (by simp [go_sem])), (G.frozen (p := ⟨w.heap.size + 1, 1, none⟩) (by simp; omega)).trans ((hf _ _ (by simp)).trans (by simp [go_sem])), by have := G.size; omega⟩
        have GF := Lib.hid gf0
        have m1 : ¬ q1 = w.heap.size + 1 := by omega
        have m2 : ¬ q2 = w.heap.size + 1 := by omega
        have m3 : ¬ w.heap.size + 1 = q1 := by omega
        have m4 : ¬ w.heap.size + 1 = q2 := by omega
        clear gf0 c2 c3 hc hf
        have D1 := Lib.hid (Below.refl w1.heap.size w1)
        obtain ⟨k0, k1, k2, k3⟩ := CF.out _ D1.out
        have J1 := Lib.hid (HQ.out w1 ((HL.out.below B1.out (Nat.le_refl _)).more B1.out.size) ((HR.out.below B1.out (Nat.le_refl _)).more B1.out.size))
        clear HQ
        go_wp2_with fail
        refine J1.out.mono ?_
        rintro e w3 ⟨rfl, b3⟩
        have D2 := Lib.hid b3
        clear b3 J1
        go_wp2_with fail
        refine (HS.out _).mono ?_
        rintro e w4 ⟨rfl, b4⟩
        have D3 := Lib.hid (D2.out.trans (b4.mono D2.out.size))
        obtain ⟨g0, g1, f0, f1, hs3⟩ := GF.out _ D3.out
        clear b4
        go_wp2
        refine bodyPost_ret (v := .tuple #[.agg #[.int .i64 fn, .int .i64 fd], .bool true]) (by simp [results, Try.results25, go_sem, g0, g1, f0, f1, hs3]) rfl ⟨rfl, ?_⟩
        exact ((B1.out.trans (D3.out.mono B1.out.size)).setCell (by simp) _).setCell (by simp) _
end Go.Proofs.Ytjpiiidjocilcaa
