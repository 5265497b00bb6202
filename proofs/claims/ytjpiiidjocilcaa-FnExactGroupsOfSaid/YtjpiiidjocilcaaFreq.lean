/- The frequency of a class: the model's FrequencyOf. -/
import Derived.Test.YtjpiiidjocilcaaTlIs
import Derived.Test.YtjpiiidjocilcaaFrac
namespace Go.Proofs.Ytjpiiidjocilcaa
open Go.RowKit
set_option linter.unusedVariables false
set_option linter.unusedSimpArgs false
def clsB (k : Int) : Bool := decide (0 ≤ k) && decide (k ≤ 10)
theorem cls_in {k : Int} (h : clsB k = true) : 0 ≤ k ∧ k ≤ 10 := by unfold clsB at h; rw [Bool.and_eq_true] at h; exact ⟨of_decide_eq_true h.1, of_decide_eq_true h.2⟩
theorem specClass_any (k : Int) (w : World) : Calls Try.prog 57 #[.int .i64 k] w fun e w' => e = .returned (.bool (clsB k)) ∧ w = w' := by
  have HC := Lib.hid (fun W => l1In_is k 0 10 _ W rfl)
  unfold clsB
  generalize (decide (0 ≤ k) && decide (k ≤ 10)) = v at *
  go_enter Try.func57, Try.ntmps57
  go_wp2_with (go_at_call 84; refine (HC.out _).mono ?_; rintro e w1 ⟨rfl, rfl⟩)
  go_ret
  exact ⟨rfl, rfl⟩
def frqB (l r : List Int) (k : Int) : Bool := tlB l r && (clsB k && !(l.getD k.toNat 0 == 0))
def frqN (l r : List Int) (k : Int) : Int := if frqB l r k = true then redN (r.getD k.toNat 0) (l.getD k.toNat 0) else 0
def frqD (l r : List Int) (k : Int) : Int := if frqB l r k = true then redD (r.getD k.toNat 0) (l.getD k.toNat 0) else 0
theorem share_of {a b : Int} (W : World) (h1 : 0 ≤ a) (h2 : 0 < b) (h3 : a ≤ 1000000) (h4 : b ≤ 1000000) :
    Calls Try.prog 64 #[.int .i64 a, .int .i64 b] W fun e w' => e = .returned (.agg #[.int .i64 (redN a b), .int .i64 (redD a b)]) ∧ Below W.heap.size W w' := by
  obtain ⟨x, rfl⟩ := Int.eq_ofNat_of_zero_le h1
  obtain ⟨y, rfl⟩ := Int.eq_ofNat_of_zero_le (show 0 ≤ b by omega)
  exact specShare_any x y W (by omega) (by omega) (by omega)

set_option maxHeartbeats 4000000 in
theorem specFreq_any (a b : Option Addr) (l r : List Int) (c d : Nat) (k : Int) (w : World) (hl : Ints .i64 w w.heap.size a l) (hr : Ints .i64 w w.heap.size b r) :
    Calls Try.prog 24 #[.agg #[.slice a l.length c, .slice b r.length d], .int .i64 k] w fun e w' => e = .returned (.tuple #[.agg #[.int .i64 (frqN l r k), .int .i64 (frqD l r k)], .bool (frqB l r k)]) ∧ Below w.heap.size w w' := by
  have hlW := (ints_alloc (ints_alloc hl (.cells #[.slice a l.length c, .slice b r.length d] 27)) (.cells #[.int .i64 0, .int .i64 0] 38))
  have hrW := (ints_alloc (ints_alloc hr (.cells #[.slice a l.length c, .slice b r.length d] 27)) (.cells #[.int .i64 0, .int .i64 0] 38))
  have HL := Lib.hid hl
  have HR := Lib.hid hr
  have B0 := Lib.hid (((Below.refl w.heap.size w).alloc (Nat.le_refl _) (.cells #[.slice a l.length c, .slice b r.length d] 27)).alloc (by simp) (.cells #[.int .i64 0, .int .i64 0] 38))
  have HG := Lib.hid (specTl_is a b l r c d _ _ hlW hrW rfl)
  clear hl hr hlW hrW
  have HC := Lib.hid (fun W => specClass_any k W)
  cases hg : tlB l r with
  | false =>
    have e0 : frqB l r k = false := by unfold frqB; rw [hg]; rfl
    have e1 : frqN l r k = 0 := by unfold frqN; rw [e0]; rfl
    have e2 : frqD l r k = 0 := by unfold frqD; rw [e0]; rfl
    rw [e0, e1, e2]
    rw [hg] at HG
    clear hg e0 e1 e2
    go_enter Try.func24, Try.ntmps24
    go_wp2_with fail
    refine HG.out.mono ?_
    rintro e w1 ⟨rfl, b1⟩
    have c2 := b1.cell (p := ⟨w.heap.size + 1, 0, none⟩) (by simp)
    have c3 := b1.cell (p := ⟨w.heap.size + 1, 1, none⟩) (by simp)
    obtain ⟨hc, hf⟩ := bcell b1
    have B1 := Lib.hid (B0.out.trans (b1.mono B0.out.size))
    have hz := b1.size
    simp at hz
    clear b1
    go_wp2
    refine bodyPost_ret (v := .tuple #[.agg #[.int .i64 0, .int .i64 0], .bool false]) (by simp [results, Try.results24, go_sem, hc, hf]) rfl ⟨rfl, ?_⟩
    exact (B1.out.setCell (by simp) _).setCell (by simp) _
  | true =>
    rw [hg] at HG
    obtain ⟨hl11, hr11⟩ := tl_len hg
    cases hk : clsB k with
    | false =>
      have e0 : frqB l r k = false := by unfold frqB; rw [hg, hk]; rfl
      have e1 : frqN l r k = 0 := by unfold frqN; rw [e0]; rfl
      have e2 : frqD l r k = 0 := by unfold frqD; rw [e0]; rfl
      rw [e0, e1, e2]
      rw [hk] at HC
      clear hg hk e0 e1 e2 hl11 hr11
      go_enter Try.func24, Try.ntmps24
      go_wp2_with fail
      refine HG.out.mono ?_
      rintro e w1 ⟨rfl, b1⟩
      have c0 := b1.cell (p := ⟨w.heap.size, 0, none⟩) (by simp <;> omega)
      have c1 := b1.cell (p := ⟨w.heap.size, 1, none⟩) (by simp <;> omega)
      have c2 := b1.cell (p := ⟨w.heap.size + 1, 0, none⟩) (by simp)
      have c3 := b1.cell (p := ⟨w.heap.size + 1, 1, none⟩) (by simp)
      obtain ⟨hc, hf⟩ := bcell b1
      have B1 := Lib.hid (B0.out.trans (b1.mono B0.out.size))
      have hz := b1.size
      simp at hz
      clear b1
      go_wp2_with (go_at_call 57; refine (HC.out _).mono ?_; rintro e w2 ⟨rfl, rfl⟩)
      refine bodyPost_ret (v := .tuple #[.agg #[.int .i64 0, .int .i64 0], .bool false]) (by simp [results, Try.results24, go_sem, hc, hf]) rfl ⟨rfl, ?_⟩
      exact (B1.out.setCell (by simp) _).setCell (by simp) _
    | true =>
      rw [hk] at HC
      have ik := cls_in hk
      obtain ⟨n, rfl⟩ := Int.eq_ofNat_of_zero_le ik.1
      have hn : n < l.length := by omega
      have hn2 : n < r.length := by omega
      have hi : (n : Int) < (l.length : Int) := by omega
      have hi0 : (0 : Int) ≤ (n : Int) := by omega
      have hi2 : (n : Int) < (r.length : Int) := by omega
      have hcs := tl_at hg hn hn2
      have eb : frqB l r n = !(l[n] == 0) := by unfold frqB; rw [hg, hk, Int.toNat_natCast, getD_at l hn]; rfl
      obtain ⟨q1, o1, rfl, hb1, hc1⟩ := HL.out.at_ hn
      obtain ⟨q2, o2, rfl, hb2, hc2⟩ := HR.out.at_ hn2
      have en : frqN l r n = if frqB l r n = true then redN r[n] l[n] else 0 := by unfold frqN; rw [Int.toNat_natCast, getD_at l hn, getD_at r hn2]
      have ed : frqD l r n = if frqB l r n = true then redD r[n] l[n] else 0 := by unfold frqD; rw [Int.toNat_natCast, getD_at l hn, getD_at r hn2]
      rw [eb] at en ed ⊢
      rw [en, ed]
      clear en ed eb hg hk ik
      generalize l[n] = x at *
      generalize r[n] = y at *
      have hx : (0 ≤ x ∧ x ≤ 1000) ∧ (0 ≤ y ∧ y ≤ x) := by unfold caseB at hcs; simpa using hcs
      clear hcs hl11 hr11
      by_cases x0 : x = 0
      · subst x0
        clear hx
        show Calls _ _ _ _ fun e w' => e = .returned (.tuple #[.agg #[.int .i64 0, .int .i64 0], .bool false]) ∧ _
        go_enter Try.func24, Try.ntmps24
        go_wp2_with fail
        refine HG.out.mono ?_
        rintro e w1 ⟨rfl, b1⟩
        have c0 := b1.cell (p := ⟨w.heap.size, 0, none⟩) (by simp <;> omega)
        have c1 := b1.cell (p := ⟨w.heap.size, 1, none⟩) (by simp <;> omega)
        have c2 := b1.cell (p := ⟨w.heap.size + 1, 0, none⟩) (by simp)
        have c3 := b1.cell (p := ⟨w.heap.size + 1, 1, none⟩) (by simp)
        obtain ⟨hc, hf⟩ := bcell b1
        have B1 := Lib.hid (B0.out.trans (b1.mono B0.out.size))
        have hz := b1.size
        simp at hz
        clear b1
        have p1 := (B1.out.cell (p := ⟨q1, o1 + n, none⟩) hb1).trans hc1
        have p2 := (B1.out.cell (p := ⟨q2, o2 + n, none⟩) hb2).trans hc2
        go_wp2_with (go_at_call 57; refine (HC.out _).mono ?_; rintro e w2 ⟨rfl, rfl⟩)
        refine bodyPost_ret (v := .tuple #[.agg #[.int .i64 0, .int .i64 0], .bool false]) (by simp [results, Try.results24, go_sem, hc, hf]) rfl ⟨rfl, ?_⟩
        exact (B1.out.setCell (by simp) _).setCell (by simp) _
      · have xn : (x == 0) = false := by simp [x0]
        rw [xn]
        show Calls _ _ _ _ fun e w' => e = .returned (.tuple #[.agg #[.int .i64 (redN y x), .int .i64 (redD y x)], .bool true]) ∧ _
        have HS := Lib.hid (fun W => share_of (a := y) (b := x) W (by omega) (by omega) (by omega) (by omega))
        generalize redN y x = fn at *
        generalize redD y x = fd at *
        clear hx
        go_enter Try.func24, Try.ntmps24
        go_wp2_with fail
        refine HG.out.mono ?_
        rintro e w1 ⟨rfl, b1⟩
        have c0 := b1.cell (p := ⟨w.heap.size, 0, none⟩) (by simp <;> omega)
        have c1 := b1.cell (p := ⟨w.heap.size, 1, none⟩) (by simp <;> omega)
        have c2 := b1.cell (p := ⟨w.heap.size + 1, 0, none⟩) (by simp)
        have c3 := b1.cell (p := ⟨w.heap.size + 1, 1, none⟩) (by simp)
        obtain ⟨hc, hf⟩ := bcell b1
        have B1 := Lib.hid (B0.out.trans (b1.mono B0.out.size))
        have hz := b1.size
        simp at hz
        clear b1
        have p1 := (B1.out.cell (p := ⟨q1, o1 + n, none⟩) hb1).trans hc1
        have p2 := (B1.out.cell (p := ⟨q2, o2 + n, none⟩) hb2).trans hc2
        go_wp2_with (go_at_call 57; refine (HC.out _).mono ?_; rintro e w2 ⟨rfl, rfl⟩)
        have hc0 : ∀ W, Below w1.heap.size w1 W → W.cell? ⟨w.heap.size, 0, none⟩ = some (.slice (some ⟨q1, o1, none⟩) l.length c) ∧ W.cell? ⟨w.heap.size, 1, none⟩ = some (.slice (some ⟨q2, o2, none⟩) r.length d) ∧ W.cell? ⟨q1, o1 + n, none⟩ = some (.int .i64 x) ∧ W.cell? ⟨q2, o2 + n, none⟩ = some (.int .i64 y) := fun W G =>
          ⟨(G.cell (p := ⟨w.heap.size, 0, none⟩) (by simp; omega)).trans (c0.trans (by simp [go_sem])), (G.cell (p := ⟨w.heap.size, 1, none⟩) (by simp; omega)).trans (c1.trans (by simp [go_sem])),
            (G.cell (p := ⟨q1, o1 + n, none⟩) (by simp; omega)).trans p1, (G.cell (p := ⟨q2, o2 + n, none⟩) (by simp; omega)).trans p2⟩
        have CF := Lib.hid hc0
        clear hc0
        have gf0 : ∀ W, Below w1.heap.size w1 W → W.cell? ⟨w.heap.size + 1, 0, none⟩ = some (.int .i64 0) ∧ W.cell? ⟨w.heap.size + 1, 1, none⟩ = some (.int .i64 0) ∧ W.frozen? ⟨w.heap.size + 1, 0, none⟩ = false ∧ W.frozen? ⟨w.heap.size + 1, 1, none⟩ = false ∧ w.heap.size + 1 < W.heap.size := fun W G =>
          ⟨(G.cell (p := ⟨w.heap.size + 1, 0, none⟩) (by simp; omega)).trans (c2.trans (by simp [go_sem])), (G.cell (p := ⟨w.heap.size + 1, 1, none⟩) (by simp; omega)).trans (c3.trans (by simp [go_sem])),
            (G.frozen (p := ⟨w.heap.size + 1, 0, none⟩) (by simp; omega)).trans ((hf _ _ (by simp)).trans (by simp [go_sem])), (G.frozen (p := ⟨w.heap.size + 1, 1, none⟩) (by simp; omega)).trans ((hf _ _ (by simp)).trans (by simp [go_sem])), by have := G.size; omega⟩
        have GF := Lib.hid gf0
        have m1 : ¬ q1 = w.heap.size + 1 := by omega
        have m2 : ¬ q2 = w.heap.size + 1 := by omega
        have m3 : ¬ w.heap.size + 1 = q1 := by omega
        have m4 : ¬ w.heap.size + 1 = q2 := by omega
        clear gf0 c2 c3 hc hf
        have D1 := Lib.hid ((Below.refl w1.heap.size w1).drew)
        obtain ⟨k0, k1, k2, k3⟩ := CF.out _ D1.out
        go_region_held3 (fun w' => w'.cell? ⟨w.heap.size, 0, none⟩ = some (.slice (some ⟨q1, o1, none⟩) l.length c) ∧ w'.cell? ⟨w.heap.size, 1, none⟩ = some (.slice (some ⟨q2, o2, none⟩) r.length d) ∧ w'.cell? ⟨q1, o1 + n, none⟩ = some (.int .i64 x) ∧ w'.cell? ⟨q2, o2 + n, none⟩ = some (.int .i64 y))
          (first | exact CF.out _ D2.out | exact CF.out _ D1.out | go_keep)
          (first | (go_at_call 64; refine (HS.out _).mono ?_; rintro e w3 ⟨rfl, b3⟩; have D2 := Lib.hid (D1.out.trans (b3.mono D1.out.size)); obtain ⟨g0, g1, f0, f1, hs3⟩ := GF.out _ D2.out; clear b3))
        go_wp2
        refine bodyPost_ret (v := .tuple #[.agg #[.int .i64 fn, .int .i64 fd], .bool true]) (by simp [results, Try.results24, go_sem, g0, g1, f0, f1, hs3]) rfl ⟨rfl, ?_⟩
        exact ((B1.out.trans (D2.out.mono B1.out.size)).setCell (by simp) _).setCell (by simp) _
end Go.Proofs.Ytjpiiidjocilcaa
