/- Whether shares do not decrease: the program's IsMonotone. -/
import Derived.Test.YtjpiiidjocilcaaMonoS
import Derived.Test.YtjpiiidjocilcaaFreqI
import Derived.Test.YtjpiiidjocilcaaLate
import Derived.BigQuiet
import Derived.Shelf.Abstract
namespace Go.Proofs.Ytjpiiidjocilcaa
open Go.RowKit
set_option linter.unusedVariables false
set_option linter.unusedSimpArgs false
theorem sh_num {n d : Int} (h : ¬ (0 ≤ n ∧ n ≤ d)) : shB n d = false := by
  cases e : shB n d with
  | false => rfl
  | true => have := sh_in e; omega
theorem sh_den {n d : Int} (h : ¬ (1 ≤ d ∧ d ≤ 1000000)) : shB n d = false := by
  cases e : shB n d with
  | false => rfl
  | true => have := sh_in e; omega
theorem sh_gcd {n d : Int} (h1 : 0 ≤ n) (h2 : n ≤ d) (h3 : 1 ≤ d) (h4 : d ≤ 1000000) : shB n d = (gcdZ n d == 1) := by
  unfold shB denB numB
  simp [h1, h2, h3, h4]
set_option maxHeartbeats 1000000 in
theorem isShare_any (n d : Int) (w : World) :
    Calls Try.prog 75 #[.agg #[.int .i64 n, .int .i64 d]] w fun e w' => e = .returned (.bool (shB n d)) ∧ Below w.heap.size w w' := by
  by_cases h1 : 0 ≤ n
  · by_cases h2 : n ≤ d
    · by_cases h3 : 1 ≤ d
      · by_cases h4 : d ≤ 1000000
        · rw [sh_gcd h1 h2 h3 h4]
          have C3 := Lib.hid (fun W => implGcd_any n d W (by omega) (by omega) (by omega) (by omega))
          obtain ⟨z, hz⟩ : ∃ z, gcdZ n d = z := ⟨_, rfl⟩
          rw [hz] at C3 ⊢
          clear hz
          go_enter Try.func75, Try.ntmps75
          go_wp2_with (go_at_call 86; refine (C3.out _).mono ?_; rintro e w1 ⟨rfl, b1⟩; have B1 := Lib.hid b1; clear b1)
          go_ret
          exact ⟨by simp [go_sem], below_then (below_all _ _) B1.out⟩
        · rw [sh_den (by omega)]
          go_enter Try.func75, Try.ntmps75
          go_wp2
          go_ret
          exact ⟨rfl, below_all _ _⟩
      · rw [sh_den (by omega)]
        go_enter Try.func75, Try.ntmps75
        go_wp2
        go_ret
        exact ⟨rfl, below_all _ _⟩
    · rw [sh_num (by omega)]
      go_enter Try.func75, Try.ntmps75
      go_wp2
      go_ret
      exact ⟨rfl, below_all _ _⟩
  · rw [sh_num (by omega)]
    go_enter Try.func75, Try.ntmps75
    go_wp2
    go_ret
    exact ⟨rfl, below_all _ _⟩
theorem noShare_any (n d : Int) (w : World) :
    Calls Try.prog 74 #[.agg #[.int .i64 n, .int .i64 d]] w fun e w' => e = .returned (.bool (!shB n d)) ∧ Below w.heap.size w w' := by
  have HC := Lib.hid (fun W => isShare_any n d W)
  generalize shB n d = v at *
  cases v
  all_goals
    go_enter Try.func74, Try.ntmps74
    go_wp2_with (go_at_call 75; refine (HC.out _).mono ?_; rintro e w1 ⟨rfl, b1⟩; have B1 := Lib.hid b1; clear b1)
    go_ret
    exact ⟨rfl, below_then (below_all _ _) B1.out⟩
/-- the order of two shares, as a number -/
def cmpS (a b c d : Int) : Int := a * d - c * b
set_option maxHeartbeats 1000000 in
theorem cmp_any (a b c d : Int) (w : World) (h1 : shB a b = true) (h2 : shB c d = true) :
    Calls Try.prog 77 #[.agg #[.int .i64 a, .int .i64 b], .agg #[.int .i64 c, .int .i64 d]] w fun e w' => e = .returned (.int .i64 (cmpS a b c d)) ∧ Below w.heap.size w w' := by
  have i1 := sh_in h1
  have i2 := sh_in h2
  have p1 : 0 ≤ a * d := Int.mul_nonneg (by omega) (by omega)
  have p2 : 0 ≤ c * b := Int.mul_nonneg (by omega) (by omega)
  have q1 : a * d ≤ 1000000 * 1000000 := Int.mul_le_mul (by omega) (by omega) (by omega) (by omega)
  have q2 : c * b ≤ 1000000 * 1000000 := Int.mul_le_mul (by omega) (by omega) (by omega) (by omega)
  unfold cmpS
  obtain ⟨x, hx⟩ : ∃ x, a * d = x := ⟨_, rfl⟩
  obtain ⟨y, hy⟩ : ∃ y, c * b = y := ⟨_, rfl⟩
  rw [hx] at p1 q1
  rw [hy] at p2 q2
  rw [hx, hy]
  have wx : IntKind.i64.wrap x = x := IntWalk.i64_in x (by omega)
  have wy : IntKind.i64.wrap y = y := IntWalk.i64_in y (by omega)
  have wz : IntKind.i64.wrap (x - y) = x - y := IntWalk.i64_in _ (by omega)
  clear i1 i2 h1 h2
  go_enter Try.func77, Try.ntmps77
  go_wp2
  go_ret
  exact ⟨by simp [go_sem], (below_all _ _).trans ((below_all _ _).mono (by simp))⟩
theorem lsB_cmp (a b c d : Int) : lsB a b c d = decide (cmpS a b c d < 0) := by
  unfold lsB cmpS
  by_cases h : a * d < c * b
  · rw [decide_eq_true h, decide_eq_true (by omega)]
  · rw [decide_eq_false h, decide_eq_false (by omega)]
theorem ent_noShare : ∀ (args : Array Value) (w : World), (callFunc 74 args).run Try.prog w = .ok (.enter 74 args) w := enters_of Try.func74 (by kernel_rfl) rfl
theorem ent_cmp : ∀ (args : Array Value) (w : World), (callFunc 77 args).run Try.prog w = .ok (.enter 77 args) w := enters_of Try.func77 (by kernel_rfl) rfl
/-- where the first that is no share stands, or nowhere -/
def badK (l : List ShT) (z : Int) : Prop := (z = -1 ∧ ∀ j (x : j < l.length), shB l[j].1 l[j].2 = true) ∨ (0 ≤ z ∧ ∃ (k : Nat) (h : k < l.length), shB l[k].1 l[k].2 = false)
set_option maxHeartbeats 4000000 in
theorem indexS_any (a : Option Addr) (l : List ShT) (c : Nat) (w : World) (hl : Shs w w.heap.size a l) (hn : l.length ≤ 1048576) :
    Calls Try.prog 89 #[.slice a l.length c, .func (.func 74) #[] #[]] w fun e w' => ∃ z, e = .returned (.int .i64 z) ∧ badK l z ∧ z < 1048576 ∧ Below w.heap.size w w' := by
  have HL := Lib.hid hl
  clear hl
  have eg := ent_noShare
  go_enter Try.func89, Try.ntmps89
  go_wp2
  go_loopw [8] (fun i wr => ∃ k : Nat, k ≤ l.length ∧ i = .int .i64 k ∧ Below w.heap.size w wr ∧ ∀ j (x : j < l.length), j < k → shB l[j].1 l[j].2 = true) (fun i _ => l.length - (intOf i).toNat)
  case atStart => exact ⟨0, Nat.zero_le _, rfl, Below.refl _ _, fun _ _ h => by omega⟩
  case round =>
    obtain ⟨k, hk, rfl, hB, hall⟩ := hrel
    have HB := Lib.hid hB
    have HA := Lib.hid hall
    by_cases hlt : k < l.length
    · obtain ⟨b1, o1, rfl, hb1, c0, c1⟩ := (HL.out.below hB (Nat.le_refl _)).at_ hlt
      have hi : (k : Int) < (l.length : Int) := by omega
      have hi0 : (0 : Int) ≤ (k : Int) := by omega
      have HNX := Lib.hid (fun (hx : shB l[k].1 l[k].2 = true) j (x : j < l.length) (hj : j < k + 1) => show shB l[j].1 l[j].2 = true by
        rcases Nat.lt_or_ge j k with h1 | h1
        · exact HA.out j x h1
        · obtain rfl : j = k := by omega
          exact hx)
      have HBAD := Lib.hid (fun (hx : shB l[k].1 l[k].2 = false) => show badK l (k : Int) from .inr ⟨by omega, k, hlt, hx⟩)
      have HC := Lib.hid (fun W => noShare_any l[k].1 l[k].2 W)
      clear hB hall
      generalize l[k].1 = x at *
      generalize l[k].2 = y at *
      cases hs : shB x y with
      | false =>
        rw [hs] at HC
        have HS := Lib.hid (HBAD.out hs)
        clear hs
        go_wp2_with (go_at_fn 74; refine (HC.out _).mono ?_; rintro e w1 ⟨rfl, b1⟩; have B1 := Lib.hid b1; clear b1)
        go_ret
        exact ⟨_, rfl, HS.out, by omega, HB.out.trans (B1.out.mono HB.out.size)⟩
      | true =>
        rw [hs] at HC
        have HS := Lib.hid (HNX.out hs)
        clear hs
        go_wp2_with (go_at_fn 74; refine (HC.out _).mono ?_; rintro e w1 ⟨rfl, b1⟩; have B1 := Lib.hid b1; clear b1)
        go_roundw
        case rel => exact ⟨k + 1, by omega, by go_num, HB.out.trans (B1.out.mono HB.out.size), HS.out⟩
        case measure => simp [intOf]; omega
    · obtain rfl : k = l.length := by omega
      have HE := Lib.hid (show badK l (-1) from .inl ⟨rfl, fun j x => HA.out j x x⟩)
      clear hall hB
      go_wp2
      go_ret
      exact ⟨_, rfl, HE.out, by omega, HB.out⟩

theorem bad_sh {l : List ShT} {z : Int} (h : badK l z) : (l.all fun p => shB p.1 p.2) = decide (z < 0) := by
  rcases h with ⟨rfl, h⟩ | ⟨h0, k, hk, h⟩
  · rw [decide_eq_true (by omega), List.all_eq_true]
    intro p hp
    obtain ⟨j, hj, rfl⟩ := List.getElem_of_mem hp
    exact h j hj
  · rw [decide_eq_false (by omega)]
    cases e : (l.all fun p => shB p.1 p.2) with
    | false => rfl
    | true =>
      rw [List.all_eq_true] at e
      rw [e _ (List.getElem_mem hk)] at h
      cases h
set_option maxHeartbeats 1000000 in
theorem containsS_any (a : Option Addr) (l : List ShT) (c : Nat) (w : World) (hl : Shs w w.heap.size a l) (hn : l.length ≤ 1048576) :
    Calls Try.prog 73 #[.slice a l.length c, .func (.func 74) #[] #[]] w fun e w' => e = .returned (.bool (!(l.all fun p => shB p.1 p.2))) ∧ Below w.heap.size w w' := by
  have HC := Lib.hid (fun W (h : Shs W W.heap.size a l) => indexS_any a l c W h hn)
  have HL := Lib.hid hl
  clear hl
  go_enter Try.func73, Try.ntmps73
  go_wp2_with fail
  refine (HC.out _ HL.out).mono ?_
  rintro e w1 ⟨z, rfl, hz, hz9, b1⟩
  have HZ := Lib.hid (bad_sh hz)
  have HB := Lib.hid b1
  clear b1 hz
  by_cases h0 : z < 0
  · rw [decide_eq_true h0] at HZ
    have h1 : ¬ z ≥ 0 := by omega
    go_wp2
    go_ret
    exact ⟨(by rw [HZ.out]; show Ending.returned (Value.bool (decide (0 ≤ z))) = _; rw [decide_eq_false (by omega)]; rfl), HB.out⟩
  · rw [decide_eq_false h0] at HZ
    have h1 : z ≥ 0 := by omega
    go_wp2
    go_ret
    exact ⟨by rw [HZ.out]; rfl, HB.out⟩
set_option maxHeartbeats 4000000 in
theorem sortedS_any (a : Option Addr) (l : List ShT) (c : Nat) (w : World) (hl : Shs w w.heap.size a l) (hn : l.length ≤ 1048576) (hs : ∀ j (x : j < l.length), shB l[j].1 l[j].2 = true) :
    Calls Try.prog 76 #[.slice a l.length c, .func (.func 77) #[] #[]] w fun e w' => e = .returned (.bool (upB l)) ∧ Below w.heap.size w w' := by
  have HL := Lib.hid hl
  have HG := Lib.hid hs
  clear hl hs
  have eg := ent_cmp
  obtain ⟨u, hu⟩ : ∃ u, upB l = u := ⟨_, rfl⟩
  rw [hu]
  have HU := Lib.hid hu
  clear hu
  have g0 : IntKind.i64.wrap ((l.length : Int) - 1) = (l.length : Int) - 1 := IntWalk.i64_in _ (by omega)
  go_enter Try.func76, Try.ntmps76
  go_wp2
  clear g0
  go_loopw [5] (fun i wr => ∃ m : Nat, m ≤ l.length ∧ i = .int .i64 ((m : Int) - 1) ∧ Below w.heap.size w wr ∧ ∀ j (x : j + 1 < l.length), m ≤ j + 1 → lsB l[j + 1].1 l[j + 1].2 (l[j]'(by omega)).1 (l[j]'(by omega)).2 = false) (fun i _ => (intOf i + 1).toNat)
  case atStart => exact ⟨l.length, Nat.le_refl _, rfl, Below.refl _ _, fun _ _ h => by omega⟩
  case round =>
    obtain ⟨m, hm, rfl, hB, hall⟩ := hrel
    have HB := Lib.hid hB
    have HA := Lib.hid hall
    by_cases hlt : 2 ≤ m
    · obtain ⟨n, rfl⟩ : ∃ n, m = n + 2 := ⟨m - 2, by omega⟩
      have hx1 : n + 1 < l.length := by omega
      obtain ⟨b1, o1, rfl, hb1, c0, c1⟩ := (HL.out.below hB (Nat.le_refl _)).at_ hx1
      obtain ⟨b2, o2, e2, hb2, d0, d1⟩ := (HL.out.below hB (Nat.le_refl _)).at_ (j := n) (by omega)
      injection e2 with e2
      injection e2 with e3 e4 e5
      subst e3
      subst e4
      clear e5
      have hi : (n : Int) + 1 < (l.length : Int) := by omega
      have hi0 : (0 : Int) ≤ (n : Int) + 1 := by omega
      have hi1 : (n : Int) < (l.length : Int) := by omega
      have hi2 : (0 : Int) ≤ (n : Int) := by omega
      have hp : (n : Int) + 1 > 0 := by omega
      have g1 : IntKind.i64.wrap ((n : Int) + 1 - 1) = (n : Int) := by rw [show (n : Int) + 1 - 1 = (n : Int) by omega]; exact IntWalk.i64_in _ (by omega)
      have he : ((n + 2 : Nat) : Int) - 1 = (n : Int) + 1 := by omega
      rw [he]
      clear he
      have hsz := hB.size
      have p0 := later_cell c0 (by omega)
      have p1 := later_cell c1 (by omega)
      have p2 := later_cell d0 (by omega)
      have p3 := later_cell d1 (by omega)
      have s1 := HG.out (n + 1) hx1
      have s0 := HG.out n (by omega)
      have HBAD := Lib.hid (fun h => up_bad hx1 h)
      have HNX := Lib.hid (fun (hx : lsB l[n + 1].1 l[n + 1].2 (l[n]'(by omega)).1 (l[n]'(by omega)).2 = false) j (x : j + 1 < l.length) (hj : n + 1 ≤ j + 1) => show lsB l[j + 1].1 l[j + 1].2 (l[j]'(by omega)).1 (l[j]'(by omega)).2 = false by
        rcases Nat.lt_or_ge n j with h1 | h1
        · exact HA.out j x (by omega)
        · obtain rfl : j = n := by omega
          exact hx)
      have HC := Lib.hid (fun W => cmp_any l[n + 1].1 l[n + 1].2 (l[n]'(by omega)).1 (l[n]'(by omega)).2 W s1 s0)
      clear hB hall c0 c1 d0 d1 s0 s1
      generalize l[n + 1].1 = x1 at *
      generalize l[n + 1].2 = y1 at *
      generalize (l[n]'(by omega)).1 = x0 at *
      generalize (l[n]'(by omega)).2 = y0 at *
      rw [lsB_cmp] at HBAD HNX
      generalize cmpS x1 y1 x0 y0 = z at *
      go_wp2_with fail
      by_cases hz : z < 0
      · obtain rfl : u = false := by rw [← HU.out]; exact HBAD.out (decide_eq_true hz)
        refine wp_region_later (by kernel_rfl) (by kernel_rfl) ?_
        repeat (go_big_quiet_step ((go_at_fn 77; exact calls_later (HC.out _))))
        refine wpQuiet_nil ?_
        intro _ hw'
        obtain ⟨pq, hw''⟩ := hw'
        subst hw''
        have B1 := Lib.hid (HB.out.trans (pq.below.mono HB.out.size))
        clear p0 p1 p2 p3
        go_wp2
        go_ret
        exact ⟨rfl, B1.out⟩
      · have HS := Lib.hid (HNX.out (decide_eq_false hz))
        refine wp_region_later (by kernel_rfl) (by kernel_rfl) ?_
        repeat (go_big_quiet_step ((go_at_fn 77; exact calls_later (HC.out _))))
        refine wpQuiet_nil ?_
        intro _ hw'
        obtain ⟨pq, hw''⟩ := hw'
        subst hw''
        have B1 := Lib.hid (HB.out.trans (pq.below.mono HB.out.size))
        clear p0 p1 p2 p3
        go_wp2
        go_roundw
        case rel => exact ⟨n + 1, by omega, by rw [Value.int.injEq]; exact ⟨rfl, by omega⟩, B1.out, HS.out⟩
        case measure => simp [intOf]; omega
    · obtain rfl : u = true := by rw [← HU.out]; exact up_all (fun j x => HA.out j x (by omega))
      have hp : ¬ (m : Int) - 1 > 0 := by omega
      clear hall hB
      go_wp2
      go_ret
      exact ⟨rfl, HB.out⟩
set_option maxHeartbeats 1000000 in
theorem implMono_any (a : Option Addr) (l : List ShT) (c : Nat) (w : World) (hl : Shs w w.heap.size a l) :
    Calls Try.prog 40 #[.slice a l.length c] w fun e w' => e = .returned (.tuple #[.bool (shsB l && upB l), .bool (shsB l)]) ∧ Below w.heap.size w w' := by
  have HL := Lib.hid hl
  clear hl
  by_cases h20 : l.length ≤ 20
  · have hlt : ¬ (l.length : Int) > 20 := by omega
    have HC := Lib.hid (fun W (h : Shs W W.heap.size a l) => containsS_any a l c W h (by omega))
    have HS := Lib.hid (fun W (h : Shs W W.heap.size a l) hs => sortedS_any a l c W h (by omega) hs)
    cases ha : (l.all fun p => shB p.1 p.2) with
    | false =>
      have e : shsB l = false := by unfold shsB; rw [ha]; simp
      rw [e]
      rw [ha] at HC
      clear e ha h20
      go_enter Try.func40, Try.ntmps40
      go_wp2_with (go_at_call 73; refine (HC.out _ HL.out).mono ?_; rintro e w1 ⟨rfl, b1⟩; have B1 := Lib.hid b1; clear b1)
      go_ret2
      exact ⟨rfl, B1.out⟩
    | true =>
      have e : shsB l = true := by unfold shsB; rw [ha]; simp [h20]
      have HA := Lib.hid (show ∀ j (x : j < l.length), shB l[j].1 l[j].2 = true from fun j x => by rw [List.all_eq_true] at ha; exact ha _ (List.getElem_mem x))
      rw [e, Bool.true_and]
      rw [ha] at HC
      clear e ha h20
      generalize upB l = u at *
      go_enter Try.func40, Try.ntmps40
      go_wp2_with (first | (go_at_call 73; refine (HC.out _ HL.out).mono ?_; rintro e w1 ⟨rfl, b1⟩; have B1 := Lib.hid b1; have L1 := Lib.hid (shs_below HL.out b1); clear b1) | (go_at_call 76; refine (HS.out _ L1.out HA.out).mono ?_; rintro e w2 ⟨rfl, b2⟩; have B2 := Lib.hid b2; clear b2))
      go_ret2
      exact ⟨rfl, below_then B1.out B2.out⟩
  · rw [shs_long (by omega)]
    have h21 : (l.length : Int) > 20 := by omega
    clear h20
    go_enter Try.func40, Try.ntmps40
    go_wp2
    go_ret2
    exact ⟨rfl, Below.refl _ _⟩
end Go.Proofs.Ytjpiiidjocilcaa
