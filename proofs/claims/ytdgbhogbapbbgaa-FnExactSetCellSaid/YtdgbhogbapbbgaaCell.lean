/- One cell of a field: hasCell, l2Has, l2At, CellAt. -/
import Derived.Test.YtdgbhogbapbbgaaBox
namespace Go.Proofs.Ytdgbhogbapbbgaa
open Go.RowKit
set_option linter.unusedVariables false
set_option linter.unusedSimpArgs false
def inB (wd hg x y : Int) : Bool := decide (0 ≤ x) && decide (x < wd) && (decide (0 ≤ y) && decide (y < hg))
theorem inB_iff {wd hg x y : Int} : inB wd hg x y = true ↔ (0 ≤ x ∧ x < wd) ∧ 0 ≤ y ∧ y < hg := by unfold inB; simp
theorem inB_not {wd hg x y : Int} : inB wd hg x y = false ↔ x < 0 ∨ wd ≤ x ∨ y < 0 ∨ hg ≤ y := by
  cases h : inB wd hg x y with
  | true => have := inB_iff.1 h; constructor; (intro h; cases h); (intro h; omega)
  | false => refine ⟨fun _ => ?_, fun _ => rfl⟩; rcases Classical.em (x < 0 ∨ wd ≤ x ∨ y < 0 ∨ hg ≤ y) with h1 | h1; exact h1; have := (inB_iff (wd := wd) (hg := hg) (x := x) (y := y)).2 (by omega); rw [h] at this; cases this
/-- a cell's place -/
def place (wd x y : Int) : Nat := (y * wd + x).toNat
theorem place_int {wd hg x y : Int} (hs : shapeB wd hg = true) (h : inB wd hg x y = true) : y * wd + x = (place wd x y : Int) ∧ (place wd x y : Int) < wd * hg ∧ 0 ≤ y * wd ∧ y * wd ≤ 64 := by
  obtain ⟨⟨h1, h2⟩, h3, h4⟩ := shapeB_iff.1 hs
  obtain ⟨⟨g1, g2⟩, g3, g4⟩ := inB_iff.1 h
  have e1 : 0 ≤ y * wd := Int.mul_nonneg g3 (by omega)
  have e2 : y * wd ≤ (hg - 1) * wd := Int.mul_le_mul_of_nonneg_right (by omega) (by omega)
  have e3 : (hg - 1) * wd = wd * hg - wd := by rw [Int.sub_mul, Int.one_mul, Int.mul_comm]
  have e4 := prod_bd hs
  unfold place
  omega
theorem place_lt {wd hg x y : Int} {l : List Int} (hg' : goodB wd hg l = true) (h : inB wd hg x y = true) : place wd x y < l.length := by
  have := place_int (good_shape hg') h
  have := good_len hg'
  omega
/-- what CellAt answers -/
def cellOk (wd hg : Int) (l : List Int) (x y : Int) : Bool := goodB wd hg l && inB wd hg x y
def cellN (wd hg : Int) (l : List Int) (x y : Int) : Int := if cellOk wd hg l x y = true then l.getD (place wd x y) 0 else 0
theorem cellN_no {wd hg : Int} {l : List Int} {x y : Int} (h : cellOk wd hg l x y = false) : cellN wd hg l x y = 0 := if_neg (by rw [h]; simp)
theorem cellN_yes {wd hg : Int} {l : List Int} {x y : Int} (h : cellOk wd hg l x y = true) (hk : place wd x y < l.length) : cellN wd hg l x y = l[place wd x y] := by
  unfold cellN; rw [if_pos h]; simp [hk]

set_option maxHeartbeats 400000 in
theorem implHas_is (wd hg : Int) (a : Option Addr) (n c : Nat) (x y : Int) (v : Bool) (w : World) (h : inB wd hg x y = v) :
    Calls Try.prog 66 #[.agg #[.int .i64 wd, .int .i64 hg, .slice a n c], .int .i64 x, .int .i64 y] w fun e w' => e = .returned (.bool v) ∧ Below w.heap.size w w' := by
  by_cases h1 : 0 ≤ x
  · by_cases h2 : x < wd
    · by_cases h3 : 0 ≤ y
      · by_cases h4 : y < hg
        · obtain rfl : v = true := by rw [← h]; exact inB_iff.2 ⟨⟨h1, h2⟩, h3, h4⟩
          clear h
          go_enter Try.func66, Try.ntmps66
          go_wp2
          go_ret
          exact ⟨rfl, below_all _ _⟩
        · obtain rfl : v = false := by rw [← h]; exact inB_not.2 (by omega)
          clear h
          go_enter Try.func66, Try.ntmps66
          go_wp2
          go_ret
          exact ⟨rfl, below_all _ _⟩
      · obtain rfl : v = false := by rw [← h]; exact inB_not.2 (by omega)
        clear h
        go_enter Try.func66, Try.ntmps66
        go_wp2
        go_ret
        exact ⟨rfl, below_all _ _⟩
    · obtain rfl : v = false := by rw [← h]; exact inB_not.2 (by omega)
      clear h
      go_enter Try.func66, Try.ntmps66
      go_wp2
      go_ret
      exact ⟨rfl, below_all _ _⟩
  · obtain rfl : v = false := by rw [← h]; exact inB_not.2 (by omega)
    clear h
    go_enter Try.func66, Try.ntmps66
    go_wp2
    go_ret
    exact ⟨rfl, below_all _ _⟩

set_option maxHeartbeats 400000 in
theorem specHas_is (wd hg : Int) (a : Option Addr) (n c : Nat) (x y : Int) (v : Bool) (w : World) (hs : shapeB wd hg = true) (h : inB wd hg x y = v) :
    Calls Try.prog 69 #[.agg #[.int .i64 wd, .int .i64 hg, .slice a n c], .int .i64 x, .int .i64 y] w fun e w' => e = .returned (.bool v) ∧ Below w.heap.size w w' := by
  obtain ⟨⟨s1, s2⟩, s3, s4⟩ := shapeB_iff.1 hs
  clear hs
  cases h1 : (decide (0 ≤ x) && decide (x ≤ wd - 1)) with
  | true =>
    have h2 : (decide (0 ≤ y) && decide (y ≤ hg - 1)) = v := by
      rw [← h]; unfold inB
      have e1 : decide (x < wd) = decide (x ≤ wd - 1) := by rw [decide_eq_decide]; omega
      have e2 : decide (y < hg) = decide (y ≤ hg - 1) := by rw [decide_eq_decide]; omega
      rw [e1, e2, h1]; rfl
    have C1 := Lib.hid (fun W => l1In_is x 0 (wd - 1) true W h1)
    have C2 := Lib.hid (fun W => l1In_is y 0 (hg - 1) v W h2)
    clear h h1 h2
    go_enter Try.func69, Try.ntmps69
    go_wp2_with fail
    refine (C1.out _).mono ?_
    rintro e w1 ⟨rfl, rfl⟩
    go_wp2_with fail
    refine (C2.out _).mono ?_
    rintro e w1 ⟨rfl, rfl⟩
    cases v <;> (go_wp2; go_ret; exact ⟨rfl, below_all _ _⟩)
  | false =>
    have h2 : v = false := by
      rw [← h]; unfold inB
      have e1 : decide (x < wd) = decide (x ≤ wd - 1) := by rw [decide_eq_decide]; omega
      rw [e1, h1]; rfl
    subst h2
    have C1 := Lib.hid (fun W => l1In_is x 0 (wd - 1) false W h1)
    clear h h1
    go_enter Try.func69, Try.ntmps69
    go_wp2_with fail
    refine (C1.out _).mono ?_
    rintro e w1 ⟨rfl, rfl⟩
    go_wp2
    go_ret
    exact ⟨rfl, below_all _ _⟩

set_option maxHeartbeats 400000 in
theorem specAt_any (wd hg : Int) (a : Option Addr) (l : List Int) (c B : Nat) (x y : Int) (k : Nat) (w : World) (hl : Ints .i64 w B a l) (hB : B ≤ w.heap.size) (hk : k < l.length) (hn : l.length ≤ 1048576) (hp : y * wd + x = (k : Int)) (h0 : 0 ≤ y * wd) (h1 : y * wd ≤ 64) (h2 : 0 ≤ x) (h3 : x ≤ 8) :
    Calls Try.prog 71 #[.agg #[.int .i64 wd, .int .i64 hg, .slice a l.length c], .int .i64 x, .int .i64 y] w fun e w' => e = .returned (.int .i64 l[k]) ∧ Below w.heap.size w w' := by
  obtain ⟨b, o, rfl, hb, hc⟩ := (hl.below ((Below.refl B w).alloc hB (.cells #[.int .i64 wd, .int .i64 hg, .slice a l.length c] 36)) (Nat.le_refl _)).at_ hk
  have hi : (k : Int) < (l.length : Int) := by omega
  have hi0 : (0 : Int) ≤ (k : Int) := by omega
  generalize l[k] = z at *
  clear hl
  go_enter Try.func71, Try.ntmps71
  go_wp2
  go_ret
  exact ⟨rfl, below_all _ _⟩

set_option maxHeartbeats 1000000 in
theorem specCellAt_any (wd hg : Int) (a : Option Addr) (l : List Int) (c : Nat) (x y : Int) (w : World) (hl : Ints .i64 w w.heap.size a l) (hn : l.length ≤ 1048576) :
    Calls Try.prog 45 #[.agg #[.int .i64 wd, .int .i64 hg, .slice a l.length c], .int .i64 x, .int .i64 y] w fun e w' => e = .returned (.tuple #[.int .i64 (cellN wd hg l x y), .bool (cellOk wd hg l x y)]) ∧ Below w.heap.size w w' := by
  have HL := Lib.hid (ints_alloc hl (.cells #[.int .i64 wd, .int .i64 hg, .slice a l.length c] 36))
  have X0 := Lib.hid (Box.new w 36 (.int .i64 wd) (.int .i64 hg) (.slice a l.length c))
  clear hl
  cases hgd : goodB wd hg l with
  | false =>
    have hok : cellOk wd hg l x y = false := by unfold cellOk; rw [hgd]; rfl
    rw [cellN_no hok, hok]
    have HC := Lib.hid (specGood_is wd hg a l c _ false _ HL.out (Nat.le_refl _) hn hgd)
    clear hok hgd
    go_enter Try.func45, Try.ntmps45
    go_wp2_with (go_at_call 63; refine HC.out.mono ?_; rintro e w1 ⟨rfl, b⟩; have HB := Lib.hid b; obtain ⟨k0, k1, k2⟩ := (X0.out.below b).cells; clear b)
    go_ret2
    exact ⟨rfl, below_then (below_all _ _) HB.out⟩
  | true =>
    have HC := Lib.hid (specGood_is wd hg a l c _ true _ HL.out (Nat.le_refl _) hn hgd)
    have hs := good_shape hgd
    cases hh : inB wd hg x y with
    | false =>
      have hok : cellOk wd hg l x y = false := by unfold cellOk; rw [hgd, hh]; rfl
      rw [cellN_no hok, hok]
      have HH := Lib.hid (fun W => specHas_is wd hg a l.length c x y false W hs hh)
      clear hok hgd hh hs
      go_enter Try.func45, Try.ntmps45
      go_wp2_with fail
      refine HC.out.mono ?_
      rintro e w1 ⟨rfl, b1⟩
      have HB1 := Lib.hid (below_then (below_all _ _) b1)
      obtain ⟨k0, k1, k2⟩ := (X0.out.below b1).cells
      clear b1
      go_wp2_with fail
      refine (HH.out _).mono ?_
      rintro e w2 ⟨rfl, b2⟩
      have HB2 := Lib.hid (below_then HB1.out b2)
      clear b2 HB1
      go_wp2
      go_ret2
      exact ⟨rfl, HB2.out⟩
    | true =>
      have hok : cellOk wd hg l x y = true := by unfold cellOk; rw [hgd, hh]; rfl
      have hpl := place_lt hgd hh
      rw [cellN_yes hok hpl, hok]
      have HH := Lib.hid (fun W => specHas_is wd hg a l.length c x y true W hs hh)
      obtain ⟨p1, p2, p3, p4⟩ := place_int hs hh
      have hxy := inB_iff.1 hh
      have hss := shapeB_iff.1 hs
      have HAt := Lib.hid (fun W (h : Ints .i64 W W.heap.size a l) => specAt_any wd hg a l c _ x y _ W h (Nat.le_refl _) hpl hn p1 p3 p4 (by omega) (by omega))
      generalize l[place wd x y] = z at *
      clear hok hgd hh hs p1 p2 p3 p4 hpl hxy hss
      go_enter Try.func45, Try.ntmps45
      go_wp2_with fail
      refine HC.out.mono ?_
      rintro e w1 ⟨rfl, b1⟩
      have HB1 := Lib.hid (below_then (below_all _ _) b1)
      have HL1 := Lib.hid (ints_below HL.out b1)
      have X1 := Lib.hid (X0.out.below b1)
      obtain ⟨k0, k1, k2⟩ := X1.out.cells
      clear b1 HL X0
      go_wp2_with fail
      refine (HH.out _).mono ?_
      rintro e w2 ⟨rfl, b2⟩
      have HB2 := Lib.hid (below_then HB1.out b2)
      have HL2 := Lib.hid (ints_below HL1.out b2)
      have X2 := Lib.hid (X1.out.below b2)
      clear b2 HB1 HL1 X1 k0 k1 k2
      obtain ⟨k0, k1, k2⟩ := X2.out.cells
      go_wp2_with fail
      refine (HAt.out _ HL2.out).mono ?_
      rintro e w3 ⟨rfl, b3⟩
      have HB3 := Lib.hid (below_then HB2.out b3)
      clear b3 HB2
      go_wp2
      go_ret2
      exact ⟨rfl, HB3.out⟩

set_option maxHeartbeats 1000000 in
theorem implCellAt_any (wd hg : Int) (a : Option Addr) (l : List Int) (c : Nat) (x y : Int) (w : World) (hl : Ints .i64 w w.heap.size a l) (hn : l.length ≤ 1048576) :
    Calls Try.prog 32 #[.agg #[.int .i64 wd, .int .i64 hg, .slice a l.length c], .int .i64 x, .int .i64 y] w fun e w' => e = .returned (.tuple #[.int .i64 (cellN wd hg l x y), .bool (cellOk wd hg l x y)]) ∧ Below w.heap.size w w' := by
  have HL := Lib.hid (ints_alloc hl (.cells #[.int .i64 wd, .int .i64 hg, .slice a l.length c] 36))
  have X0 := Lib.hid (Box.new w 36 (.int .i64 wd) (.int .i64 hg) (.slice a l.length c))
  clear hl
  cases hgd : goodB wd hg l with
  | false =>
    have hok : cellOk wd hg l x y = false := by unfold cellOk; rw [hgd]; rfl
    rw [cellN_no hok, hok]
    have HC := Lib.hid (implGood_is wd hg a l c _ false _ HL.out (Nat.le_refl _) hn hgd)
    clear hok hgd
    go_enter Try.func32, Try.ntmps32
    go_wp2_with (go_at_call 27; refine HC.out.mono ?_; rintro e w1 ⟨rfl, b⟩; have HB := Lib.hid b; obtain ⟨k0, k1, k2⟩ := (X0.out.below b).cells; clear b)
    go_ret2
    exact ⟨rfl, below_then (below_all _ _) HB.out⟩
  | true =>
    have HC := Lib.hid (implGood_is wd hg a l c _ true _ HL.out (Nat.le_refl _) hn hgd)
    have hs := good_shape hgd
    cases hh : inB wd hg x y with
    | false =>
      have hok : cellOk wd hg l x y = false := by unfold cellOk; rw [hgd, hh]; rfl
      rw [cellN_no hok, hok]
      have HH := Lib.hid (fun W => implHas_is wd hg a l.length c x y false W hh)
      clear hok hgd hh hs
      go_enter Try.func32, Try.ntmps32
      go_wp2_with fail
      refine HC.out.mono ?_
      rintro e w1 ⟨rfl, b1⟩
      have HB1 := Lib.hid (below_then (below_all _ _) b1)
      obtain ⟨k0, k1, k2⟩ := (X0.out.below b1).cells
      clear b1
      go_wp2_with fail
      refine (HH.out _).mono ?_
      rintro e w2 ⟨rfl, b2⟩
      have HB2 := Lib.hid (below_then HB1.out b2)
      clear b2 HB1
      go_wp2
      go_ret2
      exact ⟨rfl, HB2.out⟩
    | true =>
      have hok : cellOk wd hg l x y = true := by unfold cellOk; rw [hgd, hh]; rfl
      have hpl := place_lt hgd hh
      rw [cellN_yes hok hpl, hok]
      have HH := Lib.hid (fun W => implHas_is wd hg a l.length c x y true W hh)
      obtain ⟨p1, p2, p3, p4⟩ := place_int hs hh
      have hxy := inB_iff.1 hh
      have hss := shapeB_iff.1 hs
      have hx0 : 0 ≤ x := hxy.1.1
      have hx8 : x ≤ 8 := by omega
      clear hok hgd hh hs p2 hxy hss
      go_enter Try.func32, Try.ntmps32
      generalize place wd x y = k at *
      have P1 := Lib.hid p1
      clear p1
      go_wp2_with fail
      refine HC.out.mono ?_
      rintro e w1 ⟨rfl, b1⟩
      have HB1 := Lib.hid (below_then (below_all _ _) b1)
      have HL1 := Lib.hid (ints_below HL.out b1)
      have X1 := Lib.hid (X0.out.below b1)
      obtain ⟨k0, k1, k2⟩ := X1.out.cells
      clear b1 HL X0
      go_wp2_with fail
      refine (HH.out _).mono ?_
      rintro e w2 ⟨rfl, b2⟩
      have HB2 := Lib.hid (below_then HB1.out b2)
      have HL2 := Lib.hid (ints_below HL1.out b2)
      have X2 := Lib.hid (X1.out.below b2)
      clear b2 HB1 HL1 X1 k0 k1 k2
      obtain ⟨k0, k1, k2⟩ := X2.out.cells
      obtain ⟨b, o, rfl, hb, hc⟩ := HL2.out.at_ hpl
      have hi : (k : Int) < (l.length : Int) := by omega
      have hi0 : (0 : Int) ≤ (k : Int) := by omega
      have p1 := P1.out
      obtain ⟨z, hz⟩ : ∃ z, l[k] = z := ⟨_, rfl⟩
      rw [hz] at hc
      have HZ := Lib.hid hz
      clear hz
      go_wp2
      go_ret2
      exact ⟨by rw [HZ.out]; rfl, HB2.out⟩
end Go.Proofs.Ytdgbhogbapbbgaa
