/- CellAt, the model's and the program's. -/
import Derived.Test.YtglpkfkbbjbjjaaHas
namespace Go.Proofs.Ytglpkfkbbjbjjaa
open Go.RowKit
set_option linter.unusedVariables false
set_option linter.unusedSimpArgs false
/-- what CellAt answers -/
def cellOk (wd hg : Int) (l : List Int) (x y : Int) : Bool := goodB wd hg l && inB wd hg x y
def cellN (wd hg : Int) (l : List Int) (x y : Int) : Int := if cellOk wd hg l x y = true then l.getD (place wd x y) 0 else 0
theorem cellN_no {wd hg : Int} {l : List Int} {x y : Int} (h : cellOk wd hg l x y = false) : cellN wd hg l x y = 0 := if_neg (by rw [h]; simp)
theorem cellN_yes {wd hg : Int} {l : List Int} {x y : Int} (h : cellOk wd hg l x y = true) (hk : place wd x y < l.length) : cellN wd hg l x y = l[place wd x y] := by
  unfold cellN; rw [if_pos h]; simp [hk]

set_option maxHeartbeats 1000000 in
theorem implCellAt_any (wd hg : Int) (a : Option Addr) (l : List Int) (c : Nat) (x y : Int) (w : World) (hl : Ints .i64 w w.heap.size a l) (hn : l.length ≤ 1048576) :
    Calls Try.prog 17 #[.agg #[.int .i64 wd, .int .i64 hg, .slice a l.length c], .int .i64 x, .int .i64 y] w fun e w' => e = .returned (.tuple #[.int .i64 (cellN wd hg l x y), .bool (cellOk wd hg l x y)]) ∧ Below w.heap.size w w' := by
  have HL := Lib.hid (ints_alloc hl (.cells #[.int .i64 wd, .int .i64 hg, .slice a l.length c] 26))
  have X0 := Lib.hid (Box.new w 26 (.int .i64 wd) (.int .i64 hg) (.slice a l.length c))
  clear hl
  cases hgd : goodB wd hg l with
  | false =>
    have hok : cellOk wd hg l x y = false := by unfold cellOk; rw [hgd]; rfl
    rw [cellN_no hok, hok]
    have HC := Lib.hid (implGood_is wd hg a l c _ false _ HL.out (Nat.le_refl _) hn hgd)
    clear hok hgd
    go_enter Try.func17, Try.ntmps17
    go_wp2_with (go_at_call 12; refine HC.out.mono ?_; rintro e w1 ⟨rfl, b⟩; have HB := Lib.hid b; obtain ⟨k0, k1, k2⟩ := (X0.out.below b).cells; clear b)
    go_ret2
    exact ⟨rfl, below_then (below_all _ _) HB.out⟩
  | true =>
    have HC := Lib.hid (implGood_is wd hg a l c _ true _ HL.out (Nat.le_refl _) hn hgd)
    have hs := good_shape hgd
    cases hh : inB wd hg x y with
    | false =>
      have hok : cellOk wd hg l x y = false := by unfold cellOk; rw [hgd, hh]; rfl
      rw [cellN_no hok, hok]
      have HH := Lib.hid (fun W => implHas_is wd hg a l.length c x y false W hh)
      clear hok hgd hh hs
      go_enter Try.func17, Try.ntmps17
      go_wp2_with fail
      refine HC.out.mono ?_
      rintro e w1 ⟨rfl, b1⟩
      have HB1 := Lib.hid (below_then (below_all _ _) b1)
      obtain ⟨k0, k1, k2⟩ := (X0.out.below b1).cells
      clear b1
      go_wp2_with fail
      refine (HH.out _).mono ?_
      rintro e w2 ⟨rfl, b2⟩
      have HB2 := Lib.hid (below_then HB1.out b2)
      clear b2 HB1
      go_wp2
      go_ret2
      exact ⟨rfl, HB2.out⟩
    | true =>
      have hok : cellOk wd hg l x y = true := by unfold cellOk; rw [hgd, hh]; rfl
      have hpl := place_lt hgd hh
      rw [cellN_yes hok hpl, hok]
      have HH := Lib.hid (fun W => implHas_is wd hg a l.length c x y true W hh)
      obtain ⟨p1, p2, p3, p4⟩ := place_int hs hh
      have hxy := inB_iff.1 hh
      have hss := shapeB_iff.1 hs
      have hx0 : 0 ≤ x := hxy.1.1
      have hx8 : x ≤ 8 := by omega
      clear hok hgd hh hs p2 hxy hss
      go_enter Try.func17, Try.ntmps17
      generalize place wd x y = k at *
      have P1 := Lib.hid p1
      clear p1
      go_wp2_with fail
      refine HC.out.mono ?_
      rintro e w1 ⟨rfl, b1⟩
      have HB1 := Lib.hid (below_then (below_all _ _) b1)
      have HL1 := Lib.hid (ints_below HL.out b1)
      have X1 := Lib.hid (X0.out.below b1)
      obtain ⟨k0, k1, k2⟩ := X1.out.cells
      clear b1 HL X0
      go_wp2_with fail
      refine (HH.out _).mono ?_
      rintro e w2 ⟨rfl, b2⟩
      have HB2 := Lib.hid (below_then HB1.out b2)
      have HL2 := Lib.hid (ints_below HL1.out b2)
      have X2 := Lib.hid (X1.out.below b2)
      clear b2 HB1 HL1 X1 k0 k1 k2
      obtain ⟨k0, k1, k2⟩ := X2.out.cells
      obtain ⟨b, o, rfl, hb, hc⟩ := HL2.out.at_ hpl
      have hi : (k : Int) < (l.length : Int) := by omega
      have hi0 : (0 : Int) ≤ (k : Int) := by omega
      have p1 := P1.out
      obtain ⟨z, hz⟩ : ∃ z, l[k] = z := ⟨_, rfl⟩
      rw [hz] at hc
      have HZ := Lib.hid hz
      clear hz
      go_wp2
      go_ret2
      exact ⟨by rw [HZ.out]; rfl, HB2.out⟩
end Go.Proofs.Ytglpkfkbbjbjjaa
