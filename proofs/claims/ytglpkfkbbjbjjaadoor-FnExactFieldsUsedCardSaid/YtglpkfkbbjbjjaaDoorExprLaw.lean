/- IsExpression, the model's and the program's; the walk of FnExactIsExpression. -/
import Derived.Test.YtglpkfkbbjbjjaaDoorTree
import Derived.Test.YtglpkfkbbjbjjaaDoorArity
import Derived.Test.YtglpkfkbbjbjjaaDoorNodeLaw
namespace Go.Proofs.YtglpkfkbbjbjjaaDoor
open Go.RowKit
set_option linter.unusedVariables false
set_option linter.unusedSimpArgs false
theorem specExpr_any (a : Option Addr) (l : List Nd) (c : Nat) (w : World) (hl : Nds w w.heap.size a l) (hn : l.length ≤ 1048576) :
    Calls Tryd.prog 11 #[.slice a l.length c] w fun e w' => e = .returned (.bool (exprB l)) ∧ Below w.heap.size w w' := by
  have HC := Lib.hid (fun W h => specExprGood_any a l c W h hn)
  have HL := Lib.hid hl
  clear hl
  go_enter Tryd.func11, Tryd.ntmps11
  go_wp2_with fail
  refine (HC.out _ HL.out).mono ?_
  rintro e w1 ⟨rfl, b1⟩
  have HB := Lib.hid b1
  clear b1
  go_wp2
  go_ret
  exact ⟨rfl, HB.out⟩
theorem implExpr_any (a : Option Addr) (l : List Nd) (c : Nat) (w : World) (hl : Nds w w.heap.size a l) (hn : l.length ≤ 1048576) (ht : NTab w) :
    Calls Tryd.prog 13 #[.slice a l.length c] w fun e w' => e = .returned (.bool (exprB l)) ∧ Below w.heap.size w w' := by
  have HC := Lib.hid (fun W h t => treeOf_any a l c W h hn t)
  have HL := Lib.hid hl
  have HT := Lib.hid ht
  have HE := Lib.hid (exprB_tree l)
  clear hl ht
  go_enter Tryd.func13, Tryd.ntmps13
  go_wp2_with fail
  refine (HC.out _ HL.out HT.out).mono ?_
  rintro e w1 ⟨b1, ⟨h1, rfl⟩ | ⟨t, b, h1, rfl, h2⟩⟩
  · have HB := Lib.hid b1
    have R := Lib.hid (HE.out.trans (by rw [h1]; rfl) : exprB l = false)
    clear b1 h1
    go_wp2
    go_ret
    exact ⟨by rw [R.out]; rfl, HB.out⟩
  · have HB := Lib.hid b1
    have R := Lib.hid (HE.out.trans (by rw [h1]; rfl) : exprB l = true)
    clear b1 h1 h2
    go_wp2
    go_ret
    exact ⟨by rw [R.out]; rfl, HB.out⟩
/-- what a law of one list of nodes knows of a later world -/
structure Ln (w : World) (a : Option Addr) (l : List Nd) (w' : World) : Prop where
  b : Below w.heap.size w w'
  i : Nds w' w'.heap.size a l
  t : NTab w'
theorem Ln.step {w w1 w2 : World} {a : Option Addr} {l : List Nd} (h : Ln w a l w1) (hb : Below w1.heap.size w1 w2) : Ln w a l w2 := ⟨below_thenN h.b hb, nds_below h.i hb, h.t.below hb⟩
set_option maxRecDepth 100000 in
set_option maxHeartbeats 4000000 in
theorem walk_IsExpression (a : Option Addr) (l : List Nd) (c : Nat) (w : World) (hl : Nds w w.heap.size a l) (hm : l.length ≤ maxLen) (ht : NTab w) :
    Calls Tryd.prog 3 #[.slice a l.length c] w fun e w' => e = .returned (.bool true) ∧ Below w.heap.size w w' := by
  have HZ := Lib.hid (fun W => szNodes_any a l.length c 1048576 W hm (by omega) (by omega))
  unfold maxLen at hm
  have HL0 := Lib.hid (show Ln w a l w from ⟨Below.refl _ _, hl, ht⟩)
  clear hl ht
  by_cases hn : (l.length : Int) ≤ 1048576
  · have hn1 : l.length ≤ 1048576 := by omega
    rw [if_pos hn] at HZ
    have HT := Lib.hid (fun W h => toNodes_any a l c W h hn1)
    have HS := Lib.hid (fun b W h => specExpr_any (some ⟨b, 0, none⟩) l l.length W h hn1)
    have HI := Lib.hid (fun b W h t => implExpr_any (some ⟨b, 0, none⟩) l l.length W h hn1 t)
    generalize exprB l = v at *
    go_enter Tryd.func3, Tryd.ntmps3
    go_wp2_with (go_at_call 10; refine (HZ.out _).mono ?_; rintro e w1 ⟨rfl, rfl⟩)
    refine (HT.out _ HL0.out.i).mono ?_
    rintro e w2 ⟨rfl, r2, b2, z2⟩
    have HL2 := Lib.hid (HL0.out.step b2)
    have N2 := Lib.hid (Nds.of_row r2)
    clear r2 b2 z2 HL0
    go_wp2_with fail
    refine (HS.out _ _ N2.out).mono ?_
    rintro e w3 ⟨rfl, b3⟩
    have HL3 := Lib.hid (HL2.out.step b3)
    clear b3 HL2 N2
    go_wp2_with fail
    refine (HT.out _ HL3.out.i).mono ?_
    rintro e w4 ⟨rfl, r4, b4, z4⟩
    have HL4 := Lib.hid (HL3.out.step b4)
    have N4 := Lib.hid (Nds.of_row r4)
    clear r4 b4 z4 HL3
    go_wp2_with fail
    refine (HI.out _ _ N4.out HL4.out.t).mono ?_
    rintro e w5 ⟨rfl, b5⟩
    have HL5 := Lib.hid (HL4.out.step b5)
    have N5 := Lib.hid (nds_below N4.out b5)
    clear b5 HL4 N4
    have hvv : (v != v) = false := by cases v <;> rfl
    go_wp2_with fail
    refine (HT.out _ HL5.out.i).mono ?_
    rintro e w6 ⟨rfl, r6, b6, z6⟩
    have HL6 := Lib.hid (HL5.out.step b6)
    have N6 := Lib.hid (Nds.of_row r6)
    have M6 := Lib.hid (nds_below N5.out b6)
    clear r6 b6 z6 HL5 N5
    go_wp2_with fail
    refine (eqNodes_yes _ _ l _ _ _ M6.out N6.out hn1).mono ?_
    rintro e w7 ⟨rfl, b7⟩
    have HL7 := Lib.hid (HL6.out.step b7)
    clear b7 HL6 N6 M6
    go_wp2
    go_ret
    exact ⟨rfl, HL7.out.b⟩
  · rw [if_neg hn] at HZ
    go_enter Tryd.func3, Tryd.ntmps3
    go_wp2_with (go_at_call 10; refine (HZ.out _).mono ?_; rintro e w1 ⟨rfl, rfl⟩)
    go_ret
    exact ⟨rfl, HL0.out.b⟩
end Go.Proofs.YtglpkfkbbjbjjaaDoor
