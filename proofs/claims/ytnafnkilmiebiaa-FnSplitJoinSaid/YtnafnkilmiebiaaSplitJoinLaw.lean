/- The walk of FnSplitJoin. -/
import Derived.Test.YtnafnkilmiebiaaJoinBack
import Derived.Test.YtnafnkilmiebiaaDraw2
namespace Go.Proofs.Ytnafnkilmiebiaa
open Go.RowKit
set_option linter.unusedVariables false
/-- what the law knows of a later world -/
def Gd (w : World) (a : Option Addr) (l : List Int) (w' : World) : Prop := Below w.heap.size w w' ∧ Ints .u8 w' w'.heap.size a l
theorem Gd.step {w w1 w2 : World} {a : Option Addr} {l : List Int} (h : Gd w a l w1) (hb : Below w1.heap.size w1 w2) : Gd w a l w2 :=
  ⟨below_next h.1 hb, (h.2.below hb (Nat.le_refl _)).more hb.size⟩
theorem less_anti : ∀ a b : List UInt8, Op.bytesLess a b = true → Op.bytesLess b a = false
  | [], [], h => by simp [Op.bytesLess] at h
  | [], _ :: _, _ => by simp [Op.bytesLess]
  | _ :: _, [], h => by simp [Op.bytesLess] at h
  | x :: a, y :: b, h => by
    have ih := less_anti a b
    simp only [Op.bytesLess, Bool.or_eq_true, Bool.and_eq_true, decide_eq_true_eq, beq_iff_eq] at h
    simp only [Op.bytesLess, Bool.or_eq_false_iff, Bool.and_eq_false_iff, decide_eq_false_iff_not]
    rcases h with h | ⟨rfl, h⟩
    · have h1 : x.toNat < y.toNat := h
      refine ⟨fun e => ?_, .inl ?_⟩
      · have h2 : y.toNat < x.toNat := e
        omega
      · rw [beq_eq_false_iff_ne]
        exact fun e => by subst e; omega
    · exact ⟨fun e => by have h2 : x.toNat < x.toNat := e; omega, .inr (ih h)⟩
theorem strs_next {w w' : World} {a : Option Addr} {l : List ByteArray} (h : Strs w w.heap.size a l) (hb : Below w.heap.size w w') : Strs w' w'.heap.size a l := (h.below hb (Nat.le_refl _)).more hb.size

set_option maxRecDepth 100000 in
set_option maxHeartbeats 4000000 in
theorem walk_SplitJoin (a : Option Addr) (l : List Int) (c : Nat) (w : World) (hi : Ints .u8 w w.heap.size a l) (hb : ∀ z ∈ l, 0 ≤ z ∧ z ≤ 255) (hlm : l.length ≤ maxLen) :
    Calls Try.prog 3 #[.slice a l.length c] w fun e w' => e = .returned (.bool true) ∧ Below w.heap.size w w' := by
  unfold maxLen at hlm
  by_cases hbig : (65536 : Int) < (l.length : Int)
  · clear hi hb
    go_enter Try.func3, Try.ntmps3
    go_wp2
    go_ret
    exact ⟨rfl, Below.refl _ _⟩
  · have G0 := Lib.hid (show Gd w a l w from ⟨Below.refl _ _, hi⟩)
    have HBY := Lib.hid hb
    have hl : l.length ≤ 65536 := by omega
    clear hi hb hlm
    go_enter Try.func3, Try.ntmps3
    go_wp2_with (first | (go_at_call 7; go_in) | fail)
    refine (drawSplit_is _ a l c G0.out.2 HBY.out (by omega)).mono ?_
    rintro e w1 ⟨s, sep, hs, hsep, rfl, b1⟩
    have G1 := Lib.hid (G0.out.step b1)
    clear b1 G0
    go_wp2_with fail
    refine (implSplit_any s sep _ (by omega) (by omega)).mono ?_
    rintro e w2 ⟨a2, c2, rfl, t2, b2⟩
    have S2 := Lib.hid t2.strs
    have G2 := Lib.hid (G1.out.step b2)
    clear b2 G1 t2
    have hlen := spL_len s sep
    have JB := Lib.hid (fun h => join_back (s := s) (sep := sep) h)
    have hokB := Lib.hid (show spOk s sep = true ↔ sep.size = 1 by unfold spOk; rw [decide_eq_true_iff]; exact ⟨fun h => h.2, fun h => ⟨hs, h⟩⟩)
    have hno := Lib.hid (fun h => spL_no (s := s) (sep := sep) h)
    have hszs := Lib.hid (show ∀ x ∈ spL s sep, x.size ≤ 1048576 from fun x hx => by
      cases ho : spOk s sep with
      | false => rw [spL_no ho] at hx; simp at hx
      | true =>
        have h1 := (join_back ho)
        have hm := size_of_mem hx
        have hk := okJoin_parts (l := bs (spL s sep)) (c := sepc sep) (by have := h1.1; unfold joinB at this; simp at this; exact this.2)
        omega)
    generalize spL s sep = pl at *
    generalize spOk s sep = pb at *
    go_wp2_with fail
    refine (drawJoin_is _ a l c G2.out.2 HBY.out (by omega)).mono ?_
    rintro e w3 ⟨L, a3, c3, t, hL, hLs, ht, rfl, t3, b3⟩
    have R3 := Lib.hid t3.strs
    have S3 := Lib.hid (strs_next S2.out b3)
    have G3 := Lib.hid (G2.out.step b3)
    have HLs := Lib.hid hLs
    clear b3 G2 t3 S2 hLs
    go_wp2_with fail
    refine (implJoin_all a3 L c3 t _ R3.out (by omega) (fun x hx => by have := HLs.out x hx; omega) (by unfold maxLen; omega)).mono ?_
    rintro e w4 ⟨rfl, b4⟩
    have R4 := Lib.hid (strs_next R3.out b4)
    have S4 := Lib.hid (strs_next S3.out b4)
    have G4 := Lib.hid (G3.out.step b4)
    clear b4 G3 S3 R3
    go_wp2_with fail
    refine (specJoin_all a3 L c3 _ t _ R4.out (by omega) (fun x hx => by have := HLs.out x hx; omega) (by unfold maxLen; omega)).mono ?_
    rintro e w5 ⟨rfl, d5⟩
    have S5 := Lib.hid (strs_next S4.out (d5.below _))
    have G5 := Lib.hid (G4.out.step (d5.below _))
    clear d5 G4 S4 R4
    generalize joinS L t = js at *
    generalize joinB L t = jb at *
    go_wp2_with fail
    refine (drawLess_is _ a l c G5.out.2 HBY.out (by omega)).mono ?_
    rintro e w6 ⟨x, y, hx, hy, rfl, b6⟩
    have S6 := Lib.hid (strs_next S5.out b6)
    have G6 := Lib.hid (G5.out.step b6)
    clear b6 G5 S5
    have hless := less_anti x.toList y.toList
    generalize hxy : Op.bytesLess x.toList y.toList = u1 at *
    generalize hyx : Op.bytesLess y.toList x.toList = u2 at *
    cases pb with
    | false =>
      have hne : ((sep.size : Int) != 1) = true := by
        have : ¬ sep.size = 1 := fun e => by have := hokB.out.2 e; cases this
        simp; omega
      have hpl := hno.out rfl
      subst hpl
      have u12 : u1 = false ∨ (u1 = true ∧ u2 = false) := by cases u1 <;> simp_all
      clear hless hokB JB hno
      rcases u12 with rfl | ⟨rfl, rfl⟩
      all_goals
        go_wp2_with (first | (go_at_call 14; go_in) | (go_at_call 15; go_in) | fail)
        go_ret
        exact ⟨rfl, G6.out.1⟩
    | true =>
      have hs1 : sep.size = 1 := hokB.out.1 rfl
      have hne : ((sep.size : Int) != 1) = false := by simp; omega
      obtain ⟨j1, j2⟩ := JB.out rfl
      have HI := Lib.hid (implJoin_all a2 pl c2 sep w6 S6.out (by omega) hszs.out (by unfold maxLen; omega))
      rw [j1, j2] at HI
      have u12 : u1 = false ∨ (u1 = true ∧ u2 = false) := by cases u1 <;> simp_all
      clear hless hokB JB hno j1 j2
      rcases u12 with rfl | ⟨rfl, rfl⟩
      all_goals
        go_wp2_with (first | (go_at_call 14; go_in) | (go_at_call 15; go_in) | fail)
        refine HI.out.mono ?_
        rintro e w7 ⟨rfl, b7⟩
        have G7 := Lib.hid (G6.out.step b7)
        clear b7
        go_wp2
        go_ret
        exact ⟨rfl, G7.out.1⟩
end Go.Proofs.Ytnafnkilmiebiaa
