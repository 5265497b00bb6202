/- SplitString, the model's and the program's, and the walk of FnExactSplitString. -/
import Derived.Test.YtnafnkilmiebiaaSplitImpl
import Derived.Test.YtnafnkilmiebiaaClone
import Derived.Test.YtnafnkilmiebiaaSplit
import Derived.Test.YtnafnkilmiebiaaMark
import Derived.Test.YtnafnkilmiebiaaEqStrings
namespace Go.Proofs.Ytnafnkilmiebiaa
open Go.RowKit
set_option linter.unusedVariables false
theorem below_new (w : World) (o : Obj) : Below w.heap.size w (w.alloc o) := (Below.refl _ _).alloc (Nat.le_refl _) o
theorem below_next {a b c : World} (h : Below a.heap.size a b) (k : Below b.heap.size b c) : Below a.heap.size a c := h.trans (k.mono h.size)
def spOk (s sep : ByteArray) : Bool := decide (s.size ≤ 4000 ∧ sep.size = 1)
def sepC (sep : ByteArray) : Int := ((sep.data.toList.headD 0).toNat : Int)
theorem sepC_is {sep : ByteArray} (h : sep.size = 1) : sepC sep = (sep[0].toNat : Int) := by
  have h1 : sep.data.toList = [sep[0]] := by
    apply List.ext_getElem
    · rw [Array.length_toList]; exact h
    · intro i h2 h3
      obtain rfl : i = 0 := by simp at h3; omega
      rfl
  unfold sepC
  rw [h1]; rfl
/-- the pieces that SplitString answers -/
def spL (s sep : ByteArray) : List ByteArray := if spOk s sep = true then pieces s (sepC sep) else []
theorem spL_yes {s sep : ByteArray} (h : spOk s sep = true) : spL s sep = pieces s (sepC sep) := if_pos h
theorem spL_no {s sep : ByteArray} (h : spOk s sep = false) : spL s sep = [] := if_neg (by rw [h]; simp)
theorem spL_len (s sep : ByteArray) : (spL s sep).length ≤ 4001 := by
  cases h : spOk s sep with
  | false => rw [spL_no h]; simp
  | true => rw [spL_yes h]; exact pieces_len s _ (of_decide_eq_true h).1
/-- texts are returned in a row of the call's own, and a bool -/
def SPost (l : List ByteArray) (b : Bool) (w : World) (e : Ending) (w' : World) : Prop :=
  ∃ a c, e = .returned (.tuple #[.slice a l.length c, .bool b]) ∧ TRow w.heap.size w' a l ∧ Below w.heap.size w w'
theorem txt_pieces (s : ByteArray) (c : Int) : txt (splitL s.data.toList c) = (pieces s c).map Value.string := by
  unfold txt pieces; rw [List.map_map]; rfl

set_option maxHeartbeats 1000000 in
theorem implSplit_any (s sep : ByteArray) (w : World) (h1 : s.size ≤ 1048576) (h2 : sep.size ≤ 1048576) :
    Calls Try.prog 9 #[.string s, .string sep] w (SPost (spL s sep) (spOk s sep) w) := by
  cases hok : spOk s sep with
  | true =>
    have h := of_decide_eq_true hok
    refine (callsIn_wide.1 (splitIn s sep w h.1 h.2 (fun x hx W => clone_is x W (by omega)))).mono ?_
    rintro e W' ⟨v, rfl, hown, hb⟩
    rw [← sepC_is h.2, ← spL_yes hok] at hown
    obtain ⟨a, c, rfl, ht⟩ := TRow.of_own hown rfl
    exact ⟨a, c, rfl, ht, hb⟩
  | false =>
    rw [spL_no hok]
    have h := of_decide_eq_false hok
    by_cases hs : 4000 < s.size
    · clear hok h
      go_enter Try.func9, Try.ntmps9
      go_wp2
      go_ret2
      exact ⟨_, _, rfl, .inl rfl, below_new _ _⟩
    · have hne : ¬ sep.size = 1 := fun e => h ⟨by omega, e⟩
      have hne2 : ((sep.size : Int) != 1) = true := by simp; omega
      have hne3 : (sep.size != 1) = true := by simp; omega
      clear hok h
      go_enter Try.func9, Try.ntmps9
      go_wp2
      go_ret2
      exact ⟨_, _, rfl, .inl rfl, below_new _ _⟩

set_option maxHeartbeats 1000000 in
theorem specSplit_any (s sep : ByteArray) (w : World) (h1 : s.size ≤ 1048576) (h2 : sep.size ≤ 1048576) :
    Calls Try.prog 27 #[.string s, .string sep] w (SPost (spL s sep) (spOk s sep) w) := by
  cases hok : spOk s sep with
  | true =>
    have h := of_decide_eq_true hok
    rw [spL_yes hok, sepC_is h.2]
    obtain ⟨h3, h4⟩ := h
    obtain ⟨c, hc⟩ : ∃ c, (sep[0].toNat : Int) = c := ⟨_, rfl⟩
    rw [hc]
    have HS := Lib.hid (split_any s c w h1)
    have HT := Lib.hid (txt_pieces s c)
    have HL := Lib.hid (show (splitL s.data.toList c).length = (pieces s c).length by simp [pieces])
    clear hok
    go_enter Try.func27, Try.ntmps27
    go_wp2_with fail
    refine HS.out.mono ?_
    rintro e w1 ⟨v, rfl, hown, hb⟩
    rw [HL.out, HT.out] at hown
    obtain ⟨a, c', rfl, ht⟩ := TRow.of_own hown rfl
    have TT := Lib.hid ht
    have HB := Lib.hid hb
    clear ht hb hown
    go_wp2
    go_ret2
    exact ⟨_, _, rfl, TT.out, HB.out⟩
  | false =>
    rw [spL_no hok]
    have h := of_decide_eq_false hok
    by_cases hne : sep.size = 1
    · have hs : 4000 < s.size := by
        rcases Nat.lt_or_ge 4000 s.size with h9 | h9
        · exact h9
        · exact absurd ⟨h9, hne⟩ h
      have hne2 : ((sep.size : Int) != 1) = false := by simp; omega
      clear hok h
      go_enter Try.func27, Try.ntmps27
      go_wp2
      go_ret2
      exact ⟨_, _, rfl, .inl rfl, by first | exact Below.refl _ _ | exact below_new _ _⟩
    · have hne2 : ((sep.size : Int) != 1) = true := by simp; omega
      clear hok h
      go_enter Try.func27, Try.ntmps27
      go_wp2
      go_ret2
      exact ⟨_, _, rfl, .inl rfl, by first | exact Below.refl _ _ | exact below_new _ _⟩

set_option maxRecDepth 100000 in
set_option maxHeartbeats 2000000 in
theorem walk_SplitString (s sep : ByteArray) (w : World) (h1 : s.size ≤ maxLen) (h2 : sep.size ≤ maxLen) :
    Calls Try.prog 5 #[.string s, .string sep] w fun e w' => e = .returned (.bool true) ∧ Below w.heap.size w w' := by
  unfold maxLen at h1 h2
  by_cases g1 : 1048576 < s.size
  · go_enter Try.func5, Try.ntmps5
    go_wp2
    go_ret
    exact ⟨rfl, Below.refl _ _⟩
  · by_cases g2 : 1048576 < sep.size
    · go_enter Try.func5, Try.ntmps5
      go_wp2
      go_ret
      exact ⟨rfl, Below.refl _ _⟩
    · have H1 := Lib.hid (fun W => specSplit_any s sep W (by omega) (by omega))
      have H2 := Lib.hid (fun W => implSplit_any s sep W (by omega) (by omega))
      have hl := spL_len s sep
      generalize spL s sep = l at *
      generalize spOk s sep = b at *
      go_enter Try.func5, Try.ntmps5
      go_wp2_with fail
      refine (H1.out _).mono ?_
      rintro e w1 ⟨a1, c1, rfl, t1, b1⟩
      have Q1 := Lib.hid t1.strs
      have B1 := Lib.hid b1
      clear t1 b1
      go_wp2_with fail
      refine (H2.out _).mono ?_
      rintro e w2 ⟨a2, c2, rfl, t2, b2⟩
      have T2 := Lib.hid t2
      have Q2 := Lib.hid (Q1.out.below b2 (Nat.le_refl _))
      have B2 := Lib.hid (below_next B1.out b2)
      have hz2 : w1.heap.size ≤ w2.heap.size := b2.size
      clear t2 b2 Q1
      go_wp2_with fail
      refine (eqStrings_yes a2 a1 l _ _ _ _ w2 T2.out.strs Q2.out (by omega)).mono ?_
      rintro e w3 ⟨rfl, d3⟩
      have T3 := Lib.hid (T2.out.below (d3.below _))
      have Q3 := Lib.hid (Q2.out.below (d3.below _) (Nat.le_refl _))
      have B3 := Lib.hid (below_next B2.out (d3.below _))
      have hz3 : w1.heap.size ≤ w3.heap.size := by have := d3.size; omega
      clear d3 T2 Q2 B2
      have M4 := Lib.hid (markS_any a2 l c2 w1.heap.size 1 w3 T3.out hz3 (Nat.le_refl _) (by omega))
      have HH := Lib.hid (fun W (h : TRow w1.heap.size W a2 (marks 1 l.length)) => heldS_any a2 l.length c2 w1.heap.size 1 W h (Nat.le_refl _) (by omega))
      have hnn : ((1 + l.length : Nat) : Int) = 1 + (l.length : Int) := by omega
      cases b
      all_goals
        go_wp2_with fail
        refine M4.out.mono ?_
        rintro e w4 ⟨rfl, t4, b4⟩
        have T4 := Lib.hid t4
        have Q4 := Lib.hid (Q3.out.below b4 (Nat.le_refl _))
        have B4 := Lib.hid (B3.out.trans (b4.mono B1.out.size))
        have hz4 : w1.heap.size ≤ w4.heap.size := by have := b4.size; omega
        clear t4 b4 T3 Q3 B3 M4
        go_wp2_with fail
        refine (HH.out _ T4.out).mono ?_
        rintro e w5 ⟨rfl, b5⟩
        have T5 := Lib.hid (T4.out.below b5)
        have Q5 := Lib.hid (Q4.out.below b5 hz4)
        have B5 := Lib.hid (below_next B4.out b5)
        have hz5 : w1.heap.size ≤ w5.heap.size := by have := b5.size; omega
        clear b5 T4 Q4 B4
        go_wp2_with fail
        refine (H2.out _).mono ?_
        rintro e w6 ⟨a6, c6, rfl, t6, b6⟩
        have R6 := Lib.hid t6
        have T6 := Lib.hid (T5.out.below b6)
        have Q6 := Lib.hid (Q5.out.below b6 hz5)
        have B6 := Lib.hid (below_next B5.out b6)
        clear t6 b6 T5 Q5 B5
        go_wp2_with fail
        refine (eqStrings_yes a6 a1 l _ _ _ _ w6 R6.out.strs Q6.out (by omega)).mono ?_
        rintro e w7 ⟨rfl, d7⟩
        have T7 := Lib.hid (T6.out.below (d7.below _))
        have B7 := Lib.hid (below_next B6.out (d7.below _))
        clear d7 T6 Q6 B6 R6
        go_wp2_with fail
        refine (HH.out _ T7.out).mono ?_
        rintro e w8 ⟨rfl, b8⟩
        have B8 := Lib.hid (below_next B7.out b8)
        clear b8
        go_wp2
        go_ret
        exact ⟨rfl, B8.out⟩
end Go.Proofs.Ytnafnkilmiebiaa
