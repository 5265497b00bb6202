/- ParseQuantity, the model's pieces of a QuantityText. -/
import Derived.Test.YtnomcnlmlignbaaDoorPQMath
import Derived.Test.YtnomcnlmlignbaaDoorSplitMath
namespace Go.Proofs.YtnomcnlmlignbaaDoor
open Go.RowKit
set_option linter.unusedVariables false
set_option linter.unusedSimpArgs false
theorem pc_cons (c : Int) (cur : List UInt8) (b : UInt8) (r : List UInt8) : pc c cur (b :: r) = if (b.toNat : Int) = c then cur :: pc c [] r else pc c (cur ++ [b]) r := rfl
theorem pc_none (c : Int) (l : List UInt8) : ∀ cur, (∀ x ∈ l, (x.toNat : Int) ≠ c) → pc c cur l = [cur ++ l] := by
  induction l with
  | nil => intro cur _; simp [pc]
  | cons b r ih =>
    intro cur h
    unfold pc
    rw [if_neg (h b (by simp)), ih _ (fun x hx => h x (by simp [hx]))]
    simp
theorem pc_cut (c : Int) (b : UInt8) (hb : (b.toNat : Int) = c) (r l : List UInt8) : ∀ cur, (∀ x ∈ l, (x.toNat : Int) ≠ c) → pc c cur (l ++ b :: r) = (cur ++ l) :: pc c [] r := by
  induction l with
  | nil => intro cur _; rw [List.nil_append, pc_cons, if_pos hb, List.append_nil]
  | cons d t ih =>
    intro cur h
    rw [List.cons_append, pc_cons, if_neg (h d (by simp)), ih _ (fun x hx => h x (by simp [hx]))]
    simp
theorem byte_ne {b : UInt8} {l : List UInt8} (h : b ∉ l) : ∀ x ∈ l, (x.toNat : Int) ≠ (b.toNat : Int) := fun x hx e => h (by
  have : x = b := UInt8.toNat_inj.1 (by omega)
  rwa [← this])
theorem split_two {s : ByteArray} {a r : List UInt8} {b : UInt8} (e : s.data.toList = a ++ b :: r) (ha : b ∉ a) (hr : b ∉ r) : splitL s.data.toList (b.toNat : Int) = [a, r] := by
  rw [e, splitL_pc, pc_cut _ b rfl r a [] (byte_ne ha), pc_none _ r [] (byte_ne hr)]
  rfl
theorem word_no {u : Int} (h : unitB u = true) : (32 : UInt8) ∉ (wordS u).data.toList := by
  rcases unit_cases h with h | h | h | h | h | h | h | h <;> subst h <;> decide
theorem qS_split {x u : Int} (h : unitB u = true) : splitL (qS x u).data.toList 32 = [(tS x).data.toList, (wordS u).data.toList] :=
  split_two (qS_list x u) (tS_no x) (word_no h)
theorem bare_split (x : Int) : splitL (bareS x).data.toList 46 = [Lib.decDigits (x.natAbs / 10), Lib.decDigits (x.natAbs % 10)] :=
  split_two (bare_list x) (dec_not _ _ (by decide)) (dec_not _ _ (by decide))
theorem qS_size {x u : Int} (h : tenB x = true) : (qS x u).size ≤ 20 := by
  have hx := of_decide_eq_true h
  have h1 := dec_len (x.natAbs / 10) (by omega)
  have h2 := dec_len (x.natAbs % 10) (by omega)
  have h3 := signS_size x
  have h4 := wordS_size u
  have z1 : (digS (x.natAbs / 10)).size = (Lib.decDigits (x.natAbs / 10)).length := bsz _
  have z2 : (digS (x.natAbs % 10)).size = (Lib.decDigits (x.natAbs % 10)).length := bsz _
  have z3 : (⟨#[46]⟩ : ByteArray).size = 1 := rfl
  have z4 : (⟨#[32]⟩ : ByteArray).size = 1 := rfl
  unfold qS tS
  simp only [cat_size]
  omega
/-- the two pieces of a text of two pieces, as the program's Cut has them -/
theorem two_split {s : ByteArray} {a r : List UInt8} {b : UInt8} (h : splitL s.data.toList (b.toNat : Int) = [a, r]) : s.data.toList = a ++ b :: r ∧ b ∉ a ∧ b ∉ r := by
  rw [splitL_pc] at h
  by_cases hm : b ∈ s.data.toList
  · obtain ⟨p, q, e, hp⟩ : ∃ p q, s.data.toList = p ++ b :: q ∧ b ∉ p := List.eq_append_cons_of_mem hm
    rw [e, pc_cut _ b rfl q p [] (byte_ne hp)] at h
    by_cases hq : b ∈ q
    · exfalso
      obtain ⟨p2, q2, e2, hp2⟩ : ∃ p q', q = p ++ b :: q' ∧ b ∉ p := List.eq_append_cons_of_mem hq
      rw [e2, pc_cut _ b rfl q2 p2 [] (byte_ne hp2)] at h
      simp only [List.nil_append, List.cons.injEq] at h
      have hl := splitL_pos q2 (b.toNat : Int)
      rw [splitL_pc] at hl
      have h9 := h.2.2
      rw [h9] at hl
      simp at hl
    · rw [pc_none _ q [] (byte_ne hq)] at h
      simp only [List.nil_append, List.cons.injEq, and_true] at h
      obtain ⟨rfl, rfl⟩ := h
      exact ⟨e, hp, hq⟩
  · exfalso
    rw [pc_none _ _ [] (byte_ne hm)] at h
    simp at h
end Go.Proofs.YtnomcnlmlignbaaDoor
