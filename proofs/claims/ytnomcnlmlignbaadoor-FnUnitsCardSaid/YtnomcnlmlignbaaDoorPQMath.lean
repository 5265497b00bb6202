/- ParseQuantity of a QuantityText: both numbers come back. -/
import Derived.Test.YtnomcnlmlignbaaDoorPQuant
namespace Go.Proofs.YtnomcnlmlignbaaDoor
open Go.RowKit
set_option linter.unusedVariables false
set_option linter.unusedSimpArgs false
theorem pre_at (a c : List UInt8) (b : UInt8) (h : b ∉ a) : preL b (a ++ b :: c) = a := by
  unfold preL
  rw [List.takeWhile_append_of_pos (by intro x hx; simp only [bne_iff_ne, ne_eq]; intro e; subst e; exact h hx)]
  simp
theorem post_at (a c : List UInt8) (b : UInt8) (h : b ∉ a) : postL b (a ++ b :: c) = c := by
  unfold postL
  rw [pre_at a c b h]
  have : a ++ b :: c = (a ++ [b]) ++ c := by simp
  rw [this]
  exact List.drop_left' (by simp)
theorem cutA_at {s : ByteArray} {a c : List UInt8} {b : UInt8} (e : s.data.toList = a ++ b :: c) (h : b ∉ a) : cutA s b = ⟨a.toArray⟩ := by
  unfold cutA
  rw [e, if_pos (by simp), pre_at a c b h]
theorem cutB_at {s : ByteArray} {a c : List UInt8} {b : UInt8} (e : s.data.toList = a ++ b :: c) (h : b ∉ a) : cutB s b = ⟨c.toArray⟩ := by
  unfold cutB
  rw [e, if_pos (by simp), post_at a c b h]
theorem dec_not (n : Nat) (b : UInt8) (h : b.toNat < 48) : b ∉ Lib.decDigits n := fun hb => by
  have := (dec_val n).2.1 b hb
  omega
/-- the sign's bytes -/
def signL (x : Int) : List UInt8 := if x < 0 then [45] else []
theorem signS_list (x : Int) : (signS x).data.toList = signL x := by unfold signS signL; split <;> rfl
theorem tS_list (x : Int) : (tS x).data.toList = signL x ++ (Lib.decDigits (x.natAbs / 10) ++ 46 :: Lib.decDigits (x.natAbs % 10)) := by
  unfold tS digS
  simp only [ByteArray.data_append, Array.toList_append, signS_list, List.append_assoc]
  rfl
theorem qS_list (x u : Int) : (qS x u).data.toList = (tS x).data.toList ++ 32 :: (wordS u).data.toList := by
  unfold qS
  simp only [ByteArray.data_append, Array.toList_append, List.append_assoc]
  rfl
theorem tS_no (x : Int) : (32 : UInt8) ∉ (tS x).data.toList := by
  rw [tS_list]
  simp only [List.mem_append, List.mem_cons, not_or]
  refine ⟨?_, dec_not _ _ (by decide), by decide, dec_not _ _ (by decide)⟩
  unfold signL; split <;> simp
theorem qS_cutA (x u : Int) : cutA (qS x u) 32 = tS x := by
  rw [cutA_at (qS_list x u) (tS_no x)]
theorem qS_cutB (x u : Int) : cutB (qS x u) 32 = wordS u := by
  rw [cutB_at (qS_list x u) (tS_no x)]
theorem unitOf_word {u : Int} (h : unitB u = true) : unitOf (wordS u) = u := by
  rcases unit_cases h with h | h | h | h | h | h | h | h <;> subst h <;> decide
theorem isWord_word {u : Int} (h : unitB u = true) : isWord (wordS u) = true := by
  unfold isWord; rw [unitOf_word h]
  have := of_decide_eq_true h
  simp only [bne_iff_ne, ne_eq]; omega
theorem digS_read (n : Nat) (h : n ≤ 99999) : pB (digS n) = true ∧ pN (digS n) = (n : Int) :=
  pB_of (n := (n : Int)) (by omega) (by omega) (Lib.itoa_nonneg n)
/-- the text's digits, without the sign -/
def bareS (x : Int) : ByteArray := ⟨(Lib.decDigits (x.natAbs / 10) ++ 46 :: Lib.decDigits (x.natAbs % 10)).toArray⟩
theorem tS_neg (x : Int) : negB (tS x) = decide (x < 0) := by
  unfold negB
  rw [tS_list]
  unfold signL
  by_cases h : x < 0
  · rw [if_pos h]; simp [h]
  · rw [if_neg h, decide_eq_false h, List.nil_append]
    have h1 := dec_head (x.natAbs / 10)
    have h3 := (dec_val (x.natAbs / 10)).2.2
    cases hd : Lib.decDigits (x.natAbs / 10) with
    | nil => rw [hd] at h3; simp at h3
    | cons c r =>
      rw [hd] at h1
      simpa using h1
theorem tS_negS (x : Int) : negS (tS x) = bareS x := by
  unfold negS
  rw [tS_neg]
  by_cases h : x < 0
  · rw [if_pos (decide_eq_true h), tS_list]
    unfold signL bareS; rw [if_pos h]; rfl
  · rw [if_neg (by simpa using h)]
    have : (tS x).data.toList = (bareS x).data.toList := by rw [tS_list]; unfold signL bareS; rw [if_neg h]; rfl
    exact ByteArray.ext (Array.ext' this)
theorem bare_list (x : Int) : (bareS x).data.toList = Lib.decDigits (x.natAbs / 10) ++ 46 :: Lib.decDigits (x.natAbs % 10) := rfl
theorem bare_cutA (x : Int) : cutA (bareS x) 46 = digS (x.natAbs / 10) := cutA_at (bare_list x) (dec_not _ _ (by decide))
theorem bare_cutB (x : Int) : cutB (bareS x) 46 = digS (x.natAbs % 10) := cutB_at (bare_list x) (dec_not _ _ (by decide))
theorem tS_tenths {x : Int} (h : tenB x = true) : tnB (tS x) = true ∧ tnN (tS x) = x := by
  have hx := of_decide_eq_true h
  have h1 := digS_read (x.natAbs / 10) (by omega)
  have h2 := digS_read (x.natAbs % 10) (by omega)
  have hb : tnB (tS x) = true := by unfold tnB; rw [tS_negS, bare_cutA, bare_cutB, h1.1, h2.1]; rfl
  refine ⟨hb, ?_⟩
  unfold tnN; rw [if_pos hb]
  unfold tnZ; rw [tS_negS, bare_cutA, bare_cutB, h1.2, h2.2, tS_neg]
  by_cases hn : x < 0
  · rw [if_pos (decide_eq_true hn)]; omega
  · rw [if_neg (by simpa using hn)]; omega
/-- a QuantityText is read back -/
theorem pq_of {x u : Int} (h : qtB x u = true) : pqB (qS x u) = true ∧ pqX (qS x u) = x ∧ pqU (qS x u) = u := by
  have hq := h
  unfold qtB at h
  rw [Bool.and_eq_true] at h
  have hX : pqX (qS x u) = x := by unfold pqX; rw [qS_cutA]; exact (tS_tenths h.1).2
  have hU : pqU (qS x u) = u := by unfold pqU; rw [qS_cutB]; exact unitOf_word h.2
  refine ⟨?_, hX, hU⟩
  unfold pqB
  rw [hX, hU, qS_cutA, qS_cutB, isWord_word h.2, (tS_tenths h.1).1, hq]
  simp
theorem pqV_of {x u : Int} (h : qtB x u = true) : pqV (qS x u) = .tuple #[.int .i64 x, .int .i64 u, .bool true] := by
  obtain ⟨h1, h2, h3⟩ := pq_of h
  rw [pqV_yes h1, h2, h3]
/-- every other text is refused -/
theorem pqV_else {s : ByteArray} (h : ∀ x u, qtB x u = true → qS x u ≠ s) : pqV s = .tuple #[.int .i64 0, .int .i64 0, .bool false] := by
  apply pqV_no
  cases e : pqB s with
  | false => rfl
  | true =>
    unfold pqB at e
    simp only [Bool.and_eq_true, decide_eq_true_eq] at e
    exact absurd e.2 (h _ _ e.1.2)
end Go.Proofs.YtnomcnlmlignbaaDoor
