/- The best tracking: plain mathematics of the model's search and of the program's. -/
import Derived.Test.YthceffkkokgpnaaStMath
namespace Go.Proofs.Ythceffkkokgpnaa
set_option linter.unusedVariables false
set_option linter.unusedSimpArgs false
/-- the best of the ways on behind q: none first, then each index that q does not hold -/
def bk (f : List Int → List Int × Int) (q : List Int) : Nat → List Int × Int
  | 0 => f (q ++ [-1])
  | k + 1 => if (k : Int) ∈ q then bk f q k else if (f (q ++ [(k : Int)])).2 < (bk f q k).2 then f (q ++ [(k : Int)]) else bk f q k
/-- the best tracking that continues q by d indices, and its cost -/
def bR (C : List Int → Int) (n : Nat) : Nat → List Int → List Int × Int
  | 0, q => (q, C q)
  | d + 1, q => bk (bR C n d) q n
/-- only a smaller cost is taken -/
def upd (s r : List Int × Int) : List Int × Int := if r.2 < s.2 then r else s
/-- the program's search: the first k indices from -1 on -/
def gk (f : List Int → List Int × Int → List Int × Int) (q : List Int) : Nat → List Int × Int → List Int × Int
  | 0, s => s
  | k + 1, s => if feB q ((k : Int) - 1) = true then f (q ++ [(k : Int) - 1]) (gk f q k s) else gk f q k s
def gR (C : List Int → Int) (n : Nat) : Nat → List Int → List Int × Int → List Int × Int
  | 0, q, s => upd s (q, C q)
  | d + 1, q, s => gk (gR C n d) q (n + 1) s
theorem upd_upd (s x y : List Int × Int) : upd (upd s x) y = upd s (if y.2 < x.2 then y else x) := by
  unfold upd
  by_cases h1 : x.2 < s.2
  · rw [if_pos h1]
    by_cases h2 : y.2 < x.2
    · rw [if_pos h2]; rw [if_pos (show y.2 < s.2 by omega)]
    · rw [if_neg h2]; rw [if_pos h1]
  · rw [if_neg h1]
    by_cases h2 : y.2 < x.2
    · rw [if_pos h2]
    · rw [if_neg h2, if_neg h1, if_neg (by omega)]
theorem feB_nat (q : List Int) (k : Nat) : feB q (k : Int) = !decide ((k : Int) ∈ q) := by
  unfold feB
  rw [decide_eq_false (by omega)]
  rfl
theorem gk_bk {f : List Int → List Int × Int → List Int × Int} {g : List Int → List Int × Int} (h : ∀ q s, f q s = upd s (g q)) (q : List Int) (s : List Int × Int) : ∀ k : Nat, gk f q (k + 1) s = upd s (bk g q k) := by
  intro k
  induction k with
  | zero =>
    show (if feB q (((0 : Nat) : Int) - 1) = true then f (q ++ [((0 : Nat) : Int) - 1]) s else s) = _
    rw [show (((0 : Nat) : Int) - 1) = -1 from rfl, if_pos (feB_none q), h]
    rfl
  | succ k ih =>
    show (if feB q (((k + 1 : Nat) : Int) - 1) = true then f (q ++ [((k + 1 : Nat) : Int) - 1]) (gk f q (k + 1) s) else gk f q (k + 1) s) = _
    rw [show ((k + 1 : Nat) : Int) - 1 = (k : Int) by omega, ih, feB_nat]
    show _ = upd s (if (k : Int) ∈ q then bk g q k else if (g (q ++ [(k : Int)])).2 < (bk g q k).2 then g (q ++ [(k : Int)]) else bk g q k)
    by_cases hk : (k : Int) ∈ q
    · rw [decide_eq_true hk, if_pos hk]; rfl
    · rw [decide_eq_false hk, if_neg hk]
      show f (q ++ [(k : Int)]) (upd s (bk g q k)) = _
      rw [h, upd_upd]
theorem gR_bR (C : List Int → Int) (n : Nat) : ∀ (d : Nat) (q : List Int) (s : List Int × Int), gR C n d q s = upd s (bR C n d q) := by
  intro d
  induction d with
  | zero => intro q s; rfl
  | succ d ih => intro q s; exact gk_bk ih q s n
theorem bk_all {P : List Int × Int → Prop} {f : List Int → List Int × Int} {q : List Int} {n : Nat} (h0 : P (f (q ++ [-1]))) (h : ∀ k : Nat, k < n → ¬ (k : Int) ∈ q → P (f (q ++ [(k : Int)]))) : ∀ k : Nat, k ≤ n → P (bk f q k) := by
  intro k
  induction k with
  | zero => intro _; exact h0
  | succ k ih =>
    intro hk
    unfold bk
    split
    · exact ih (by omega)
    · rename_i hm
      split
      · exact h k (by omega) hm
      · exact ih (by omega)
theorem bR_len (C : List Int → Int) (n : Nat) : ∀ (d : Nat) (q : List Int), (bR C n d q).1.length = q.length + d := by
  intro d
  induction d with
  | zero => intro q; rfl
  | succ d ih => intro q; exact bk_all (P := fun r => r.1.length = q.length + (d + 1)) (by rw [ih]; simp; omega) (fun k _ _ => by rw [ih]; simp; omega) n (Nat.le_refl _)
theorem bR_cost (C : List Int → Int) (n : Nat) : ∀ (d : Nat) (q : List Int), (bR C n d q).2 = C (bR C n d q).1 := by
  intro d
  induction d with
  | zero => intro q; rfl
  | succ d ih => intro q; exact bk_all (P := fun r => r.2 = C r.1) (ih _) (fun k _ _ => ih _) n (Nat.le_refl _)
/-- an index more -/
theorem trs_add {n : Nat} {q : List Int} {x : Int} (h : trsB n q = true) (h1 : -1 ≤ x) (h2 : x < (n : Int)) (h3 : feB q x = true) : trsB n (q ++ [x]) = true := by
  refine trs_all fun j hj => ?_
  rw [okJ_at hj]
  rw [List.length_append, List.length_singleton] at hj
  by_cases hjq : j < q.length
  · rw [List.getElem_append_left hjq, List.take_append_of_le_length (by omega)]
    obtain ⟨⟨g1, g2⟩, g3⟩ := trs_at h hjq
    rw [decide_eq_true g1, decide_eq_true g2, g3]
    rfl
  · obtain rfl : j = q.length := by omega
    rw [List.getElem_append_right (Nat.le_refl _), List.take_append_of_le_length (Nat.le_refl _), List.take_length]
    simp only [Nat.sub_self, List.getElem_cons_zero]
    rw [decide_eq_true h1, decide_eq_true h2, h3]
    rfl
theorem bR_trs (C : List Int → Int) (n : Nat) : ∀ (d : Nat) (q : List Int), trsB n q = true → trsB n (bR C n d q).1 = true := by
  intro d
  induction d with
  | zero => intro q h; exact h
  | succ d ih =>
    intro q h
    exact bk_all (P := fun r => trsB n r.1 = true) (ih _ (trs_add h (by omega) (by omega) (feB_none q))) (fun k hk hm => ih _ (trs_add h (by omega) (by omega) (feB_out hm))) n (Nat.le_refl _)
/-- .. not worse than none on all the way, and equal only if it is that one -/
theorem bR_first (C : List Int → Int) (n : Nat) : ∀ (d : Nat) (q : List Int), (bR C n d q).2 ≤ C (q ++ List.replicate d (-1)) ∧ ((bR C n d q).2 = C (q ++ List.replicate d (-1)) → (bR C n d q).1 = q ++ List.replicate d (-1)) := by
  intro d
  induction d with
  | zero => intro q; rw [List.replicate_zero, List.append_nil]; exact ⟨Int.le_refl _, fun _ => rfl⟩
  | succ d ih =>
    intro q
    have e : q ++ List.replicate (d + 1) (-1) = (q ++ [-1]) ++ List.replicate d (-1) := by rw [List.replicate_succ, List.append_assoc]; rfl
    rw [e]
    have h0 := ih (q ++ [-1])
    show (bk (bR C n d) q n).2 ≤ _ ∧ ((bk (bR C n d) q n).2 = _ → (bk (bR C n d) q n).1 = _)
    generalize C (q ++ [-1] ++ List.replicate d (-1)) = m at *
    generalize q ++ [-1] ++ List.replicate d (-1) = t at *
    have : ∀ k : Nat, (bk (bR C n d) q k).2 ≤ m ∧ ((bk (bR C n d) q k).2 = m → (bk (bR C n d) q k).1 = t) := by
      intro k
      induction k with
      | zero => exact h0
      | succ k ihk =>
        unfold bk
        split
        · exact ihk
        · split
          · rename_i h1 h2
            exact ⟨by omega, fun e => by omega⟩
          · exact ihk
    exact this n
theorem trs_none (n : Nat) : ∀ d : Nat, trsB n (List.replicate d (-1)) = true := by
  intro d
  induction d with
  | zero => rfl
  | succ d ih => rw [List.replicate_succ']; exact trs_add ih (by omega) (by omega) (feB_none _)
/-- the program's search from none on finds the model's -/
theorem gR_best (C : List Int → Int) (n d : Nat) : gR C n d [] (List.replicate d (-1), C (List.replicate d (-1))) = bR C n d [] := by
  rw [gR_bR]
  have h := bR_first C n d []
  have hc := bR_cost C n d []
  rw [List.nil_append] at h
  unfold upd
  split
  · rfl
  · rename_i h1
    have e : (bR C n d []).2 = C (List.replicate d (-1)) := by have := h.1; simp only at h1; omega
    have e2 := h.2 e
    rw [← e2]
    rw [← hc]
end Go.Proofs.Ythceffkkokgpnaa
