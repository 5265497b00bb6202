/- Plain mathematics of ReplaceField; rows of nodes of the call's own. -/
import Derived.Test.YtikglddifoalfaaDoorNodeMark
import Derived.Test.YtikglddifoalfaaDoorMake
namespace Go.Proofs.YtikglddifoalfaaDoor
open Go.RowKit
set_option linter.unusedVariables false
set_option linter.unusedSimpArgs false
def oneR (p : Nd) (f : Int) (b : List Nd) : List Nd := if p.1 = 1 ∧ p.2 = f then b else [p]
def replR (l : List Nd) (f : Int) (b : List Nd) : List Nd := l.flatMap fun p => oneR p f b
theorem oneR_yes {p : Nd} {f : Int} {b : List Nd} (h1 : p.1 = 1) (h2 : p.2 = f) : oneR p f b = b := if_pos ⟨h1, h2⟩
theorem oneR_no {p : Nd} {f : Int} {b : List Nd} (h : ¬ (p.1 = 1 ∧ p.2 = f)) : oneR p f b = [p] := if_neg h
theorem replR_step {l : List Nd} {f : Int} {b : List Nd} {k : Nat} (h : k < l.length) : replR (l.take (k + 1)) f b = replR (l.take k) f b ++ oneR l[k] f b := by
  unfold replR
  rw [takeN_snoc l k h, List.flatMap_append]
  simp
theorem replR_zero (l : List Nd) (f : Int) (b : List Nd) : replR (l.take 0) f b = [] := by simp [replR]
theorem replR_le {f : Int} {b : List Nd} (hb : b.length ≤ 15) (l : List Nd) : (replR l f b).length ≤ 15 * l.length := by
  induction l with
  | nil => simp [replR]
  | cons p r ih =>
    unfold replR at *
    rw [List.flatMap_cons, List.length_append, List.length_cons]
    have : (oneR p f b).length ≤ 15 := by
      unfold oneR
      split
      · exact hb
      · simp
    omega
theorem opens_shift (l : List Nd) : ∀ n m d, opens l n = some m → opens l (n + d) = some (m + d) := by
  induction l with
  | nil => intro n m d h; injection h with h; subst h; rfl
  | cons p r ih =>
    intro n m d h
    unfold opens at h ⊢
    cases ha : arity p.1 p.2 with
    | none => rw [ha] at h; cases h
    | some a =>
      rw [ha] at h
      simp only at h ⊢
      by_cases hn : a ≤ n
      · rw [if_pos hn] at h
        rw [if_pos (by omega), show n + d - a + 1 = (n - a + 1) + d by omega]
        exact ih _ _ d h
      · rw [if_neg hn] at h; cases h
theorem opens_repl {f : Int} {b : List Nd} (h0 : 0 ≤ f) (h3 : f ≤ 3) (hb : opens b 0 = some 1) (l : List Nd) : ∀ n, opens (replR l f b) n = opens l n := by
  induction l with
  | nil => intro n; rfl
  | cons p r ih =>
    intro n
    show opens (oneR p f b ++ replR r f b) n = _
    rw [opens_append]
    by_cases h : p.1 = 1 ∧ p.2 = f
    · rw [oneR_yes h.1 h.2]
      have e := opens_shift b 0 1 n hb
      rw [Nat.zero_add] at e
      rw [e]
      show opens (replR r f b) (1 + n) = _
      rw [ih]
      have ha : arity p.1 p.2 = some 0 := by rw [h.1, h.2]; unfold arity; rw [if_pos rfl, if_pos ⟨h0, h3⟩]
      conv => rhs; unfold opens
      rw [ha]
      simp only [Nat.zero_le, if_true, Nat.sub_zero]
      rw [Nat.add_comm]
    · rw [oneR_no h]
      rw [show opens (p :: r) n = (opens [p] n).bind (opens r) from opens_append [p] r n]
      congr 1
      funext m
      exact ih m
/-- what ReplaceField answers -/
def inF (f : Int) : Bool := decide (0 ≤ f) && decide (f ≤ 3)
def replB (l : List Nd) (f : Int) (b : List Nd) : Bool := exprB l && exprB b && inF f && decide ((replR l f b).length ≤ 15)
def replL (l : List Nd) (f : Int) (b : List Nd) : List Nd := if replB l f b = true then replR l f b else []
theorem repl_no {l : List Nd} {f : Int} {b : List Nd} (h : replB l f b = false) : replL l f b = [] := if_neg (by rw [h]; simp)
theorem repl_expr {l : List Nd} {f : Int} {b : List Nd} (h1 : exprB l = true) (h2 : exprB b = true) (h3 : inF f = true) : exprB (replR l f b) = decide ((replR l f b).length ≤ 15) ∧ replB l f b = decide ((replR l f b).length ≤ 15) ∧ l.length ≤ 15 ∧ b.length ≤ 15 := by
  have k : replB l f b = decide ((replR l f b).length ≤ 15) := by unfold replB; rw [h1, h2, h3]; rfl
  refine ⟨?_, k, ?_, ?_⟩
  · unfold inF at h3
    unfold exprB at h1 h2 ⊢
    simp only [Bool.and_eq_true, decide_eq_true_eq] at h1 h2 h3
    rw [opens_repl h3.1 h3.2 h2.2, h1.2]
    simp
  · unfold exprB at h1; simp only [Bool.and_eq_true, decide_eq_true_eq] at h1; exact h1.1
  · unfold exprB at h2; simp only [Bool.and_eq_true, decide_eq_true_eq] at h2; exact h2.1
theorem repl_both {l : List Nd} {f : Int} {b : List Nd} (h : replB l f b = decide ((replR l f b).length ≤ 15)) : ((replR l f b).length ≤ 15 → replB l f b = true ∧ replL l f b = replR l f b) ∧ (¬ (replR l f b).length ≤ 15 → replB l f b = false ∧ replL l f b = []) := by
  constructor
  · intro k
    have e : replB l f b = true := by rw [h, decide_eq_true k]
    exact ⟨e, if_pos e⟩
  · intro k
    have e : replB l f b = false := by rw [h, decide_eq_false k]
    exact ⟨e, repl_no e⟩
/-! rows of nodes of the call's own -/
theorem ownN_of {w : World} {B n : Nat} {v : Value} {l : List Nd} (h : w.ownsRow B 49 2 v n (nv l)) (hn : n = l.length) : ∃ a c, v = .slice a l.length c ∧ OwnN w B a l := by
  subst hn
  obtain ⟨h1, ⟨h2, h3⟩ | ⟨g, cap, cur, h2, hb, hh, hc, _, hcs, hx⟩⟩ := h
  · refine ⟨none, 0, by rw [h2, h3], ?_⟩
    have : l = [] := List.eq_nil_of_length_eq_zero h3
    subst this
    exact OwnN.none_
  · subst h2
    refine ⟨_, _, rfl, g, hb, .inr ⟨rfl, cur, hh, fun k hk => ?_⟩⟩
    have hk' := hk
    rw [nv_length] at hk'
    have e : (nv l)[k]? = cur[k]? := by
      rw [← hx, List.getElem?_take, if_pos hk']
      simp
    rw [← e]
    exact List.getElem?_eq_getElem hk
theorem own2_keeps {w w' : World} {base e size n : Nat} {v : Value} {xs : List Value} (h : w.ownsRow base e size v n xs) (hb : Below w.heap.size w w') : w'.ownsRow base e size v n xs :=
  h.kept (row := none) ⟨hb.os, hb.tape, hb.output, hb.size, fun i hi _ => hb.block i hi⟩ (by cases h1 : v.ownBlock with | none => exact .inl rfl | some k => exact .inr (by simp))
/-- the cells of nodes that stand somewhere -/
theorem nds_news {w : World} {B blk o : Nat} {l : List Nd} (h : Nds w B (some ⟨blk, o, none⟩) l) : ∀ (j : Nat) (u : Value), (nv l)[j]? = some u → w.cell? ((⟨blk, o, none⟩ : Addr).add j) = some u := by
  intro j u hu
  have hadd : (⟨blk, o, none⟩ : Addr).add j = ⟨blk, o + j, none⟩ := by unfold Addr.add; split <;> simp_all
  rw [hadd]
  have hj : j < (nv l).length := (List.getElem?_eq_some_iff.1 hu).1
  rw [nv_length] at hj
  have hk : j / 2 < l.length := by omega
  obtain ⟨b', o', e, _, c0, c1⟩ := h.at_ hk
  injection e with e
  injection e with e1 e2
  subst e1 e2
  obtain ⟨g0, g1⟩ := nv_get l (j / 2) hk
  rcases Nat.mod_two_eq_zero_or_one j with hm | hm
  · have ej : j / 2 * 2 = j := by omega
    rw [ej] at c0 g0
    rw [c0, ← hu, g0]
  · have ej : j / 2 * 2 + 1 = j := by omega
    rw [ej] at g1
    rw [Nat.add_assoc, ej] at c1
    rw [c1, ← hu, g1]
theorem expr_ne {l : List Nd} (h : exprB l = true) : l ≠ [] := by rintro rfl; revert h; decide
/-- what the call returns -/
def RPost (l : List Nd) (f : Int) (b : List Nd) (w : World) (e : Ending) (w' : World) : Prop :=
  ∃ a c, e = .returned (.tuple #[.slice a (replL l f b).length c, .bool (replB l f b)]) ∧ OwnN w' w.heap.size a (replL l f b) ∧ Below w.heap.size w w'
end Go.Proofs.YtikglddifoalfaaDoor
