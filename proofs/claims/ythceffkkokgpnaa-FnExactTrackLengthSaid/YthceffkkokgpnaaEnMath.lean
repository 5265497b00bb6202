/- Ensembles: the mathematics of their values and of what is asked of them. -/
import Derived.Test.YthceffkkokgpnaaPlains
import Derived.Test.YthceffkkokgpnaaNbMath
import Derived.Test.YthceffkkokgpnaaAlgMath
import Derived.Test.YthceffkkokgpnaaHas
namespace Go.Proofs.Ythceffkkokgpnaa
open Go.RowKit
set_option linter.unusedVariables false
set_option linter.unusedSimpArgs false
def hdW (P : List Fv) : Int := (P.headD (0, 0, [])).1
def hdH (P : List Fv) : Int := (P.headD (0, 0, [])).2.1
/-- valid, of the first one's shape -/
def mateB (P : List Fv) (f : Fv) : Bool := goodB f.1 f.2.1 f.2.2 && (decide (f.1 = hdW P) && decide (f.2.1 = hdH P))
def enB (P : List Fv) : Bool := decide (1 ≤ P.length ∧ P.length ≤ 8) && P.all (mateB P)
theorem mateB_iff {P : List Fv} {f : Fv} : mateB P f = true ↔ goodB f.1 f.2.1 f.2.2 = true ∧ f.1 = hdW P ∧ f.2.1 = hdH P := by unfold mateB; simp
theorem enB_iff {P : List Fv} : enB P = true ↔ (1 ≤ P.length ∧ P.length ≤ 8) ∧ ∀ f ∈ P, mateB P f = true := by unfold enB; simp
theorem enB_size {P : List Fv} (h : ¬ (1 ≤ P.length ∧ P.length ≤ 8)) : enB P = false := by unfold enB; rw [decide_eq_false h]; rfl
theorem enB_bad {P : List Fv} {j : Nat} (hj : j < P.length) (h : mateB P P[j] = false) : enB P = false := by
  cases h1 : enB P with
  | false => rfl
  | true => have := (enB_iff.1 h1).2 _ (List.getElem_mem hj); rw [h] at this; cases this
/-- an ensemble in memory: n members of W by H cells -/
structure OkE (es : List FE) (W H : Nat) : Prop where
  n : 1 ≤ es.length ∧ es.length ≤ 8
  s : (1 ≤ W ∧ W ≤ 8) ∧ 1 ≤ H ∧ H ≤ 8
  e : ∀ j (h : j < es.length), es[j].wd = (W : Int) ∧ es[j].hg = (H : Int) ∧ es[j].l.length = W * H ∧ goodB (W : Int) (H : Int) es[j].l = true
theorem okE_of {es : List FE} (h : enB (plains es) = true) : ∃ W H : Nat, OkE es W H ∧ hdW (plains es) = (W : Int) ∧ hdH (plains es) = (H : Int) := by
  obtain ⟨hn, hall⟩ := enB_iff.1 h
  rw [plains_len] at hn
  have h0 : 0 < es.length := by omega
  have key : ∀ j (hj : j < es.length), goodB es[j].wd es[j].hg es[j].l = true ∧ es[j].wd = hdW (plains es) ∧ es[j].hg = hdH (plains es) := by
    intro j hj
    have h1 := mateB_iff.1 (hall _ (List.getElem_mem (h := show j < (plains es).length by rw [plains_len]; exact hj)))
    rw [plains_get es j _ hj] at h1
    exact h1
  obtain ⟨g0, e0, f0⟩ := key 0 h0
  have hs := shapeB_iff.1 (good_shape g0)
  rw [e0, f0] at hs
  refine ⟨(hdW (plains es)).toNat, (hdH (plains es)).toNat, ⟨hn, by omega, fun j hj => ?_⟩, by omega, by omega⟩
  obtain ⟨g1, e1, f1⟩ := key j hj
  have hl := good_len g1
  rw [e1, f1] at hl g1
  have ew : ((hdW (plains es)).toNat : Int) = hdW (plains es) := by omega
  have eh : ((hdH (plains es)).toNat : Int) = hdH (plains es) := by omega
  refine ⟨by rw [e1, ew], by rw [f1, eh], ?_, by rw [ew, eh]; exact g1⟩
  rw [← ew, ← eh, ← Int.natCast_mul] at hl
  exact Int.ofNat.inj hl
theorem OkE.le {es : List FE} {W H : Nat} (h : OkE es W H) : W * H ≤ 64 ∧ 1 ≤ W * H := by
  have := Nat.mul_le_mul h.s.1.2 h.s.2.2
  have := Nat.mul_le_mul h.s.1.1 h.s.2.1
  omega
/-- the values at a cell, those that are missing left out -/
def colV (P : List Fv) (i : Nat) : List Int := vals (P.map fun f => f.2.2.getD i 0)
theorem colV_nil (i : Nat) : colV [] i = [] := rfl
theorem colV_le (P : List Fv) (i : Nat) : (colV P i).length ≤ P.length := by have := vals_le (P.map fun f => f.2.2.getD i 0); simpa [colV] using this
theorem colV_hit {P : List Fv} {f : Fv} {i : Nat} (h : f.2.2.getD i 0 = -9999) : colV (P ++ [f]) i = colV P i := by unfold colV; rw [List.map_append, List.map_singleton, vals_hit h]
theorem colV_miss {P : List Fv} {f : Fv} {i : Nat} (h : ¬ f.2.2.getD i 0 = -9999) : colV (P ++ [f]) i = colV P i ++ [f.2.2.getD i 0] := by unfold colV; rw [List.map_append, List.map_singleton, vals_miss h]
/-- .. of the first k members -/
def colK (es : List FE) (i k : Nat) : List Int := colV (plains (es.take k)) i
theorem colK_zero (es : List FE) (i : Nat) : colK es i 0 = [] := rfl
theorem colK_all (es : List FE) (i : Nat) : colK es i es.length = colV (plains es) i := by unfold colK; rw [List.take_length]
theorem plains_snoc {es : List FE} {k : Nat} (h : k < es.length) : plains (es.take (k + 1)) = plains (es.take k) ++ [(es[k].wd, es[k].hg, es[k].l)] := by
  rw [List.take_succ_eq_append_getElem h]; unfold plains; rw [List.map_append]; rfl
theorem colK_hit {es : List FE} {i k : Nat} (h : k < es.length) (hi : i < es[k].l.length) (hz : es[k].l[i] = -9999) : colK es i (k + 1) = colK es i k := by
  unfold colK; rw [plains_snoc h]; exact colV_hit (by show es[k].l.getD i 0 = _; rw [getD_at hi]; exact hz)
theorem colK_miss {es : List FE} {i k : Nat} (h : k < es.length) (hi : i < es[k].l.length) (hz : ¬ es[k].l[i] = -9999) : colK es i (k + 1) = colK es i k ++ [es[k].l[i]] := by
  unfold colK; rw [plains_snoc h, colV_miss (by show ¬ es[k].l.getD i 0 = _; rw [getD_at hi]; exact hz)]
  show _ ++ [es[k].l.getD i 0] = _
  rw [getD_at hi]
theorem colK_le (es : List FE) (i k : Nat) : (colK es i k).length ≤ k := by
  have := colV_le (plains (es.take k)) i
  rw [plains_len, List.length_take] at this
  unfold colK; omega
theorem colV_bd {es : List FE} {W H i : Nat} (h : OkE es W H) (hi : i < W * H) : ∀ z ∈ colV (plains es) i, -9000 ≤ z ∧ z ≤ 9000 := by
  intro z hz
  obtain ⟨h1, h2⟩ := vals_mem hz
  obtain ⟨f, hf, rfl⟩ := List.mem_map.1 h1
  obtain ⟨e, he, rfl⟩ := List.mem_map.1 hf
  obtain ⟨j, hj, rfl⟩ := List.getElem_of_mem he
  obtain ⟨_, _, h5, h6⟩ := h.e j hj
  have hi2 : i < es[j].l.length := by omega
  have e1 : (FE.plain es[j]).2.2.getD i 0 = es[j].l[i] := getD_at hi2
  rw [e1] at h2 ⊢
  rcases cellB_iff.1 (good_cell h6 _ (List.getElem_mem hi2)) with h7 | h7
  · exact absurd h7 h2
  · exact h7
/-- a rule at every cell -/
def mixL (F : List Int → Int) (P : List Fv) (n : Nat) : List Int := (List.range n).map fun i => gapC F 0 (colV P i)
theorem mixL_len (F : List Int → Int) (P : List Fv) (n : Nat) : (mixL F P n).length = n := by simp [mixL]
theorem mixL_get (F : List Int → Int) (P : List Fv) (n i : Nat) (h : i < (mixL F P n).length) : (mixL F P n)[i] = gapC F 0 (colV P i) := by simp [mixL]
def enR (F : List Int → Int) (P : List Fv) : Option Fv := if enB P = true then some (hdW P, hdH P, mixL F P (hdW P * hdH P).toNat) else none
theorem enR_no {F : List Int → Int} {P : List Fv} (h : enB P = false) : enR F P = none := if_neg (by rw [h]; simp)
theorem enR_yes {F : List Int → Int} {es : List FE} {W H : Nat} (h : enB (plains es) = true) (h1 : hdW (plains es) = (W : Int)) (h2 : hdH (plains es) = (H : Int)) : enR F (plains es) = some ((W : Int), (H : Int), mixL F (plains es) (W * H)) := by
  unfold enR
  rw [if_pos h, h1, h2, ← Int.natCast_mul, Int.toNat_natCast]
theorem enR_len (F : List Int → Int) (es : List FE) : (rL (enR F (plains es))).length ≤ 64 := by
  cases h : enB (plains es) with
  | false => rw [enR_no h]; simp [rL]
  | true =>
    obtain ⟨W, H, hok, h1, h2⟩ := okE_of h
    rw [enR_yes h h1 h2]
    show (mixL F (plains es) (W * H)).length ≤ 64
    rw [mixL_len]
    exact hok.le.1
/-- what is asked at every cell -/
def cntF (t : Int) (vs : List Int) : Int := (cntN t vs : Int)
def cntR (P : List Fv) (t : Int) : Option Fv := if valB t = true then enR (cntF t) P else none
def frB (num den : Int) : Bool := decide (0 ≤ num ∧ num ≤ den) && decide (1 ≤ den ∧ den ≤ 100)
theorem frB_iff {num den : Int} : frB num den = true ↔ (0 ≤ num ∧ num ≤ den) ∧ 1 ≤ den ∧ den ≤ 100 := by unfold frB; simp
def quK (num den : Int) (n : Nat) : Int := max ((num * (n : Int) + den - 1) / den) 1
def quF (num den : Int) (vs : List Int) : Int := (insAll vs).getD (quK num den vs.length - 1).toNat 0
def quR (P : List Fv) (num den : Int) : Option Fv := if frB num den = true then enR (quF num den) P else none
def mnR (P : List Fv) : Option Fv := enR meanF P
def spF (vs : List Int) : Int := min (hiV vs - loV vs) 9000
def spR (P : List Fv) : Option Fv := enR spF P
theorem cntR_len (es : List FE) (t : Int) : (rL (cntR (plains es) t)).length ≤ 64 := by unfold cntR; split; exact enR_len _ _; simp [rL]
theorem quR_len (es : List FE) (num den : Int) : (rL (quR (plains es) num den)).length ≤ 64 := by unfold quR; split; exact enR_len _ _; simp [rL]
theorem mnR_len (es : List FE) : (rL (mnR (plains es))).length ≤ 64 := enR_len _ _
theorem spR_len (es : List FE) : (rL (spR (plains es))).length ≤ 64 := enR_len _ _
theorem quK_bd {num den : Int} {n : Nat} (h : frB num den = true) (hn : 0 < n) : 1 ≤ quK num den n ∧ quK num den n ≤ n := by
  obtain ⟨⟨h0, h1⟩, h2, h3⟩ := frB_iff.1 h
  have a : num * (n : Int) ≤ den * (n : Int) := Int.mul_le_mul_of_nonneg_right h1 (by omega)
  have b : (num * (n : Int) + den - 1) / den < (n : Int) + 1 := by
    rw [Int.ediv_lt_iff_lt_mul (by omega), Int.add_mul, Int.one_mul, Int.mul_comm (n : Int) den]
    omega
  unfold quK
  omega
/-- the values at one cell, if it is one of an ensemble's -/
def cellR (P : List Fv) (x y : Int) : Option (List Int) := if (enB P && inB (hdW P) (hdH P) x y) = true then some (colV P (place (hdW P) x y)) else none
theorem cellR_no {P : List Fv} {x y : Int} (h : (enB P && inB (hdW P) (hdH P) x y) = false) : cellR P x y = none := if_neg (by rw [h]; simp)
theorem cellR_yes {P : List Fv} {x y : Int} (h : (enB P && inB (hdW P) (hdH P) x y) = true) : cellR P x y = some (colV P (place (hdW P) x y)) := if_pos h
/-- the index of the cell, or -1 -/
def cellI (P : List Fv) (x y : Int) : Int := if (enB P && inB (hdW P) (hdH P) x y) = true then (place (hdW P) x y : Int) else -1
def chR (P : List Fv) (x y t : Int) : Option (Int × Int) := if valB t = true then (cellR P x y).map fun vs => (cntF t vs, (vs.length : Int)) else none
def rkR (P : List Fv) (x y t : Int) : Option (Int × Int) := if valB t = true then (cellR P x y).map fun vs => ((vs.length : Int) - cntF t vs, cntF t vs - cntF (t + 1) vs) else none
/-- two numbers and whether there are any -/
def twA (r : Option (Int × Int)) : Int := match r with | none => 0 | some p => p.1
def twB (r : Option (Int × Int)) : Int := match r with | none => 0 | some p => p.2
def twO {α : Type} (r : Option α) : Bool := r.isSome
def agB (P : List Fv) (t : Int) (i : Nat) : Bool := decide ((colV P i).length = P.length) && (decide (cntN t (colV P i) = 0) || decide (cntN t (colV P i) = P.length))
def agN (P : List Fv) (t : Int) (n : Nat) : Nat := ((List.range n).filter (agB P t)).length
theorem agN_zero (P : List Fv) (t : Int) : agN P t 0 = 0 := rfl
theorem agN_yes {P : List Fv} {t : Int} {n : Nat} (h : agB P t n = true) : agN P t (n + 1) = agN P t n + 1 := by unfold agN; rw [List.range_succ, List.filter_append]; simp [h]
theorem agN_no {P : List Fv} {t : Int} {n : Nat} (h : agB P t n = false) : agN P t (n + 1) = agN P t n := by unfold agN; rw [List.range_succ, List.filter_append]; simp [h]
theorem agN_le (P : List Fv) (t : Int) (n : Nat) : agN P t n ≤ n := by unfold agN; have := List.length_filter_le (agB P t) (List.range n); rwa [List.length_range] at this
def agR (P : List Fv) (t : Int) : Option Int := if (enB P && valB t) = true then some (agN P t (hdW P * hdH P).toNat : Int) else none
def onA (r : Option Int) : Int := match r with | none => 0 | some p => p
/-- the sum of the differences of two fields -/
def gapO (x y : Int) : Int := if x = -9999 ∨ y = -9999 then 0 else max (x - y) (y - x)
def gapK (a b : List Int) (k : Nat) : Int := ((List.range k).map fun i => gapO (a.getD i 0) (b.getD i 0)).sum
theorem gapK_zero (a b : List Int) : gapK a b 0 = 0 := rfl
theorem gapK_step (a b : List Int) (k : Nat) : gapK a b (k + 1) = gapK a b k + gapO (a.getD k 0) (b.getD k 0) := by unfold gapK; rw [List.range_succ, List.map_append]; simp
theorem gapK_bd {a b : List Int} (ha : ∀ z ∈ a, -9999 ≤ z ∧ z ≤ 9000) (hb : ∀ z ∈ b, -9999 ≤ z ∧ z ≤ 9000) (k : Nat) : 0 ≤ gapK a b k ∧ gapK a b k ≤ 20000 * k := by
  have bd : ∀ (l : List Int) (h : ∀ z ∈ l, -9999 ≤ z ∧ z ≤ 9000) (i : Nat), -9999 ≤ l.getD i 0 ∧ l.getD i 0 ≤ 9000 := by
    intro l h i
    rcases Nat.lt_or_ge i l.length with h1 | h1
    · rw [getD_at h1]; exact h _ (List.getElem_mem h1)
    · have e : l.getD i 0 = 0 := by simp [List.getD, List.getElem?_eq_none h1]
      rw [e]; omega
  induction k with
  | zero => simp [gapK_zero]
  | succ k ih =>
    rw [gapK_step]
    have h1 := bd a ha k
    have h2 := bd b hb k
    have h3 : 0 ≤ gapO (a.getD k 0) (b.getD k 0) ∧ gapO (a.getD k 0) (b.getD k 0) ≤ 20000 := by unfold gapO; split <;> omega
    omega
theorem gapO_comm (x y : Int) : gapO x y = gapO y x := by
  unfold gapO
  by_cases h : x = -9999 ∨ y = -9999
  · rw [if_pos h, if_pos (by omega)]
  · rw [if_neg h, if_neg (by omega)]; omega
theorem gapK_comm (a b : List Int) (k : Nat) : gapK a b k = gapK b a k := by
  induction k with
  | zero => rfl
  | succ k ih => rw [gapK_step, gapK_step, ih, gapO_comm]
/-- the first of the first k members that is nearest, and how near -/
def nearI (P : List Fv) (b : List Int) : Nat → Nat
  | 0 => 0
  | k + 1 => if gapK (P.getD k (0, 0, [])).2.2 b b.length < gapK (P.getD (nearI P b k) (0, 0, [])).2.2 b b.length then k else nearI P b k
def nearS (P : List Fv) (b : List Int) (k : Nat) : Int := gapK (P.getD (nearI P b k) (0, 0, [])).2.2 b b.length
theorem nearI_lt (P : List Fv) (b : List Int) (k : Nat) (h : 0 < k) : nearI P b k < k := by
  induction k with
  | zero => omega
  | succ k ih =>
    unfold nearI
    split
    · omega
    · by_cases h0 : 0 < k
      · have := ih h0; omega
      · obtain rfl : k = 0 := by omega
        simp [nearI]
theorem nearI_one (P : List Fv) (b : List Int) : nearI P b 1 = 0 := by simp [nearI]
def nrR (P : List Fv) (f : Fv) : Option (Int × Int) := if (enB P && mateB P f) = true then some ((nearI P f.2.2 P.length : Int), nearS P f.2.2 P.length) else none
/-- an ensemble without a member -/
def woB (P : List Fv) (i : Int) : Bool := enB P && (decide (0 ≤ i ∧ i < (P.length : Int)) && decide (¬ P.length = 1))
def woR (P : List Fv) (i : Int) : List Fv := if woB P i = true then P.eraseIdx i.toNat else []
end Go.Proofs.Ythceffkkokgpnaa
