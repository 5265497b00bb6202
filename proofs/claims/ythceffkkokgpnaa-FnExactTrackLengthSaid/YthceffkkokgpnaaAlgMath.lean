/- Plain mathematics of the field algebra: cells made out of cells in one place. -/
import Derived.Test.YthceffkkokgpnaaGood
namespace Go.Proofs.Ythceffkkokgpnaa
/-- both valid, of one shape -/
def sameB (wa ha : Int) (la : List Int) (wb hb : Int) (lb : List Int) : Bool := goodB wa ha la && goodB wb hb lb && (decide (wa = wb) && decide (ha = hb))
theorem same_left {wa ha wb hb : Int} {la lb : List Int} (h : goodB wa ha la = false) : sameB wa ha la wb hb lb = false := by unfold sameB; rw [h]; rfl
theorem same_right {wa ha wb hb : Int} {la lb : List Int} (h : goodB wb hb lb = false) : sameB wa ha la wb hb lb = false := by unfold sameB; rw [h]; simp
theorem same_wide {wa ha wb hb : Int} {la lb : List Int} (h : ¬ wa = wb) : sameB wa ha la wb hb lb = false := by unfold sameB; simp [h]
theorem same_high {wa ha wb hb : Int} {la lb : List Int} (h : ¬ ha = hb) : sameB wa ha la wb hb lb = false := by unfold sameB; simp [h]
theorem same_yes {wa ha : Int} {la lb : List Int} (h : goodB wa ha la = true) (k : goodB wa ha lb = true) : sameB wa ha la wa ha lb = true := by unfold sameB; rw [h, k]; simp
theorem same_iff {wa ha wb hb : Int} {la lb : List Int} : sameB wa ha la wb hb lb = true ↔ goodB wa ha la = true ∧ goodB wb hb lb = true ∧ wa = wb ∧ ha = hb := by
  unfold sameB; simp [and_assoc]
theorem same_len {wa ha wb hb : Int} {la lb : List Int} (h : sameB wa ha la wb hb lb = true) : la.length = lb.length := by
  obtain ⟨h1, h2, rfl, rfl⟩ := same_iff.1 h
  have := good_len h1
  have := good_len h2
  omega
/-- the cells of two lists under one rule -/
def zipR {β : Type} (r : Int → β → Int) (a : List Int) (b : List β) : List Int := List.zipWith r a b
theorem zipR_len {β : Type} (r : Int → β → Int) {a : List Int} {b : List β} (h : a.length = b.length) : (zipR r a b).length = a.length := by unfold zipR; rw [List.length_zipWith]; omega
theorem zipR_get {β : Type} (r : Int → β → Int) {a : List Int} {b : List β} (k : Nat) (h : k < (zipR r a b).length) (h1 : k < a.length) (h2 : k < b.length) : (zipR r a b)[k] = r a[k] b[k] := List.getElem_zipWith ..
/-- the first k cells under the rule, the others as the first list has them -/
def mixR {β : Type} (r : Int → β → Int) (a : List Int) (b : List β) (k : Nat) : List Int := (zipR r a b).take k ++ a.drop k
theorem mix_zero {β : Type} (r : Int → β → Int) (a : List Int) (b : List β) : mixR r a b 0 = a := by unfold mixR; simp
theorem mix_all {β : Type} (r : Int → β → Int) {a : List Int} {b : List β} (h : a.length = b.length) : mixR r a b a.length = zipR r a b := by
  unfold mixR; rw [List.drop_length, List.append_nil, List.take_of_length_le (by rw [zipR_len r h]; exact Nat.le_refl _)]
theorem mix_len {β : Type} (r : Int → β → Int) {a : List Int} {b : List β} (h : a.length = b.length) (k : Nat) (hk : k ≤ a.length) : (mixR r a b k).length = a.length := by
  unfold mixR; rw [List.length_append, List.length_take, zipR_len r h, List.length_drop]; omega
theorem mix_get {β : Type} (r : Int → β → Int) {a : List Int} {b : List β} (h : a.length = b.length) (k : Nat) (hk : k < a.length) (h2 : k < (mixR r a b k).length) : (mixR r a b k)[k] = a[k] := by
  have e : mixR r a b k = (zipR r a b).take k ++ a.drop k := rfl
  simp only [e]
  rw [List.getElem_append_right (by rw [List.length_take, zipR_len r h]; omega)]
  simp [List.length_take, zipR_len r h, Nat.min_eq_left (Nat.le_of_lt hk)]
theorem mix_step {β : Type} (r : Int → β → Int) {a : List Int} {b : List β} (h : a.length = b.length) (k : Nat) (hk : k < a.length) (v : Int) (hv : v = r a[k] (b[k]'(by omega))) : (mixR r a b k).set k v = mixR r a b (k + 1) := by
  subst hv
  have hz := zipR_len r h
  unfold mixR
  rw [List.set_append_right _ _ (by rw [List.length_take, hz]; omega), List.length_take, hz, Nat.min_eq_left (by omega), Nat.sub_self, List.drop_eq_getElem_cons hk, List.set_cons_zero,
    List.take_succ_eq_append_getElem (by rw [hz]; exact hk), zipR_get r k (by rw [hz]; exact hk) hk (by omega), List.append_assoc]
  rfl
theorem mix_stay {β : Type} (r : Int → β → Int) {a : List Int} {b : List β} (h : a.length = b.length) (k : Nat) (hk : k < a.length) (hv : a[k] = r a[k] (b[k]'(by omega))) : mixR r a b k = mixR r a b (k + 1) := by
  have h1 := mix_step r h k hk a[k] hv
  rw [← h1]
  have h2 := mix_get r h k hk (by rw [mix_len r h k (by omega)]; exact hk)
  conv => rhs; arg 3; rw [← h2]
  exact (List.set_getElem_self (by rw [mix_len r h k (by omega)]; exact hk)).symm
/-- the field of computed cells, if they are cells -/
def cellsR (wd hg : Int) (l : List Int) : Option (Int × Int × List Int) := if goodB wd hg l = true then some (wd, hg, l) else none
theorem cellsR_yes {wd hg : Int} {l : List Int} (h : goodB wd hg l = true) : cellsR wd hg l = some (wd, hg, l) := if_pos h
theorem cellsR_no {wd hg : Int} {l : List Int} (h : goodB wd hg l = false) : cellsR wd hg l = none := if_neg (by rw [h]; simp)
theorem cellsR_len (wd hg : Int) (l : List Int) : (rL (cellsR wd hg l)).length ≤ 64 := by
  cases h : goodB wd hg l with
  | false => rw [cellsR_no h]; simp [rL]
  | true => rw [cellsR_yes h]; exact (good_le h).2
/-- two fields in one -/
def combR (r : Int → Int → Int) (wa ha : Int) (la : List Int) (wb hb : Int) (lb : List Int) : Option (Int × Int × List Int) := if sameB wa ha la wb hb lb = true then cellsR wa ha (zipR r la lb) else none
theorem combR_yes {r : Int → Int → Int} {wa ha wb hb : Int} {la lb : List Int} (h : sameB wa ha la wb hb lb = true) : combR r wa ha la wb hb lb = cellsR wa ha (zipR r la lb) := if_pos h
theorem combR_no {r : Int → Int → Int} {wa ha wb hb : Int} {la lb : List Int} (h : sameB wa ha la wb hb lb = false) : combR r wa ha la wb hb lb = none := if_neg (by rw [h]; simp)
theorem combR_len (r : Int → Int → Int) (wa ha : Int) (la : List Int) (wb hb : Int) (lb : List Int) : (rL (combR r wa ha la wb hb lb)).length ≤ 64 := by
  cases h : sameB wa ha la wb hb lb with
  | false => rw [combR_no h]; simp [rL]
  | true => rw [combR_yes h]; exact cellsR_len _ _ _
/-- a rule for values, made one for cells -/
def ofV (r : Int → Int → Int) (x y : Int) : Int := if x = -9999 ∨ y = -9999 then -9999 else if valB (r x y) = true then r x y else 9001
/-- .. and unchecked -/
def rawV (r : Int → Int → Int) (x y : Int) : Int := if x = -9999 ∨ y = -9999 then -9999 else r x y
def fitV (r : Int → Int → Int) (x y : Int) : Bool := decide (x = -9999) || decide (y = -9999) || valB (r x y)
theorem ofV_gone {r : Int → Int → Int} {x y : Int} (h : x = -9999 ∨ y = -9999) : ofV r x y = -9999 := if_pos h
theorem ofV_yes {r : Int → Int → Int} {x y : Int} (h : ¬ (x = -9999 ∨ y = -9999)) (k : valB (r x y) = true) : ofV r x y = r x y := by unfold ofV; rw [if_neg h, if_pos k]
theorem ofV_no {r : Int → Int → Int} {x y : Int} (h : ¬ (x = -9999 ∨ y = -9999)) (k : valB (r x y) = false) : ofV r x y = 9001 := by unfold ofV; rw [if_neg h, if_neg (by rw [k]; simp)]
theorem rawV_gone {r : Int → Int → Int} {x y : Int} (h : x = -9999 ∨ y = -9999) : rawV r x y = -9999 := if_pos h
theorem rawV_yes {r : Int → Int → Int} {x y : Int} (h : ¬ (x = -9999 ∨ y = -9999)) : rawV r x y = r x y := if_neg h
theorem fitV_gone {r : Int → Int → Int} {x y : Int} (h : x = -9999 ∨ y = -9999) : fitV r x y = true := by unfold fitV; rcases h with h | h <;> simp [h]
theorem fitV_val {r : Int → Int → Int} {x y : Int} (h : ¬ (x = -9999 ∨ y = -9999)) : fitV r x y = valB (r x y) := by
  unfold fitV; rw [decide_eq_false (fun e => h (.inl e)), decide_eq_false (fun e => h (.inr e))]; rfl
theorem valB_iff {n : Int} : valB n = true ↔ -9000 ≤ n ∧ n ≤ 9000 := by unfold valB; simp
theorem ofV_cell (r : Int → Int → Int) (x y : Int) : cellB (ofV r x y) = fitV r x y ∧ (fitV r x y = true → ofV r x y = rawV r x y) := by
  by_cases h : x = -9999 ∨ y = -9999
  · rw [ofV_gone h, fitV_gone h, rawV_gone h]; exact ⟨rfl, fun _ => rfl⟩
  · cases k : valB (r x y) with
    | true => rw [ofV_yes h k, fitV_val h, rawV_yes h, k]; exact ⟨cellB_iff.2 (.inr (valB_iff.1 k)), fun _ => rfl⟩
    | false => rw [ofV_no h k, fitV_val h, k]; exact ⟨rfl, fun e => by cases e⟩
/-- all computed values of the first k places fit -/
def fitsR (r : Int → Int → Int) (a b : List Int) (k : Nat) : Bool := ((List.zipWith (fitV r) a b).take k).all id
theorem fits_zero (r : Int → Int → Int) (a b : List Int) : fitsR r a b 0 = true := by unfold fitsR; simp
theorem fits_step (r : Int → Int → Int) {a b : List Int} (h : a.length = b.length) (k : Nat) (hk : k < a.length) : fitsR r a b (k + 1) = (fitsR r a b k && fitV r a[k] (b[k]'(by omega))) := by
  have hz : (List.zipWith (fitV r) a b).length = a.length := by rw [List.length_zipWith]; omega
  unfold fitsR
  rw [List.take_succ_eq_append_getElem (by rw [hz]; exact hk), List.all_append, List.getElem_zipWith]
  simp
theorem all_get {p : Int → Bool} {l : List Int} : l.all p = true ↔ ∀ k (h : k < l.length), p l[k] = true := by
  rw [List.all_eq_true]
  constructor
  · intro h k hk; exact h _ (List.getElem_mem hk)
  · intro h x hx; obtain ⟨k, hk, rfl⟩ := List.getElem_of_mem hx; exact h k hk
theorem good_of {wd hg : Int} {a l : List Int} (h : goodB wd hg a = true) (hl : l.length = a.length) : goodB wd hg l = l.all cellB := by
  have h1 := good_shape h
  have h2 := good_len h
  unfold goodB
  rw [h1, hl, decide_eq_true h2]; rfl
theorem zip_good (r : Int → Int → Int) {wd hg : Int} {a b : List Int} (h : sameB wd hg a wd hg b = true) : goodB wd hg (zipR (ofV r) a b) = fitsR r a b a.length := by
  have hl := same_len h
  have hz := zipR_len (ofV r) hl
  rw [good_of (same_iff.1 h).1 hz]
  have hzz : (List.zipWith (fitV r) a b).length = a.length := by rw [List.length_zipWith]; omega
  unfold fitsR
  rw [List.take_of_length_le (by rw [hzz]; exact Nat.le_refl _)]
  rw [Bool.eq_iff_iff, all_get, List.all_eq_true]
  constructor
  · intro h1 x hx
    obtain ⟨k, hk, rfl⟩ := List.getElem_of_mem hx
    have h2 := h1 k (by rw [hz]; omega)
    rw [zipR_get (ofV r) k (by rw [hz]; omega) (by omega) (by omega), (ofV_cell r _ _).1] at h2
    rw [List.getElem_zipWith]; exact h2
  · intro h1 k hk
    rw [hz] at hk
    rw [zipR_get (ofV r) k (by rw [hz]; omega) (by omega) (by omega), (ofV_cell r _ _).1]
    have h2 := h1 _ (List.getElem_mem (h := by rw [hzz]; exact hk))
    rw [List.getElem_zipWith] at h2; exact h2
theorem zip_raw (r : Int → Int → Int) {a b : List Int} (h : a.length = b.length) (k : fitsR r a b a.length = true) : zipR (rawV r) a b = zipR (ofV r) a b := by
  have hz := zipR_len (ofV r) h
  have hz' := zipR_len (rawV r) h
  have hzz : (List.zipWith (fitV r) a b).length = a.length := by rw [List.length_zipWith]; omega
  unfold fitsR at k
  rw [List.take_of_length_le (by rw [hzz]; exact Nat.le_refl _), List.all_eq_true] at k
  apply List.ext_getElem (by rw [hz, hz'])
  intro i h1 h2
  rw [hz'] at h1
  rw [zipR_get (ofV r) i (by rw [hz]; exact h1) h1 (by omega), zipR_get (rawV r) i (by rw [hz']; exact h1) h1 (by omega)]
  have h3 := k _ (List.getElem_mem (h := by rw [hzz]; exact h1))
  rw [List.getElem_zipWith] at h3
  exact ((ofV_cell r _ _).2 h3).symm
/-- what the model answers for a rule on values -/
theorem comb_fit (r : Int → Int → Int) {wd hg : Int} {a b : List Int} (h : sameB wd hg a wd hg b = true) (k : fitsR r a b a.length = true) :
    goodB wd hg (zipR (rawV r) a b) = true ∧ combR (ofV r) wd hg a wd hg b = some (wd, hg, zipR (rawV r) a b) := by
  have h1 := zip_raw r (same_len h) k
  have h2 := zip_good r h
  rw [k] at h2
  rw [h1]
  exact ⟨h2, by rw [combR_yes h, cellsR_yes h2]⟩
theorem comb_over (r : Int → Int → Int) {wd hg : Int} {a b : List Int} (h : sameB wd hg a wd hg b = true) (k : fitsR r a b a.length = false) : combR (ofV r) wd hg a wd hg b = none := by
  have h2 := zip_good r h
  rw [k] at h2
  rw [combR_yes h, cellsR_no h2]
/-- a rule that makes cells of cells -/
theorem zip_cells {r : Int → Int → Int} (hr : ∀ x y, cellB x = true → cellB y = true → cellB (r x y) = true) {wd hg : Int} {a b : List Int} (h : sameB wd hg a wd hg b = true) : goodB wd hg (zipR r a b) = true := by
  have hl := same_len h
  have hz := zipR_len r hl
  obtain ⟨h1, h2, -, -⟩ := same_iff.1 h
  rw [good_of h1 hz, all_get]
  intro k hk
  rw [hz] at hk
  rw [zipR_get r k (by rw [hz]; exact hk) hk (by omega)]
  exact hr _ _ (good_cell h1 _ (List.getElem_mem hk)) (good_cell h2 _ (List.getElem_mem (by omega)))
theorem comb_cells {r : Int → Int → Int} (hr : ∀ x y, cellB x = true → cellB y = true → cellB (r x y) = true) {wd hg : Int} {a b : List Int} (h : sameB wd hg a wd hg b = true) : combR r wd hg a wd hg b = some (wd, hg, zipR r a b) := by
  rw [combR_yes h, cellsR_yes (zip_cells hr h)]
/-! the rules -/
def opF (op x y : Int) : Int := if op = 1 then x + y else if op = 2 then x - y else if op = 3 then min x y else max x y
def opB (op : Int) : Bool := decide (1 ≤ op) && decide (op ≤ 4)
def scF (num den x : Int) : Int := (x * num) / den
def scB (num den : Int) : Bool := decide (-100 ≤ num) && decide (num ≤ 100) && (decide (1 ≤ den) && decide (den ≤ 100))
def exF (limit x : Int) : Int := if limit < x then 1 else 0
def mkF (x m : Int) : Int := if m = 0 ∨ m = -9999 then -9999 else x
def flF (x f : Int) : Int := if x = -9999 then f else x
def clF (low high x : Int) : Int := min (max x low) high
def clB (low high : Int) : Bool := decide (low ≤ high) && (valB low && valB high)
def abF (x : Int) : Int := max x (-x)
def chF (t x y : Int) : Int := if t = -9999 then -9999 else if t = 0 then y else x
theorem mkF_cell : ∀ x y, cellB x = true → cellB y = true → cellB (mkF x y) = true := by
  intro x y h1 h2; unfold mkF; split
  · rfl
  · exact h1
theorem flF_cell : ∀ x y, cellB x = true → cellB y = true → cellB (flF x y) = true := by
  intro x y h1 h2; unfold flF; split
  · exact h2
  · exact h1
theorem one_cell {f : Int → Int} (hf : ∀ x, -9000 ≤ x → x ≤ 9000 → -9000 ≤ f x ∧ f x ≤ 9000) : ∀ x y, cellB x = true → cellB y = true → cellB (ofV (fun a _ => f a) x y) = true := by
  intro x y h1 h2
  rw [(ofV_cell _ x y).1]
  by_cases h : x = -9999 ∨ y = -9999
  · exact fitV_gone h
  · rw [fitV_val h, valB_iff]
    rcases cellB_iff.1 h1 with h3 | h3
    · exact absurd (.inl h3) h
    · exact hf x h3.1 h3.2
theorem exF_bd (limit : Int) : ∀ x, -9000 ≤ x → x ≤ 9000 → -9000 ≤ exF limit x ∧ exF limit x ≤ 9000 := by intro x _ _; unfold exF; split <;> omega
theorem clF_bd {low high : Int} (h : clB low high = true) : ∀ x, -9000 ≤ x → x ≤ 9000 → -9000 ≤ clF low high x ∧ clF low high x ≤ 9000 := by
  intro x h1 h2
  unfold clB at h
  simp only [Bool.and_eq_true, decide_eq_true_eq] at h
  obtain ⟨h3, h4, h5⟩ := h
  have := valB_iff.1 h4
  have := valB_iff.1 h5
  unfold clF; omega
theorem abF_bd : ∀ x, -9000 ≤ x → x ≤ 9000 → -9000 ≤ abF x ∧ abF x ≤ 9000 := by intro x h1 h2; unfold abF; omega
/-- a field under a rule for its values -/
def mapR (f : Int → Int) (wd hg : Int) (l : List Int) : Option (Int × Int × List Int) := combR (ofV fun a _ => f a) wd hg l wd hg l
theorem mapR_no {f : Int → Int} {wd hg : Int} {l : List Int} (h : goodB wd hg l = false) : mapR f wd hg l = none := combR_no (same_left h)
theorem mapR_len (f : Int → Int) (wd hg : Int) (l : List Int) : (rL (mapR f wd hg l)).length ≤ 64 := combR_len _ _ _ _ _ _ _
theorem same_self {wd hg : Int} {l : List Int} (h : goodB wd hg l = true) : sameB wd hg l wd hg l = true := same_yes h h
theorem mapR_cells {f : Int → Int} (hf : ∀ x, -9000 ≤ x → x ≤ 9000 → -9000 ≤ f x ∧ f x ≤ 9000) {wd hg : Int} {l : List Int} (h : goodB wd hg l = true) : mapR f wd hg l = some (wd, hg, zipR (ofV fun a _ => f a) l l) := comb_cells (one_cell hf) (same_self h)
/-- what the nine functions answer -/
def combineR (op wa ha : Int) (la : List Int) (wb hb : Int) (lb : List Int) : Option (Int × Int × List Int) := if opB op = true then combR (ofV (opF op)) wa ha la wb hb lb else none
def scaleR (wd hg : Int) (l : List Int) (num den : Int) : Option (Int × Int × List Int) := if scB num den = true then mapR (scF num den) wd hg l else none
def exceedsR (wd hg : Int) (l : List Int) (limit : Int) : Option (Int × Int × List Int) := mapR (exF limit) wd hg l
def maskR (wa ha : Int) (la : List Int) (wb hb : Int) (lb : List Int) : Option (Int × Int × List Int) := combR mkF wa ha la wb hb lb
def fillR (wa ha : Int) (la : List Int) (wb hb : Int) (lb : List Int) : Option (Int × Int × List Int) := combR flF wa ha la wb hb lb
def clipR (wd hg : Int) (l : List Int) (low high : Int) : Option (Int × Int × List Int) := if clB low high = true then mapR (clF low high) wd hg l else none
def absR (wd hg : Int) (l : List Int) : Option (Int × Int × List Int) := mapR abF wd hg l
theorem combineR_len (op wa ha : Int) (la : List Int) (wb hb : Int) (lb : List Int) : (rL (combineR op wa ha la wb hb lb)).length ≤ 64 := by
  unfold combineR; split
  · exact combR_len _ _ _ _ _ _ _
  · simp [rL]
theorem scaleR_len (wd hg : Int) (l : List Int) (num den : Int) : (rL (scaleR wd hg l num den)).length ≤ 64 := by
  unfold scaleR; split
  · exact mapR_len _ _ _ _
  · simp [rL]
theorem exceedsR_len (wd hg : Int) (l : List Int) (limit : Int) : (rL (exceedsR wd hg l limit)).length ≤ 64 := mapR_len _ _ _ _
theorem maskR_len (wa ha : Int) (la : List Int) (wb hb : Int) (lb : List Int) : (rL (maskR wa ha la wb hb lb)).length ≤ 64 := combR_len _ _ _ _ _ _ _
theorem fillR_len (wa ha : Int) (la : List Int) (wb hb : Int) (lb : List Int) : (rL (fillR wa ha la wb hb lb)).length ≤ 64 := combR_len _ _ _ _ _ _ _
theorem clipR_len (wd hg : Int) (l : List Int) (low high : Int) : (rL (clipR wd hg l low high)).length ≤ 64 := by
  unfold clipR; split
  · exact mapR_len _ _ _ _
  · simp [rL]
theorem absR_len (wd hg : Int) (l : List Int) : (rL (absR wd hg l)).length ≤ 64 := mapR_len _ _ _ _
/-- the number of places in which two lists part -/
def diffN (a b : List Int) : Nat := ((List.zipWith (fun x y => decide (x ≠ y)) a b).filter id).length
def diffU (a b : List Int) (k : Nat) : Nat := (((List.zipWith (fun x y => decide (x ≠ y)) a b).take k).filter id).length
theorem diff_zero (a b : List Int) : diffU a b 0 = 0 := by unfold diffU; simp
theorem diff_step {a b : List Int} (h : a.length = b.length) (k : Nat) (hk : k < a.length) : diffU a b (k + 1) = diffU a b k + if a[k] = b[k]'(by omega) then 0 else 1 := by
  have hz : (List.zipWith (fun x y => decide (x ≠ y)) a b).length = a.length := by rw [List.length_zipWith]; omega
  unfold diffU
  rw [List.take_succ_eq_append_getElem (by rw [hz]; exact hk), List.filter_append, List.length_append, List.getElem_zipWith]
  by_cases e : a[k] = b[k]'(by omega)
  · simp [e]
  · simp [e]
theorem diff_all {a b : List Int} (h : a.length = b.length) : diffU a b a.length = diffN a b := by
  have hz : (List.zipWith (fun x y => decide (x ≠ y)) a b).length = a.length := by rw [List.length_zipWith]; omega
  unfold diffU diffN
  rw [List.take_of_length_le (by rw [hz]; exact Nat.le_refl _)]
theorem diff_le (a b : List Int) (k : Nat) : diffU a b k ≤ k := by
  unfold diffU
  exact Nat.le_trans (List.length_filter_le _ _) (List.length_take_le _ _)
/-! three fields -/
def chP (t : Int) (p : Int × Int) : Int := chF t p.1 p.2
def same3 (wt ht : Int) (lt : List Int) (wa ha : Int) (la : List Int) (wb hb : Int) (lb : List Int) : Bool := sameB wt ht lt wa ha la && sameB wt ht lt wb hb lb
def chooseR (wt ht : Int) (lt : List Int) (wa ha : Int) (la : List Int) (wb hb : Int) (lb : List Int) : Option (Int × Int × List Int) :=
  if same3 wt ht lt wa ha la wb hb lb = true then some (wt, ht, zipR chP lt (la.zip lb)) else none
theorem chooseR_yes {wt ht : Int} {lt : List Int} {wa ha : Int} {la : List Int} {wb hb : Int} {lb : List Int} (h : same3 wt ht lt wa ha la wb hb lb = true) : chooseR wt ht lt wa ha la wb hb lb = some (wt, ht, zipR chP lt (la.zip lb)) := if_pos h
theorem chooseR_no {wt ht : Int} {lt : List Int} {wa ha : Int} {la : List Int} {wb hb : Int} {lb : List Int} (h : same3 wt ht lt wa ha la wb hb lb = false) : chooseR wt ht lt wa ha la wb hb lb = none := if_neg (by rw [h]; simp)
theorem chF_cell {t x y : Int} (h1 : cellB x = true) (h2 : cellB y = true) : cellB (chF t x y) = true := by
  unfold chF; split
  · rfl
  · split
    · exact h2
    · exact h1
theorem choose_good {wd hg : Int} {lt la lb : List Int} (h1 : goodB wd hg lt = true) (h2 : goodB wd hg la = true) (h3 : goodB wd hg lb = true) : (la.zip lb).length = lt.length ∧ goodB wd hg (zipR chP lt (la.zip lb)) = true := by
  have e1 := good_len h1
  have e2 := good_len h2
  have e3 := good_len h3
  have hz : lt.length = (la.zip lb).length := by rw [List.length_zip]; omega
  refine ⟨hz.symm, ?_⟩
  have hl := zipR_len chP hz
  rw [good_of h1 hl, all_get]
  intro k hk
  rw [hl] at hk
  rw [zipR_get chP k (by rw [hl]; exact hk) hk (by omega), List.getElem_zip]
  exact chF_cell (good_cell h2 _ (List.getElem_mem _)) (good_cell h3 _ (List.getElem_mem _))
theorem chooseR_len (wt ht : Int) (lt : List Int) (wa ha : Int) (la : List Int) (wb hb : Int) (lb : List Int) : (rL (chooseR wt ht lt wa ha la wb hb lb)).length ≤ 64 := by
  cases h : same3 wt ht lt wa ha la wb hb lb with
  | false => rw [chooseR_no h]; simp [rL]
  | true =>
    rw [chooseR_yes h]
    unfold same3 at h
    simp only [Bool.and_eq_true] at h
    obtain ⟨h1, h2⟩ := h
    obtain ⟨g1, g2, rfl, rfl⟩ := same_iff.1 h1
    obtain ⟨-, g3, rfl, rfl⟩ := same_iff.1 h2
    exact (good_le (choose_good g1 g2 g3).2).2
def diffR (wa ha : Int) (la : List Int) (wb hb : Int) (lb : List Int) : Int := if sameB wa ha la wb hb lb = true then (diffN la lb : Int) else 0
end Go.Proofs.Ythceffkkokgpnaa
