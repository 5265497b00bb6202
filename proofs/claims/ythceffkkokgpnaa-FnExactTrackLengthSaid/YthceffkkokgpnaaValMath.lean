/- Plain mathematics of a field's values: those that are not missing, their sum, the least and the greatest. -/
namespace Go.Proofs.Ythceffkkokgpnaa
def vals (l : List Int) : List Int := l.filter (fun z => z != -9999)
theorem vals_snoc (l : List Int) (z : Int) : vals (l ++ [z]) = if (z == -9999) = true then vals l else vals l ++ [z] := by
  unfold vals
  rw [List.filter_append]
  by_cases h : z = -9999 <;> simp [h]
theorem vals_hit {l : List Int} {z : Int} (h : z = -9999) : vals (l ++ [z]) = vals l := by rw [vals_snoc, if_pos (by simpa using h)]
theorem vals_miss {l : List Int} {z : Int} (h : ¬ z = -9999) : vals (l ++ [z]) = vals l ++ [z] := by rw [vals_snoc, if_neg (by simpa using h)]
theorem vals_le (l : List Int) : (vals l).length ≤ l.length := List.length_filter_le _ _
theorem vals_mem {l : List Int} {z : Int} (h : z ∈ vals l) : z ∈ l ∧ ¬ z = -9999 := by unfold vals at h; simpa using h
/-- how many are missing -/
def gone (l : List Int) : Int := (l.length : Int) - ((vals l).length : Int)
theorem gone_hit {l : List Int} {z : Int} (h : z = -9999) : gone (l ++ [z]) = gone l + 1 := by unfold gone; rw [vals_hit h]; simp; omega
theorem gone_miss {l : List Int} {z : Int} (h : ¬ z = -9999) : gone (l ++ [z]) = gone l := by unfold gone; rw [vals_miss h]; simp; omega
theorem gone_bd (l : List Int) : 0 ≤ gone l ∧ gone l ≤ l.length := by unfold gone; have := vals_le l; omega
def tot : List Int → Int
  | [] => 0
  | x :: r => x + tot r
theorem tot_snoc (l : List Int) (z : Int) : tot (l ++ [z]) = tot l + z := by
  induction l with
  | nil => simp [tot]
  | cons x r ih => simp [tot, ih]; omega
theorem tot_bd {l : List Int} (h : ∀ z ∈ l, -9999 ≤ z ∧ z ≤ 9000) : -9999 * (l.length : Int) ≤ tot l ∧ tot l ≤ 9000 * (l.length : Int) := by
  induction l with
  | nil => simp [tot]
  | cons x r ih =>
    have h1 := h x (by simp)
    have h2 := ih (fun z hz => h z (by simp [hz]))
    simp only [tot, List.length_cons]
    omega
theorem snoc_takeI (l : List Int) (k : Nat) (h : k < l.length) : l.take (k + 1) = l.take k ++ [l[k]] := List.take_succ_eq_append_getElem h
theorem tot_take_bd {l : List Int} (k : Nat) (h : ∀ z ∈ l, -9999 ≤ z ∧ z ≤ 9000) (hn : l.length ≤ 64) : -640000 ≤ tot (l.take k) ∧ tot (l.take k) ≤ 640000 := by
  have h1 := tot_bd (l := l.take k) (fun z hz => h z (List.mem_of_mem_take hz))
  have h2 : (l.take k).length ≤ l.length := by rw [List.length_take]; omega
  omega
theorem vals_bd {l : List Int} (h : ∀ z ∈ l, -9999 ≤ z ∧ z ≤ 9000) : ∀ z ∈ vals l, -9999 ≤ z ∧ z ≤ 9000 := fun z hz => h z (vals_mem hz).1
/-- the least, 0 of none -/
def loV : List Int → Int
  | [] => 0
  | x :: r => r.foldl (fun a b => if b < a then b else a) x
def hiV : List Int → Int
  | [] => 0
  | x :: r => r.foldl (fun a b => if a < b then b else a) x
theorem loV_snoc (l : List Int) (z : Int) : loV (l ++ [z]) = if l = [] then z else (if z < loV l then z else loV l) := by
  cases l with
  | nil => simp [loV]
  | cons x r => rw [if_neg (by simp)]; show (r ++ [z]).foldl _ x = _; rw [List.foldl_append]; rfl
theorem hiV_snoc (l : List Int) (z : Int) : hiV (l ++ [z]) = if l = [] then z else (if hiV l < z then z else hiV l) := by
  cases l with
  | nil => simp [hiV]
  | cons x r => rw [if_neg (by simp)]; show (r ++ [z]).foldl _ x = _; rw [List.foldl_append]; rfl
theorem loV_twice (x : Int) (r : List Int) : loV (x :: x :: r) = loV (x :: r) := by simp [loV]
theorem hiV_twice (x : Int) (r : List Int) : hiV (x :: x :: r) = hiV (x :: r) := by simp [hiV]
end Go.Proofs.Ythceffkkokgpnaa
