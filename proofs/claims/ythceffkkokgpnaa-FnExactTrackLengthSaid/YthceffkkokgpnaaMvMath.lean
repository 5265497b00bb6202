/- Motion: plain mathematics of moved fields and of matches. -/
import Derived.Test.YthceffkkokgpnaaEnMath
import Derived.Test.YthceffkkokgpnaaRgnMath
namespace Go.Proofs.Ythceffkkokgpnaa
set_option linter.unusedVariables false
set_option linter.unusedSimpArgs false
/-- the sum of g over 0 .. n - 1 -/
def sumN (g : Int → Int) : Nat → Int
  | 0 => 0
  | n + 1 => sumN g n + g (n : Int)
theorem sumN_none {g : Int → Int} {n : Nat} (h : ∀ i : Nat, i < n → g (i : Int) = 0) : sumN g n = 0 := by
  induction n with
  | zero => rfl
  | succ n ih => show sumN g n + g n = 0; rw [ih (fun i hi => h i (by omega)), h n (by omega)]; rfl
theorem sumN_congr {g h : Int → Int} {n : Nat} (e : ∀ i : Nat, i < n → g (i : Int) = h (i : Int)) : sumN g n = sumN h n := by
  induction n with
  | zero => rfl
  | succ n ih => show sumN g n + g n = sumN h n + h n; rw [ih (fun i hi => e i (by omega)), e n (by omega)]
theorem sumN_add (g : Int → Int) (n k : Nat) : sumN g (n + k) = sumN g n + sumN (fun i => g (i + (n : Int))) k := by
  induction k with
  | zero => simp [sumN]
  | succ k ih =>
    show sumN g (n + k) + g ((n + k : Nat) : Int) = sumN g n + (sumN (fun i => g (i + (n : Int))) k + g ((k : Int) + (n : Int)))
    rw [ih, show ((n + k : Nat) : Int) = (k : Int) + (n : Int) by omega]; omega
theorem sumN_up {g : Int → Int} {n k : Nat} (h0 : ∀ i, ¬ (0 ≤ i ∧ i < (n : Int)) → g i = 0) (h1 : ∀ i, ¬ (0 ≤ i + (k : Int) ∧ i + (k : Int) < (n : Int)) → g i = 0) : sumN g n = sumN (fun i => g (i - (k : Int))) n := by
  have e1 : sumN (fun i => g (i - (k : Int))) (k + n) = sumN g n := by
    rw [sumN_add, sumN_none (g := fun i => g (i - (k : Int))) (n := k) (fun i hi => h0 _ (by omega)), Int.zero_add]
    exact sumN_congr (fun i _ => by congr 1; omega)
  have e2 : sumN (fun i => g (i - (k : Int))) (n + k) = sumN (fun i => g (i - (k : Int))) n := by
    rw [sumN_add, sumN_none (g := fun i => g (i + (n : Int) - (k : Int))) (n := k) (fun i hi => h1 _ (by omega)), Int.add_zero]
  rw [← e1, Nat.add_comm, e2]
theorem sumN_shift {g : Int → Int} {n : Nat} {s : Int} (h0 : ∀ i, ¬ (0 ≤ i ∧ i < (n : Int)) → g i = 0) (h1 : ∀ i, ¬ (0 ≤ i + s ∧ i + s < (n : Int)) → g i = 0) : sumN g n = sumN (fun i => g (i - s)) n := by
  rcases Int.le_total 0 s with hs | hs
  · obtain ⟨k, rfl⟩ := Int.eq_ofNat_of_zero_le hs; exact sumN_up h0 h1
  · obtain ⟨k, hk⟩ := Int.eq_ofNat_of_zero_le (show 0 ≤ -s by omega)
    obtain rfl : s = -(k : Int) := by omega
    have h := sumN_up (g := fun i => g (i + (k : Int))) (n := n) (k := k) (fun i hi => h1 _ (by omega)) (fun i hi => h0 _ (by omega))
    have e1 : sumN (fun i => g (i - -(k : Int))) n = sumN (fun i => g (i + (k : Int))) n := sumN_congr (fun i _ => by congr 1; omega)
    rw [e1, h]
    exact sumN_congr (fun i _ => by congr 1; omega)
theorem sumN_bd {g : Int → Int} {n : Nat} {C : Int} (h : ∀ i : Nat, i < n → 0 ≤ g (i : Int) ∧ g (i : Int) ≤ C) : 0 ≤ sumN g n ∧ sumN g n ≤ C * (n : Int) := by
  induction n with
  | zero => simp [sumN]
  | succ n ih =>
    have h1 := ih (fun i hi => h i (by omega))
    have h2 := h n (by omega)
    have e : C * ((n + 1 : Nat) : Int) = C * (n : Int) + C := by rw [Int.natCast_add, Int.mul_add]; simp
    rw [e]
    show 0 ≤ sumN g n + g n ∧ sumN g n + g n ≤ _
    omega
/-- .. over a grid, row by row -/
def gridS (f : Int → Int → Int) (W H : Nat) : Int := sumN (fun y => sumN (fun x => f x y) W) H
theorem gridS_shift {f : Int → Int → Int} {W H : Nat} {mx my : Int} (h0 : ∀ x y, inB W H x y = false → f x y = 0) (h1 : ∀ x y, inB W H (x + mx) (y + my) = false → f x y = 0) :
    gridS f W H = gridS (fun x y => f (x - mx) (y - my)) W H := by
  have e1 : gridS f W H = sumN (fun y => sumN (fun x => f (x - mx) y) W) H :=
    sumN_congr (fun y _ => sumN_shift (g := fun x => f x y) (fun i hi => h0 _ _ (inB_not.2 (by omega))) (fun i hi => h1 _ _ (inB_not.2 (by omega))))
  rw [e1]
  exact sumN_shift (g := fun y => sumN (fun x => f (x - mx) y) W) (fun i hi => sumN_none (fun _ _ => h0 _ _ (inB_not.2 (by omega)))) (fun i hi => sumN_none (fun _ _ => h1 _ _ (inB_not.2 (by omega))))
theorem lin_grid (f : Int → Int → Int) {W : Nat} (hW : 0 < W) (H : Nat) : sumN (fun i => f (i % (W : Int)) (i / (W : Int))) (W * H) = gridS f W H := by
  induction H with
  | zero => rfl
  | succ H ih =>
    rw [Nat.mul_succ, sumN_add, ih]
    show _ = sumN (fun y => sumN (fun x => f x y) W) H + sumN (fun x => f x (H : Int)) W
    congr 1
    refine sumN_congr (fun i hi => ?_)
    have hi1 : (i : Int) < (W : Int) := by omega
    have e : (i : Int) + ((W * H : Nat) : Int) = (H : Int) * (W : Int) + (i : Int) := by rw [Int.natCast_mul, Int.mul_comm (W : Int)]; omega
    simp only [e]
    rw [cell_mod (by omega) hi1, cell_div (by omega) hi1]
/-- what a match adds for a cell of the first field -/
def mtF (φ : Int → Int → Int) (W H : Nat) (a b : List Int) (mx my x y : Int) : Int :=
  if (inB W H x y && inB W H (x + mx) (y + my)) = true then φ (a.getD (place W x y) 0) (b.getD (place W (x + mx) (y + my)) 0) else 0
theorem mtF_here {φ : Int → Int → Int} {W H : Nat} {a b : List Int} {mx my x y : Int} (h1 : inB W H x y = true) (h2 : inB W H (x + mx) (y + my) = true) :
    mtF φ W H a b mx my x y = φ (a.getD (place W x y) 0) (b.getD (place W (x + mx) (y + my)) 0) := if_pos (by rw [h1, h2]; rfl)
theorem mtF_off {φ : Int → Int → Int} {W H : Nat} {a b : List Int} {mx my x y : Int} (h2 : inB W H (x + mx) (y + my) = false) : mtF φ W H a b mx my x y = 0 := if_neg (by rw [h2]; simp)
theorem mtF_out {φ : Int → Int → Int} {W H : Nat} {a b : List Int} {mx my x y : Int} (h2 : inB W H x y = false) : mtF φ W H a b mx my x y = 0 := if_neg (by rw [h2]; simp)
/-- a cell of the moved field -/
def mvC (W H : Nat) (a : List Int) (mx my x y : Int) : Int := if inB W H (x - mx) (y - my) = true then a.getD (place W (x - mx) (y - my)) 0 else -9999
def mvR (W H : Nat) (a : List Int) (mx my : Int) : List Int := (List.range (W * H)).map fun i : Nat => mvC W H a mx my ((i : Int) % (W : Int)) ((i : Int) / (W : Int))
theorem mvR_len (W H : Nat) (a : List Int) (mx my : Int) : (mvR W H a mx my).length = W * H := by simp [mvR]
theorem mvR_getD {W H : Nat} (a : List Int) (mx my : Int) {i : Nat} (h : i < W * H) : (mvR W H a mx my).getD i 0 = mvC W H a mx my ((i : Int) % (W : Int)) ((i : Int) / (W : Int)) := by
  have h2 : i < (mvR W H a mx my).length := by rw [mvR_len]; exact h
  rw [getD_at h2]; simp [mvR]
theorem place_at {W : Nat} (i : Nat) : place (W : Int) ((i : Int) % (W : Int)) ((i : Int) / (W : Int)) = i := by
  unfold place; rw [cell_back]; exact Int.toNat_natCast i
/-- the sum over two lists side by side -/
def ovK (φ : Int → Int → Int) (a b : List Int) (n : Nat) : Int := sumN (fun i => φ (a.getD i.toNat 0) (b.getD i.toNat 0)) n
theorem ovK_zero (φ : Int → Int → Int) (a b : List Int) : ovK φ a b 0 = 0 := rfl
theorem ovK_step (φ : Int → Int → Int) (a b : List Int) (n : Nat) : ovK φ a b (n + 1) = ovK φ a b n + φ (a.getD n 0) (b.getD n 0) := by
  show sumN _ n + φ (a.getD ((n : Int).toNat) 0) (b.getD ((n : Int).toNat) 0) = _
  rw [Int.toNat_natCast]; rfl
theorem ovK_gap (a b : List Int) (n : Nat) : ovK gapO a b n = gapK a b n := by
  induction n with
  | zero => rfl
  | succ n ih => rw [ovK_step, gapK_step, ih]
theorem grid_cell {W H : Nat} {i : Nat} (hW : 0 < W) (hi : i < W * H) : inB W H ((i : Int) % (W : Int)) ((i : Int) / (W : Int)) = true := by
  have h1 := Int.emod_nonneg (i : Int) (show (W : Int) ≠ 0 by omega)
  have h2 := Int.emod_lt_of_pos (i : Int) (show (0 : Int) < (W : Int) by omega)
  have h3 : 0 ≤ (i : Int) / (W : Int) := Int.ediv_nonneg (by omega) (by omega)
  have h4 : (i : Int) / (W : Int) < (H : Int) := Int.ediv_lt_of_lt_mul (by omega) (by have := Int.ofNat_lt.2 hi; rw [Int.natCast_mul, Int.mul_comm] at this; exact this)
  exact inB_iff.2 ⟨⟨h1, h2⟩, h3, h4⟩
/-- a match is the sum over the moved field and the other one -/
theorem match_moved {φ : Int → Int → Int} (hφ : ∀ y, φ (-9999) y = 0) {W H : Nat} (hW : 0 < W) (a b : List Int) (mx my : Int) :
    gridS (mtF φ W H a b mx my) W H = ovK φ (mvR W H a mx my) b (W * H) := by
  rw [gridS_shift (mx := mx) (my := my) (fun x y h => mtF_out h) (fun x y h => mtF_off h), ← lin_grid _ hW]
  refine sumN_congr (fun i hi => ?_)
  have hin := grid_cell hW hi
  rw [Int.toNat_natCast, mvR_getD a mx my hi]
  cases h : inB W H ((i : Int) % (W : Int) - mx) ((i : Int) / (W : Int) - my) with
  | true =>
    rw [mtF_here h (by rw [Int.sub_add_cancel, Int.sub_add_cancel]; exact hin), Int.sub_add_cancel, Int.sub_add_cancel, place_at]
    unfold mvC; rw [if_pos h]
  | false =>
    rw [mtF_out h]
    unfold mvC; rw [if_neg (by rw [h]; simp), hφ]
theorem mv_none {W H : Nat} {a : List Int} (hl : a.length = W * H) (hW : 0 < W) : mvR W H a 0 0 = a := by
  apply List.ext_getElem (by rw [mvR_len, hl])
  intro i h1 h2
  have hi : i < W * H := by rw [mvR_len] at h1; exact h1
  have e := mvR_getD a 0 0 hi
  rw [getD_at h1] at e
  rw [e]
  unfold mvC
  rw [Int.sub_zero, Int.sub_zero, if_pos (grid_cell hW hi), place_at, getD_at h2]
/-- 1 where both have a value -/
def cntO (x y : Int) : Int := if x = -9999 ∨ y = -9999 then 0 else 1
theorem gapO_left (y : Int) : gapO (-9999) y = 0 := if_pos (.inl rfl)
theorem cntO_left (y : Int) : cntO (-9999) y = 0 := if_pos (.inl rfl)
theorem cntO_gone {x y : Int} (h : x = -9999 ∨ y = -9999) : cntO x y = 0 := if_pos h
theorem cntO_here {x y : Int} (h1 : ¬ x = -9999) (h2 : ¬ y = -9999) : cntO x y = 1 := if_neg (by omega)
theorem cnt_bd (a b : List Int) (n : Nat) : 0 ≤ ovK cntO a b n ∧ ovK cntO a b n ≤ n := by
  induction n with
  | zero => simp [ovK_zero]
  | succ n ih =>
    rw [ovK_step]
    have : 0 ≤ cntO (a.getD n 0) (b.getD n 0) ∧ cntO (a.getD n 0) (b.getD n 0) ≤ 1 := by unfold cntO; split <;> omega
    omega
/-- the differences of all cells that both have, of the first k -/
def dfL (a b : List Int) : Nat → List Int
  | 0 => []
  | k + 1 => if a.getD k 0 = -9999 ∨ b.getD k 0 = -9999 then dfL a b k else dfL a b k ++ [a.getD k 0 - b.getD k 0]
theorem dfL_zero (a b : List Int) : dfL a b 0 = [] := rfl
theorem dfL_gone {a b : List Int} {k : Nat} (h : a.getD k 0 = -9999 ∨ b.getD k 0 = -9999) : dfL a b (k + 1) = dfL a b k := if_pos h
theorem dfL_here {a b : List Int} {k : Nat} (h1 : ¬ a.getD k 0 = -9999) (h2 : ¬ b.getD k 0 = -9999) : dfL a b (k + 1) = dfL a b k ++ [a.getD k 0 - b.getD k 0] := if_neg (by omega)
def szS (l : List Int) : Int := (l.map fun z => max z (-z)).sum
theorem szS_nil : szS [] = 0 := rfl
theorem szS_snoc (l : List Int) (z : Int) : szS (l ++ [z]) = szS l + max z (-z) := by unfold szS; simp
theorem dfL_sum (a b : List Int) (k : Nat) : szS (dfL a b k) = gapK a b k ∧ ((dfL a b k).length : Int) = ovK cntO a b k := by
  induction k with
  | zero => exact ⟨rfl, rfl⟩
  | succ k ih =>
    rw [gapK_step, ovK_step]
    by_cases h : a.getD k 0 = -9999 ∨ b.getD k 0 = -9999
    · rw [dfL_gone h, cntO_gone h, show gapO (a.getD k 0) (b.getD k 0) = 0 from if_pos h, ih.1, ih.2]; omega
    · rw [dfL_here (fun e => h (.inl e)) (fun e => h (.inr e)), szS_snoc, cntO_here (fun e => h (.inl e)) (fun e => h (.inr e)), ih.1, List.length_append]
      have e : gapO (a.getD k 0) (b.getD k 0) = max (a.getD k 0 - b.getD k 0) (b.getD k 0 - a.getD k 0) := if_neg h
      rw [e]
      refine ⟨by omega, ?_⟩
      have := ih.2
      simp; omega
theorem dfL_bd {a b : List Int} (ha : ∀ z ∈ a, -9999 ≤ z ∧ z ≤ 9000) (hb : ∀ z ∈ b, -9999 ≤ z ∧ z ≤ 9000) (k : Nat) : ∀ z ∈ dfL a b k, -20000 ≤ z ∧ z ≤ 20000 := by
  have key : ∀ {l : List Int} (h : ∀ z ∈ l, -9999 ≤ z ∧ z ≤ 9000) (i : Nat), -9999 ≤ l.getD i 0 ∧ l.getD i 0 ≤ 9000 := by
    intro l h i
    rcases Nat.lt_or_ge i l.length with hi | hi
    · rw [getD_at hi]; exact h _ (List.getElem_mem hi)
    · rw [show l.getD i 0 = 0 by simp [List.getD, List.getElem?_eq_none hi]]; omega
  induction k with
  | zero => intro z hz; cases hz
  | succ k ih =>
    intro z hz
    unfold dfL at hz
    split at hz
    · exact ih z hz
    · rcases List.mem_append.1 hz with h | h
      · exact ih z h
      · obtain rfl := List.mem_singleton.1 h
        have := key ha k
        have := key hb k
        omega
theorem dfL_len (a b : List Int) (k : Nat) : (dfL a b k).length ≤ k := by have := (dfL_sum a b k).2; have := cnt_bd a b k; omega
theorem szS_bd {l : List Int} (h : ∀ z ∈ l, -20000 ≤ z ∧ z ≤ 20000) : ∀ k, 0 ≤ szS (l.take k) ∧ szS (l.take k) ≤ 20000 * ((l.take k).length : Int) := by
  have key : ∀ m : List Int, (∀ z ∈ m, -20000 ≤ z ∧ z ≤ 20000) → 0 ≤ szS m ∧ szS m ≤ 20000 * (m.length : Int) := by
    intro m hm
    induction m with
    | nil => simp [szS]
    | cons x r ih =>
      have h1 := hm x (by simp)
      have h2 := ih (fun z hz => hm z (by simp [hz]))
      have e : szS (x :: r) = max x (-x) + szS r := rfl
      rw [e, List.length_cons]; push_cast; omega
  exact fun k => key _ (fun z hz => h z (List.mem_of_mem_take hz))
/-- a motion's two numbers -/
def shB1 (n : Int) : Bool := decide (-2 ≤ n) && decide (n ≤ 2)
def motB (mx my : Int) : Bool := shB1 mx && shB1 my
theorem shB1_iff {n : Int} : shB1 n = true ↔ -2 ≤ n ∧ n ≤ 2 := by unfold shB1; simp
theorem motB_iff {mx my : Int} : motB mx my = true ↔ (-2 ≤ mx ∧ mx ≤ 2) ∧ -2 ≤ my ∧ my ≤ 2 := by unfold motB; rw [Bool.and_eq_true, shB1_iff, shB1_iff]
/-- what MoveField answers -/
def movB (wd hg : Int) (l : List Int) (mx my : Int) : Bool := goodB wd hg l && motB mx my
def moveR (wd hg : Int) (l : List Int) (mx my : Int) : Option (Int × Int × List Int) := if movB wd hg l mx my = true then some (wd, hg, mvR wd.toNat hg.toNat l mx my) else none
theorem movB_iff {wd hg : Int} {l : List Int} {mx my : Int} : movB wd hg l mx my = true ↔ goodB wd hg l = true ∧ motB mx my = true := by unfold movB; simp
theorem moveR_yes {wd hg : Int} {l : List Int} {mx my : Int} (h : movB wd hg l mx my = true) : moveR wd hg l mx my = some (wd, hg, mvR wd.toNat hg.toNat l mx my) := if_pos h
theorem moveR_no {wd hg : Int} {l : List Int} {mx my : Int} (h : movB wd hg l mx my = false) : moveR wd hg l mx my = none := if_neg (by rw [h]; simp)
theorem mvC_cell {W H : Nat} {a : List Int} (h : ∀ z ∈ a, cellB z = true) (hl : a.length = W * H) (hW : 1 ≤ W ∧ W ≤ 8) (hH : 1 ≤ H ∧ H ≤ 8) (mx my x y : Int) : cellB (mvC W H a mx my x y) = true := by
  unfold mvC
  split
  · rename_i hin
    have hp := place_int (shapeB_iff.2 (by omega)) hin
    rw [← Int.natCast_mul] at hp
    have hp2 : place (W : Int) (x - mx) (y - my) < a.length := by omega
    rw [getD_at hp2]; exact h _ (List.getElem_mem hp2)
  · rfl
theorem move_good {wd hg : Int} {l : List Int} (h : goodB wd hg l = true) (mx my : Int) : goodB wd hg (mvR wd.toNat hg.toNat l mx my) = true := by
  have hs := good_shape h
  have hl := good_len h
  obtain ⟨h1, h2⟩ := shapeB_iff.1 hs
  obtain ⟨W, hW⟩ := Int.eq_ofNat_of_zero_le (show 0 ≤ wd by omega)
  obtain ⟨H, hH⟩ := Int.eq_ofNat_of_zero_le (show 0 ≤ hg by omega)
  subst hW hH
  simp only [Int.toNat_natCast]
  unfold goodB
  rw [hs, mvR_len, decide_eq_true (by rw [Int.natCast_mul])]
  simp only [Bool.true_and, List.all_eq_true]
  intro z hz
  obtain ⟨i, hi, rfl⟩ := List.mem_map.1 hz
  exact mvC_cell (fun z hz => good_cell h z hz) (by rw [← Int.natCast_mul] at hl; omega) (by omega) (by omega) _ _ _ _
theorem moveR_len (wd hg : Int) (l : List Int) (mx my : Int) : (rL (moveR wd hg l mx my)).length ≤ 64 := by
  cases h : movB wd hg l mx my with
  | false => rw [moveR_no h]; simp [rL]
  | true => rw [moveR_yes h]; exact (good_le (move_good (movB_iff.1 h).1 mx my)).2
/-- both sums up to the cell (x, y) -/
def mtS (φ : Int → Int → Int) (W H : Nat) (a b : List Int) (mx my : Int) (y x : Nat) : Int := gridS (mtF φ W H a b mx my) W y + sumN (fun i => mtF φ W H a b mx my i (y : Int)) x
theorem mtS_start (φ : Int → Int → Int) (W H : Nat) (a b : List Int) (mx my : Int) : mtS φ W H a b mx my 0 0 = 0 := rfl
theorem mtS_row (φ : Int → Int → Int) (W H : Nat) (a b : List Int) (mx my : Int) (y : Nat) : mtS φ W H a b mx my y W = mtS φ W H a b mx my (y + 1) 0 := by unfold mtS gridS; simp [sumN]
theorem mtS_step (φ : Int → Int → Int) (W H : Nat) (a b : List Int) (mx my : Int) (y x : Nat) : mtS φ W H a b mx my y (x + 1) = mtS φ W H a b mx my y x + mtF φ W H a b mx my x y := by unfold mtS; simp only [sumN]; omega
theorem mtS_all (φ : Int → Int → Int) (W H : Nat) (a b : List Int) (mx my : Int) : mtS φ W H a b mx my H 0 = gridS (mtF φ W H a b mx my) W H := by unfold mtS; simp [sumN]
theorem mtS_bd {φ : Int → Int → Int} {C : Int} (hC : 0 ≤ C) (hφ : ∀ u v, (-9999 ≤ u ∧ u ≤ 9000) → (-9999 ≤ v ∧ v ≤ 9000) → 0 ≤ φ u v ∧ φ u v ≤ C) {W H : Nat} {a b : List Int} (ha : ∀ z ∈ a, -9999 ≤ z ∧ z ≤ 9000) (hb : ∀ z ∈ b, -9999 ≤ z ∧ z ≤ 9000) (mx my : Int) (hW : W ≤ 8) (y x : Nat) (hy : y ≤ 8) (hx : x ≤ 8) :
    0 ≤ mtS φ W H a b mx my y x ∧ mtS φ W H a b mx my y x ≤ C * 72 := by
  have key : ∀ {l : List Int} (h : ∀ z ∈ l, -9999 ≤ z ∧ z ≤ 9000) (i : Nat), -9999 ≤ l.getD i 0 ∧ l.getD i 0 ≤ 9000 := by
    intro l h i
    rcases Nat.lt_or_ge i l.length with hi | hi
    · rw [getD_at hi]; exact h _ (List.getElem_mem hi)
    · rw [show l.getD i 0 = 0 by simp [List.getD, List.getElem?_eq_none hi]]; omega
  have h0 : ∀ x y, 0 ≤ mtF φ W H a b mx my x y ∧ mtF φ W H a b mx my x y ≤ C := by
    intro x y
    unfold mtF
    split
    · exact hφ _ _ (key ha _) (key hb _)
    · omega
  have hc8 : ∀ n : Nat, n ≤ 8 → C * (n : Int) ≤ C * 8 := fun n hn => Int.mul_le_mul_of_nonneg_left (by omega) hC
  have h1 := sumN_bd (g := fun i => mtF φ W H a b mx my i (y : Int)) (n := x) (fun i _ => h0 _ _)
  have h2 := sumN_bd (g := fun y => sumN (fun x => mtF φ W H a b mx my x y) W) (n := y) (C := C * 8) (fun i _ => by
    have h := sumN_bd (g := fun x => mtF φ W H a b mx my x (i : Int)) (n := W) (fun i _ => h0 _ _)
    have := hc8 W hW
    omega)
  have h3 : C * 8 * (y : Int) ≤ C * 8 * 8 := Int.mul_le_mul_of_nonneg_left (by omega) (by omega)
  have h4 := hc8 x hx
  unfold mtS gridS
  omega
theorem gapO_bd (u v : Int) (hu : -9999 ≤ u ∧ u ≤ 9000) (hv : -9999 ≤ v ∧ v ≤ 9000) : 0 ≤ gapO u v ∧ gapO u v ≤ 20000 := by unfold gapO; split <;> omega
theorem cntO_bd (u v : Int) : 0 ≤ cntO u v ∧ cntO u v ≤ 1 := by unfold cntO; split <;> omega
end Go.Proofs.Ythceffkkokgpnaa
