/- Moving a field: what is written after k cells; mathematics. -/
import Derived.Test.YtggdkibbfmjelaaMvMath
namespace Go.Proofs.Ytggdkibbfmjelaa
set_option linter.unusedVariables false
set_option linter.unusedSimpArgs false
/-- the moved field's cell, if its source is among the first k cells -/
def mvQ (W H : Nat) (l : List Int) (mx my : Int) (k : Nat) (x y : Int) : Int := if inB W H (x - mx) (y - my) = true ∧ place W (x - mx) (y - my) < k then l.getD (place W (x - mx) (y - my)) 0 else -9999
def mvP (W H : Nat) (l : List Int) (mx my : Int) (k : Nat) : List Int := (List.range (W * H)).map fun i : Nat => mvQ W H l mx my k ((i : Int) % (W : Int)) ((i : Int) / (W : Int))
theorem mvP_len (W H : Nat) (l : List Int) (mx my : Int) (k : Nat) : (mvP W H l mx my k).length = W * H := by simp [mvP]
theorem mvP_get {W H : Nat} {l : List Int} {mx my : Int} {k i : Nat} (h : i < (mvP W H l mx my k).length) : (mvP W H l mx my k)[i] = mvQ W H l mx my k ((i : Int) % (W : Int)) ((i : Int) / (W : Int)) := by simp [mvP]
theorem mvP_zero (W H : Nat) (l : List Int) (mx my : Int) : mvP W H l mx my 0 = List.replicate (W * H) (-9999) := by
  apply List.ext_getElem (by rw [mvP_len, List.length_replicate])
  intro i h1 h2
  rw [mvP_get h1, List.getElem_replicate]
  exact if_neg (by omega)
theorem mvP_all {W H : Nat} (l : List Int) (mx my : Int) (hW : 1 ≤ W ∧ W ≤ 8) (hH : 1 ≤ H ∧ H ≤ 8) : mvP W H l mx my (W * H) = mvR W H l mx my := by
  unfold mvP mvR
  refine List.map_congr_left (fun i hi => ?_)
  unfold mvQ mvC
  cases h : inB W H ((i : Int) % (W : Int) - mx) ((i : Int) / (W : Int) - my) with
  | true =>
    have hp := place_int (shapeB_iff.2 (by omega)) h
    rw [← Int.natCast_mul] at hp
    rw [if_pos ⟨rfl, by omega⟩, if_pos rfl]
  | false => rw [if_neg (by simp), if_neg (by simp)]
theorem place_inj {W H : Nat} {x y x' y' : Int} (hW : 1 ≤ W ∧ W ≤ 8) (hH : 1 ≤ H ∧ H ≤ 8) (h : inB W H x y = true) (h' : inB W H x' y' = true) (e : place W x y = place W x' y') : x = x' ∧ y = y' := by
  have hs : shapeB (W : Int) (H : Int) = true := shapeB_iff.2 (by omega)
  have p1 := (place_int hs h).1
  have p2 := (place_int hs h').1
  rw [← e] at p2
  obtain ⟨⟨a1, a2⟩, _⟩ := inB_iff.1 h
  obtain ⟨⟨b1, b2⟩, _⟩ := inB_iff.1 h'
  have e3 : y * (W : Int) + x = y' * (W : Int) + x' := by omega
  have m1 := congrArg (· % (W : Int)) e3
  have m2 := congrArg (· / (W : Int)) e3
  rw [cell_mod a1 a2, cell_mod b1 b2] at m1
  rw [cell_div a1 a2, cell_div b1 b2] at m2
  exact ⟨m1, m2⟩
theorem mvQ_same {W H : Nat} {l : List Int} {mx my x y : Int} {k : Nat} (h : inB W H (x - mx) (y - my) = true → place W (x - mx) (y - my) ≠ k) : mvQ W H l mx my (k + 1) x y = mvQ W H l mx my k x y := by
  unfold mvQ
  by_cases h1 : inB W H (x - mx) (y - my) = true
  · have := h h1
    by_cases h2 : place W (x - mx) (y - my) < k
    · rw [if_pos ⟨h1, by omega⟩, if_pos ⟨h1, h2⟩]
    · rw [if_neg (by intro h3; omega), if_neg (by intro h3; omega)]
  · rw [if_neg (fun h3 => h1 h3.1), if_neg (fun h3 => h1 h3.1)]
theorem mvP_miss {W H : Nat} {l : List Int} {mx my : Int} {k : Nat} (hW : 1 ≤ W ∧ W ≤ 8) (hH : 1 ≤ H ∧ H ≤ 8) (hk : k < W * H) (h : inB W H ((k : Int) % (W : Int) + mx) ((k : Int) / (W : Int) + my) = false) : mvP W H l mx my (k + 1) = mvP W H l mx my k := by
  unfold mvP
  refine List.map_congr_left (fun i hi => ?_)
  have hi2 : i < W * H := List.mem_range.1 hi
  refine mvQ_same (fun h1 h2 => ?_)
  rw [← place_at (W := W) k] at h2
  obtain ⟨e1, e2⟩ := place_inj hW hH h1 (grid_cell (by omega) hk) h2
  have := grid_cell (W := W) (by omega) hi2
  rw [← e1, ← e2, Int.sub_add_cancel, Int.sub_add_cancel, this] at h
  cases h
theorem mvP_hit {W H : Nat} {l : List Int} {mx my : Int} {k : Nat} (hW : 1 ≤ W ∧ W ≤ 8) (hH : 1 ≤ H ∧ H ≤ 8) (hk : k < W * H) (hl : l.length = W * H) (h : inB W H ((k : Int) % (W : Int) + mx) ((k : Int) / (W : Int) + my) = true) :
    (mvP W H l mx my k).set (place W ((k : Int) % (W : Int) + mx) ((k : Int) / (W : Int) + my)) (l[k]'(by omega)) = mvP W H l mx my (k + 1) := by
  have hs : shapeB (W : Int) (H : Int) = true := shapeB_iff.2 (by omega)
  apply List.ext_getElem (by rw [List.length_set, mvP_len, mvP_len])
  intro i h1 h2
  rw [mvP_len] at h2
  rw [List.getElem_set, mvP_get (by rw [mvP_len]; exact h2), mvP_get (by rw [mvP_len]; exact h2)]
  have hg := grid_cell (W := W) (by omega) h2
  by_cases e : place W ((k : Int) % (W : Int) + mx) ((k : Int) / (W : Int) + my) = i
  · rw [if_pos e]
    have e2 : place (W : Int) ((k : Int) % (W : Int) + mx) ((k : Int) / (W : Int) + my) = place (W : Int) ((i : Int) % (W : Int)) ((i : Int) / (W : Int)) := by rw [place_at, e]
    obtain ⟨e3, e4⟩ := place_inj hW hH h hg e2
    unfold mvQ
    rw [← e3, ← e4, Int.add_sub_cancel, Int.add_sub_cancel, place_at, if_pos ⟨grid_cell (by omega) hk, by omega⟩, getD_at (by omega)]
  · rw [if_neg e]
    refine (mvQ_same (fun h3 h4 => e ?_)).symm
    rw [← place_at (W := W) k] at h4
    obtain ⟨e3, e4⟩ := place_inj hW hH h3 (grid_cell (by omega) hk) h4
    rw [← e3, ← e4, Int.sub_add_cancel, Int.sub_add_cancel, place_at]
theorem mvP_hitZ {W H : Nat} {l : List Int} {mx my : Int} {k : Nat} (hW : 1 ≤ W ∧ W ≤ 8) (hH : 1 ≤ H ∧ H ≤ 8) (hl : l.length = W * H) (hk : k < W * H) (z : Int) (hz : l.getD k 0 = z) (h : inB W H ((k : Int) % (W : Int) + mx) ((k : Int) / (W : Int) + my) = true) :
    (mvP W H l mx my k).set (place W ((k : Int) % (W : Int) + mx) ((k : Int) / (W : Int) + my)) z = mvP W H l mx my (k + 1) := by
  rw [getD_at (by omega)] at hz
  rw [← hz]
  exact mvP_hit hW hH hk hl h
/-- the first k cells of one list, then those of another one -/
def takeR (q l : List Int) (k : Nat) : List Int := q.take k ++ l.drop k
theorem takeR_zero (q l : List Int) : takeR q l 0 = l := by simp [takeR]
theorem takeR_all {q l : List Int} (h : q.length = l.length) : takeR q l l.length = q := by simp [takeR, ← h]
theorem takeR_len {q l : List Int} (h : q.length = l.length) (k : Nat) (hk : k ≤ l.length) : (takeR q l k).length = l.length := by simp [takeR]; omega
theorem takeR_step {q l : List Int} (h : q.length = l.length) (k : Nat) (hk : k < l.length) : (takeR q l k).set k (q[k]'(by omega)) = takeR q l (k + 1) := by
  unfold takeR
  rw [List.set_append_right _ _ (by simp; omega), List.length_take, Nat.min_eq_left (by omega), Nat.sub_self, List.drop_eq_getElem_cons hk, List.set_cons_zero, List.take_succ_eq_append_getElem (by omega : k < q.length), List.append_assoc]
  rfl
end Go.Proofs.Ytggdkibbfmjelaa
