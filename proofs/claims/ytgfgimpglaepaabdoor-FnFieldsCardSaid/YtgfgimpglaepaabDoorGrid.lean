/- The program's rows of a field, and the field of rows. -/
import Derived.Test.YtgfgimpglaepaabDoorMake
import Derived.Laws.CopyOwn
namespace Go.Proofs.YtgfgimpglaepaabDoor
open Go.RowKit
set_option linter.unusedVariables false
set_option linter.unusedSimpArgs false
theorem infoRow : (Tryd.prog.info? 24).map (fun i => (i.zero, i.size, i.bytes)) = some (some (.slice none 0 0), 1, 24) := by kernel_rfl
/-- the rows of a field of W by H cells at (b, o), k of them laid -/
def rowV (b o W c k j : Nat) : Value := if j < k then .slice (some ⟨b, o + j * W, none⟩) W (c - j * W) else .slice none 0 0
def RowsPost (b o W H c : Nat) (w : World) (e : Ending) (w' : World) : Prop :=
  ∃ g, w.heap.size ≤ g ∧ e = .returned (.slice (some ⟨g, 0, none⟩) H H) ∧ w'.rowIs g 24 H (rowV b o W c H) ∧ Below w.heap.size w w'

theorem rowV_step (b o W c k j p : Nat) (hp : k * W = p) : (if j = k then Value.slice (some ⟨b, o + p, none⟩) W (c - p) else rowV b o W c k j) = rowV b o W c (k + 1) j := by
  subst hp
  unfold rowV
  by_cases e : j = k
  · subst e; simp
  · rw [if_neg e]
    by_cases e2 : j < k
    · rw [if_pos e2, if_pos (by omega)]
    · rw [if_neg e2, if_neg (by omega)]

set_option maxRecDepth 100000 in
set_option maxHeartbeats 2000000 in
theorem rowsOf_any (W H b o n c : Nat) (w : World) (hW : 1 ≤ W) (hW8 : W ≤ 8) (hH : 1 ≤ H) (hH8 : H ≤ 8) (hn : n = W * H) (hc : n ≤ c) :
    Calls Tryd.prog 32 #[.agg #[.int .i64 W, .int .i64 H, .slice (some ⟨b, o, none⟩) n c]] w (RowsPost b o W H c w) := by
  have hmk := fun W => run_make_row' (P := Tryd.prog) 56 24 (.slice none 0 0) 24 Tryd.underlying56 infoRow rfl .i64 .i64 H (by omega) (by omega) W
  have HN := Lib.hid hn
  clear hn
  go_enter Tryd.func32, Tryd.ntmps32
  go_wp2
  clear hmk
  go_loopw [10] (fun i wr => ∃ k : Nat, k ≤ H ∧ i = .int .i64 k ∧ wr.rowIs (w.heap.size + 1) 24 H (rowV b o W c k) ∧ Box wr w.heap.size 26 (.int .i64 W) (.int .i64 H) (.slice (some ⟨b, o, none⟩) n c) ∧ Below w.heap.size w wr) (fun i _ => H - (intOf i).toNat)
  case atStart =>
    refine ⟨0, Nat.zero_le _, rfl, ?_, (Box.new w 26 _ _ _).alloc _, (below_all _ _).alloc (by simp) _⟩
    have := (World.rowIs_made (w.alloc (.cells #[.int .i64 W, .int .i64 H, .slice (some ⟨b, o, none⟩) n c] 26)) (.slice none 0 0) H 24).congr (g := rowV b o W c 0) (fun i _ => by simp [rowV])
    rw [World.size_alloc] at this
    exact this
  case round =>
    obtain ⟨k, hk, rfl, hrow, hx, hB⟩ := hrel
    by_cases hlt : k < H
    · have hi : (k : Int) < (H : Int) := by omega
      have hi0 : (0 : Int) ≤ (k : Int) := by omega
      have hg' := hrow.cell hlt
      have hf := hrow.frozen k
      obtain ⟨x0, x1, x2⟩ := hx.cells
      have HR := Lib.hid hrow
      have HX := Lib.hid hx
      have HB := Lib.hid hB
      obtain ⟨p, hp⟩ : ∃ p, k * W = p := ⟨_, rfl⟩
      obtain ⟨q, hq⟩ : ∃ q, (k + 1) * W = q := ⟨_, rfl⟩
      have hpq : q = p + W := by rw [← hp, ← hq, Nat.add_mul]; omega
      have hqn : q ≤ n := by rw [← hq, HN.out, Nat.mul_comm W H]; exact Nat.mul_le_mul_right _ (by omega)
      have hn64 : n ≤ 64 := by rw [HN.out]; exact Nat.mul_le_mul hW8 hH8
      have m1 : (k : Int) * (W : Int) = (p : Int) := by rw [← hp]; push_cast; rfl
      have m2 : ((k : Int) + 1) * (W : Int) = (q : Int) := by rw [← hq]; push_cast; rfl
      have q0 : (0 : Int) ≤ (p : Int) := by omega
      have q1 : (p : Int) ≤ (q : Int) := by omega
      have q2 : (q : Int) ≤ (c : Int) := by omega
      have q3 : (q : Int) ≤ 64 := by omega
      have HP := Lib.hid hp
      have HPQ := Lib.hid hpq
      clear hrow hx hB hp hq hpq
      go_wp2
      have e1 : (if c = p then some (⟨b, o, none⟩ : Addr) else some ⟨b, o + p, none⟩) = some ⟨b, o + p, none⟩ := if_neg (by have := HPQ.out; omega)
      have e2 : q - p = W := by have := HPQ.out; omega
      rw [e1, e2]
      go_roundw
      case rel => exact ⟨k + 1, by omega, by go_num, (HR.out.set k _).congr (fun j _ => rowV_step b o W c k j p HP.out), HX.out.other (by simp) _, HB.out.setCell (by simp) _⟩
      case measure => simp [intOf]; omega
    · obtain rfl : k = H := by omega
      go_wp2
      go_ret
      exact ⟨w.heap.size + 1, by omega, rfl, hrow, hB⟩

/-- the cells of a field of rows, k of them copied -/
def laidC (R : List (List Int)) (W n k : Nat) : List Value := iv ((R.take k).flatten ++ List.replicate ((n - k) * W) 0)
theorem flat_len {R : List (List Int)} {W : Nat} (h : ∀ r ∈ R, r.length = W) : R.flatten.length = R.length * W := by
  induction R with
  | nil => simp
  | cons x r ih =>
    have h1 := h x (by simp)
    have h2 := ih (fun z hz => h z (by simp [hz]))
    simp only [List.flatten_cons, List.length_append, List.length_cons, h1, h2, Nat.add_mul]
    omega
theorem laidC_length {R : List (List Int)} {W n k : Nat} (h : ∀ r ∈ R, r.length = W) (hn : R.length = n) (hk : k ≤ n) : (laidC R W n k).length = n * W := by
  unfold laidC
  rw [iv_length, List.length_append, List.length_replicate, flat_len (W := W) (fun r hr => h r (List.mem_of_mem_take hr)), List.length_take, Nat.min_eq_left (by omega), ← Nat.add_mul]
  congr 1
  omega
theorem laidC_zero (R : List (List Int)) (W n : Nat) : laidC R W n 0 = iv (List.replicate (n * W) 0) := by simp [laidC]
theorem laidC_all {R : List (List Int)} {W n : Nat} (hn : R.length = n) : laidC R W n n = iv R.flatten := by
  unfold laidC
  rw [List.take_of_length_le (by omega), Nat.sub_self, Nat.zero_mul]
  simp
theorem laidC_step {R : List (List Int)} {W n k : Nat} (h : ∀ r ∈ R, r.length = W) (hn : R.length = n) (hk : k < R.length) : splice (laidC R W n k) (k * W) (iv R[k]) = laidC R W n (k + 1) := by
  have hl : (iv R[k]).length = W := by rw [iv_length]; exact h _ (List.getElem_mem hk)
  have hf : (iv (R.take k).flatten).length = k * W := by rw [iv_length, flat_len (W := W) (fun r hr => h r (List.mem_of_mem_take hr)), List.length_take, Nat.min_eq_left (by omega)]
  unfold splice laidC
  rw [hl]
  have e : iv ((R.take k).flatten ++ List.replicate ((n - k) * W) 0) = iv (R.take k).flatten ++ iv (List.replicate ((n - k) * W) 0) := by simp only [iv, List.map_append]
  have e2 : iv ((R.take (k + 1)).flatten ++ List.replicate ((n - (k + 1)) * W) 0) = iv (R.take k).flatten ++ (iv R[k] ++ iv (List.replicate ((n - (k + 1)) * W) 0)) := by
    have ft : (R.take (k + 1)).flatten = (R.take k).flatten ++ R[k] := by rw [List.take_succ_eq_append_getElem hk, List.flatten_append]; simp
    rw [ft]
    simp only [iv, List.map_append, List.append_assoc]
  have e3 : (n - k) * W = W + (n - (k + 1)) * W := by
    have : n - k = 1 + (n - (k + 1)) := by omega
    rw [this, Nat.add_mul]; omega
  rw [e, e2, List.take_left' hf, List.drop_append, hf, List.drop_of_length_le (by omega), List.nil_append, Nat.add_sub_cancel_left, e3]
  simp [iv]
theorem made_iv (n : Nat) : madeCells #[Value.int .i64 0] n = (iv (List.replicate n 0)).toArray := by
  have := toList_madeCells_one (.int .i64 0) n
  apply Array.ext'
  rw [this]
  simp [iv]

/-- a field in memory of the call's own, with room for its cells -/
def FOneC (wd hg : Int) (l : List Int) (w : World) (e : Ending) (w' : World) : Prop :=
  ∃ a c, l.length ≤ c ∧ e = .returned (.agg #[.int .i64 wd, .int .i64 hg, .slice a l.length c]) ∧ OwnI w' w.heap.size a l ∧ Below w.heap.size w w'
theorem FOneC.one {wd hg : Int} {l : List Int} {w : World} {e : Ending} {w' : World} (h : FOneC wd hg l w e w') : FOne wd hg l w e w' := by
  obtain ⟨a, c, _, h1, h2, h3⟩ := h; exact ⟨a, c, h1, h2, h3⟩
set_option maxRecDepth 100000 in
set_option maxHeartbeats 2000000 in
theorem fieldOfRows_c (g off n cp W : Nat) (R : List (List Int)) (A : Nat → Option Addr) (C : Nat → Nat) (w : World) (hn : R.length = n) (h1 : 1 ≤ n) (hn8 : n ≤ 8) (hW : 1 ≤ W) (hW8 : W ≤ 8) (hlen : ∀ r ∈ R, r.length = W) (hg : g < w.heap.size)
    (hcell : ∀ j, j < n → w.cell? ⟨g, off + j, none⟩ = some (.slice (A j) W (C j))) (hrow : ∀ j (h : j < R.length), Ints .i64 w w.heap.size (A j) R[j]) :
    Calls Tryd.prog 31 #[.slice (some ⟨g, off, none⟩) n cp] w (FOneC W n R.flatten w) := by
  have HN := Lib.hid hn
  have HLEN := Lib.hid hlen
  have HCELL := Lib.hid hcell
  have HROW := Lib.hid hrow
  have c0 := hcell 0 (by omega)
  rw [Nat.add_zero] at c0
  obtain ⟨N, hN⟩ : ∃ N, n * W = N := ⟨_, rfl⟩
  have hN64 : N ≤ 64 := by rw [← hN]; exact Nat.mul_le_mul hn8 hW8
  have mN : (W : Int) * (n : Int) = (N : Int) := by rw [← hN, Int.mul_comm]; push_cast; rfl
  have HNN := Lib.hid hN
  clear hn hlen hcell hrow hN
  have hmk := fun W => run_make_row' (P := Tryd.prog) 24 3 (.int .i64 0) 8 Tryd.underlying24 infoInt rfl .i64 .i64 N (by omega) (by omega) W
  have i0 : (0 : Int) < (n : Int) := by omega
  have gl : ¬ g = w.heap.size := by omega
  have gl2 : ¬ g = w.heap.size + 1 := by omega
  go_enter Tryd.func31, Tryd.ntmps31
  go_wp2
  clear hmk
  go_loopw [18] (fun i wr => ∃ k : Nat, k ≤ n ∧ i = .int .i64 k ∧ wr.heap[w.heap.size + 1]? = some (.cells (laidC R W n k).toArray 3 (0, 0)) ∧ Box wr w.heap.size 26 (.int .i64 0) (.int .i64 0) (.slice none 0 0) ∧ Below w.heap.size w wr) (fun i _ => n - (intOf i).toNat)
  case atStart =>
    refine ⟨0, Nat.zero_le _, rfl, ?_, (Box.new w 26 _ _ _).alloc _, (below_all _ _).alloc (by simp) _⟩
    have := heap_alloc_new (w.alloc (.cells #[.int .i64 0, .int .i64 0, .slice none 0 0] 26)) (.cells (madeCells #[.int .i64 0] N) 3)
    rw [World.size_alloc] at this
    rw [laidC_zero, HNN.out, ← made_iv]
    exact this
  case round =>
    obtain ⟨k, hk, rfl, hblk, hx, hB⟩ := hrel
    have HX := Lib.hid hx
    have HB := Lib.hid hB
    have HBLK := Lib.hid hblk
    clear hblk
    by_cases hlt : k < n
    · have hi : (k : Int) < (n : Int) := by omega
      have hi0 : (0 : Int) ≤ (k : Int) := by omega
      have ck : wr.cell? ⟨g, off + k, none⟩ = some (.slice (A k) W (C k)) := (hB.cell (p := ⟨g, off + k, none⟩) hg).trans (HCELL.out k hlt)
      have hkR : k < R.length := by have := HN.out; omega
      have ik := (HROW.out k hkR).below hB (Nat.le_refl _)
      have IK := Lib.hid ik
      have lk : R[k].length = W := HLEN.out _ (List.getElem_mem hkR)
      obtain ⟨p, hp⟩ : ∃ p, k * W = p := ⟨_, rfl⟩
      have hpN : p + W ≤ N := by
        have h2 : (k + 1) * W ≤ n * W := Nat.mul_le_mul_right _ (by omega)
        rw [HNN.out, Nat.add_mul, hp] at h2
        omega
      have m1 : (k : Int) * (W : Int) = (p : Int) := by rw [← hp]; push_cast; rfl
      have q0 : (0 : Int) ≤ (p : Int) := by omega
      have q1 : (p : Int) ≤ (N : Int) := by omega
      have HP := Lib.hid hp
      have HLK := Lib.hid lk
      have HST := Lib.hid (laidC_step HLEN.out HN.out hkR)
      have HLL := Lib.hid (laidC_length (k := k) HLEN.out HN.out (by omega))
      rw [hp] at HST
      rw [HNN.out] at HLL
      clear hx hB hp ik lk
      obtain ⟨b', o', hA, hb', hc'⟩ : ∃ b' o', A k = some ⟨b', o', none⟩ ∧ b' < w.heap.size ∧ ∀ j (h : j < R[k].length), wr.cell? ⟨b', o' + j, none⟩ = some (.int .i64 R[k][j]) := by
        rcases IK.out with h | h
        · have := HLK.out; rw [h] at this; simp at this; omega
        · exact h
      have HA := Lib.hid hA
      have HC := Lib.hid hc'
      clear hA hc'
      go_wp2_with (with_reducible refine wpList_copy_splice rfl (.tmp 27) (.tmp 28) 24 24 rfl 3 Tryd.underlying24 (by kernel_rfl) _ _ _ _ _ _ rfl rfl (w.heap.size + 1) p (laidC R W n k) 3 HBLK.out (iv R[k]) ?_ ?_ ?_ (iv_one _) (w.heap.size + 1) wr (Below.refl _ _) (by omega) ?_)
      case refine_1 => rw [iv_length, HLK.out]; exact (Nat.min_eq_left (by omega)).symm
      case refine_2 =>
        intro _
        refine ⟨⟨b', o', none⟩, HA.out, fun j v hv => ?_⟩
        obtain ⟨hj, hv⟩ := List.getElem?_eq_some_iff.1 hv
        rw [iv_length] at hj
        have e : (⟨b', o', none⟩ : Addr).add j = ⟨b', o' + j, none⟩ := by unfold Addr.add; split <;> simp_all
        rw [e, HC.out j hj, ← hv, iv_get]
      case refine_3 => rw [iv_length, HLK.out, HLL.out]; exact hpN
      case refine_4 =>
        intro w2 hg2 hb2
        have HB2 := Lib.hid hb2
        clear hb2
        go_wp2
        go_roundw
        case rel => exact ⟨k + 1, by omega, by go_num, by rw [← HST.out]; exact hg2.out, (HB2.out.block _ (by omega)).trans HX.out, HB.out.trans (HB2.out.mono (by omega))⟩
        case measure => simp [intOf]; omega
    · obtain rfl : k = n := by omega
      have ho : OwnI wr (w.heap.size + 1) (some ⟨w.heap.size + 1, 0, none⟩) R.flatten := by
        refine ⟨w.heap.size + 1, Nat.le_refl _, .inr ⟨rfl, _, HBLK.out, fun j hj => ?_⟩⟩
        rw [laidC_all HN.out]
        simp [hj]
      have HO := Lib.hid ho
      have HF := Lib.hid (flat_len HLEN.out)
      rw [HN.out, HNN.out] at HF
      obtain ⟨r0, r1, r2⟩ := hx.cells
      have g0 := hx.frozen 0
      have g1 := hx.frozen 1
      have g2 := hx.frozen 2
      clear ho hx hB
      go_wp2
      refine bodyPost_ret (v := .agg #[.int .i64 W, .int .i64 k, .slice (some ⟨w.heap.size + 1, 0, none⟩) N N]) (by simp [results, Tryd.results31, go_sem, r0, r1, r2]) rfl ⟨some ⟨w.heap.size + 1, 0, none⟩, N, by rw [HF.out]; exact Nat.le_refl _, by rw [HF.out], ?_, ?_⟩
      · exact (ownI_set (ownI_set (ownI_set HO.out (by omega) _) (by omega) _) (by omega) _).more (by omega)
      · exact ((HB.out.setCell (by simp) _).setCell (by simp) _).setCell (by simp) _
theorem fieldOfRows_any (g off n cp W : Nat) (R : List (List Int)) (A : Nat → Option Addr) (C : Nat → Nat) (w : World) (hn : R.length = n) (h1 : 1 ≤ n) (hn8 : n ≤ 8) (hW : 1 ≤ W) (hW8 : W ≤ 8) (hlen : ∀ r ∈ R, r.length = W) (hg : g < w.heap.size)
    (hcell : ∀ j, j < n → w.cell? ⟨g, off + j, none⟩ = some (.slice (A j) W (C j))) (hrow : ∀ j (h : j < R.length), Ints .i64 w w.heap.size (A j) R[j]) :
    Calls Tryd.prog 31 #[.slice (some ⟨g, off, none⟩) n cp] w (FOne W n R.flatten w) :=
  (fieldOfRows_c g off n cp W R A C w hn h1 hn8 hW hW8 hlen hg hcell hrow).mono fun _ _ h => h.one

/-- a list cut into H rows of W -/
def chunks (l : List Int) (W H : Nat) : List (List Int) := (List.range H).map fun j => (l.drop (j * W)).take W
theorem chunks_length (l : List Int) (W H : Nat) : (chunks l W H).length = H := by simp [chunks]
theorem chunks_get (l : List Int) (W H j : Nat) (h : j < (chunks l W H).length) : (chunks l W H)[j] = (l.drop (j * W)).take W := by simp [chunks]
theorem chunk_fits {W H j n : Nat} (hj : j < H) (hn : n = W * H) : j * W + W ≤ n := by
  have h2 : (j + 1) * W ≤ H * W := Nat.mul_le_mul_right _ (by omega)
  rw [Nat.mul_comm H W, ← hn, Nat.add_mul] at h2
  omega
theorem chunks_each {l : List Int} {W H : Nat} (hl : l.length = W * H) : ∀ r ∈ chunks l W H, r.length = W := by
  intro r hr
  obtain ⟨j, hj, rfl⟩ := List.mem_map.1 hr
  have hj' : j < H := by simpa using hj
  have := chunk_fits hj' hl
  rw [List.length_take, List.length_drop]
  omega
theorem chunks_flat (l : List Int) (W H : Nat) : (chunks l W H).flatten = l.take (H * W) := by
  induction H with
  | zero => simp [chunks]
  | succ H ih =>
    have : chunks l W (H + 1) = chunks l W H ++ [(l.drop (H * W)).take W] := by simp [chunks, List.range_succ]
    rw [this, List.flatten_append, ih, Nat.add_mul, Nat.one_mul, List.take_add]
    simp
theorem chunks_all {l : List Int} {W H : Nat} (hl : l.length = W * H) : (chunks l W H).flatten = l := by
  rw [chunks_flat, List.take_of_length_le (by rw [hl, Nat.mul_comm]; exact Nat.le_refl _)]
theorem chunk_ints {w : World} {B b o W H c : Nat} {l : List Int} (h : Ints .i64 w B (some ⟨b, o, none⟩) l) (hl : l.length = W * H) (j : Nat) (hj : j < (chunks l W H).length) : Ints .i64 w B (some ⟨b, o + j * W, none⟩) (chunks l W H)[j] := by
  rw [chunks_length] at hj
  have hf := chunk_fits hj hl
  rw [chunks_get]
  rcases h with rfl | ⟨b', o', e, hb, hc⟩
  · exact .inl (by simp)
  · injection e with e
    injection e with e1 e2
    subst e1 e2
    refine .inr ⟨b, o + j * W, rfl, hb, fun i hi => ?_⟩
    rw [List.length_take, List.length_drop] at hi
    have := hc (j * W + i) (by omega)
    rw [Nat.add_assoc, this]
    simp
theorem good_nat {wd hg : Int} {l : List Int} (h : goodB wd hg l = true) : ∃ W H : Nat, wd = (W : Int) ∧ hg = (H : Int) ∧ 1 ≤ W ∧ W ≤ 8 ∧ 1 ≤ H ∧ H ≤ 8 ∧ l.length = W * H := by
  obtain ⟨⟨h1, h2⟩, h3, h4⟩ := shapeB_iff.1 (good_shape h)
  refine ⟨wd.toNat, hg.toNat, by omega, by omega, by omega, by omega, by omega, by omega, ?_⟩
  have := good_len h
  have e : ((wd.toNat * hg.toNat : Nat) : Int) = wd * hg := by push_cast; rw [Int.toNat_of_nonneg (by omega), Int.toNat_of_nonneg (by omega)]
  omega
end Go.Proofs.YtgfgimpglaepaabDoor
