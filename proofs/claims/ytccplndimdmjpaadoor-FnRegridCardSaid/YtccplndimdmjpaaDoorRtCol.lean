/- The program's columnOverlaps: eight overlaps in an array. -/
import Derived.Test.YtccplndimdmjpaaDoorRtMath
import Derived.Test.YtccplndimdmjpaaDoorRgOv
import Derived.Test.YtccplndimdmjpaaDoorBox
namespace Go.Proofs.YtccplndimdmjpaaDoor
open Go.RowKit
set_option linter.unusedVariables false
set_option linter.unusedSimpArgs false
/-- the overlaps with the first k columns, eight in all -/
def colL (a c i k : Nat) : List Int := (List.range 8).map fun (j : Nat) => if j < k then ovl a c i j else 0
theorem colL_len (a c i k : Nat) : (colL a c i k).length = 8 := by simp [colL]
theorem colL_get (a c i k j : Nat) (h : j < (colL a c i k).length) : (colL a c i k)[j] = if j < k then ovl a c i j else 0 := by simp [colL]
theorem colL_step (a c i k : Nat) (hk : k < 8) : (colL a c i k).set k (ovl a c i k) = colL a c i (k + 1) := by
  apply List.ext_getElem
  · simp [colL]
  · intro j h1 h2
    rw [List.getElem_set, colL_get, colL_get]
    split
    · rename_i h; subst h; rw [if_pos (by omega)]
    · rename_i h
      by_cases h3 : j < k
      · rw [if_pos h3, if_pos (by omega)]
      · rw [if_neg h3, if_neg (by omega)]
theorem eight (L : List Int) (h : L.length = 8) : ∃ x0 x1 x2 x3 x4 x5 x6 x7, L = [x0, x1, x2, x3, x4, x5, x6, x7] := by
  match L, h with
  | [x0, x1, x2, x3, x4, x5, x6, x7], _ => exact ⟨x0, x1, x2, x3, x4, x5, x6, x7, rfl⟩
/-- block b holds exactly these numbers, as an array -/
def Arr8 (w : World) (b : Nat) (L : List Int) : Prop := w.heap[b]? = some (.cells (iv L).toArray 75 (0, 0))
section
variable {w w' : World} {b : Nat} {L : List Int}
theorem Arr8.lt (h : Arr8 w b L) : b < w.heap.size := (Array.getElem?_eq_some_iff.1 h).1
theorem Arr8.row (h : Arr8 w b L) : Row w b 75 (iv L) := ⟨_, h, fun k hk => by simp⟩
theorem Arr8.get (h : Arr8 w b L) {j : Nat} (hj : j < L.length) : w.cell? ⟨b, j, none⟩ = some (.int .i64 L[j]) := by
  rw [h.row.cell (k := j) (by rw [iv_length]; exact hj), iv_get]
theorem Arr8.frozen (h : Arr8 w b L) (k : Nat) : w.frozen? ⟨b, k, none⟩ = false := h.row.frozen k
theorem Arr8.below (h : Arr8 w b L) (hb : Below w.heap.size w w') : Arr8 w' b L := (hb.block b h.lt).trans h
theorem Arr8.other (h : Arr8 w b L) {p : Addr} (hp : b ≠ p.block) (u : Value) : Arr8 (w.setCell p u) b L := (Below.heap_setCell w p u b hp).trans h
theorem Arr8.alloc (h : Arr8 w b L) (o : Obj) : Arr8 (w.alloc o) b L := (Below.heap_alloc w o b h.lt).trans h
theorem Arr8.set (h : Arr8 w b L) (j : Nat) (z : Int) : Arr8 (w.setCell ⟨b, j, none⟩ (.int .i64 z)) b (L.set j z) := by
  unfold Arr8 at *
  rw [← iv_set]
  simp [World.setCell, Array.getElem?_modify, h, List.set_toArray]
theorem Arr8.new (w : World) (L : List Int) : Arr8 (w.alloc (.cells (iv L).toArray 75)) w.heap.size L := heap_alloc_new w _
theorem Arr8.put8 {y0 y1 y2 y3 y4 y5 y6 y7 x0 x1 x2 x3 x4 x5 x6 x7 : Int} (h : Arr8 w b [y0, y1, y2, y3, y4, y5, y6, y7]) : Arr8 ((((((((w.setCell ⟨b, 0, none⟩ (.int .i64 x0)).setCell ⟨b, 1, none⟩ (.int .i64 x1)).setCell ⟨b, 2, none⟩ (.int .i64 x2)).setCell ⟨b, 3, none⟩ (.int .i64 x3)).setCell ⟨b, 4, none⟩ (.int .i64 x4)).setCell ⟨b, 5, none⟩ (.int .i64 x5)).setCell ⟨b, 6, none⟩ (.int .i64 x6)).setCell ⟨b, 7, none⟩ (.int .i64 x7)) b [x0, x1, x2, x3, x4, x5, x6, x7] :=
  ((((((((h.set 0 x0).set 1 x1).set 2 x2).set 3 x3).set 4 x4).set 5 x5).set 6 x6).set 7 x7)
theorem below_put8 {B : Nat} {w0 : World} (h : Below B w0 w) (hb : B ≤ b) (x0 x1 x2 x3 x4 x5 x6 x7 : Value) : Below B w0 ((((((((w.setCell ⟨b, 0, none⟩ x0).setCell ⟨b, 1, none⟩ x1).setCell ⟨b, 2, none⟩ x2).setCell ⟨b, 3, none⟩ x3).setCell ⟨b, 4, none⟩ x4).setCell ⟨b, 5, none⟩ x5).setCell ⟨b, 6, none⟩ x6).setCell ⟨b, 7, none⟩ x7) :=
  ((((((((h.setCell hb _).setCell hb _).setCell hb _).setCell hb _).setCell hb _).setCell hb _).setCell hb _).setCell hb _)
end
set_option maxRecDepth 100000 in
set_option maxHeartbeats 4000000 in
theorem implCol_any (a c i : Nat) (w : World) (a1 : 1 ≤ a) (a8 : a ≤ 8) (c1 : 1 ≤ c) (c8 : c ≤ 8) (hi : i < a) :
    Calls Tryd.prog 62 #[.int .i64 a, .int .i64 c, .int .i64 i] w fun e w' => e = .returned (.agg (iv (colL a c i c)).toArray) ∧ Below w.heap.size w w' := by
  have HOV := Lib.hid (fun k W (hk : k < c) => by
    have h9 := implOv_any a c i k W
    have hb := ovB_nat a1 a8 c1 c8 hi hk
    rw [hb, ovN_yes hb] at h9
    exact h9)
  have hz : (colL a c i 0) = [0, 0, 0, 0, 0, 0, 0, 0] := by simp [colL, List.range_succ]
  have HZ := Lib.hid hz
  clear hz
  go_enter Tryd.func62, Tryd.ntmps62
  go_wp2
  go_loopw [10] (fun t wr => ∃ k : Nat, k ≤ c ∧ t = .int .i64 k ∧ Arr8 wr w.heap.size [0, 0, 0, 0, 0, 0, 0, 0] ∧ Arr8 wr (w.heap.size + 1) (colL a c i k) ∧ Below w.heap.size w wr) (fun t _ => c - (intOf t).toNat)
  case atStart =>
    refine ⟨0, Nat.zero_le _, rfl, (Arr8.new w [0, 0, 0, 0, 0, 0, 0, 0]).alloc _, ?_, (below_all _ _).alloc (by simp) _⟩
    rw [HZ.out]
    have h9 := Arr8.new (w.alloc (.cells (iv [0, 0, 0, 0, 0, 0, 0, 0]).toArray 75)) [0, 0, 0, 0, 0, 0, 0, 0]
    rw [World.size_alloc] at h9
    exact h9
  case round =>
    obtain ⟨k, hk, rfl, hr, ho, hB⟩ := hrel
    have HR := Lib.hid hr
    have HO := Lib.hid ho
    have HB := Lib.hid hB
    by_cases hlt : k < c
    · have hkI : (k : Int) < (c : Int) := by omega
      have hk8 : (k : Int) < 8 := by omega
      have hk0 : (0 : Int) ≤ (k : Int) := by omega
      have HC := Lib.hid (fun W => HOV.out k W hlt)
      have hg := ho.get (j := k) (by rw [colL_len]; omega)
      have hf := ho.frozen k
      have HST := Lib.hid (colL_step a c i k (by omega))
      have HPUT := Lib.hid (ho.set k (ovl a c i k))
      rw [HST.out] at HPUT
      generalize (colL a c i k)[k]'(by rw [colL_len]; omega) = zo at *
      generalize ovl (a : Int) c i k = z at *
      clear hr ho hB
      go_wp2_with (go_at_call 70; refine (HC.out _).mono ?_; rintro e w9 ⟨rfl, rfl⟩)
      go_roundw
      case rel => exact ⟨k + 1, by omega, by go_num, HR.out.other (by show w.heap.size ≠ w.heap.size + 1; omega) _, HPUT.out, HB.out.setCell (by show w.heap.size ≤ w.heap.size + 1; omega) _⟩
      case measure => simp [intOf]; omega
    · obtain rfl : k = c := by omega
      obtain ⟨x0, x1, x2, x3, x4, x5, x6, x7, hX⟩ := eight (colL a k i k) (colL_len _ _ _ _)
      have HX := Lib.hid hX
      rw [hX] at ho
      have p0 := ho.get (j := 0) (by simp)
      have p1 := ho.get (j := 1) (by simp)
      have p2 := ho.get (j := 2) (by simp)
      have p3 := ho.get (j := 3) (by simp)
      have p4 := ho.get (j := 4) (by simp)
      have p5 := ho.get (j := 5) (by simp)
      have p6 := ho.get (j := 6) (by simp)
      have p7 := ho.get (j := 7) (by simp)
      simp only [List.getElem_cons_zero, List.getElem_cons_succ] at p0 p1 p2 p3 p4 p5 p6 p7
      have r0 := hr.get (j := 0) (by simp)
      have r1 := hr.get (j := 1) (by simp)
      have r2 := hr.get (j := 2) (by simp)
      have r3 := hr.get (j := 3) (by simp)
      have r4 := hr.get (j := 4) (by simp)
      have r5 := hr.get (j := 5) (by simp)
      have r6 := hr.get (j := 6) (by simp)
      have r7 := hr.get (j := 7) (by simp)
      simp only [List.getElem_cons_zero, List.getElem_cons_succ] at r0 r1 r2 r3 r4 r5 r6 r7
      have f0 := hr.frozen 0
      have f1 := hr.frozen 1
      have f2 := hr.frozen 2
      have f3 := hr.frozen 3
      have f4 := hr.frozen 4
      have f5 := hr.frozen 5
      have f6 := hr.frozen 6
      have f7 := hr.frozen 7
      clear hr ho hB hX HR HO
      go_wp2
      refine bodyPost_ret (v := .agg #[.int .i64 x0, .int .i64 x1, .int .i64 x2, .int .i64 x3, .int .i64 x4, .int .i64 x5, .int .i64 x6, .int .i64 x7]) (by simp [results, Tryd.results62, go_sem, r0, r1, r2, r3, r4, r5, r6, r7]) rfl ⟨by rw [HX.out]; rfl, ?_⟩
      exact below_put8 HB.out (Nat.le_refl _) _ _ _ _ _ _ _ _
end Go.Proofs.YtccplndimdmjpaaDoor
