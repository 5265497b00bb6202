/- Rows of pairs of cells: the program's ChoosePart. -/
import Derived.Test.YtglpkfkbbjbjjaaComb
import Derived.IntWalk
namespace Go.Proofs.Ytglpkfkbbjbjjaa
open Go.RowKit
set_option linter.unusedVariables false
set_option linter.unusedSimpArgs false
theorem zip_len {a b : List Int} (h : a.length = b.length) : (a.zip b).length = a.length := by rw [List.length_zip]; omega
theorem infoParts : (Try.prog.info? 86).map (fun i => (i.zero, i.size, i.bytes)) = some (some (.agg #[.int .i64 0, .int .i64 0]), 2, 16) := by kernel_rfl
theorem make_parts (n : Nat) (hn : n ≤ 1048576) (w : World) : (Instr.makeSlice 83 (.int .i64 (n : Int)) (.int .i64 (n : Int))).run Try.prog w = .ok (.slice (some ⟨w.heap.size, 0, none⟩) n n) (w.alloc (.cells (madeCells #[.int .i64 0, .int .i64 0] (n * 2)) 86)) := by
  obtain ⟨i, hi, hzz⟩ := Option.map_eq_some_iff.1 infoParts
  simp only [Prod.mk.injEq] at hzz
  obtain ⟨hz, hs, hb⟩ := hzz
  have hr := run_make (P := Try.prog) w 83 86 i _ Try.underlying83 hi hz .i64 .i64 n n (by omega) (Int.le_refl _) (by rw [hb]; omega) (by omega)
  simp only [Int.toNat_natCast, hs] at hr
  exact hr
def madeP (L : List (Int × Int)) (k j : Nat) : Value := .int .i64 (if j < k * 2 then (if j % 2 = 0 then (L.getD (j / 2) (0, 0)).1 else (L.getD (j / 2) (0, 0)).2) else 0)
theorem madeP_step (L : List (Int × Int)) (k : Nat) (x y : Int) (h : k < L.length) (e : L[k] = (x, y)) (j : Nat) : (if j = k * 2 + 1 then Value.int .i64 y else if j = k * 2 then .int .i64 x else madeP L k j) = madeP L (k + 1) j := by
  have hd : L.getD k (0, 0) = (x, y) := by rw [← e]; simp [h]
  unfold madeP
  by_cases e1 : j = k * 2 + 1
  · subst e1
    rw [if_pos rfl, if_pos (by omega), if_neg (by omega), show (k * 2 + 1) / 2 = k by omega, hd]
  · rw [if_neg e1]
    by_cases e2 : j = k * 2
    · subst e2
      rw [if_pos rfl, if_pos (by omega), if_pos (by omega), show k * 2 / 2 = k by omega, hd]
    · rw [if_neg e2]
      by_cases e3 : j < k * 2
      · have e4 : j < (k + 1) * 2 := by omega
        rw [if_pos e3, if_pos e4]
      · have e4 : ¬ j < (k + 1) * 2 := by omega
        rw [if_neg e3, if_neg e4]
theorem parts_made (w : World) (n : Nat) (L : List (Int × Int)) : (w.alloc (.cells (madeCells #[.int .i64 0, .int .i64 0] (n * 2)) 86)).rowIs w.heap.size 86 (n * 2) (madeP L 0) := by
  have h := World.rowIs_alloc w (madeCells #[.int .i64 0, .int .i64 0] (n * 2)) 86 (madeP L 0) (fun i hi => by
    rw [size_madeCells] at hi
    have h2 : i % 2 = 0 ∨ i % 2 = 1 := by omega
    rcases h2 with h2 | h2 <;> simp [madeCells, hi, madeP, h2])
  rw [size_madeCells] at h
  exact h
def PartsPost (L : List (Int × Int)) (w : World) (e : Ending) (w' : World) : Prop := ∃ g, w.heap.size ≤ g ∧ e = .returned (.slice (some ⟨g, 0, none⟩) L.length L.length) ∧ w'.rowIs g 86 (L.length * 2) (madeP L L.length) ∧ Below w.heap.size w w'
set_option maxRecDepth 100000 in
set_option maxHeartbeats 4000000 in
theorem pairP_any (a b : Option Addr) (la lb : List Int) (ca cb g : Nat) (w : World) (ha : Ints .i64 w w.heap.size a la) (hb : Ints .i64 w w.heap.size b lb) (hl : la.length = lb.length) (n0 : la.length ≤ 1048576)
    (eg : Entered g) (hr : ∀ (W : World) (x y : Int), Calls Try.prog g #[.int .i64 x, .int .i64 y] W fun e w' => e = .returned (.agg #[.int .i64 x, .int .i64 y]) ∧ Below W.heap.size W w') :
    Calls Try.prog 72 #[.slice a la.length ca, .slice b lb.length cb, .func (.func g) #[] #[]] w (PartsPost (la.zip lb) w) := by
  have HA := Lib.hid ha
  have HB := Lib.hid hb
  have HL := Lib.hid hl
  have HR := Lib.hid hr
  have HZ := Lib.hid (zip_len hl)
  unfold Entered at eg
  clear ha hb hl hr
  have hmk := fun W => make_parts la.length n0 W
  go_enter Try.func72, Try.ntmps72
  go_wp2
  clear hmk
  go_loopw [14] (fun i wr => ∃ k : Nat, k ≤ la.length ∧ i = .int .i64 k ∧ wr.rowIs w.heap.size 86 (la.length * 2) (madeP (la.zip lb) k) ∧ Below w.heap.size w wr) (fun i _ => la.length - (intOf i).toNat)
  case atStart => exact ⟨0, Nat.zero_le _, rfl, parts_made w la.length (la.zip lb), (Below.refl _ _).alloc (Nat.le_refl _) _⟩
  case round =>
    obtain ⟨k, hk, rfl, hrow, hB⟩ := hrel
    by_cases hlt : k < la.length
    · have hlb : k < lb.length := by have := HL.out; omega
      obtain ⟨b1, o1, rfl, hb1, hc1⟩ := (HA.out.below hB (Nat.le_refl _)).at_ hlt
      obtain ⟨b2, o2, rfl, hb2, hc2⟩ := (HB.out.below hB (Nat.le_refl _)).at_ hlb
      have HV := Lib.hid (show (la.zip lb)[k]'(by rw [HZ.out]; exact hlt) = (la[k], lb[k]) from List.getElem_zip)
      have HROW := Lib.hid hrow
      have HBW := Lib.hid hB
      have hi : (k : Int) < (la.length : Int) := by omega
      have hi2 : (k : Int) < (lb.length : Int) := by omega
      have hi0 : (0 : Int) ≤ (k : Int) := by omega
      generalize la[k] = x at *
      generalize lb[k] = y at *
      clear hrow hB
      go_wp2
      have bd : Below wr.heap.size wr wr.drew := ⟨rfl, rfl, rfl, Nat.le_refl _, fun _ _ => rfl⟩
      have HRd : Hid (wr.drew.rowIs w.heap.size 86 (la.length * 2) (madeP (la.zip lb) k)) := HROW
      have HBd := Lib.hid (HBW.out.trans (bd.mono HBW.out.size))
      have HC : Hid (wr.drew.cell? ⟨b1, o1 + k, none⟩ = some (.int .i64 x) ∧ wr.drew.cell? ⟨b2, o2 + k, none⟩ = some (.int .i64 y)) := Lib.hid ⟨hc1, hc2⟩
      have hn1 : b1 ≠ w.heap.size := by omega
      have hn2 : b2 ≠ w.heap.size := by omega
      have hb1' : b1 < wr.drew.heap.size := Nat.lt_of_lt_of_le hb1 HBd.out.size
      have hb2' : b2 < wr.drew.heap.size := Nat.lt_of_lt_of_le hb2 HBd.out.size
      clear bd HROW HBW
      go_region_held3 (fun w' => w'.cell? ⟨b1, o1 + k, none⟩ = some (.int .i64 x) ∧ w'.cell? ⟨b2, o2 + k, none⟩ = some (.int .i64 y))
        (first | exact C1.out | exact ⟨cell_other (cell_other C1.out.1 hn1) hn1, cell_other (cell_other C1.out.2 hn2) hn2⟩ | go_keep)
        (first | (go_at_fn g; refine (HR.out _ x y).mono ?_; rintro e w1 ⟨rfl, bb⟩; have C1 := Lib.hid (And.intro ((bb.cell (p := ⟨b1, o1 + k, none⟩) hb1').trans HC.out.1) ((bb.cell (p := ⟨b2, o2 + k, none⟩) hb2').trans HC.out.2)); have R1 := Lib.hid (HRd.out.of_block (bb.block _ HRd.out.lt)); have B1 := Lib.hid (HBd.out.trans (bb.mono HBd.out.size)); have hg1 := R1.out.cell (i := k * 2) (by omega); have hg2 := R1.out.cell (i := k * 2 + 1) (by omega); have hf1 := R1.out.frozen (k * 2); have hf2 := R1.out.frozen (k * 2 + 1); clear bb))
      rename_i hHeld
      clear hHeld hc1 hc2 hg1 hf1 hg2 hf2 eg
      go_wp2
      go_roundw
      case rel => exact ⟨k + 1, by omega, by go_num, ((R1.out.set (k * 2) _).set (k * 2 + 1) _).congr (fun j _ => madeP_step (la.zip lb) k x y (by rw [HZ.out]; exact hlt) HV.out j), (B1.out.setCell (p := ⟨w.heap.size, k * 2, none⟩) (Nat.le_refl _) _).setCell (p := ⟨w.heap.size, k * 2 + 1, none⟩) (Nat.le_refl _) _⟩
      case measure => simp [intOf]; omega
    · obtain rfl : k = la.length := by omega
      clear eg
      go_wp2
      go_ret
      exact ⟨w.heap.size, Nat.le_refl _, by rw [HZ.out]; rfl, by rw [HZ.out]; exact hrow, hB⟩
set_option maxRecDepth 100000 in
set_option maxHeartbeats 4000000 in
theorem pairQ_any (a : Option Addr) (gp : Nat) (la : List Int) (lb : List (Int × Int)) (ca cb g : Nat) (r : Int → Int × Int → Int) (w : World) (ha : Ints .i64 w w.heap.size a la) (hb : w.rowIs gp 86 (lb.length * 2) (madeP lb lb.length)) (hl : la.length = lb.length) (hn : la.length ≤ 1048576)
    (eg : Entered g) (hr : ∀ (W : World) (x : Int) (p : Int × Int), Calls Try.prog g #[.int .i64 x, .agg #[.int .i64 p.1, .int .i64 p.2]] W fun e w' => e = .returned (.int .i64 (r x p)) ∧ Below W.heap.size W w') :
    Calls Try.prog 75 #[.slice a la.length ca, .slice (some ⟨gp, 0, none⟩) lb.length cb, .func (.func g) #[] #[]] w (IntsPost (zipR r la lb) w) := by
  have HA := Lib.hid ha
  have HB := Lib.hid hb
  have HL := Lib.hid hl
  have HR := Lib.hid hr
  have hgp := hb.lt
  have HZ := Lib.hid (zipR_len r hl)
  unfold Entered at eg
  clear ha hb hl hr
  have hmk := fun W => run_make_row' (P := Try.prog) 24 3 (.int .i64 0) 8 Try.underlying24 infoInt rfl .i64 .i64 la.length (by omega) (by omega) W
  go_enter Try.func75, Try.ntmps75
  go_wp2
  clear hmk
  go_loopw [14] (fun i wr => ∃ k : Nat, k ≤ la.length ∧ i = .int .i64 k ∧ wr.rowIs w.heap.size 3 la.length (madeI (zipR r la lb) k) ∧ Below w.heap.size w wr) (fun i _ => la.length - (intOf i).toNat)
  case atStart => exact ⟨0, Nat.zero_le _, rfl, (World.rowIs_made w (.int .i64 0) la.length 3).congr (fun i _ => by simp [madeI]), (Below.refl _ _).alloc (Nat.le_refl _) _⟩
  case round =>
    obtain ⟨k, hk, rfl, hrow, hB⟩ := hrel
    by_cases hlt : k < la.length
    · have hlb : k < lb.length := by have := HL.out; omega
      obtain ⟨b1, o1, rfl, hb1, hc1⟩ := (HA.out.below hB (Nat.le_refl _)).at_ hlt
      have hRB := HB.out.of_block (hB.block gp hgp)
      have hc2 : wr.cell? ⟨gp, k * 2, none⟩ = some (.int .i64 (lb[k]).1) := by rw [hRB.cell (i := k * 2) (by omega)]; unfold madeP; rw [if_pos (by omega), if_pos (by omega), show k * 2 / 2 = k by omega]; simp [hlb]
      have hc3 : wr.cell? ⟨gp, k * 2 + 1, none⟩ = some (.int .i64 (lb[k]).2) := by rw [hRB.cell (i := k * 2 + 1) (by omega)]; unfold madeP; rw [if_pos (by omega), if_neg (by omega), show (k * 2 + 1) / 2 = k by omega]; simp [hlb]
      clear hRB
      have HV := Lib.hid (zipR_get r k (by rw [HZ.out]; exact hlt) hlt hlb)
      have HROW := Lib.hid hrow
      have HBW := Lib.hid hB
      have hi : (k : Int) < (la.length : Int) := by omega
      have hi2 : (k : Int) < (lb.length : Int) := by omega
      have hi0 : (0 : Int) ≤ (k : Int) := by omega
      generalize la[k] = x at *
      generalize lb[k] = y at *
      obtain ⟨y1, y2⟩ := y
      simp only at hc2 hc3
      clear hrow hB
      go_wp2
      have bd : Below wr.heap.size wr wr.drew := ⟨rfl, rfl, rfl, Nat.le_refl _, fun _ _ => rfl⟩
      have HRd : Hid (wr.drew.rowIs w.heap.size 3 la.length (madeI (zipR r la lb) k)) := HROW
      have HBd := Lib.hid (HBW.out.trans (bd.mono HBW.out.size))
      have HC : Hid (wr.drew.cell? ⟨b1, o1 + k, none⟩ = some (.int .i64 x) ∧ wr.drew.cell? ⟨gp, k * 2, none⟩ = some (.int .i64 y1) ∧ wr.drew.cell? ⟨gp, k * 2 + 1, none⟩ = some (.int .i64 y2)) := Lib.hid ⟨hc1, hc2, hc3⟩
      have hn1 : b1 ≠ w.heap.size := by omega
      have hn2 : gp ≠ w.heap.size := by omega
      have hb1' : b1 < wr.drew.heap.size := Nat.lt_of_lt_of_le hb1 HBd.out.size
      have hb2' : gp < wr.drew.heap.size := Nat.lt_of_lt_of_le hgp HBd.out.size
      clear bd HROW HBW
      go_region_held3 (fun w' => w'.cell? ⟨b1, o1 + k, none⟩ = some (.int .i64 x) ∧ w'.cell? ⟨gp, k * 2, none⟩ = some (.int .i64 y1) ∧ w'.cell? ⟨gp, k * 2 + 1, none⟩ = some (.int .i64 y2))
        (first | exact C1.out | exact ⟨cell_other C1.out.1 hn1, cell_other C1.out.2.1 hn2, cell_other C1.out.2.2 hn2⟩ | go_keep)
        (first | (go_at_fn g; refine (HR.out _ x (y1, y2)).mono ?_; rintro e w1 ⟨rfl, bb⟩; have C1 := Lib.hid (And.intro ((bb.cell (p := ⟨b1, o1 + k, none⟩) hb1').trans HC.out.1) (And.intro ((bb.cell (p := ⟨gp, k * 2, none⟩) hb2').trans HC.out.2.1) ((bb.cell (p := ⟨gp, k * 2 + 1, none⟩) hb2').trans HC.out.2.2))); have R1 := Lib.hid (HRd.out.of_block (bb.block _ HRd.out.lt)); have B1 := Lib.hid (HBd.out.trans (bb.mono HBd.out.size)); have hg1 := R1.out.cell hlt; have hf1 := R1.out.frozen k; clear bb))
      rename_i hHeld
      clear hHeld hc1 hc2 hc3 hg1 hf1 eg
      go_wp2
      go_roundw
      case rel => exact ⟨k + 1, by omega, by go_num, (R1.out.set k _).congr (fun j _ => madeI_step (zipR r la lb) k (r x (y1, y2)) (by rw [HZ.out]; exact hlt) HV.out.symm j), B1.out.setCell (p := ⟨w.heap.size, k, none⟩) (Nat.le_refl _) _⟩
      case measure => simp [intOf]; omega
    · obtain rfl : k = la.length := by omega
      clear eg
      go_wp2
      go_ret
      refine ⟨some ⟨w.heap.size, 0, none⟩, la.length, by rw [HZ.out]; rfl, ?_, hB⟩
      exact OwnI.of_row (B := w.heap.size) hrow HZ.out (fun j hj => madeI_all _ _ (by rw [HZ.out]; exact Nat.le_refl _) j hj) (Nat.le_refl _)
end Go.Proofs.Ytglpkfkbbjbjjaa
