/- pairwise: what a rule makes of the elements of two rows. -/
import Derived.Test.YtjpiiidjocilcaaAlgRule
import Derived.Test.YtjpiiidjocilcaaLate
namespace Go.Proofs.Ytjpiiidjocilcaa
open Go.RowKit
set_option linter.unusedVariables false
set_option linter.unusedSimpArgs false
theorem cell_other {w : World} {g k b o : Nat} {v u : Value} (h : w.cell? ⟨b, o, none⟩ = some v) (hb : b ≠ g) : (w.setCell ⟨g, k, none⟩ u).cell? ⟨b, o, none⟩ = some v :=
  (World.cell?_of_block (Below.heap_setCell w ⟨g, k, none⟩ u b hb)).trans h
/-- the row of numbers, k of them made -/
def madeI (L : List Int) (k j : Nat) : Value := .int .i64 (if j < k then L.getD j 0 else 0)
theorem madeI_step (L : List Int) (k : Nat) (v : Int) (h : k < L.length) (e : v = L[k]) (j : Nat) : (if j = k then Value.int .i64 v else madeI L k j) = madeI L (k + 1) j := by
  subst e
  unfold madeI
  by_cases e : j = k
  · subst e; simp [h]
  · rw [if_neg e]
    by_cases e2 : j < k
    · rw [if_pos e2, if_pos (by omega)]
    · rw [if_neg e2, if_neg (by omega)]
theorem madeI_all (L : List Int) (n : Nat) (hn : L.length ≤ n) (k : Nat) (h : k < L.length) : madeI L n k = .int .i64 L[k] := by
  unfold madeI
  rw [if_pos (by omega)]
  simp [h]
set_option maxRecDepth 100000 in
set_option maxHeartbeats 4000000 in
theorem pairI_any (a b : Option Addr) (la lb : List Int) (ca cb g : Nat) (cap : Array Value) (r : Int → Int → Int) (w : World) (ha : Ints .i64 w w.heap.size a la) (hb : Ints .i64 w w.heap.size b lb) (hl : la.length = lb.length) (hn : la.length ≤ 1048576)
    (eg : Entered g) (hr : RuleAt g cap r w) (hca : ∀ z ∈ la, cellB z = true) (hcb : ∀ z ∈ lb, cellB z = true) :
    Calls Try.prog 63 #[.slice a la.length ca, .slice b lb.length cb, .func (.func g) #[] cap] w (IntsPost (zipR r la lb) w) := by
  have HA := Lib.hid ha
  have HB := Lib.hid hb
  have HL := Lib.hid hl
  have HR := Lib.hid hr
  have HCA := Lib.hid hca
  have HCB := Lib.hid hcb
  have HZ := Lib.hid (zipR_len r hl)
  unfold Entered at eg
  clear ha hb hl hr hca hcb
  have hmk := fun W => run_make_row' (P := Try.prog) 22 3 (.int .i64 0) 8 Try.underlying22 infoInt rfl .i64 .i64 la.length (by omega) (by omega) W
  go_enter Try.func63, Try.ntmps63
  go_wp2
  clear hmk
  go_loopw [14] (fun i wr => ∃ k : Nat, k ≤ la.length ∧ i = .int .i64 k ∧ wr.rowIs w.heap.size 3 la.length (madeI (zipR r la lb) k) ∧ Below w.heap.size w wr) (fun i _ => la.length - (intOf i).toNat)
  case atStart => exact ⟨0, Nat.zero_le _, rfl, (World.rowIs_made w (.int .i64 0) la.length 3).congr (fun i _ => by simp [madeI]), (Below.refl _ _).alloc (Nat.le_refl _) _⟩
  case round =>
    obtain ⟨k, hk, rfl, hrow, hB⟩ := hrel
    by_cases hlt : k < la.length
    · have hlb : k < lb.length := by have := HL.out; omega
      obtain ⟨b1, o1, rfl, hb1, hc1⟩ := (HA.out.below hB (Nat.le_refl _)).at_ hlt
      obtain ⟨b2, o2, rfl, hb2, hc2⟩ := (HB.out.below hB (Nat.le_refl _)).at_ hlb
      have HX := Lib.hid (HCA.out la[k] (List.getElem_mem hlt))
      have HY := Lib.hid (HCB.out lb[k] (List.getElem_mem hlb))
      have HV := Lib.hid (zipR_get r k (by rw [HZ.out]; exact hlt) hlt hlb)
      have HROW := Lib.hid hrow
      have HBW := Lib.hid hB
      have hi : (k : Int) < (la.length : Int) := by omega
      have hi2 : (k : Int) < (lb.length : Int) := by omega
      have hi0 : (0 : Int) ≤ (k : Int) := by omega
      generalize la[k] = x at *
      generalize lb[k] = y at *
      clear hrow hB
      go_wp2
      have bd : Below wr.heap.size wr wr.drew := ⟨rfl, rfl, rfl, Nat.le_refl _, fun _ _ => rfl⟩
      have HRd : Hid (wr.drew.rowIs w.heap.size 3 la.length (madeI (zipR r la lb) k)) := HROW
      have HBd := Lib.hid (HBW.out.trans (bd.mono HBW.out.size))
      have HC : Hid (wr.drew.cell? ⟨b1, o1 + k, none⟩ = some (.int .i64 x) ∧ wr.drew.cell? ⟨b2, o2 + k, none⟩ = some (.int .i64 y)) := Lib.hid ⟨hc1, hc2⟩
      have hn1 : b1 ≠ w.heap.size := by omega
      have hn2 : b2 ≠ w.heap.size := by omega
      have hb1' : b1 < wr.drew.heap.size := Nat.lt_of_lt_of_le hb1 HBd.out.size
      have hb2' : b2 < wr.drew.heap.size := Nat.lt_of_lt_of_le hb2 HBd.out.size
      clear bd HROW HBW
      go_region_held3 (fun w' => w'.cell? ⟨b1, o1 + k, none⟩ = some (.int .i64 x) ∧ w'.cell? ⟨b2, o2 + k, none⟩ = some (.int .i64 y))
        (first | exact C1.out | exact ⟨cell_other C1.out.1 hn1, cell_other C1.out.2 hn2⟩ | go_keep)
        (first | (go_at_fn g; refine (HR.out _ x y HX.out HY.out HBd.out).mono ?_; rintro e w1 ⟨rfl, bb⟩; have C1 := Lib.hid (And.intro ((bb.cell (p := ⟨b1, o1 + k, none⟩) hb1').trans HC.out.1) ((bb.cell (p := ⟨b2, o2 + k, none⟩) hb2').trans HC.out.2)); have R1 := Lib.hid (HRd.out.of_block (bb.block _ HRd.out.lt)); have B1 := Lib.hid (HBd.out.trans (bb.mono HBd.out.size)); have hg1 := R1.out.cell hlt; have hf1 := R1.out.frozen k; clear bb))
      rename_i hHeld
      clear hHeld hc1 hc2 hg1 hf1 eg
      go_wp2
      go_roundw
      case rel => exact ⟨k + 1, by omega, by go_num, (R1.out.set k _).congr (fun j _ => madeI_step (zipR r la lb) k (r x y) (by rw [HZ.out]; exact hlt) HV.out.symm j), B1.out.setCell (p := ⟨w.heap.size, k, none⟩) (Nat.le_refl _) _⟩
      case measure => simp [intOf]; omega
    · obtain rfl : k = la.length := by omega
      clear eg
      go_wp2
      go_ret
      refine ⟨some ⟨w.heap.size, 0, none⟩, la.length, by rw [HZ.out]; rfl, ?_, hB⟩
      exact OwnI.of_row (B := w.heap.size) hrow HZ.out (fun j hj => madeI_all _ _ (by rw [HZ.out]; exact Nat.le_refl _) j hj) (Nat.le_refl _)
end Go.Proofs.Ytjpiiidjocilcaa
