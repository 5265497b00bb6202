/- The program's DifferentCells. -/
import Derived.Test.YtglpkfkbbjbjjaaComb
import Derived.IntWalk
namespace Go.Proofs.Ytglpkfkbbjbjjaa
open Go.RowKit
set_option linter.unusedVariables false
set_option linter.unusedSimpArgs false
theorem infoBool : (Try.prog.info? 4).map (fun i => (i.zero, i.size, i.bytes)) = some (some (.bool false), 1, 1) := by kernel_rfl
/-- in which places two lists part -/
def difL (a b : List Int) : List Bool := List.zipWith (fun x y => decide (x ≠ y)) a b
theorem difL_len {a b : List Int} (h : a.length = b.length) : (difL a b).length = a.length := by unfold difL; rw [List.length_zipWith]; omega
theorem difL_get {a b : List Int} (k : Nat) (h : k < (difL a b).length) (h1 : k < a.length) (h2 : k < b.length) : (difL a b)[k] = (a[k] != b[k]) := by
  have e : (difL a b)[k] = decide (a[k] ≠ b[k]) := List.getElem_zipWith ..
  rw [e]
  by_cases h : a[k] = b[k] <;> simp [h]
def madeB (L : List Bool) (k j : Nat) : Value := .bool (if j < k then L.getD j false else false)
theorem madeB_step (L : List Bool) (k : Nat) (v : Bool) (h : k < L.length) (e : v = L[k]) (j : Nat) : (if j = k then Value.bool v else madeB L k j) = madeB L (k + 1) j := by
  subst e
  unfold madeB
  by_cases e : j = k
  · subst e; simp [h]
  · rw [if_neg e]
    by_cases e2 : j < k
    · rw [if_pos e2, if_pos (by omega)]
    · rw [if_neg e2, if_neg (by omega)]
def BoolsPost (L : List Bool) (w : World) (e : Ending) (w' : World) : Prop := ∃ g, w.heap.size ≤ g ∧ e = .returned (.slice (some ⟨g, 0, none⟩) L.length L.length) ∧ w'.rowIs g 4 L.length (madeB L L.length) ∧ Below w.heap.size w w'
set_option maxRecDepth 100000 in
set_option maxHeartbeats 4000000 in
theorem pairB_any (a b : Option Addr) (la lb : List Int) (ca cb g : Nat) (w : World) (ha : Ints .i64 w w.heap.size a la) (hb : Ints .i64 w w.heap.size b lb) (hl : la.length = lb.length) (hn : la.length ≤ 1048576)
    (eg : Entered g) (hr : ∀ (W : World) (x y : Int), Calls Try.prog g #[.int .i64 x, .int .i64 y] W fun e w' => e = .returned (.bool (x != y)) ∧ W = w') :
    Calls Try.prog 70 #[.slice a la.length ca, .slice b lb.length cb, .func (.func g) #[] #[]] w (BoolsPost (difL la lb) w) := by
  have HA := Lib.hid ha
  have HB := Lib.hid hb
  have HL := Lib.hid hl
  have HR := Lib.hid hr
  have HZ := Lib.hid (difL_len hl)
  unfold Entered at eg
  clear ha hb hl hr
  have hmk := fun W => run_make_row' (P := Try.prog) 81 4 (.bool false) 1 Try.underlying81 infoBool rfl .i64 .i64 la.length (by omega) (by omega) W
  go_enter Try.func70, Try.ntmps70
  go_wp2
  clear hmk
  go_loopw [14] (fun i wr => ∃ k : Nat, k ≤ la.length ∧ i = .int .i64 k ∧ wr.rowIs w.heap.size 4 la.length (madeB (difL la lb) k) ∧ Below w.heap.size w wr) (fun i _ => la.length - (intOf i).toNat)
  case atStart => exact ⟨0, Nat.zero_le _, rfl, (World.rowIs_made w (.bool false) la.length 4).congr (fun i _ => by simp [madeB]), (Below.refl _ _).alloc (Nat.le_refl _) _⟩
  case round =>
    obtain ⟨k, hk, rfl, hrow, hB⟩ := hrel
    by_cases hlt : k < la.length
    · have hlb : k < lb.length := by have := HL.out; omega
      obtain ⟨b1, o1, rfl, hb1, hc1⟩ := (HA.out.below hB (Nat.le_refl _)).at_ hlt
      obtain ⟨b2, o2, rfl, hb2, hc2⟩ := (HB.out.below hB (Nat.le_refl _)).at_ hlb
      have HV := Lib.hid (difL_get k (by rw [HZ.out]; exact hlt) hlt hlb)
      have HROW := Lib.hid hrow
      have HBW := Lib.hid hB
      have hi : (k : Int) < (la.length : Int) := by omega
      have hi2 : (k : Int) < (lb.length : Int) := by omega
      have hi0 : (0 : Int) ≤ (k : Int) := by omega
      generalize la[k] = x at *
      generalize lb[k] = y at *
      clear hrow hB
      go_wp2
      have bd : Below wr.heap.size wr wr.drew := ⟨rfl, rfl, rfl, Nat.le_refl _, fun _ _ => rfl⟩
      have HRd : Hid (wr.drew.rowIs w.heap.size 4 la.length (madeB (difL la lb) k)) := HROW
      have HBd := Lib.hid (HBW.out.trans (bd.mono HBW.out.size))
      have HC : Hid (wr.drew.cell? ⟨b1, o1 + k, none⟩ = some (.int .i64 x) ∧ wr.drew.cell? ⟨b2, o2 + k, none⟩ = some (.int .i64 y)) := Lib.hid ⟨hc1, hc2⟩
      have hn1 : b1 ≠ w.heap.size := by omega
      have hn2 : b2 ≠ w.heap.size := by omega
      have hb1' : b1 < wr.drew.heap.size := Nat.lt_of_lt_of_le hb1 HBd.out.size
      have hb2' : b2 < wr.drew.heap.size := Nat.lt_of_lt_of_le hb2 HBd.out.size
      clear bd HROW HBW
      go_region_held3 (fun w' => w'.cell? ⟨b1, o1 + k, none⟩ = some (.int .i64 x) ∧ w'.cell? ⟨b2, o2 + k, none⟩ = some (.int .i64 y))
        (first | exact C1.out | exact ⟨cell_other C1.out.1 hn1, cell_other C1.out.2 hn2⟩ | go_keep)
        (first | (go_at_fn g; refine (HR.out _ x y).mono ?_; rintro e w1 ⟨rfl, rfl⟩; have C1 := Lib.hid HC.out; have R1 := Lib.hid HRd.out; have B1 := Lib.hid HBd.out; have hg1 := R1.out.cell hlt; have hf1 := R1.out.frozen k))
      rename_i hHeld
      clear hHeld hc1 hc2 hg1 hf1 eg
      go_wp2
      go_roundw
      case rel => exact ⟨k + 1, by omega, by go_num, (R1.out.set k _).congr (fun j _ => madeB_step (difL la lb) k (x != y) (by rw [HZ.out]; exact hlt) HV.out.symm j), B1.out.setCell (p := ⟨w.heap.size, k, none⟩) (Nat.le_refl _) _⟩
      case measure => simp [intOf]; omega
    · obtain rfl : k = la.length := by omega
      clear eg
      go_wp2
      go_ret
      exact ⟨w.heap.size, Nat.le_refl _, by rw [HZ.out]; rfl, by rw [HZ.out]; exact hrow, hB⟩

theorem difC_is (x y : Int) (w : World) : Calls Try.prog 71 #[.int .i64 x, .int .i64 y] w fun e w' => e = .returned (.bool (x != y)) ∧ w = w' := by
  go_enter Try.func71, Try.ntmps71
  go_wp2
  go_ret
  exact ⟨rfl, rfl⟩
theorem ent_dif : Entered 71 := enters_of Try.func71 (by kernel_rfl) rfl
end Go.Proofs.Ytglpkfkbbjbjjaa
