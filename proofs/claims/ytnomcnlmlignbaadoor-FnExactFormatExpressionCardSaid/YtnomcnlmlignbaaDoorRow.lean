/- impl.unitRowOf: the table's row of a unit. -/
import Derived.Test.YtnomcnlmlignbaaDoorUnit
import Derived.Test.YtnomcnlmlignbaaDoorFlat
import Derived.Laws.Rows
import Derived.Deep.WholeRow
namespace Go.Proofs.YtnomcnlmlignbaaDoor
open Go.RowKit
set_option linter.unusedVariables false
set_option linter.unusedSimpArgs false
def unitTableCells : List Value :=
  [.int .i64 1, .int .i64 1, .string ⟨#[67]⟩, .int .i64 18, .int .i64 0,
   .int .i64 2, .int .i64 1, .string ⟨#[70]⟩, .int .i64 10, .int .i64 (-3200),
   .int .i64 3, .int .i64 1, .string ⟨#[75]⟩, .int .i64 18, .int .i64 (-49167),
   .int .i64 4, .int .i64 2, .string ⟨#[109, 47, 115]⟩, .int .i64 900, .int .i64 0,
   .int .i64 5, .int .i64 2, .string ⟨#[107, 116]⟩, .int .i64 463, .int .i64 0,
   .int .i64 6, .int .i64 2, .string ⟨#[107, 109, 47, 104]⟩, .int .i64 250, .int .i64 0,
   .int .i64 7, .int .i64 3, .string ⟨#[109, 109]⟩, .int .i64 5, .int .i64 0,
   .int .i64 8, .int .i64 3, .string ⟨#[105, 110]⟩, .int .i64 127, .int .i64 0]
theorem below_all (w : World) (o : Obj) : Below w.heap.size w (w.alloc o) := (Below.refl _ _).alloc (Nat.le_refl _) o
theorem below_then {a b c : World} (h : Below a.heap.size a b) (k : Below b.heap.size b c) : Below a.heap.size a c := h.trans (k.mono h.size)
/-- block b is a struct of five cells -/
def Box5 (w : World) (b : Nat) (t : TypeId) (v0 v1 v2 v3 v4 : Value) : Prop := w.heap[b]? = some (.cells #[v0, v1, v2, v3, v4] t (0, 0))
section
variable {w w' : World} {b : Nat} {t : TypeId} {v0 v1 v2 v3 v4 : Value}
theorem Box5.lt (h : Box5 w b t v0 v1 v2 v3 v4) : b < w.heap.size := (Array.getElem?_eq_some_iff.1 h).1
theorem Box5.cells (h : Box5 w b t v0 v1 v2 v3 v4) : w.cell? ⟨b, 0, none⟩ = some v0 ∧ w.cell? ⟨b, 1, none⟩ = some v1 ∧ w.cell? ⟨b, 2, none⟩ = some v2 ∧ w.cell? ⟨b, 3, none⟩ = some v3 ∧ w.cell? ⟨b, 4, none⟩ = some v4 := by
  unfold Box5 at h
  refine ⟨?_, ?_, ?_, ?_, ?_⟩ <;> simp [World.cell?, h]
theorem Box5.frozen (h : Box5 w b t v0 v1 v2 v3 v4) (j : Nat) : w.frozen? ⟨b, j, none⟩ = false := by
  unfold Box5 at h
  simp [World.frozen?, h]
theorem Box5.new (w : World) (t : TypeId) (v0 v1 v2 v3 v4 : Value) : Box5 (w.alloc (.cells #[v0, v1, v2, v3, v4] t)) w.heap.size t v0 v1 v2 v3 v4 := heap_alloc_new w _
theorem Box5.below (h : Box5 w b t v0 v1 v2 v3 v4) (hb : Below w.heap.size w w') : Box5 w' b t v0 v1 v2 v3 v4 := (hb.block b h.lt).trans h
theorem Box5.alloc (h : Box5 w b t v0 v1 v2 v3 v4) (o : Obj) : Box5 (w.alloc o) b t v0 v1 v2 v3 v4 := (Below.heap_alloc w o b h.lt).trans h
end
/-- the table lies in its variable -/
def UTab (w : World) : Prop := BlockIs w 0 unitTableCells.toArray
theorem UTab.below {w w' : World} (h : UTab w) (hb : Below w.heap.size w w') : UTab w' := BlockIs.below h hb
set_option maxRecDepth 100000 in
set_option maxHeartbeats 4000000 in
theorem rowOf_any (u : Int) (w : World) (ht : UTab w) :
    Calls Tryd.prog 78 #[.int .i64 u] w fun e w' => e = .returned (.tuple #[.agg #[.int .i64 (rowU u), .int .i64 (rowK u), .string (rowW u), .int .i64 (rowP u), .int .i64 (rowZ u)], .bool (unitB u)]) ∧ Below w.heap.size w w' := by
  obtain ⟨t0, hb0⟩ := ht.below ((Below.refl w.heap.size w).alloc (Nat.le_refl _) (.cells #[.int .i64 0, .int .i64 0, .string ⟨#[]⟩, .int .i64 0, .int .i64 0] 100))
  go_enter Tryd.func78, Tryd.ntmps78
  go_wp2_with (refine wpList_load_row rfl 106 (.global 0) rfl 0 rfl t0 unitTableCells.toArray (0, 0) _ hb0 Tryd.underlying106 rfl (by kernel_rfl) ?_)
  go_loopw [5, 7] (fun p i wr => ∃ k : Nat, k ≤ 8 ∧ i = .int .i64 k ∧ ¬ (1 ≤ u ∧ u ≤ (k : Int)) ∧ Box5 wr w.heap.size 100 (.int .i64 0) (.int .i64 0) (.string ⟨#[]⟩) (.int .i64 0) (.int .i64 0) ∧ Below w.heap.size w wr) (fun _ i _ => 8 - (intOf i).toNat)
  case atStart => exact ⟨0, Nat.zero_le _, rfl, by omega, Box5.new w _ _ _ _ _ _, below_all _ _⟩
  case round =>
    obtain ⟨k, hk, rfl, hno, hbox, hB⟩ := hrel
    have HX := Lib.hid hbox
    have hlt := hbox.lt
    have hne' : ¬ w.heap.size = wr.heap.size := by omega
    obtain ⟨c0, c1, c2, c3, c4⟩ := hbox.cells
    have f0 := hbox.frozen 0
    have f1 := hbox.frozen 1
    have f2 := hbox.frozen 2
    have f3 := hbox.frozen 3
    have f4 := hbox.frozen 4
    have HB := Lib.hid hB
    clear hbox hB
    have h9 : k = 0 ∨ k = 1 ∨ k = 2 ∨ k = 3 ∨ k = 4 ∨ k = 5 ∨ k = 6 ∨ k = 7 ∨ k = 8 := by omega
    rcases h9 with rfl | rfl | rfl | rfl | rfl | rfl | rfl | rfl | rfl
    · have HI : ∀ W : World, (Instr.index 106 (.agg unitTableCells.toArray) (.int .i64 0)).run Tryd.prog W = .ok (.agg #[.int .i64 1, .int .i64 1, .string ⟨#[67]⟩, .int .i64 18, .int .i64 0]) W := fun _ => by kernel_rfl
      by_cases hu : u = 1
      · subst hu
        have HB2 := Lib.hid (HB.out.alloc HB.out.size (.cells #[.int .i64 1, .int .i64 1, .string ⟨#[67]⟩, .int .i64 18, .int .i64 0] 100))
        go_wp2
        refine bodyPost_ret (v := .tuple #[.agg #[.int .i64 1, .int .i64 1, .string ⟨#[67]⟩, .int .i64 18, .int .i64 0], .bool true]) (by simp [results, Tryd.results78, go_sem, c0, c1, c2, c3, c4, hlt]) rfl ⟨rfl, ?_⟩
        exact (((((HB.out.setCell (Nat.le_refl _) _).setCell (Nat.le_refl _) _).setCell (Nat.le_refl _) _).setCell (Nat.le_refl _) _).setCell (Nat.le_refl _) _).alloc (by simpa using HB.out.size) _
      · have hne : ((1 : Int) == u) = false := by simp; omega
        go_wp2
        go_roundw
        case rel => exact ⟨1, by omega, rfl, by omega, HX.out.alloc _, HB.out.alloc HB.out.size _⟩
        case measure => decide
    · have HI : ∀ W : World, (Instr.index 106 (.agg unitTableCells.toArray) (.int .i64 1)).run Tryd.prog W = .ok (.agg #[.int .i64 2, .int .i64 1, .string ⟨#[70]⟩, .int .i64 10, .int .i64 (-3200)]) W := fun _ => by kernel_rfl
      by_cases hu : u = 2
      · subst hu
        have HB2 := Lib.hid (HB.out.alloc HB.out.size (.cells #[.int .i64 2, .int .i64 1, .string ⟨#[70]⟩, .int .i64 10, .int .i64 (-3200)] 100))
        go_wp2
        refine bodyPost_ret (v := .tuple #[.agg #[.int .i64 2, .int .i64 1, .string ⟨#[70]⟩, .int .i64 10, .int .i64 (-3200)], .bool true]) (by simp [results, Tryd.results78, go_sem, c0, c1, c2, c3, c4, hlt]) rfl ⟨rfl, ?_⟩
        exact (((((HB.out.setCell (Nat.le_refl _) _).setCell (Nat.le_refl _) _).setCell (Nat.le_refl _) _).setCell (Nat.le_refl _) _).setCell (Nat.le_refl _) _).alloc (by simpa using HB.out.size) _
      · have hne : ((2 : Int) == u) = false := by simp; omega
        go_wp2
        go_roundw
        case rel => exact ⟨2, by omega, rfl, by omega, HX.out.alloc _, HB.out.alloc HB.out.size _⟩
        case measure => decide
    · have HI : ∀ W : World, (Instr.index 106 (.agg unitTableCells.toArray) (.int .i64 2)).run Tryd.prog W = .ok (.agg #[.int .i64 3, .int .i64 1, .string ⟨#[75]⟩, .int .i64 18, .int .i64 (-49167)]) W := fun _ => by kernel_rfl
      by_cases hu : u = 3
      · subst hu
        have HB2 := Lib.hid (HB.out.alloc HB.out.size (.cells #[.int .i64 3, .int .i64 1, .string ⟨#[75]⟩, .int .i64 18, .int .i64 (-49167)] 100))
        go_wp2
        refine bodyPost_ret (v := .tuple #[.agg #[.int .i64 3, .int .i64 1, .string ⟨#[75]⟩, .int .i64 18, .int .i64 (-49167)], .bool true]) (by simp [results, Tryd.results78, go_sem, c0, c1, c2, c3, c4, hlt]) rfl ⟨rfl, ?_⟩
        exact (((((HB.out.setCell (Nat.le_refl _) _).setCell (Nat.le_refl _) _).setCell (Nat.le_refl _) _).setCell (Nat.le_refl _) _).setCell (Nat.le_refl _) _).alloc (by simpa using HB.out.size) _
      · have hne : ((3 : Int) == u) = false := by simp; omega
        go_wp2
        go_roundw
        case rel => exact ⟨3, by omega, rfl, by omega, HX.out.alloc _, HB.out.alloc HB.out.size _⟩
        case measure => decide
    · have HI : ∀ W : World, (Instr.index 106 (.agg unitTableCells.toArray) (.int .i64 3)).run Tryd.prog W = .ok (.agg #[.int .i64 4, .int .i64 2, .string ⟨#[109, 47, 115]⟩, .int .i64 900, .int .i64 0]) W := fun _ => by kernel_rfl
      by_cases hu : u = 4
      · subst hu
        have HB2 := Lib.hid (HB.out.alloc HB.out.size (.cells #[.int .i64 4, .int .i64 2, .string ⟨#[109, 47, 115]⟩, .int .i64 900, .int .i64 0] 100))
        go_wp2
        refine bodyPost_ret (v := .tuple #[.agg #[.int .i64 4, .int .i64 2, .string ⟨#[109, 47, 115]⟩, .int .i64 900, .int .i64 0], .bool true]) (by simp [results, Tryd.results78, go_sem, c0, c1, c2, c3, c4, hlt]) rfl ⟨rfl, ?_⟩
        exact (((((HB.out.setCell (Nat.le_refl _) _).setCell (Nat.le_refl _) _).setCell (Nat.le_refl _) _).setCell (Nat.le_refl _) _).setCell (Nat.le_refl _) _).alloc (by simpa using HB.out.size) _
      · have hne : ((4 : Int) == u) = false := by simp; omega
        go_wp2
        go_roundw
        case rel => exact ⟨4, by omega, rfl, by omega, HX.out.alloc _, HB.out.alloc HB.out.size _⟩
        case measure => decide
    · have HI : ∀ W : World, (Instr.index 106 (.agg unitTableCells.toArray) (.int .i64 4)).run Tryd.prog W = .ok (.agg #[.int .i64 5, .int .i64 2, .string ⟨#[107, 116]⟩, .int .i64 463, .int .i64 0]) W := fun _ => by kernel_rfl
      by_cases hu : u = 5
      · subst hu
        have HB2 := Lib.hid (HB.out.alloc HB.out.size (.cells #[.int .i64 5, .int .i64 2, .string ⟨#[107, 116]⟩, .int .i64 463, .int .i64 0] 100))
        go_wp2
        refine bodyPost_ret (v := .tuple #[.agg #[.int .i64 5, .int .i64 2, .string ⟨#[107, 116]⟩, .int .i64 463, .int .i64 0], .bool true]) (by simp [results, Tryd.results78, go_sem, c0, c1, c2, c3, c4, hlt]) rfl ⟨rfl, ?_⟩
        exact (((((HB.out.setCell (Nat.le_refl _) _).setCell (Nat.le_refl _) _).setCell (Nat.le_refl _) _).setCell (Nat.le_refl _) _).setCell (Nat.le_refl _) _).alloc (by simpa using HB.out.size) _
      · have hne : ((5 : Int) == u) = false := by simp; omega
        go_wp2
        go_roundw
        case rel => exact ⟨5, by omega, rfl, by omega, HX.out.alloc _, HB.out.alloc HB.out.size _⟩
        case measure => decide
    · have HI : ∀ W : World, (Instr.index 106 (.agg unitTableCells.toArray) (.int .i64 5)).run Tryd.prog W = .ok (.agg #[.int .i64 6, .int .i64 2, .string ⟨#[107, 109, 47, 104]⟩, .int .i64 250, .int .i64 0]) W := fun _ => by kernel_rfl
      by_cases hu : u = 6
      · subst hu
        have HB2 := Lib.hid (HB.out.alloc HB.out.size (.cells #[.int .i64 6, .int .i64 2, .string ⟨#[107, 109, 47, 104]⟩, .int .i64 250, .int .i64 0] 100))
        go_wp2
        refine bodyPost_ret (v := .tuple #[.agg #[.int .i64 6, .int .i64 2, .string ⟨#[107, 109, 47, 104]⟩, .int .i64 250, .int .i64 0], .bool true]) (by simp [results, Tryd.results78, go_sem, c0, c1, c2, c3, c4, hlt]) rfl ⟨rfl, ?_⟩
        exact (((((HB.out.setCell (Nat.le_refl _) _).setCell (Nat.le_refl _) _).setCell (Nat.le_refl _) _).setCell (Nat.le_refl _) _).setCell (Nat.le_refl _) _).alloc (by simpa using HB.out.size) _
      · have hne : ((6 : Int) == u) = false := by simp; omega
        go_wp2
        go_roundw
        case rel => exact ⟨6, by omega, rfl, by omega, HX.out.alloc _, HB.out.alloc HB.out.size _⟩
        case measure => decide
    · have HI : ∀ W : World, (Instr.index 106 (.agg unitTableCells.toArray) (.int .i64 6)).run Tryd.prog W = .ok (.agg #[.int .i64 7, .int .i64 3, .string ⟨#[109, 109]⟩, .int .i64 5, .int .i64 0]) W := fun _ => by kernel_rfl
      by_cases hu : u = 7
      · subst hu
        have HB2 := Lib.hid (HB.out.alloc HB.out.size (.cells #[.int .i64 7, .int .i64 3, .string ⟨#[109, 109]⟩, .int .i64 5, .int .i64 0] 100))
        go_wp2
        refine bodyPost_ret (v := .tuple #[.agg #[.int .i64 7, .int .i64 3, .string ⟨#[109, 109]⟩, .int .i64 5, .int .i64 0], .bool true]) (by simp [results, Tryd.results78, go_sem, c0, c1, c2, c3, c4, hlt]) rfl ⟨rfl, ?_⟩
        exact (((((HB.out.setCell (Nat.le_refl _) _).setCell (Nat.le_refl _) _).setCell (Nat.le_refl _) _).setCell (Nat.le_refl _) _).setCell (Nat.le_refl _) _).alloc (by simpa using HB.out.size) _
      · have hne : ((7 : Int) == u) = false := by simp; omega
        go_wp2
        go_roundw
        case rel => exact ⟨7, by omega, rfl, by omega, HX.out.alloc _, HB.out.alloc HB.out.size _⟩
        case measure => decide
    · have HI : ∀ W : World, (Instr.index 106 (.agg unitTableCells.toArray) (.int .i64 7)).run Tryd.prog W = .ok (.agg #[.int .i64 8, .int .i64 3, .string ⟨#[105, 110]⟩, .int .i64 127, .int .i64 0]) W := fun _ => by kernel_rfl
      by_cases hu : u = 8
      · subst hu
        have HB2 := Lib.hid (HB.out.alloc HB.out.size (.cells #[.int .i64 8, .int .i64 3, .string ⟨#[105, 110]⟩, .int .i64 127, .int .i64 0] 100))
        go_wp2
        refine bodyPost_ret (v := .tuple #[.agg #[.int .i64 8, .int .i64 3, .string ⟨#[105, 110]⟩, .int .i64 127, .int .i64 0], .bool true]) (by simp [results, Tryd.results78, go_sem, c0, c1, c2, c3, c4, hlt]) rfl ⟨rfl, ?_⟩
        exact (((((HB.out.setCell (Nat.le_refl _) _).setCell (Nat.le_refl _) _).setCell (Nat.le_refl _) _).setCell (Nat.le_refl _) _).setCell (Nat.le_refl _) _).alloc (by simpa using HB.out.size) _
      · have hne : ((8 : Int) == u) = false := by simp; omega
        go_wp2
        go_roundw
        case rel => exact ⟨8, by omega, rfl, by omega, HX.out.alloc _, HB.out.alloc HB.out.size _⟩
        case measure => decide
    · have hu : unitB u = false := decide_eq_false (by omega)
      have r0 : rowU u = 0 := if_neg (by rw [hu]; simp)
      have r1 : rowK u = 0 := if_neg (by rw [hu]; simp)
      have r2 : rowW u = ⟨#[]⟩ := if_neg (by rw [hu]; simp)
      have r3 : rowP u = 0 := if_neg (by rw [hu]; simp)
      have r4 : rowZ u = 0 := if_neg (by rw [hu]; simp)
      have R := Lib.hid (show Value.tuple #[.agg #[.int .i64 (rowU u), .int .i64 (rowK u), .string (rowW u), .int .i64 (rowP u), .int .i64 (rowZ u)], .bool (unitB u)] = .tuple #[.agg #[.int .i64 0, .int .i64 0, .string ⟨#[]⟩, .int .i64 0, .int .i64 0], .bool false] by rw [r0, r1, r2, r3, r4, hu])
      clear r0 r1 r2 r3 r4 hu
      go_wp2
      refine bodyPost_ret (v := .tuple #[.agg #[.int .i64 0, .int .i64 0, .string ⟨#[]⟩, .int .i64 0, .int .i64 0], .bool false]) (by simp [results, Tryd.results78, go_sem, c0, c1, c2, c3, c4, hlt]) rfl ⟨by rw [R.out], ?_⟩
      exact ((((HB.out.setCell (Nat.le_refl _) _).setCell (Nat.le_refl _) _).setCell (Nat.le_refl _) _).setCell (Nat.le_refl _) _).setCell (Nat.le_refl _) _
end Go.Proofs.YtnomcnlmlignbaaDoor
