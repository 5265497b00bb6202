/- A field's box in memory; the model's IsValidField. -/
import Derived.Test.YtdgbhogbapbbgaaGood
import Derived.Deep.RegionHeld3
import Derived.Deep.RegionWith
namespace Go.Proofs.Ytdgbhogbapbbgaa
open Go.RowKit
set_option linter.unusedVariables false
set_option linter.unusedSimpArgs false
/-- block b is a struct of three cells -/
def Box (w : World) (b : Nat) (t : TypeId) (v0 v1 v2 : Value) : Prop := w.heap[b]? = some (.cells #[v0, v1, v2] t (0, 0))
section
variable {w w' : World} {b : Nat} {t : TypeId} {v0 v1 v2 : Value}
theorem Box.lt (h : Box w b t v0 v1 v2) : b < w.heap.size := (Array.getElem?_eq_some_iff.1 h).1
theorem Box.cells (h : Box w b t v0 v1 v2) : w.cell? ⟨b, 0, none⟩ = some v0 ∧ w.cell? ⟨b, 1, none⟩ = some v1 ∧ w.cell? ⟨b, 2, none⟩ = some v2 := by
  unfold Box at h
  refine ⟨?_, ?_, ?_⟩ <;> simp [World.cell?, h]
theorem Box.new (w : World) (t : TypeId) (v0 v1 v2 : Value) : Box (w.alloc (.cells #[v0, v1, v2] t)) w.heap.size t v0 v1 v2 := heap_alloc_new w _
theorem Box.below (h : Box w b t v0 v1 v2) (hb : Below w.heap.size w w') : Box w' b t v0 v1 v2 := (hb.block b h.lt).trans h
theorem Box.alloc (h : Box w b t v0 v1 v2) (o : Obj) : Box (w.alloc o) b t v0 v1 v2 := (Below.heap_alloc w o b h.lt).trans h
theorem Box.turn {g : Nat} (h : Box w b t v0 v1 v2) (o : w.grownBy w' (some g)) (hne : b ≠ g) : Box w' b t v0 v1 v2 := (o.block b h.lt (by intro e; injection e with e; exact hne e)).trans h
end
theorem ints_alloc {k : IntKind} {w : World} {a : Option Addr} {l : List Int} (h : Ints k w w.heap.size a l) (o : Obj) : Ints k (w.alloc o) (w.alloc o).heap.size a l :=
  (h.below ((Below.refl _ _).alloc (Nat.le_refl _) o) (Nat.le_refl _)).more (by simp)
theorem ints_below {k : IntKind} {w w' : World} {a : Option Addr} {l : List Int} (h : Ints k w w.heap.size a l) (hb : Below w.heap.size w w') : Ints k w' w'.heap.size a l :=
  (h.below hb (Nat.le_refl _)).more hb.size
theorem below_all (w : World) (o : Obj) : Below w.heap.size w (w.alloc o) := (Below.refl _ _).alloc (Nat.le_refl _) o
theorem below_then {a b c : World} (h : Below a.heap.size a b) (k : Below b.heap.size b c) : Below a.heap.size a c := h.trans (k.mono h.size)

set_option maxHeartbeats 400000 in
theorem specValid_is (wd hg : Int) (a : Option Addr) (l : List Int) (c : Nat) (v : Bool) (w : World) (hl : Ints .i64 w w.heap.size a l) (hn : l.length ≤ 1048576) (h : goodB wd hg l = v) :
    Calls Try.prog 38 #[.agg #[.int .i64 wd, .int .i64 hg, .slice a l.length c]] w fun e w' => e = .returned (.bool v) ∧ Below w.heap.size w w' := by
  have HC := Lib.hid (fun o => specGood_is wd hg a l c _ v (w.alloc o) (ints_alloc hl o) (Nat.le_refl _) hn h)
  clear hl h
  go_enter Try.func38, Try.ntmps38
  go_wp2_with (go_at_call 63; refine (HC.out _).mono ?_; rintro e w1 ⟨rfl, b⟩; have HB := Lib.hid b; clear b)
  go_ret
  exact ⟨rfl, below_then (below_all _ _) HB.out⟩

/-- what a law knows of a later world: the argument reads as ever, and lies in the law's own box -/
def Lw (w : World) (wd hg : Int) (a : Option Addr) (l : List Int) (c : Nat) (w' : World) : Prop :=
  Below w.heap.size w w' ∧ Ints .i64 w' w'.heap.size a l ∧ Box w' w.heap.size 51 (.int .i64 wd) (.int .i64 hg) (.slice a l.length c)
section
variable {w w1 w2 : World} {wd hg : Int} {a : Option Addr} {l : List Int} {c : Nat}
theorem Lw.new (hl : Ints .i64 w w.heap.size a l) : Lw w wd hg a l c (w.alloc (.cells #[.int .i64 wd, .int .i64 hg, .slice a l.length c] 51)) :=
  ⟨below_all _ _, ints_alloc hl _, Box.new _ _ _ _ _⟩
theorem Lw.step (h : Lw w wd hg a l c w1) (hb : Below w1.heap.size w1 w2) : Lw w wd hg a l c w2 :=
  ⟨below_then h.1 hb, ints_below h.2.1 hb, h.2.2.below hb⟩
theorem Lw.turn {g : Nat} (h : Lw w wd hg a l c w1) (o : w1.grownBy w2 (some g)) (hlt : w.heap.size < g) (ha : Ints .i64 w w.heap.size a l) : Lw w wd hg a l c w2 := by
  have hb : Below w.heap.size w w2 := below_turn h.1 o h.1.size (by omega)
  exact ⟨hb, (ha.below hb (Nat.le_refl _)).more hb.size, h.2.2.turn o (by omega)⟩
end

set_option maxRecDepth 100000 in
set_option maxHeartbeats 1000000 in
theorem valid_walk (wd hg : Int) (a : Option Addr) (l : List Int) (c : Nat) (w : World) (hl : Ints .i64 w w.heap.size a l) (hm : l.length ≤ maxLen) :
    Calls Try.prog 6 #[.agg #[.int .i64 wd, .int .i64 hg, .slice a l.length c]] w fun e w' => e = .returned (.bool true) ∧ Below w.heap.size w w' := by
  have HZ := Lib.hid (fun o => szField_any wd hg a l.length c 1048576 (w.alloc o) hm (by omega) (by omega))
  unfold maxLen at hm
  by_cases hn : (l.length : Int) ≤ 1048576
  · have hn1 : l.length ≤ 1048576 := by omega
    rw [if_pos hn] at HZ
    have L0 := Lib.hid (Lw.new (wd := wd) (hg := hg) (c := c) hl)
    have HV := Lib.hid (fun b W h => specValid_is wd hg (some ⟨b, 0, none⟩) l l.length (goodB wd hg l) W h hn1 rfl)
    have HI := Lib.hid (fun b W h => implGood_is wd hg (some ⟨b, 0, none⟩) l l.length _ (goodB wd hg l) W h (Nat.le_refl _) hn1 rfl)
    generalize goodB wd hg l = v at *
    clear hl
    go_enter Try.func6, Try.ntmps6
    go_wp2_with fail
    refine (HZ.out _).mono ?_
    rintro e w1 ⟨rfl, b1⟩
    have L1 := Lib.hid (L0.out.step b1)
    obtain ⟨k0, k1, k2⟩ := L1.out.2.2.cells
    clear b1 HZ L0
    go_wp2_with fail
    refine (toField_any wd hg a l c _ L1.out.2.1 hn1).mono ?_
    rintro e w2 ⟨g2, hg2, hz2, rfl, at2, b2⟩
    have A2 := Lib.hid at2
    have L2 := Lib.hid (L1.out.step b2)
    clear at2 b2 L1 k0 k1 k2
    go_wp2_with fail
    refine (HV.out _ _ A2.out.ints).mono ?_
    rintro e w3 ⟨rfl, b3⟩
    have L3 := Lib.hid (L2.out.step b3)
    obtain ⟨k0, k1, k2⟩ := L3.out.2.2.cells
    clear b3 L2 A2
    go_wp2_with fail
    refine (toField_any wd hg a l c _ L3.out.2.1 hn1).mono ?_
    rintro e w4 ⟨g4, hg4, hz4, rfl, at4, b4⟩
    have A4 := Lib.hid (at4.alloc (.cells #[.int .i64 wd, .int .i64 hg, .slice (some ⟨g4, 0, none⟩) l.length l.length] 36))
    have L4 := Lib.hid (((L3.out.step b4).step (below_all w4 (.cells #[.int .i64 wd, .int .i64 hg, .slice (some ⟨g4, 0, none⟩) l.length l.length] 36))))
    have X4 := Lib.hid (Box.new w4 36 (.int .i64 wd) (.int .i64 hg) (.slice (some ⟨g4, 0, none⟩) l.length l.length))
    clear at4 b4 L3 k0 k1 k2
    go_wp2_with fail
    refine (HI.out _ _ A4.out.ints).mono ?_
    rintro e w5 ⟨rfl, b5⟩
    have A5 := Lib.hid (A4.out.below b5)
    have L5 := Lib.hid (L4.out.step b5)
    have X5 := Lib.hid (X4.out.below b5)
    clear b5 L4 A4 X4
    cases v <;> go_wp2_with fail
    all_goals
      obtain ⟨k0, k1, k2⟩ := L5.out.2.2.cells
      obtain ⟨q0, q1, q2⟩ := X5.out.cells
      have L6 := Lib.hid (L5.out.step (w2 := w5.drew) ⟨rfl, rfl, rfl, Nat.le_refl _, fun _ _ => rfl⟩)
      have A6 := Lib.hid (A5.out.below (w' := w5.drew) ⟨rfl, rfl, rfl, Nat.le_refl _, fun _ _ => rfl⟩)
      have X6 := Lib.hid (X5.out.below (w' := w5.drew) ⟨rfl, rfl, rfl, Nat.le_refl _, fun _ _ => rfl⟩)
      clear L5 A5 X5
      go_region_held3 (fun w' => (w'.cell? ⟨w.heap.size, 0, none⟩ = some (.int .i64 wd) ∧ w'.cell? ⟨w.heap.size, 1, none⟩ = some (.int .i64 hg) ∧ w'.cell? ⟨w.heap.size, 2, none⟩ = some (.slice a l.length c)) ∧
          (w'.cell? ⟨w4.heap.size, 0, none⟩ = some (.int .i64 wd) ∧ w'.cell? ⟨w4.heap.size, 1, none⟩ = some (.int .i64 hg) ∧ w'.cell? ⟨w4.heap.size, 2, none⟩ = some (.slice (some ⟨g4, 0, none⟩) l.length l.length)))
        (first | exact ⟨L8.out.2.2.cells, X8.out.cells⟩ | exact ⟨L7.out.2.2.cells, X7.out.cells⟩ | go_keep)
        (first
          | (go_at_call 39; refine (toField_any wd hg a l c _ L6.out.2.1 hn1).mono ?_; rintro e w7 ⟨g7, hg7, hz7, rfl, at7, b7⟩; have L7 := Lib.hid (L6.out.step b7); have X7 := Lib.hid (X6.out.below b7); have A7 := Lib.hid (A6.out.below b7); have F7 := Lib.hid at7; clear at7 b7)
          | (go_at_call 40; refine (eqField_yes wd hg _ _ l _ _ _ A7.out.ints F7.out.ints hn1).mono ?_; rintro e w8 ⟨rfl, b8⟩; have L8 := Lib.hid (L7.out.step b8); have X8 := Lib.hid (X7.out.below b8); clear b8))
      go_wp2
      go_ret
      exact ⟨rfl, L8.out.1⟩
  · rw [if_neg hn] at HZ
    clear hl
    go_enter Try.func6, Try.ntmps6
    go_wp2_with (go_at_call 37; refine (HZ.out _).mono ?_; rintro e w1 ⟨rfl, b⟩; have HB := Lib.hid b; clear b)
    go_ret
    exact ⟨rfl, below_then (below_all _ _) HB.out⟩
end Go.Proofs.Ytdgbhogbapbbgaa
