/- The draws of FnTotals: DrawFieldRange, DrawSubField. -/
import Derived.Test.YtglpkfkbbjbjjaaLike
namespace Go.Proofs.Ytglpkfkbbjbjjaa
open Go.RowKit
set_option linter.unusedVariables false
set_option linter.unusedSimpArgs false
/-- behind a step that turned a block of the call's own -/
theorem below_grown {w w1 w2 : World} {g : Nat} (h : Below w.heap.size w w1) (t : w1.grownBy w2 (some g)) (hg : w.heap.size ≤ g) : Below w.heap.size w w2 := h.grown t h.size (fun j e => by injection e with e; omega)
set_option maxRecDepth 100000 in
set_option maxHeartbeats 4000000 in
theorem drawRange_any (w : World) (a : Option Addr) (l : List Int) (c : Nat) (hi : Ints .u8 w w.heap.size a l) (hb : ∀ z ∈ l, 0 ≤ z ∧ z ≤ 255) (hl : l.length ≤ 1048576) :
    Calls Try.prog 7 #[.slice a l.length c] w fun e w' => ∃ (wd hg : Int) (L : List Int) (a1 : Option Addr) (c1 : Nat), L.length ≤ 64 ∧ e = .returned (.agg #[.int .i64 wd, .int .i64 hg, .slice a1 L.length c1]) ∧ Own2 w' w.heap.size a1 L ∧ Below w.heap.size w w' := by
  have i1 := ints_alloc hi (.cells #[.int .i64 0, .int .i64 0, .slice none 0 0] 26)
  have hcn := cur_new (w.alloc (.cells #[.int .i64 0, .int .i64 0, .slice none 0 0] 26)) a l c i1 hb hl
  rw [World.size_alloc] at hcn
  obtain ⟨W0, hW0⟩ : ∃ W, (w.alloc (.cells #[.int .i64 0, .int .i64 0, .slice none 0 0] 26)).alloc (.cells #[.slice a l.length c, .int .i64 0, .int .u64 0] 56) = W := ⟨_, rfl⟩
  rw [hW0] at hcn
  have C0 := Lib.hid hcn
  have R0 := Lib.hid (show Box W0 w.heap.size 26 (.int .i64 0) (.int .i64 0) (.slice none 0 0) by rw [← hW0]; exact (Box.new w _ _ _ _).alloc _)
  have B0 := Lib.hid (show Below w.heap.size w W0 by rw [← hW0]; exact ((below_all w _).alloc (by simp) _))
  clear hi hb hcn i1
  go_enter Try.func7, Try.ntmps7
  go_wp2_with fail
  refine (anyField_any W0 (w.heap.size + 1) a l c 0 (by omega) C0.out).mono ?_
  rintro e w1 ⟨wd, hg, L, a1, c1, ⟨m1, m2, m3, m4, m5, m6⟩, rfl, o1, hc, ho⟩
  have hz0 := C0.out.lt
  have hs1 := ho.size
  have R1 := Lib.hid ((R0.out.turn ho (by omega)).alloc (.cells #[.int .i64 wd, .int .i64 hg, .slice (some a1) L.length c1] 26))
  have B1 := Lib.hid ((below_grown B0.out ho (by omega)).alloc (below_grown B0.out ho (by omega)).size (.cells #[.int .i64 wd, .int .i64 hg, .slice (some a1) L.length c1] 26))
  have C1 := Lib.hid (hc.alloc (.cells #[.int .i64 wd, .int .i64 hg, .slice (some a1) L.length c1] 26))
  have O1 := Lib.hid (o1.below (below_all w1 (.cells #[.int .i64 wd, .int .i64 hg, .slice (some a1) L.length c1] 26)))
  have X1 := Box.new w1 26 (.int .i64 wd) (.int .i64 hg) (.slice (some a1) L.length c1)
  obtain ⟨fb, hfb⟩ : ∃ q, w1.heap.size = q := ⟨_, rfl⟩
  obtain ⟨W1, hW1⟩ : ∃ W, w1.alloc (.cells #[.int .i64 wd, .int .i64 hg, .slice (some a1) L.length c1] 26) = W := ⟨_, rfl⟩
  rw [hW1] at R1 B1 C1 O1 X1
  rw [hfb] at X1
  have HX1 := Lib.hid X1
  clear hc ho o1 X1 R0 B0 C0
  go_wp2_with fail
  refine (one_any W1 (w.heap.size + 1) a l c _ 12 (by omega) (by omega) (by omega) C1.out).mono ?_
  rintro e w2 ⟨v, ⟨b, rfl⟩, rfl, hc, ho⟩
  have R2 := Lib.hid (R1.out.turn ho.1 (by omega))
  have X2 := Lib.hid (HX1.out.turn ho.1 (by omega))
  have B2 := Lib.hid (below_grown B1.out ho.1 (by omega))
  have O2 := Lib.hid (O1.out.turn ho.1 (by omega))
  clear hc ho R1 B1 C1 O1 HX1
  obtain ⟨t0, t1, t2⟩ := R2.out.cells
  have g0 := R2.out.frozen 0
  have g1 := R2.out.frozen 1
  have g2 := R2.out.frozen 2
  obtain ⟨q0, q1, q2⟩ := X2.out.cells
  cases b with
  | false =>
    go_wp2
    refine bodyPost_ret (v := .agg #[.int .i64 wd, .int .i64 hg, .slice (some a1) L.length c1]) (by simp [results, Try.results7, go_sem, t0, t1, t2]) rfl ⟨wd, hg, L, some a1, c1, m1, rfl, ?_, ?_⟩
    · exact (((O2.out.set (by omega) _).set (by omega) _).set (by omega) _).more (by omega)
    · exact ((B2.out.setCell (Nat.le_refl _) _).setCell (Nat.le_refl _) _).setCell (Nat.le_refl _) _
  | true =>
    go_wp2_with fail
    refine (fill_room 2 2 (-9999) w2 rfl).mono ?_
    rintro e w3 ⟨a3, c3, rfl, hc3, o3, b3⟩
    have R3 := Lib.hid (R2.out.below b3)
    have B3 := Lib.hid (below_then B2.out b3)
    have O3 := Lib.hid o3
    have hz2 := R2.out.lt
    clear o3 b3 t0 t1 t2 g0 g1 g2
    obtain ⟨t0, t1, t2⟩ := R3.out.cells
    have g0 := R3.out.frozen 0
    have g1 := R3.out.frozen 1
    have g2 := R3.out.frozen 2
    go_wp2
    refine bodyPost_ret (v := .agg #[.int .i64 2, .int .i64 2, .slice a3 4 c3]) (by simp [results, Try.results7, go_sem, t0, t1, t2]) rfl ⟨2, 2, List.replicate ((2 : Int) * 2).toNat (-9999), a3, c3, by simp, rfl, ?_, ?_⟩
    · exact ((((Own2.of_own O3.out).set (by omega) _).set (by omega) _).set (by omega) _).more (by omega)
    · exact ((B3.out.setCell (Nat.le_refl _) _).setCell (Nat.le_refl _) _).setCell (Nat.le_refl _) _

set_option maxRecDepth 100000 in
set_option maxHeartbeats 4000000 in
theorem drawSub_any (w : World) (a : Option Addr) (l : List Int) (c : Nat) (hi : Ints .u8 w w.heap.size a l) (hb : ∀ z ∈ l, 0 ≤ z ∧ z ≤ 255) (hl : l.length ≤ 1048576) :
    Calls Try.prog 13 #[.slice a l.length c] w fun e w' => ∃ (wd hg : Int) (L : List Int) (a1 : Option Addr) (c1 : Nat) (x y p q : Int), (L.length ≤ 64 ∧ L.length ≤ c1 ∧ -2 ≤ x ∧ x ≤ 4 ∧ 0 ≤ y ∧ y ≤ 4 ∧ 0 ≤ p ∧ p ≤ 4 ∧ 0 ≤ q ∧ q ≤ 4) ∧ e = .returned (.tuple #[.agg #[.int .i64 wd, .int .i64 hg, .slice a1 L.length c1], .int .i64 x, .int .i64 y, .int .i64 p, .int .i64 q]) ∧ Own2 w' w.heap.size a1 L ∧ Below w.heap.size w w' := by
  have i1 := ints_alloc hi (.cells #[.int .i64 0, .int .i64 0, .slice none 0 0] 26)
  have hcn := cur_new (w.alloc (.cells #[.int .i64 0, .int .i64 0, .slice none 0 0] 26)) a l c i1 hb hl
  rw [World.size_alloc] at hcn
  obtain ⟨W0, hW0⟩ : ∃ W, (w.alloc (.cells #[.int .i64 0, .int .i64 0, .slice none 0 0] 26)).alloc (.cells #[.slice a l.length c, .int .i64 0, .int .u64 0] 56) = W := ⟨_, rfl⟩
  rw [hW0] at hcn
  have C0 := Lib.hid hcn
  have R0 := Lib.hid (show Box W0 w.heap.size 26 (.int .i64 0) (.int .i64 0) (.slice none 0 0) by rw [← hW0]; exact (Box.new w _ _ _ _).alloc _)
  have B0 := Lib.hid (show Below w.heap.size w W0 by rw [← hW0]; exact ((below_all w _).alloc (by simp) _))
  clear hi hb hcn i1
  go_enter Try.func13, Try.ntmps13
  go_wp2_with fail
  refine (anyField_any W0 (w.heap.size + 1) a l c 0 (by omega) C0.out).mono ?_
  rintro e w1 ⟨wd, hg, L, a1, c1, ⟨m1, m2, m3, m4, m5, m6⟩, rfl, o1, hc, ho⟩
  have hz0 := C0.out.lt
  have R1 := Lib.hid (R0.out.turn ho (by omega))
  have B1 := Lib.hid (below_grown B0.out ho (by omega))
  have C1 := Lib.hid hc
  have O1 := Lib.hid o1
  clear hc ho o1 R0 B0 C0
  go_wp2_with fail
  refine (pick_any w1 (w.heap.size + 1) a l c _ 4 (by omega) (by omega) (by omega) C1.out).mono ?_
  rintro e w2 ⟨v, ⟨r2, hr2, rfl⟩, rfl, hc, ho⟩
  have R2 := Lib.hid (R1.out.turn ho.1 (by omega))
  have B2 := Lib.hid (below_grown B1.out ho.1 (by omega))
  have C2 := Lib.hid hc
  have O2 := Lib.hid (O1.out.turn ho.1 (by omega))
  clear hc ho R1 B1 C1 O1
  go_wp2_with fail
  refine (pick_any w2 (w.heap.size + 1) a l c _ 9 (by omega) (by omega) (by omega) C2.out).mono ?_
  rintro e w3 ⟨v, ⟨r3, hr3, rfl⟩, rfl, hc, ho⟩
  have R3 := Lib.hid (R2.out.turn ho.1 (by omega))
  have B3 := Lib.hid (below_grown B2.out ho.1 (by omega))
  have C3 := Lib.hid hc
  have O3 := Lib.hid (O2.out.turn ho.1 (by omega))
  clear hc ho R2 B2 C2 O2
  go_wp2_with fail
  refine (pick_any w3 (w.heap.size + 1) a l c _ 4 (by omega) (by omega) (by omega) C3.out).mono ?_
  rintro e w4 ⟨v, ⟨r4, hr4, rfl⟩, rfl, hc, ho⟩
  have R4 := Lib.hid (R3.out.turn ho.1 (by omega))
  have B4 := Lib.hid (below_grown B3.out ho.1 (by omega))
  have C4 := Lib.hid hc
  have O4 := Lib.hid (O3.out.turn ho.1 (by omega))
  clear hc ho R3 B3 C3 O3
  go_wp2_with fail
  refine (pick_any w4 (w.heap.size + 1) a l c _ 4 (by omega) (by omega) (by omega) C4.out).mono ?_
  rintro e w5 ⟨v, ⟨r5, hr5, rfl⟩, rfl, hc, ho⟩
  have R5 := Lib.hid (R4.out.turn ho.1 (by omega))
  have B5 := Lib.hid (below_grown B4.out ho.1 (by omega))
  have C5 := Lib.hid hc
  have O5 := Lib.hid (O4.out.turn ho.1 (by omega))
  clear hc ho R4 B4 C4 O4
  go_wp2_with fail
  refine (pick_any w5 (w.heap.size + 1) a l c _ 3 (by omega) (by omega) (by omega) C5.out).mono ?_
  rintro e w6 ⟨v, ⟨r6, hr6, rfl⟩, rfl, hc, ho⟩
  have R6 := Lib.hid (R5.out.turn ho.1 (by omega))
  have B6 := Lib.hid (below_grown B5.out ho.1 (by omega))
  have O6 := Lib.hid (O5.out.turn ho.1 (by omega))
  clear hc ho R5 B5 C5 O5
  obtain ⟨t0, t1, t2⟩ := R6.out.cells
  have g0 := R6.out.frozen 0
  have g1 := R6.out.frozen 1
  have g2 := R6.out.frozen 2
  go_wp2
  refine bodyPost_ret (v := .tuple #[.agg #[.int .i64 wd, .int .i64 hg, .slice (some a1) L.length c1], .int .i64 ((r2 : Int) - (r3 : Int) / 8), .int .i64 (r4 : Int), .int .i64 (r5 : Int), .int .i64 (1 + (r6 : Int))]) (by simp [results, Try.results13, go_sem, t0, t1, t2]) rfl ⟨wd, hg, L, some a1, c1, (r2 : Int) - (r3 : Int) / 8, (r4 : Int), (r5 : Int), 1 + (r6 : Int), ⟨m1, m2, by omega, by omega, by omega, by omega, by omega, by omega, by omega, by omega⟩, rfl, ?_, ?_⟩
  · exact (((O6.out.set (by omega) _).set (by omega) _).set (by omega) _).more (by omega)
  · exact ((B6.out.setCell (Nat.le_refl _) _).setCell (Nat.le_refl _) _).setCell (Nat.le_refl _) _
end Go.Proofs.Ytglpkfkbbjbjjaa
