/- The draws of FnAlgebra: DrawCombine, DrawScaleField. -/
import Derived.Test.YtglpkfkbbjbjjaaFieldDraws
import Derived.Deep.DeepCutAuto
import Derived.Deep.RegionHeld3
namespace Go.Proofs.Ytglpkfkbbjbjjaa
open Go.RowKit
set_option linter.unusedVariables false
set_option linter.unusedSimpArgs false
theorem lit_at {W : World} (L : List Int) {q : Nat} (h : W.heap.size = q) : ∀ k (hk : k < L.length), (W.alloc (.cells (L.map (Value.int .i64)).toArray 3)).cell? ⟨q, k, none⟩ = some (.int .i64 L[k]) := by
  subst h
  intro k hk
  exact lit_ints W L 3 k hk
set_option maxRecDepth 100000 in
set_option maxHeartbeats 4000000 in
theorem drawScale_any (w : World) (a : Option Addr) (l : List Int) (c : Nat) (hi : Ints .u8 w w.heap.size a l) (hb : ∀ z ∈ l, 0 ≤ z ∧ z ≤ 255) (hl : l.length ≤ 1048576) :
    Calls Try.prog 21 #[.slice a l.length c] w fun e w' => ∃ (wd hg : Int) (L : List Int) (a1 : Addr) (c1 : Nat) (x y : Int), L.length ≤ 64 ∧ e = .returned (.tuple #[.agg #[.int .i64 wd, .int .i64 hg, .slice (some a1) L.length c1], .int .i64 x, .int .i64 y]) ∧ Own2 w' w.heap.size (some a1) L ∧ Below w.heap.size w w' := by
  have i1 := ints_alloc hi (.cells #[.int .i64 0, .int .i64 0, .slice none 0 0] 26)
  have hcn := cur_new (w.alloc (.cells #[.int .i64 0, .int .i64 0, .slice none 0 0] 26)) a l c i1 hb hl
  rw [World.size_alloc] at hcn
  obtain ⟨W0, hW0⟩ : ∃ W, (w.alloc (.cells #[.int .i64 0, .int .i64 0, .slice none 0 0] 26)).alloc (.cells #[.slice a l.length c, .int .i64 0, .int .u64 0] 56) = W := ⟨_, rfl⟩
  rw [hW0] at hcn
  have C0 := Lib.hid hcn
  have R0 := Lib.hid (show Box W0 w.heap.size 26 (.int .i64 0) (.int .i64 0) (.slice none 0 0) by rw [← hW0]; exact (Box.new w _ _ _ _).alloc _)
  have B0 := Lib.hid (show Below w.heap.size w W0 by rw [← hW0]; exact ((below_all w _).alloc (by simp) _))
  clear hi hb hcn i1
  go_enter Try.func21, Try.ntmps21
  go_wp2_with fail
  refine (anyField_any W0 (w.heap.size + 1) a l c 0 (by omega) C0.out).mono ?_
  rintro e w1 ⟨wd, hg, L, a1, c1, ⟨m1, m2, m3, m4, m5, m6⟩, rfl, o1, hc, ho⟩
  have hz0 := C0.out.lt
  have R1 := Lib.hid (R0.out.turn ho (by omega))
  have B1 := Lib.hid (below_grown B0.out ho (by omega))
  have C1 := Lib.hid hc
  have O1 := Lib.hid o1
  clear hc ho o1 R0 B0 C0
  go_wp2_with fail
  refine (among_any _ (w.heap.size + 1) a l c _ w1.heap.size 8 [1, 2, -3, 7, 0, 100, -100, 101] (by omega) rfl (by omega) (by omega) (C1.out.alloc _) (by have := C1.out.lt; omega) (by rw [World.size_alloc]; omega) (lit_at _ rfl) 8).mono ?_
  rintro e w2 ⟨v, ⟨x, hx, rfl⟩, rfl, hc, ho⟩
  have R2 := Lib.hid ((R1.out.alloc (.cells ([1, 2, -3, 7, 0, 100, -100, 101].map (Value.int .i64)).toArray 3)).turn ho.1 (by omega))
  have B2 := Lib.hid (below_grown (below_then B1.out (below_all w1 (.cells ([1, 2, -3, 7, 0, 100, -100, 101].map (Value.int .i64)).toArray 3))) ho.1 (by omega))
  have C2 := Lib.hid hc
  have O2 := Lib.hid ((O1.out.below (below_all w1 (.cells ([1, 2, -3, 7, 0, 100, -100, 101].map (Value.int .i64)).toArray 3))).turn ho.1 (by omega))
  clear hc ho R1 B1 C1 O1 hx
  go_wp2_with fail
  refine (among_any _ (w.heap.size + 1) a l c _ w2.heap.size 7 [1, 2, 3, 10, 100, 0, 101] (by omega) rfl (by omega) (by omega) (C2.out.alloc _) (by have := C2.out.lt; omega) (by rw [World.size_alloc]; omega) (lit_at _ rfl) 7).mono ?_
  rintro e w3 ⟨v, ⟨y, hy, rfl⟩, rfl, hc, ho⟩
  have R3 := Lib.hid ((R2.out.alloc (.cells ([1, 2, 3, 10, 100, 0, 101].map (Value.int .i64)).toArray 3)).turn ho.1 (by omega))
  have B3 := Lib.hid (below_grown (below_then B2.out (below_all w2 (.cells ([1, 2, 3, 10, 100, 0, 101].map (Value.int .i64)).toArray 3))) ho.1 (by omega))
  have O3 := Lib.hid ((O2.out.below (below_all w2 (.cells ([1, 2, 3, 10, 100, 0, 101].map (Value.int .i64)).toArray 3))).turn ho.1 (by omega))
  clear hc ho R2 B2 C2 O2 hy
  obtain ⟨t0, t1, t2⟩ := R3.out.cells
  have g0 := R3.out.frozen 0
  have g1 := R3.out.frozen 1
  have g2 := R3.out.frozen 2
  go_wp2
  refine bodyPost_ret (v := .tuple #[.agg #[.int .i64 wd, .int .i64 hg, .slice (some a1) L.length c1], .int .i64 x, .int .i64 y]) (by simp [results, Try.results21, go_sem, t0, t1, t2]) rfl ⟨wd, hg, L, a1, c1, x, y, m1, rfl, ?_, ?_⟩
  · exact (((O3.out.set (by omega) _).set (by omega) _).set (by omega) _).more (by omega)
  · exact ((B3.out.setCell (Nat.le_refl _) _).setCell (Nat.le_refl _) _).setCell (Nat.le_refl _) _

set_option maxRecDepth 100000 in
set_option maxHeartbeats 4000000 in
theorem drawCombine_any (w : World) (a : Option Addr) (l : List Int) (c : Nat) (hi : Ints .u8 w w.heap.size a l) (hb : ∀ z ∈ l, 0 ≤ z ∧ z ≤ 255) (hl : l.length ≤ 1048576) :
    Calls Try.prog 18 #[.slice a l.length c] w fun e w' => ∃ (op : Int) (wd hg : Int) (L : List Int) (a1 : Addr) (c1 : Nat) (wd2 hg2 : Int) (L2 : List Int) (a2 : Option Addr) (c2 : Nat), L.length ≤ 64 ∧ L2.length ≤ 64 ∧ 0 ≤ op ∧ op ≤ 5 ∧
      e = .returned (.tuple #[.int .i64 op, .agg #[.int .i64 wd, .int .i64 hg, .slice (some a1) L.length c1], .agg #[.int .i64 wd2, .int .i64 hg2, .slice a2 L2.length c2]]) ∧ Own2 w' w.heap.size (some a1) L ∧ Own2 w' w.heap.size a2 L2 ∧ Below w.heap.size w w' := by
  have i1 := ints_alloc (ints_alloc hi (.cells #[.int .i64 0, .int .i64 0, .slice none 0 0] 26)) (.cells #[.int .i64 0, .int .i64 0, .slice none 0 0] 26)
  have hcn := cur_new ((w.alloc (.cells #[.int .i64 0, .int .i64 0, .slice none 0 0] 26)).alloc (.cells #[.int .i64 0, .int .i64 0, .slice none 0 0] 26)) a l c i1 hb hl
  simp only [World.size_alloc] at hcn
  obtain ⟨W0, hW0⟩ : ∃ W, ((w.alloc (.cells #[.int .i64 0, .int .i64 0, .slice none 0 0] 26)).alloc (.cells #[.int .i64 0, .int .i64 0, .slice none 0 0] 26)).alloc (.cells #[.slice a l.length c, .int .i64 0, .int .u64 0] 56) = W := ⟨_, rfl⟩
  rw [hW0] at hcn
  have C0 := Lib.hid hcn
  have R0 := Lib.hid (show Box W0 w.heap.size 26 (.int .i64 0) (.int .i64 0) (.slice none 0 0) by rw [← hW0]; exact ((Box.new w _ _ _ _).alloc _).alloc _)
  have Q0 := Lib.hid (show Box W0 (w.heap.size + 1) 26 (.int .i64 0) (.int .i64 0) (.slice none 0 0) by
    rw [← hW0]
    have h := Box.new (w.alloc (.cells #[.int .i64 0, .int .i64 0, .slice none 0 0] 26)) 26 (.int .i64 0) (.int .i64 0) (.slice none 0 0)
    rw [World.size_alloc] at h
    exact h.alloc _)
  have B0 := Lib.hid (show Below w.heap.size w W0 by rw [← hW0]; exact (((below_all w _).alloc (by simp) _).alloc (by simp; omega) _))
  clear hi hb hcn i1
  have hz0 := C0.out.lt
  go_enter Try.func18, Try.ntmps18
  go_wp2_with fail
  refine (pick_any W0 (w.heap.size + 1 + 1) a l c 0 4 (by omega) (by omega) (by omega) C0.out).mono ?_
  rintro e w1 ⟨v, ⟨r1, hr1, rfl⟩, rfl, hc, ho⟩
  have R1 := Lib.hid (R0.out.turn ho.1 (by omega))
  have Q1 := Lib.hid (Q0.out.turn ho.1 (by omega))
  have B1 := Lib.hid (below_grown B0.out ho.1 (by omega))
  have C1 := Lib.hid hc
  clear hc ho R0 Q0 B0 C0
  go_wp2_with fail
  refine (one_any w1 (w.heap.size + 1 + 1) a l c _ 16 (by omega) (by omega) (by omega) C1.out).mono ?_
  rintro e w2 ⟨v, ⟨b, rfl⟩, rfl, hc, ho⟩
  have R2 := Lib.hid (R1.out.turn ho.1 (by omega))
  have Q2 := Lib.hid (Q1.out.turn ho.1 (by omega))
  have B2 := Lib.hid (below_grown B1.out ho.1 (by omega))
  have C2 := Lib.hid hc
  clear hc ho R1 Q1 B1 C1
  go_upto_if 15 with fail
  go_cut [6] (fun s wx => ∃ op : Int, s = .int .i64 op ∧ 0 ≤ op ∧ op ≤ 5 ∧ Box wx w.heap.size 26 (.int .i64 0) (.int .i64 0) (.slice none 0 0) ∧ Box wx (w.heap.size + 1) 26 (.int .i64 0) (.int .i64 0) (.slice none 0 0) ∧ Below w.heap.size w wx ∧ CurIs wx (w.heap.size + 1 + 1) a l c 10)
  case first =>
    cases b with
    | false =>
      go_wp2_with fail
      go_meet
      exact ⟨_, rfl, by omega, by omega, R2.out, Q2.out, B2.out, C2.out.more (by omega)⟩
    | true =>
      go_wp2_with fail
      refine (among_any _ (w.heap.size + 1 + 1) a l c _ w2.heap.size 2 [0, 5] (by omega) rfl (by omega) (by omega) (C2.out.alloc _) (by have := C2.out.lt; omega) (by rw [World.size_alloc]; omega) (lit_at _ rfl) 2).mono ?_
      rintro e w3 ⟨v, ⟨x, hx, rfl⟩, rfl, hc, ho⟩
      have hxb : 0 ≤ x ∧ x ≤ 5 := by
        simp only [List.mem_cons, List.not_mem_nil, or_false] at hx
        omega
      have R3 := Lib.hid ((R2.out.alloc (.cells ([0, 5].map (Value.int .i64)).toArray 3)).turn ho.1 (by omega))
      have Q3 := Lib.hid ((Q2.out.alloc (.cells ([0, 5].map (Value.int .i64)).toArray 3)).turn ho.1 (by omega))
      have B3 := Lib.hid (below_grown (below_then B2.out (below_all w2 (.cells ([0, 5].map (Value.int .i64)).toArray 3))) ho.1 (by omega))
      have C3 := Lib.hid hc
      clear hc ho R2 Q2 B2 C2 hx
      go_wp2_with fail
      go_meet
      exact ⟨x, rfl, hxb.1, hxb.2, R3.out, Q3.out, B3.out, C3.out.more (by omega)⟩
  case rest =>
    obtain ⟨op, rfl, ho1, ho2, hr, hq, hbb, hc⟩ := hcut
    have R4 := Lib.hid hr
    have Q4 := Lib.hid hq
    have B4 := Lib.hid hbb
    have C4 := Lib.hid hc
    clear hr hq hbb hc
    go_wp2_with fail
    refine (anyField_any wc (w.heap.size + 1 + 1) a l c _ (by omega) C4.out).mono ?_
    rintro e w5 ⟨wd, hg, L, a1, c1, ⟨m1, m2, m3, m4, m5, m6⟩, rfl, o1, hc, ho⟩
    have hzc := C4.out.lt
    have hs5 := ho.size
    have X5 := Box.new w5 26 (.int .i64 wd) (.int .i64 hg) (.slice (some a1) L.length c1)
    have R5 := Lib.hid ((R4.out.turn ho (by omega)).alloc (.cells #[.int .i64 wd, .int .i64 hg, .slice (some a1) L.length c1] 26))
    have Q5 := Lib.hid ((Q4.out.turn ho (by omega)).alloc (.cells #[.int .i64 wd, .int .i64 hg, .slice (some a1) L.length c1] 26))
    have B5 := Lib.hid (below_then (below_grown B4.out ho (by omega)) (below_all w5 (.cells #[.int .i64 wd, .int .i64 hg, .slice (some a1) L.length c1] 26)))
    have C5 := Lib.hid (hc.alloc (.cells #[.int .i64 wd, .int .i64 hg, .slice (some a1) L.length c1] 26))
    have O5 := Lib.hid (o1.below (below_all w5 (.cells #[.int .i64 wd, .int .i64 hg, .slice (some a1) L.length c1] 26)))
    obtain ⟨fb, hfb⟩ : ∃ q, w5.heap.size = q := ⟨_, rfl⟩
    obtain ⟨W5, hW5⟩ : ∃ W, w5.alloc (.cells #[.int .i64 wd, .int .i64 hg, .slice (some a1) L.length c1] 26) = W := ⟨_, rfl⟩
    rw [hW5] at X5 R5 Q5 B5 C5 O5
    rw [hfb] at X5
    have HX5 := Lib.hid X5
    clear hc ho o1 R4 Q4 B4 C4 X5
    obtain ⟨k0, k1, k2⟩ := HX5.out.cells
    have HLK := Lib.hid (fun (W : World) (h : CurIs W (w.heap.size + 1 + 1) a l c (10 + 400)) (hL : Ints .i64 W W.heap.size (some a1) L) => like_any W (w.heap.size + 1 + 1) a l c (10 + 400) wd hg a1 L c1 (by omega) h hL m1)
    have hzf := HX5.out.lt
    have hw5 : w.heap.size + 2 ≤ W5.heap.size := by have := C5.out.lt; omega
    have hwb : W0.heap.size ≤ W0.heap.size := Nat.le_refl _
    have hf0 : fb ≠ w.heap.size := by omega
    have hf1 : fb ≠ w.heap.size + 1 := by omega
    go_wp2_with fail
    go_region_held3 (fun w' => w'.cell? ⟨fb, 0, none⟩ = some (.int .i64 wd) ∧ w'.cell? ⟨fb, 1, none⟩ = some (.int .i64 hg) ∧ w'.cell? ⟨fb, 2, none⟩ = some (.slice (some a1) L.length c1))
      (first | (with_reducible exact ⟨x0, x1, x2⟩) | (with_reducible exact ⟨k0, k1, k2⟩) | (with_reducible exact (HX5.out.below ((Drew.more (Drew.refl W5) 1).below _)).cells) | (with_reducible exact (((hX6.out.other (p := ⟨w.heap.size, 0, none⟩) hf0 _).other (p := ⟨w.heap.size, 1, none⟩) hf0 _).other (p := ⟨w.heap.size, 2, none⟩) hf0 _).cells) | (with_reducible exact ((((((hX6.out.other (p := ⟨w.heap.size, 0, none⟩) hf0 _).other (p := ⟨w.heap.size, 1, none⟩) hf0 _).other (p := ⟨w.heap.size, 2, none⟩) hf0 _).other (p := ⟨w.heap.size + 1, 0, none⟩) hf1 _).other (p := ⟨w.heap.size + 1, 1, none⟩) hf1 _).other (p := ⟨w.heap.size + 1, 2, none⟩) hf1 _).cells) | go_keep)
      (first | (go_at_call 54; (with_reducible refine (HLK.out _ ?_ ?_).mono ?_); (exact C5.out.below ((Drew.more (Drew.refl W5) 1).below _)); (exact O5.out.ints.below ((Drew.more (Drew.refl W5) 1).below _) (Nat.le_refl _)); rintro e w6 ⟨wd2, hg2, L2, a2, c2, n1, rfl, o2, hc6, ho6⟩; have hX6 := Lib.hid ((HX5.out.below ((Drew.more (Drew.refl W5) 1).below _)).turn ho6 (by omega)); have R6 := (R5.out.below ((Drew.more (Drew.refl W5) 1).below _)).turn ho6 (by omega); have Q6 := (Q5.out.below ((Drew.more (Drew.refl W5) 1).below _)).turn ho6 (by omega); have hO6 := Lib.hid ((O5.out.below ((Drew.more (Drew.refl W5) 1).below _)).turn ho6 (by omega)); have hP6 := Lib.hid (o2.more (show w.heap.size + 2 ≤ W5.drew.heap.size from hw5)); have hB6 := Lib.hid (below_grown (B5.out.drew) ho6 (by omega)); obtain ⟨x0, x1, x2⟩ := hX6.out.cells; obtain ⟨t0, t1, t2⟩ := R6.cells; obtain ⟨s0, s1, s2⟩ := Q6.cells; have g0 := R6.frozen 0; have g1 := R6.frozen 1; have g2 := R6.frozen 2; have h0 := Q6.frozen 0; have h1 := Q6.frozen 1; have h2 := Q6.frozen 2; have hzr := R6.lt; have hzq := Q6.lt; clear hc6 ho6 o2 R6 Q6))
    go_wp2
    refine bodyPost_ret (v := .tuple #[.int .i64 op, .agg #[.int .i64 wd, .int .i64 hg, .slice (some a1) L.length c1], .agg #[.int .i64 wd2, .int .i64 hg2, .slice a2 L2.length c2]]) (by simp [results, Try.results18, go_sem, t0, t1, t2, s0, s1, s2]) rfl ⟨op, wd, hg, L, a1, c1, wd2, hg2, L2, a2, c2, m1, n1, ho1, ho2, rfl, ?_, ?_, ?_⟩
    · exact ((((((hO6.out.set (by omega) _).set (by omega) _).set (by omega) _).set (by omega) _).set (by omega) _).set (by omega) _).more (by omega)
    · exact ((((((hP6.out.set (by omega) _).set (by omega) _).set (by omega) _).set (by omega) _).set (by omega) _).set (by omega) _).more (by omega)
    · exact (((((hB6.out.setCell (Nat.le_refl _) _).setCell (Nat.le_refl _) _).setCell (Nat.le_refl _) _).setCell (p := ⟨w.heap.size + 1, 0, none⟩) (by show w.heap.size ≤ w.heap.size + 1; omega) _).setCell (p := ⟨w.heap.size + 1, 1, none⟩) (by show w.heap.size ≤ w.heap.size + 1; omega) _).setCell (p := ⟨w.heap.size + 1, 2, none⟩) (by show w.heap.size ≤ w.heap.size + 1; omega) _
end Go.Proofs.Ytglpkfkbbjbjjaa
