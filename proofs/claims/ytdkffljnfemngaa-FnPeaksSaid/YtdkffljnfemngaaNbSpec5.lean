/- The model's five filters. -/
import Derived.Test.YtdkffljnfemngaaNbSpec
namespace Go.Proofs.Ytdkffljnfemngaa
open Go.RowKit
set_option linter.unusedVariables false
set_option linter.unusedSimpArgs false
set_option maxRecDepth 100000 in
set_option maxHeartbeats 4000000 in
theorem specMax_any (wd hg : Int) (a : Option Addr) (l : List Int) (c : Nat) (r : Int) (w : World) (hl : Ints .i64 w w.heap.size a l) (hn : l.length ≤ 1048576) :
    Calls Try.prog 20 #[.agg #[.int .i64 wd, .int .i64 hg, .slice a l.length c], .int .i64 r] w (FRet (filtR hiV wd hg l r) w) := by
  have F0 := Lib.hid (Fr1.new (wd0 := wd) (hg0 := hg) (c0 := c) hl)
  have HC := Lib.hid (specFilter_any wd hg a l c r 1 0 hiV _ F0.out.i0 hn res_max)
  clear hl
  generalize filtR hiV wd hg l r = rr at *
  go_enter Try.func20, Try.ntmps20
  go_wp2_with fail
  refine HC.out.mono ?_
  rintro e w1 ⟨a1, c1, rfl, o1, b1⟩
  have O1 := Lib.hid (o1.more (C := w.heap.size + 1 + 1) (by simp))
  have F1 := Lib.hid (F0.out.step b1)
  have B1 := Lib.hid F1.out.b
  obtain ⟨r0, r1, r2⟩ := F1.out.r.cells
  have g0 := F1.out.r.frozen 0
  have g1 := F1.out.r.frozen 1
  have g2 := F1.out.r.frozen 2
  clear o1 b1 HC F0 F1
  go_wp2
  refine bodyPost_ret (v := .tuple #[.agg #[.int .i64 (rW rr), .int .i64 (rH rr), .slice a1 (rL rr).length c1], .bool (rB rr)]) (by simp [results, Try.results20, go_sem, r0, r1, r2]) rfl ⟨a1, c1, rfl, ?_, ?_⟩
  · exact (ownI_set (ownI_set (ownI_set O1.out (by show w.heap.size + 1 < _; omega) _) (by show w.heap.size + 1 < _; omega) _) (by show w.heap.size + 1 < _; omega) _).more (by omega)
  · exact ((B1.out.setCell (by show w.heap.size ≤ w.heap.size + 1; omega) _).setCell (by show w.heap.size ≤ w.heap.size + 1; omega) _).setCell (by show w.heap.size ≤ w.heap.size + 1; omega) _
set_option maxRecDepth 100000 in
set_option maxHeartbeats 4000000 in
theorem specMin_any (wd hg : Int) (a : Option Addr) (l : List Int) (c : Nat) (r : Int) (w : World) (hl : Ints .i64 w w.heap.size a l) (hn : l.length ≤ 1048576) :
    Calls Try.prog 22 #[.agg #[.int .i64 wd, .int .i64 hg, .slice a l.length c], .int .i64 r] w (FRet (filtR loV wd hg l r) w) := by
  have F0 := Lib.hid (Fr1.new (wd0 := wd) (hg0 := hg) (c0 := c) hl)
  have HC := Lib.hid (specFilter_any wd hg a l c r 2 0 loV _ F0.out.i0 hn res_min)
  clear hl
  generalize filtR loV wd hg l r = rr at *
  go_enter Try.func22, Try.ntmps22
  go_wp2_with fail
  refine HC.out.mono ?_
  rintro e w1 ⟨a1, c1, rfl, o1, b1⟩
  have O1 := Lib.hid (o1.more (C := w.heap.size + 1 + 1) (by simp))
  have F1 := Lib.hid (F0.out.step b1)
  have B1 := Lib.hid F1.out.b
  obtain ⟨r0, r1, r2⟩ := F1.out.r.cells
  have g0 := F1.out.r.frozen 0
  have g1 := F1.out.r.frozen 1
  have g2 := F1.out.r.frozen 2
  clear o1 b1 HC F0 F1
  go_wp2
  refine bodyPost_ret (v := .tuple #[.agg #[.int .i64 (rW rr), .int .i64 (rH rr), .slice a1 (rL rr).length c1], .bool (rB rr)]) (by simp [results, Try.results22, go_sem, r0, r1, r2]) rfl ⟨a1, c1, rfl, ?_, ?_⟩
  · exact (ownI_set (ownI_set (ownI_set O1.out (by show w.heap.size + 1 < _; omega) _) (by show w.heap.size + 1 < _; omega) _) (by show w.heap.size + 1 < _; omega) _).more (by omega)
  · exact ((B1.out.setCell (by show w.heap.size ≤ w.heap.size + 1; omega) _).setCell (by show w.heap.size ≤ w.heap.size + 1; omega) _).setCell (by show w.heap.size ≤ w.heap.size + 1; omega) _
set_option maxRecDepth 100000 in
set_option maxHeartbeats 4000000 in
theorem specMean_any (wd hg : Int) (a : Option Addr) (l : List Int) (c : Nat) (r : Int) (w : World) (hl : Ints .i64 w w.heap.size a l) (hn : l.length ≤ 1048576) :
    Calls Try.prog 23 #[.agg #[.int .i64 wd, .int .i64 hg, .slice a l.length c], .int .i64 r] w (FRet (filtR meanF wd hg l r) w) := by
  have F0 := Lib.hid (Fr1.new (wd0 := wd) (hg0 := hg) (c0 := c) hl)
  have HC := Lib.hid (specFilter_any wd hg a l c r 3 0 meanF _ F0.out.i0 hn res_mean)
  clear hl
  generalize filtR meanF wd hg l r = rr at *
  go_enter Try.func23, Try.ntmps23
  go_wp2_with fail
  refine HC.out.mono ?_
  rintro e w1 ⟨a1, c1, rfl, o1, b1⟩
  have O1 := Lib.hid (o1.more (C := w.heap.size + 1 + 1) (by simp))
  have F1 := Lib.hid (F0.out.step b1)
  have B1 := Lib.hid F1.out.b
  obtain ⟨r0, r1, r2⟩ := F1.out.r.cells
  have g0 := F1.out.r.frozen 0
  have g1 := F1.out.r.frozen 1
  have g2 := F1.out.r.frozen 2
  clear o1 b1 HC F0 F1
  go_wp2
  refine bodyPost_ret (v := .tuple #[.agg #[.int .i64 (rW rr), .int .i64 (rH rr), .slice a1 (rL rr).length c1], .bool (rB rr)]) (by simp [results, Try.results23, go_sem, r0, r1, r2]) rfl ⟨a1, c1, rfl, ?_, ?_⟩
  · exact (ownI_set (ownI_set (ownI_set O1.out (by show w.heap.size + 1 < _; omega) _) (by show w.heap.size + 1 < _; omega) _) (by show w.heap.size + 1 < _; omega) _).more (by omega)
  · exact ((B1.out.setCell (by show w.heap.size ≤ w.heap.size + 1; omega) _).setCell (by show w.heap.size ≤ w.heap.size + 1; omega) _).setCell (by show w.heap.size ≤ w.heap.size + 1; omega) _
set_option maxRecDepth 100000 in
set_option maxHeartbeats 4000000 in
theorem specMed_any (wd hg : Int) (a : Option Addr) (l : List Int) (c : Nat) (r : Int) (w : World) (hl : Ints .i64 w w.heap.size a l) (hn : l.length ≤ 1048576) :
    Calls Try.prog 24 #[.agg #[.int .i64 wd, .int .i64 hg, .slice a l.length c], .int .i64 r] w (FRet (filtR medF wd hg l r) w) := by
  have F0 := Lib.hid (Fr1.new (wd0 := wd) (hg0 := hg) (c0 := c) hl)
  have HC := Lib.hid (specFilter_any wd hg a l c r 4 0 medF _ F0.out.i0 hn res_med)
  clear hl
  generalize filtR medF wd hg l r = rr at *
  go_enter Try.func24, Try.ntmps24
  go_wp2_with fail
  refine HC.out.mono ?_
  rintro e w1 ⟨a1, c1, rfl, o1, b1⟩
  have O1 := Lib.hid (o1.more (C := w.heap.size + 1 + 1) (by simp))
  have F1 := Lib.hid (F0.out.step b1)
  have B1 := Lib.hid F1.out.b
  obtain ⟨r0, r1, r2⟩ := F1.out.r.cells
  have g0 := F1.out.r.frozen 0
  have g1 := F1.out.r.frozen 1
  have g2 := F1.out.r.frozen 2
  clear o1 b1 HC F0 F1
  go_wp2
  refine bodyPost_ret (v := .tuple #[.agg #[.int .i64 (rW rr), .int .i64 (rH rr), .slice a1 (rL rr).length c1], .bool (rB rr)]) (by simp [results, Try.results24, go_sem, r0, r1, r2]) rfl ⟨a1, c1, rfl, ?_, ?_⟩
  · exact (ownI_set (ownI_set (ownI_set O1.out (by show w.heap.size + 1 < _; omega) _) (by show w.heap.size + 1 < _; omega) _) (by show w.heap.size + 1 < _; omega) _).more (by omega)
  · exact ((B1.out.setCell (by show w.heap.size ≤ w.heap.size + 1; omega) _).setCell (by show w.heap.size ≤ w.heap.size + 1; omega) _).setCell (by show w.heap.size ≤ w.heap.size + 1; omega) _
set_option maxRecDepth 100000 in
set_option maxHeartbeats 4000000 in
theorem specCov_any (wd hg : Int) (a : Option Addr) (l : List Int) (c : Nat) (r t : Int) (w : World) (hl : Ints .i64 w w.heap.size a l) (hn : l.length ≤ 1048576) :
    Calls Try.prog 27 #[.agg #[.int .i64 wd, .int .i64 hg, .slice a l.length c], .int .i64 r, .int .i64 t] w (FRet (covR wd hg l r t) w) := by
  have F0 := Lib.hid (Fr1.new (wd0 := wd) (hg0 := hg) (c0 := c) hl)
  have HC := Lib.hid (specFilter_any wd hg a l c r 5 t (covF t) _ F0.out.i0 hn (res_cov t))
  clear hl
  unfold covR
  cases hv : valB t with
  | false =>
    rw [if_neg (by simp)]
    have HI := Lib.hid (fun W => l1In_is t (-9000) 9000 false W (by unfold valB at hv; exact hv))
    have B1 := Lib.hid F0.out.b
    obtain ⟨r0, r1, r2⟩ := F0.out.r.cells
    have g0 := F0.out.r.frozen 0
    have g1 := F0.out.r.frozen 1
    have g2 := F0.out.r.frozen 2
    clear HC F0 hv
    go_enter Try.func27, Try.ntmps27
    go_wp2_with (go_at_call 67; refine (HI.out _).mono ?_; rintro e w8 ⟨rfl, rfl⟩)
    refine bodyPost_ret (v := .tuple #[.agg #[.int .i64 0, .int .i64 0, .slice none 0 0], .bool false]) (by simp [results, Try.results27, go_sem, r0, r1, r2]) rfl ⟨none, 0, rfl, OwnI.none_, ?_⟩
    first | exact B1.out | exact ((B1.out.setCell (p := ⟨w.heap.size + 1, 0, none⟩) (by show w.heap.size ≤ w.heap.size + 1; omega) _).setCell (p := ⟨w.heap.size + 1, 1, none⟩) (by show w.heap.size ≤ w.heap.size + 1; omega) _).setCell (p := ⟨w.heap.size + 1, 2, none⟩) (by show w.heap.size ≤ w.heap.size + 1; omega) _
  | true =>
    rw [if_pos rfl]
    have HI := Lib.hid (fun W => l1In_is t (-9000) 9000 true W (by unfold valB at hv; exact hv))
    clear hv
    generalize filtR (covF t) wd hg l r = rr at *
    go_enter Try.func27, Try.ntmps27
    go_wp2_with (first | (go_at_call 67; refine (HI.out _).mono ?_; rintro e w8 ⟨rfl, rfl⟩) | fail)
    refine HC.out.mono ?_
    rintro e w1 ⟨a1, c1, rfl, o1, b1⟩
    have O1 := Lib.hid (o1.more (C := w.heap.size + 1 + 1) (by simp))
    have F1 := Lib.hid (F0.out.step b1)
    have B1 := Lib.hid F1.out.b
    obtain ⟨r0, r1, r2⟩ := F1.out.r.cells
    have g0 := F1.out.r.frozen 0
    have g1 := F1.out.r.frozen 1
    have g2 := F1.out.r.frozen 2
    clear o1 b1 HC F0 F1
    go_wp2
    refine bodyPost_ret (v := .tuple #[.agg #[.int .i64 (rW rr), .int .i64 (rH rr), .slice a1 (rL rr).length c1], .bool (rB rr)]) (by simp [results, Try.results27, go_sem, r0, r1, r2]) rfl ⟨a1, c1, rfl, ?_, ?_⟩
    · exact (ownI_set (ownI_set (ownI_set O1.out (by show w.heap.size + 1 < _; omega) _) (by show w.heap.size + 1 < _; omega) _) (by show w.heap.size + 1 < _; omega) _).more (by omega)
    · exact ((B1.out.setCell (by show w.heap.size ≤ w.heap.size + 1; omega) _).setCell (by show w.heap.size ≤ w.heap.size + 1; omega) _).setCell (by show w.heap.size ≤ w.heap.size + 1; omega) _
end Go.Proofs.Ytdkffljnfemngaa
