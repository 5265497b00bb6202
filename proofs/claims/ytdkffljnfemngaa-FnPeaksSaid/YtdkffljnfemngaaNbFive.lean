/- The program's filters: MaximumFilter, MinimumFilter, MeanFilter, MedianFilter, CoverageFilter. -/
import Derived.Test.YtdkffljnfemngaaNbFilter
namespace Go.Proofs.Ytdkffljnfemngaa
open Go.RowKit
set_option linter.unusedVariables false
set_option linter.unusedSimpArgs false
theorem ent_maxF : Entered 52 := enters_of Try.func52 (by kernel_rfl) rfl
theorem maxF_rule (w : World) : VsRule 52 #[] hiV w := by
  intro W vs a c h0 h1 h2 h3 hb
  show Calls Try.prog 52 #[.slice a vs.length c] W fun e w' => e = .returned (.int .i64 (hiV vs)) ∧ Below W.heap.size W w'
  have HC := Lib.hid (fun W' h => max_is a vs c W.heap.size W' h h0 h1)
  have HI := Lib.hid h3
  clear hb h2 h3
  generalize hiV vs = y at *
  go_enter Try.func52, Try.ntmps52
  go_wp2_with (go_at_call 53; refine (HC.out _ HI.out).mono ?_; rintro e w1 ⟨rfl, rfl⟩)
  go_ret
  exact ⟨rfl, Below.refl _ _⟩
theorem ent_minF : Entered 54 := enters_of Try.func54 (by kernel_rfl) rfl
theorem minF_rule (w : World) : VsRule 54 #[] loV w := by
  intro W vs a c h0 h1 h2 h3 hb
  show Calls Try.prog 54 #[.slice a vs.length c] W fun e w' => e = .returned (.int .i64 (loV vs)) ∧ Below W.heap.size W w'
  have HC := Lib.hid (fun W' h => min_is a vs c W.heap.size W' h h0 h1)
  have HI := Lib.hid h3
  clear hb h2 h3
  generalize loV vs = y at *
  go_enter Try.func54, Try.ntmps54
  go_wp2_with (go_at_call 55; refine (HC.out _ HI.out).mono ?_; rintro e w1 ⟨rfl, rfl⟩)
  go_ret
  exact ⟨rfl, Below.refl _ _⟩
theorem ent_meanF : Entered 56 := enters_of Try.func56 (by kernel_rfl) rfl
theorem meanF_rule (w : World) : VsRule 56 #[] meanF w := by
  intro W vs a c h0 h1 h2 h3 hb
  show Calls Try.prog 56 #[.slice a vs.length c] W fun e w' => e = .returned (.int .i64 (meanF vs)) ∧ Below W.heap.size W w'
  exact (meanOf_is a vs c W.heap.size W h3 h0 h1 h2).mono fun e w' ⟨h4, h5⟩ => ⟨h4, by subst h5; exact Below.refl _ _⟩
theorem ent_medF : Entered 57 := enters_of Try.func57 (by kernel_rfl) rfl
theorem medF_rule (w : World) : VsRule 57 #[] medF w := by
  intro W vs a c h0 h1 h2 h3 hb
  show Calls Try.prog 57 #[.slice a vs.length c] W fun e w' => e = .returned (.int .i64 (medF vs)) ∧ Below W.heap.size W w'
  obtain ⟨b, o, rfl, _, _⟩ := h3.at_ h0
  exact medianOf_any b o vs c W h3 h1 h0
theorem ent_covF : Entered 64 := enters_of Try.func64 (by kernel_rfl) rfl
set_option maxHeartbeats 1000000 in
theorem covF_rule {B : Nat} {t : Int} {w : World} (hB : B < w.heap.size) (hc : w.cell? ⟨B, 0, none⟩ = some (.int .i64 t)) : VsRule 64 #[.pointer (some ⟨B, 0, none⟩)] (covF t) w := by
  intro W vs a c h0 h1 h2 h3 hb
  show Calls Try.prog 64 #[.slice a vs.length c, .pointer (some ⟨B, 0, none⟩)] W fun e w' => e = .returned (.int .i64 (covF t vs)) ∧ Below W.heap.size W w'
  have hc' : W.cell? ⟨B, 0, none⟩ = some (.int .i64 t) := (hb.cell (p := ⟨B, 0, none⟩) hB).trans hc
  have hle := cnt_le t vs
  have HC := Lib.hid (fun W' h => cntOf_is a vs c W.heap.size t W' h h1)
  have HR := Lib.hid (fun W' => implRound_any (100 * (cntN t vs : Int)) (vs.length : Int) W' (by omega) (by omega) (by omega) (by omega))
  have HI := Lib.hid h3
  unfold covF
  generalize rdiv (100 * (cntN t vs : Int)) (vs.length : Int) = y at *
  generalize cntN t vs = n at *
  clear hb h2 h3 hc
  go_enter Try.func64, Try.ntmps64
  go_wp2_with (first | (go_at_call 66; refine (HC.out _ HI.out).mono ?_; rintro e w1 ⟨rfl, rfl⟩) | (go_at_call 65; refine (HR.out _).mono ?_; rintro e w2 ⟨rfl, rfl⟩))
  go_ret
  exact ⟨rfl, Below.refl _ _⟩
set_option maxRecDepth 100000 in
set_option maxHeartbeats 4000000 in
theorem implMax_c (wd hg : Int) (a : Option Addr) (l : List Int) (c : Nat) (r : Int) (w : World) (hl : Ints .i64 w w.heap.size a l) (hn : l.length ≤ 1048576) (hcap : l.length ≤ c) :
    Calls Try.prog 16 #[.agg #[.int .i64 wd, .int .i64 hg, .slice a l.length c], .int .i64 r] w (FRetC (filtR hiV wd hg l r) w) := by
  have F0 := Lib.hid (Fr1.new (wd0 := wd) (hg0 := hg) (c0 := c) hl)
  have HC := Lib.hid (filterV_any wd hg a l c r 52 #[] hiV _ F0.out.i0 hn hcap ent_maxF (maxF_rule _) fit_hi)
  clear hl
  generalize filtR hiV wd hg l r = rr at *
  go_enter Try.func16, Try.ntmps16
  go_wp2_with fail
  refine HC.out.mono ?_
  rintro e w1 ⟨a1, c1, h1, rfl, o1, b1⟩
  have O1 := Lib.hid (o1.more (C := w.heap.size + 1 + 1) (by simp))
  have F1 := Lib.hid (F0.out.step b1)
  have B1 := Lib.hid F1.out.b
  obtain ⟨r0, r1, r2⟩ := F1.out.r.cells
  have g0 := F1.out.r.frozen 0
  have g1 := F1.out.r.frozen 1
  have g2 := F1.out.r.frozen 2
  clear o1 b1 HC F0 F1
  go_wp2
  refine bodyPost_ret (v := .tuple #[.agg #[.int .i64 (rW rr), .int .i64 (rH rr), .slice a1 (rL rr).length c1], .bool (rB rr)]) (by simp [results, Try.results16, go_sem, r0, r1, r2]) rfl ⟨a1, c1, h1, rfl, ?_, ?_⟩
  · exact (ownI_set (ownI_set (ownI_set O1.out (by show w.heap.size + 1 < _; omega) _) (by show w.heap.size + 1 < _; omega) _) (by show w.heap.size + 1 < _; omega) _).more (by omega)
  · exact ((B1.out.setCell (by show w.heap.size ≤ w.heap.size + 1; omega) _).setCell (by show w.heap.size ≤ w.heap.size + 1; omega) _).setCell (by show w.heap.size ≤ w.heap.size + 1; omega) _
theorem implMax_any (wd hg : Int) (a : Option Addr) (l : List Int) (c : Nat) (r : Int) (w : World) (hl : Ints .i64 w w.heap.size a l) (hn : l.length ≤ 1048576) (hcap : l.length ≤ c) :
    Calls Try.prog 16 #[.agg #[.int .i64 wd, .int .i64 hg, .slice a l.length c], .int .i64 r] w (FRet (filtR hiV wd hg l r) w) :=
  (implMax_c wd hg a l c r w hl hn hcap).mono fun _ _ h => h.ret
set_option maxRecDepth 100000 in
set_option maxHeartbeats 4000000 in
theorem implMin_c (wd hg : Int) (a : Option Addr) (l : List Int) (c : Nat) (r : Int) (w : World) (hl : Ints .i64 w w.heap.size a l) (hn : l.length ≤ 1048576) (hcap : l.length ≤ c) :
    Calls Try.prog 17 #[.agg #[.int .i64 wd, .int .i64 hg, .slice a l.length c], .int .i64 r] w (FRetC (filtR loV wd hg l r) w) := by
  have F0 := Lib.hid (Fr1.new (wd0 := wd) (hg0 := hg) (c0 := c) hl)
  have HC := Lib.hid (filterV_any wd hg a l c r 54 #[] loV _ F0.out.i0 hn hcap ent_minF (minF_rule _) fit_lo)
  clear hl
  generalize filtR loV wd hg l r = rr at *
  go_enter Try.func17, Try.ntmps17
  go_wp2_with fail
  refine HC.out.mono ?_
  rintro e w1 ⟨a1, c1, h1, rfl, o1, b1⟩
  have O1 := Lib.hid (o1.more (C := w.heap.size + 1 + 1) (by simp))
  have F1 := Lib.hid (F0.out.step b1)
  have B1 := Lib.hid F1.out.b
  obtain ⟨r0, r1, r2⟩ := F1.out.r.cells
  have g0 := F1.out.r.frozen 0
  have g1 := F1.out.r.frozen 1
  have g2 := F1.out.r.frozen 2
  clear o1 b1 HC F0 F1
  go_wp2
  refine bodyPost_ret (v := .tuple #[.agg #[.int .i64 (rW rr), .int .i64 (rH rr), .slice a1 (rL rr).length c1], .bool (rB rr)]) (by simp [results, Try.results17, go_sem, r0, r1, r2]) rfl ⟨a1, c1, h1, rfl, ?_, ?_⟩
  · exact (ownI_set (ownI_set (ownI_set O1.out (by show w.heap.size + 1 < _; omega) _) (by show w.heap.size + 1 < _; omega) _) (by show w.heap.size + 1 < _; omega) _).more (by omega)
  · exact ((B1.out.setCell (by show w.heap.size ≤ w.heap.size + 1; omega) _).setCell (by show w.heap.size ≤ w.heap.size + 1; omega) _).setCell (by show w.heap.size ≤ w.heap.size + 1; omega) _
theorem implMin_any (wd hg : Int) (a : Option Addr) (l : List Int) (c : Nat) (r : Int) (w : World) (hl : Ints .i64 w w.heap.size a l) (hn : l.length ≤ 1048576) (hcap : l.length ≤ c) :
    Calls Try.prog 17 #[.agg #[.int .i64 wd, .int .i64 hg, .slice a l.length c], .int .i64 r] w (FRet (filtR loV wd hg l r) w) :=
  (implMin_c wd hg a l c r w hl hn hcap).mono fun _ _ h => h.ret
set_option maxRecDepth 100000 in
set_option maxHeartbeats 4000000 in
theorem implMean_c (wd hg : Int) (a : Option Addr) (l : List Int) (c : Nat) (r : Int) (w : World) (hl : Ints .i64 w w.heap.size a l) (hn : l.length ≤ 1048576) (hcap : l.length ≤ c) :
    Calls Try.prog 18 #[.agg #[.int .i64 wd, .int .i64 hg, .slice a l.length c], .int .i64 r] w (FRetC (filtR meanF wd hg l r) w) := by
  have F0 := Lib.hid (Fr1.new (wd0 := wd) (hg0 := hg) (c0 := c) hl)
  have HC := Lib.hid (filterV_any wd hg a l c r 56 #[] meanF _ F0.out.i0 hn hcap ent_meanF (meanF_rule _) fit_mean)
  clear hl
  generalize filtR meanF wd hg l r = rr at *
  go_enter Try.func18, Try.ntmps18
  go_wp2_with fail
  refine HC.out.mono ?_
  rintro e w1 ⟨a1, c1, h1, rfl, o1, b1⟩
  have O1 := Lib.hid (o1.more (C := w.heap.size + 1 + 1) (by simp))
  have F1 := Lib.hid (F0.out.step b1)
  have B1 := Lib.hid F1.out.b
  obtain ⟨r0, r1, r2⟩ := F1.out.r.cells
  have g0 := F1.out.r.frozen 0
  have g1 := F1.out.r.frozen 1
  have g2 := F1.out.r.frozen 2
  clear o1 b1 HC F0 F1
  go_wp2
  refine bodyPost_ret (v := .tuple #[.agg #[.int .i64 (rW rr), .int .i64 (rH rr), .slice a1 (rL rr).length c1], .bool (rB rr)]) (by simp [results, Try.results18, go_sem, r0, r1, r2]) rfl ⟨a1, c1, h1, rfl, ?_, ?_⟩
  · exact (ownI_set (ownI_set (ownI_set O1.out (by show w.heap.size + 1 < _; omega) _) (by show w.heap.size + 1 < _; omega) _) (by show w.heap.size + 1 < _; omega) _).more (by omega)
  · exact ((B1.out.setCell (by show w.heap.size ≤ w.heap.size + 1; omega) _).setCell (by show w.heap.size ≤ w.heap.size + 1; omega) _).setCell (by show w.heap.size ≤ w.heap.size + 1; omega) _
theorem implMean_any (wd hg : Int) (a : Option Addr) (l : List Int) (c : Nat) (r : Int) (w : World) (hl : Ints .i64 w w.heap.size a l) (hn : l.length ≤ 1048576) (hcap : l.length ≤ c) :
    Calls Try.prog 18 #[.agg #[.int .i64 wd, .int .i64 hg, .slice a l.length c], .int .i64 r] w (FRet (filtR meanF wd hg l r) w) :=
  (implMean_c wd hg a l c r w hl hn hcap).mono fun _ _ h => h.ret
set_option maxRecDepth 100000 in
set_option maxHeartbeats 4000000 in
theorem implMed_c (wd hg : Int) (a : Option Addr) (l : List Int) (c : Nat) (r : Int) (w : World) (hl : Ints .i64 w w.heap.size a l) (hn : l.length ≤ 1048576) (hcap : l.length ≤ c) :
    Calls Try.prog 19 #[.agg #[.int .i64 wd, .int .i64 hg, .slice a l.length c], .int .i64 r] w (FRetC (filtR medF wd hg l r) w) := by
  have F0 := Lib.hid (Fr1.new (wd0 := wd) (hg0 := hg) (c0 := c) hl)
  have HC := Lib.hid (filterV_any wd hg a l c r 57 #[] medF _ F0.out.i0 hn hcap ent_medF (medF_rule _) fit_med)
  clear hl
  generalize filtR medF wd hg l r = rr at *
  go_enter Try.func19, Try.ntmps19
  go_wp2_with fail
  refine HC.out.mono ?_
  rintro e w1 ⟨a1, c1, h1, rfl, o1, b1⟩
  have O1 := Lib.hid (o1.more (C := w.heap.size + 1 + 1) (by simp))
  have F1 := Lib.hid (F0.out.step b1)
  have B1 := Lib.hid F1.out.b
  obtain ⟨r0, r1, r2⟩ := F1.out.r.cells
  have g0 := F1.out.r.frozen 0
  have g1 := F1.out.r.frozen 1
  have g2 := F1.out.r.frozen 2
  clear o1 b1 HC F0 F1
  go_wp2
  refine bodyPost_ret (v := .tuple #[.agg #[.int .i64 (rW rr), .int .i64 (rH rr), .slice a1 (rL rr).length c1], .bool (rB rr)]) (by simp [results, Try.results19, go_sem, r0, r1, r2]) rfl ⟨a1, c1, h1, rfl, ?_, ?_⟩
  · exact (ownI_set (ownI_set (ownI_set O1.out (by show w.heap.size + 1 < _; omega) _) (by show w.heap.size + 1 < _; omega) _) (by show w.heap.size + 1 < _; omega) _).more (by omega)
  · exact ((B1.out.setCell (by show w.heap.size ≤ w.heap.size + 1; omega) _).setCell (by show w.heap.size ≤ w.heap.size + 1; omega) _).setCell (by show w.heap.size ≤ w.heap.size + 1; omega) _
theorem implMed_any (wd hg : Int) (a : Option Addr) (l : List Int) (c : Nat) (r : Int) (w : World) (hl : Ints .i64 w w.heap.size a l) (hn : l.length ≤ 1048576) (hcap : l.length ≤ c) :
    Calls Try.prog 19 #[.agg #[.int .i64 wd, .int .i64 hg, .slice a l.length c], .int .i64 r] w (FRet (filtR medF wd hg l r) w) :=
  (implMed_c wd hg a l c r w hl hn hcap).mono fun _ _ h => h.ret
set_option maxRecDepth 100000 in
set_option maxHeartbeats 4000000 in
theorem implCov_any (wd hg : Int) (a : Option Addr) (l : List Int) (c : Nat) (r t : Int) (w : World) (hl : Ints .i64 w w.heap.size a l) (hn : l.length ≤ 1048576) (hcap : l.length ≤ c) :
    Calls Try.prog 26 #[.agg #[.int .i64 wd, .int .i64 hg, .slice a l.length c], .int .i64 r, .int .i64 t] w (FRet (covR wd hg l r t) w) := by
  have I0 := (ints_alloc (ints_alloc (ints_alloc hl (.cells #[.int .i64 wd, .int .i64 hg, .slice a l.length c] 26)) (.cells #[.int .i64 t] 3)) (.cells #[.int .i64 0, .int .i64 0, .slice none 0 0] 26))
  have K0 := ((Box.new w 26 (.int .i64 wd) (.int .i64 hg) (.slice a l.length c)).alloc (.cells #[.int .i64 t] 3)).alloc (.cells #[.int .i64 0, .int .i64 0, .slice none 0 0] 26)
  have R0 := Box.new ((w.alloc (.cells #[.int .i64 wd, .int .i64 hg, .slice a l.length c] 26)).alloc (.cells #[.int .i64 t] 3)) 26 (.int .i64 0) (.int .i64 0) (.slice none 0 0)
  simp only [World.size_alloc] at R0
  have B0 : Below w.heap.size w (((w.alloc (.cells #[.int .i64 wd, .int .i64 hg, .slice a l.length c] 26)).alloc (.cells #[.int .i64 t] 3)).alloc (.cells #[.int .i64 0, .int .i64 0, .slice none 0 0] 26)) := ((((Below.refl w.heap.size w).alloc (by simp <;> omega) _).alloc (by simp <;> omega) _).alloc (by simp <;> omega) _)
  have C0 : (((w.alloc (.cells #[.int .i64 wd, .int .i64 hg, .slice a l.length c] 26)).alloc (.cells #[.int .i64 t] 3)).alloc (.cells #[.int .i64 0, .int .i64 0, .slice none 0 0] 26)).cell? ⟨w.heap.size + 1, 0, none⟩ = some (.int .i64 t) := by rw [World.cell?_alloc_past _ _ _ (by simp)]; rw [World.cell?_alloc_at _ _ _ _ (by simp)]; rfl
  have zw : (((w.alloc (.cells #[.int .i64 wd, .int .i64 hg, .slice a l.length c] 26)).alloc (.cells #[.int .i64 t] 3)).alloc (.cells #[.int .i64 0, .int .i64 0, .slice none 0 0] 26)).heap.size = w.heap.size + 1 + 1 + 1 := by simp
  generalize hW : (((w.alloc (.cells #[.int .i64 wd, .int .i64 hg, .slice a l.length c] 26)).alloc (.cells #[.int .i64 t] 3)).alloc (.cells #[.int .i64 0, .int .i64 0, .slice none 0 0] 26)) = W at I0 R0 B0 zw C0 K0
  have HC := Lib.hid (filterV_any wd hg a l c r 64 #[.pointer (some ⟨w.heap.size + 1, 0, none⟩)] (covF t) W I0 hn hcap ent_covF (covF_rule (by omega) C0) (fit_cov t))
  have HW := Lib.hid hW
  have HR := Lib.hid R0
  have HB := Lib.hid B0
  have HZ := Lib.hid zw
  obtain ⟨k0, k1, k2⟩ := K0.cells
  unfold covR
  cases hv : valB t with
  | false =>
    rw [if_neg (by simp)]
    have HV := Lib.hid (fun W => implValue_is t false W hv)
    obtain ⟨r0, r1, r2⟩ := R0.cells
    have g0 := R0.frozen 0
    have g1 := R0.frozen 1
    have g2 := R0.frozen 2
    clear hl I0 R0 B0 zw K0 hv HC
    subst hW
    go_enter Try.func26, Try.ntmps26
    go_wp2_with (go_at_call 63; refine (HV.out _).mono ?_; rintro e w9 ⟨rfl, rfl⟩)
    refine bodyPost_ret (v := .tuple #[.agg #[.int .i64 0, .int .i64 0, .slice none 0 0], .bool false]) (by simp [results, Try.results26, go_sem, r0, r1, r2]) rfl ⟨none, 0, rfl, OwnI.none_, ?_⟩
    first | exact HB.out | exact ((HB.out.setCell (p := ⟨w.heap.size + 1 + 1, 0, none⟩) (by show w.heap.size ≤ w.heap.size + 1 + 1; omega) _).setCell (p := ⟨w.heap.size + 1 + 1, 1, none⟩) (by show w.heap.size ≤ w.heap.size + 1 + 1; omega) _).setCell (p := ⟨w.heap.size + 1 + 1, 2, none⟩) (by show w.heap.size ≤ w.heap.size + 1 + 1; omega) _
  | true =>
    rw [if_pos rfl]
    have HV := Lib.hid (fun W => implValue_is t true W hv)
    clear hl I0 R0 B0 zw K0 C0 hv hW
    generalize filtR (covF t) wd hg l r = rr at *
    go_enter Try.func26, Try.ntmps26
    go_wp2_with (first | (go_at_call 63; refine (HV.out _).mono ?_; rintro e w9 ⟨rfl, rfl⟩) | fail)
    rw [HW.out]
    refine HC.out.mono ?_
    rintro e w1 ⟨a1, c1, h1, rfl, o1, b1⟩
    have O1 := Lib.hid (o1.more (C := w.heap.size + 1 + 1 + 1) (by have := HZ.out; omega))
    have R1 := HR.out.below b1
    have B1 := Lib.hid (below_then HB.out b1)
    obtain ⟨r0, r1, r2⟩ := R1.cells
    have g0 := R1.frozen 0
    have g1 := R1.frozen 1
    have g2 := R1.frozen 2
    clear o1 b1 R1 HC HW HR k0 k1 k2
    go_wp2
    refine bodyPost_ret (v := .tuple #[.agg #[.int .i64 (rW rr), .int .i64 (rH rr), .slice a1 (rL rr).length c1], .bool (rB rr)]) (by simp [results, Try.results26, go_sem, r0, r1, r2]) rfl ⟨a1, c1, rfl, ?_, ?_⟩
    · exact (ownI_set (ownI_set (ownI_set O1.out (by show w.heap.size + 1 + 1 < _; omega) _) (by show w.heap.size + 1 + 1 < _; omega) _) (by show w.heap.size + 1 + 1 < _; omega) _).more (by omega)
    · exact ((B1.out.setCell (by show w.heap.size ≤ w.heap.size + 1 + 1; omega) _).setCell (by show w.heap.size ≤ w.heap.size + 1 + 1; omega) _).setCell (by show w.heap.size ≤ w.heap.size + 1 + 1; omega) _
end Go.Proofs.Ytdkffljnfemngaa
