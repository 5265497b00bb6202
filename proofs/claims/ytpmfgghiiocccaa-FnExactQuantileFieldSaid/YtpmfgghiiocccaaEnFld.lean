/- The program's CountAtLeast, MeanMember, SpreadField. -/
import Derived.Test.YtpmfgghiiocccaaEnJoin
import Derived.Test.YtpmfgghiiocccaaNbRules
namespace Go.Proofs.Ytpmfgghiiocccaa
open Go.RowKit
set_option linter.unusedVariables false
set_option linter.unusedSimpArgs false
theorem ent_cnt : Entered 51 := enters_of Try.func51 (by kernel_rfl) rfl
set_option maxHeartbeats 1000000 in
theorem cnt_rule {b : Nat} {t : Int} {w : World} (hb0 : b < w.heap.size) (hc : w.cell? ⟨b, 0, none⟩ = some (.int .i64 t)) : MbRule 51 #[.pointer (some ⟨b, 0, none⟩)] (cntF t) w := by
  intro W vs a c B h0 h1 h2 h3 hb h4 h5
  show Calls Try.prog 51 #[.slice a vs.length c, .pointer (some ⟨b, 0, none⟩)] W fun e w' => e = .returned (.int .i64 (cntF t vs)) ∧ Below B W w'
  have hc' : W.cell? ⟨b, 0, none⟩ = some (.int .i64 t) := (hb.cell (p := ⟨b, 0, none⟩) hb0).trans hc
  have HC := Lib.hid (fun W' h => cntOf_is a vs c W.heap.size t W' h (by omega))
  have HI := Lib.hid h3.ints
  unfold cntF
  generalize (cntN t vs : Int) = z at *
  clear hb h2 h3 hc
  go_enter Try.func51, Try.ntmps51
  go_wp2_with (go_at_call 52; refine (HC.out _ HI.out).mono ?_; rintro e w1 ⟨rfl, rfl⟩)
  go_ret
  exact ⟨rfl, Below.refl _ _⟩
theorem ent_mn : Entered 59 := enters_of Try.func59 (by kernel_rfl) rfl
theorem mn_rule (w : World) : MbRule 59 #[] meanF w := by
  intro W vs a c B h0 h1 h2 h3 hb h4 h5
  show Calls Try.prog 59 #[.slice a vs.length c] W fun e w' => e = .returned (.int .i64 (meanF vs)) ∧ Below B W w'
  exact (meanOf_is a vs c W.heap.size W h3.ints h0 (by omega) h2).mono fun e w' ⟨h6, h7⟩ => ⟨h6, by subst h7; exact Below.refl _ _⟩
theorem ent_sp : Entered 61 := enters_of Try.func61 (by kernel_rfl) rfl
set_option maxHeartbeats 1000000 in
theorem sp_rule (w : World) : MbRule 61 #[] spF w := by
  intro W vs a c B h0 h1 h2 h3 hb h4 h5
  show Calls Try.prog 61 #[.slice a vs.length c] W fun e w' => e = .returned (.int .i64 (spF vs)) ∧ Below B W w'
  have hne : vs ≠ [] := List.length_pos_iff.1 h0
  obtain ⟨a1, a2⟩ := h2 _ (hiV_in hne)
  obtain ⟨b1, b2⟩ := h2 _ (loV_in hne)
  have HC := Lib.hid (fun W' h => max_is a vs c W.heap.size W' h h0 (by omega))
  have HD := Lib.hid (fun W' h => min_is a vs c W.heap.size W' h h0 (by omega))
  have HI := Lib.hid h3.ints
  unfold spF
  have hmin : min (hiV vs - loV vs) 9000 = if 9000 < hiV vs - loV vs then 9000 else hiV vs - loV vs := by split <;> omega
  rw [hmin]
  clear hb h2 h3 hmin hne
  generalize hiV vs = x at *
  generalize loV vs = y at *
  by_cases hxy : 9000 < x - y
  · rw [if_pos hxy]
    go_enter Try.func61, Try.ntmps61
    go_wp2_with (first | (go_at_call 62; refine (HC.out _ HI.out).mono ?_; rintro e w1 ⟨rfl, rfl⟩) | (go_at_call 63; refine (HD.out _ HI.out).mono ?_; rintro e w2 ⟨rfl, rfl⟩))
    go_ret
    exact ⟨rfl, Below.refl _ _⟩
  · rw [if_neg hxy]
    go_enter Try.func61, Try.ntmps61
    go_wp2_with (first | (go_at_call 62; refine (HC.out _ HI.out).mono ?_; rintro e w1 ⟨rfl, rfl⟩) | (go_at_call 63; refine (HD.out _ HI.out).mono ?_; rintro e w2 ⟨rfl, rfl⟩))
    go_ret
    exact ⟨rfl, Below.refl _ _⟩
set_option maxRecDepth 100000 in
set_option maxHeartbeats 4000000 in
theorem implMn_any (g : Nat) (es : List FE) (c : Nat) (w : World) (hl : Flds w w.heap.size (some ⟨g, 0, none⟩) es) (hn : es.length ≤ 1048576) (hs : ∀ e ∈ es, e.l.length ≤ 1048576) :
    Calls Try.prog 27 #[.slice (some ⟨g, 0, none⟩) es.length c] w (FRet (mnR (plains es)) w) := by
  have F0 := flds_alloc hl (.cells #[.int .i64 0, .int .i64 0, .slice none 0 0] 31)
  have R0 := Lib.hid (Box.new w 31 (.int .i64 0) (.int .i64 0) (.slice none 0 0))
  have B0 := Lib.hid (below_all w (.cells #[.int .i64 0, .int .i64 0, .slice none 0 0] 31))
  have HC := Lib.hid (implJoin_any g es c 59 #[] meanF _ F0 hn hs ent_mn (mn_rule _))
  unfold mnR
  clear hl F0 hs
  generalize enR meanF (plains es) = rr at *
  go_enter Try.func27, Try.ntmps27
  go_wp2_with fail
  refine HC.out.mono ?_
  rintro e w1 ⟨a1, c1, rfl, o1, b1⟩
  have O1 := Lib.hid (o1.more (C := w.heap.size + 1) (by simp))
  have R1 := R0.out.below b1
  have B1 := Lib.hid (below_then B0.out b1)
  obtain ⟨r0, r1, r2⟩ := R1.cells
  have g0 := R1.frozen 0
  have g1 := R1.frozen 1
  have g2 := R1.frozen 2
  clear o1 b1 R1 HC R0
  go_wp2
  refine bodyPost_ret (v := .tuple #[.agg #[.int .i64 (rW rr), .int .i64 (rH rr), .slice a1 (rL rr).length c1], .bool (rB rr)]) (by simp [results, Try.results27, go_sem, r0, r1, r2]) rfl ⟨a1, c1, rfl, ?_, ?_⟩
  · exact (ownI_set (ownI_set (ownI_set O1.out (by show w.heap.size < _; omega) _) (by show w.heap.size < _; omega) _) (by show w.heap.size < _; omega) _).more (by omega)
  · exact ((B1.out.setCell (p := ⟨w.heap.size, 0, none⟩) (Nat.le_refl _) _).setCell (p := ⟨w.heap.size, 1, none⟩) (Nat.le_refl _) _).setCell (p := ⟨w.heap.size, 2, none⟩) (Nat.le_refl _) _
set_option maxRecDepth 100000 in
set_option maxHeartbeats 4000000 in
theorem implSp_any (g : Nat) (es : List FE) (c : Nat) (w : World) (hl : Flds w w.heap.size (some ⟨g, 0, none⟩) es) (hn : es.length ≤ 1048576) (hs : ∀ e ∈ es, e.l.length ≤ 1048576) :
    Calls Try.prog 29 #[.slice (some ⟨g, 0, none⟩) es.length c] w (FRet (spR (plains es)) w) := by
  have F0 := flds_alloc hl (.cells #[.int .i64 0, .int .i64 0, .slice none 0 0] 31)
  have R0 := Lib.hid (Box.new w 31 (.int .i64 0) (.int .i64 0) (.slice none 0 0))
  have B0 := Lib.hid (below_all w (.cells #[.int .i64 0, .int .i64 0, .slice none 0 0] 31))
  have HC := Lib.hid (implJoin_any g es c 61 #[] spF _ F0 hn hs ent_sp (sp_rule _))
  unfold spR
  clear hl F0 hs
  generalize enR spF (plains es) = rr at *
  go_enter Try.func29, Try.ntmps29
  go_wp2_with fail
  refine HC.out.mono ?_
  rintro e w1 ⟨a1, c1, rfl, o1, b1⟩
  have O1 := Lib.hid (o1.more (C := w.heap.size + 1) (by simp))
  have R1 := R0.out.below b1
  have B1 := Lib.hid (below_then B0.out b1)
  obtain ⟨r0, r1, r2⟩ := R1.cells
  have g0 := R1.frozen 0
  have g1 := R1.frozen 1
  have g2 := R1.frozen 2
  clear o1 b1 R1 HC R0
  go_wp2
  refine bodyPost_ret (v := .tuple #[.agg #[.int .i64 (rW rr), .int .i64 (rH rr), .slice a1 (rL rr).length c1], .bool (rB rr)]) (by simp [results, Try.results29, go_sem, r0, r1, r2]) rfl ⟨a1, c1, rfl, ?_, ?_⟩
  · exact (ownI_set (ownI_set (ownI_set O1.out (by show w.heap.size < _; omega) _) (by show w.heap.size < _; omega) _) (by show w.heap.size < _; omega) _).more (by omega)
  · exact ((B1.out.setCell (p := ⟨w.heap.size, 0, none⟩) (Nat.le_refl _) _).setCell (p := ⟨w.heap.size, 1, none⟩) (Nat.le_refl _) _).setCell (p := ⟨w.heap.size, 2, none⟩) (Nat.le_refl _) _
set_option maxRecDepth 100000 in
set_option maxHeartbeats 4000000 in
theorem implCnt_any (g : Nat) (es : List FE) (c : Nat) (t : Int) (w : World) (hl : Flds w w.heap.size (some ⟨g, 0, none⟩) es) (hn : es.length ≤ 1048576) (hs : ∀ e ∈ es, e.l.length ≤ 1048576) :
    Calls Try.prog 19 #[.slice (some ⟨g, 0, none⟩) es.length c, .int .i64 t] w (FRet (cntR (plains es) t) w) := by
  have F0 := flds_alloc (flds_alloc hl (.cells #[.int .i64 t] 3)) (.cells #[.int .i64 0, .int .i64 0, .slice none 0 0] 31)
  have R0 := Box.new (w.alloc (.cells #[.int .i64 t] 3)) 31 (.int .i64 0) (.int .i64 0) (.slice none 0 0)
  simp only [World.size_alloc] at R0
  have B0 : Below w.heap.size w ((w.alloc (.cells #[.int .i64 t] 3)).alloc (.cells #[.int .i64 0, .int .i64 0, .slice none 0 0] 31)) := (((Below.refl w.heap.size w).alloc (by simp <;> omega) _).alloc (by simp <;> omega) _)
  have C0 : ((w.alloc (.cells #[.int .i64 t] 3)).alloc (.cells #[.int .i64 0, .int .i64 0, .slice none 0 0] 31)).cell? ⟨w.heap.size, 0, none⟩ = some (.int .i64 t) := by rw [World.cell?_alloc_past _ _ _ (by simp)]; rw [World.cell?_alloc_at _ _ _ _ (by simp)]; rfl
  have zw : ((w.alloc (.cells #[.int .i64 t] 3)).alloc (.cells #[.int .i64 0, .int .i64 0, .slice none 0 0] 31)).heap.size = w.heap.size + 1 + 1 := by simp
  generalize hW : ((w.alloc (.cells #[.int .i64 t] 3)).alloc (.cells #[.int .i64 0, .int .i64 0, .slice none 0 0] 31)) = W at F0 R0 B0 zw C0
  have HC := Lib.hid (implJoin_any g es c 51 #[.pointer (some ⟨w.heap.size, 0, none⟩)] (cntF t) W F0 hn hs ent_cnt (cnt_rule (by omega) C0))
  have HW := Lib.hid hW
  have HR := Lib.hid R0
  have HB := Lib.hid B0
  have HZ := Lib.hid zw
  unfold cntR
  cases hv : valB t with
  | false =>
    rw [if_neg (by simp)]
    have HV := Lib.hid (fun W => implValue_is t false W hv)
    obtain ⟨r0, r1, r2⟩ := R0.cells
    have g0 := R0.frozen 0
    have g1 := R0.frozen 1
    have g2 := R0.frozen 2
    clear hl F0 R0 B0 zw hv HC
    subst hW
    go_enter Try.func19, Try.ntmps19
    go_wp2_with (go_at_call 49; refine (HV.out _).mono ?_; rintro e w9 ⟨rfl, rfl⟩)
    refine bodyPost_ret (v := .tuple #[.agg #[.int .i64 0, .int .i64 0, .slice none 0 0], .bool false]) (by simp [results, Try.results19, go_sem, r0, r1, r2]) rfl ⟨none, 0, rfl, OwnI.none_, ?_⟩
    first | exact HB.out | exact ((HB.out.setCell (p := ⟨w.heap.size + 1, 0, none⟩) (by show w.heap.size ≤ w.heap.size + 1; omega) _).setCell (p := ⟨w.heap.size + 1, 1, none⟩) (by show w.heap.size ≤ w.heap.size + 1; omega) _).setCell (p := ⟨w.heap.size + 1, 2, none⟩) (by show w.heap.size ≤ w.heap.size + 1; omega) _
  | true =>
    rw [if_pos rfl]
    have HV := Lib.hid (fun W => implValue_is t true W hv)
    clear hl F0 R0 B0 zw hv hW
    generalize enR (cntF t) (plains es) = rr at *
    go_enter Try.func19, Try.ntmps19
    go_wp2_with (first | (go_at_call 49; refine (HV.out _).mono ?_; rintro e w9 ⟨rfl, rfl⟩) | fail)
    rw [HW.out]
    refine HC.out.mono ?_
    rintro e w1 ⟨a1, c1, rfl, o1, b1⟩
    have O1 := Lib.hid (o1.more (C := w.heap.size + 1 + 1) (by have := HZ.out; omega))
    have R1 := HR.out.below b1
    have B1 := Lib.hid (below_then HB.out b1)
    obtain ⟨r0, r1, r2⟩ := R1.cells
    have g0 := R1.frozen 0
    have g1 := R1.frozen 1
    have g2 := R1.frozen 2
    clear o1 b1 R1 HC HW HR C0
    go_wp2
    refine bodyPost_ret (v := .tuple #[.agg #[.int .i64 (rW rr), .int .i64 (rH rr), .slice a1 (rL rr).length c1], .bool (rB rr)]) (by simp [results, Try.results19, go_sem, r0, r1, r2]) rfl ⟨a1, c1, rfl, ?_, ?_⟩
    · exact (ownI_set (ownI_set (ownI_set O1.out (by show w.heap.size + 1 < _; omega) _) (by show w.heap.size + 1 < _; omega) _) (by show w.heap.size + 1 < _; omega) _).more (by omega)
    · exact ((B1.out.setCell (by show w.heap.size ≤ w.heap.size + 1; omega) _).setCell (by show w.heap.size ≤ w.heap.size + 1; omega) _).setCell (by show w.heap.size ≤ w.heap.size + 1; omega) _
end Go.Proofs.Ytpmfgghiiocccaa
