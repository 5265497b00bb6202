/- RegionField: the field of a region, the model's and the program's. -/
import Derived.Test.YtgfgimpglaepaaaRgnVal
import Derived.Test.YtgfgimpglaepaaaNew
import Derived.Test.YtgfgimpglaepaaaSvRet
import Derived.StillTailTactics
namespace Go.Proofs.Ytgfgimpglaepaaa
open Go.RowKit
set_option linter.unusedVariables false
set_option linter.unusedSimpArgs false
set_option maxRecDepth 100000 in
set_option maxHeartbeats 4000000 in
theorem specFld_any (wd hg : Int) (a : Option Addr) (l : List Int) (c : Nat) (w : World) (hl : Ints .i64 w w.heap.size a l) (hn : l.length ≤ 1048576) :
    Calls Try.prog 53 #[.int .i64 wd, .int .i64 hg, .slice a l.length c] w (FRet (fldR wd hg l) w) := by
  have HL := Lib.hid hl
  cases hr : regB wd hg l with
  | false =>
    rw [fldR_no hr]
    have C := Lib.hid (fun W h => specRegion_is wd hg a l c w.heap.size false W h hn hr)
    clear hl hr
    go_enter Try.func53, Try.ntmps53
    go_wp2_with fail
    refine (C.out _ (HL.out.below (below_all _ _) (Nat.le_refl _))).mono ?_
    rintro e w1 ⟨rfl, d1⟩
    have D1 := Lib.hid (below_then (below_all _ _) (d1.below _))
    have X1 := (Box.new w 32 (.int .i64 0) (.int .i64 0) (.slice none 0 0)).below (d1.below _)
    obtain ⟨r0, r1, r2⟩ := X1.cells
    have g0 := X1.frozen 0
    have g1 := X1.frozen 1
    have g2 := X1.frozen 2
    clear d1 X1
    go_wp2
    refine bodyPost_ret (v := .tuple #[.agg #[.int .i64 0, .int .i64 0, .slice none 0 0], .bool false]) (by simp [results, Try.results53, go_sem, r0, r1, r2]) rfl ⟨none, 0, rfl, OwnI.none_, ?_⟩
    first | exact D1.out | exact ((D1.out.setCell (by simp) _).setCell (by simp) _).setCell (by simp) _
  | true =>
    rw [fldR_yes hr]
    have C := Lib.hid (fun W h => specRegion_is wd hg a l c w.heap.size true W h hn hr)
    have C3 := Lib.hid (fun W => fill_any wd hg 0 W (reg_shape hr))
    have hp := prod_bd (reg_shape hr)
    have hlen := reg_len hr
    have HBD := Lib.hid (reg_bd hr)
    obtain ⟨p, hpp⟩ : ∃ p : Nat, (wd * hg).toNat = p := ⟨_, rfl⟩
    have hpi : wd * hg = (p : Int) := by omega
    rw [hpp] at C3 ⊢
    rw [hpi] at hp HBD
    have HP := Lib.hid hpi
    clear hl hr hpp hpi
    go_enter Try.func53, Try.ntmps53
    go_wp2_with fail
    refine (C.out _ (HL.out.below (below_all _ _) (Nat.le_refl _))).mono ?_
    rintro e w1 ⟨rfl, d1⟩
    have D1 := Lib.hid (below_then (below_all _ _) (d1.below _))
    have X1 := Lib.hid ((Box.new w 32 (.int .i64 0) (.int .i64 0) (.slice none 0 0)).below (d1.below _))
    clear d1
    go_wp2_with fail
    refine (C3.out _).mono ?_
    rintro e w2 ⟨a2, c2, rfl, o2, b2⟩
    rw [List.length_replicate]
    rw [← onesL_nil] at o2
    obtain ⟨g2, hg2, hgn2, at2⟩ := o2.pick b2.size
    obtain ⟨rfl, R2⟩ : a2 = some ⟨g2, 0, none⟩ ∧ Row w2 g2 3 (iv (onesL p [])) := by
      rcases at2 with h | h
      · have := congrArg List.length h
        rw [onesL_len] at this
        simp at this; omega
      · exact h
    have D2 := Lib.hid (below_then D1.out b2)
    have X2 := Lib.hid (X1.out.below b2)
    have A2 := Lib.hid R2
    have z2 := b2.size
    have z1 := D1.out.size
    have z0 := X1.out.lt
    have zr := R2.lt
    clear b2 o2 at2 R2 X1
    have N2 := Lib.hid (Box.new w2 32 (.int .i64 wd) (.int .i64 hg) (.slice (some ⟨g2, 0, none⟩) p c2))
    go_wp2
    go_loopw [9] (fun i wr => ∃ k : Nat, k ≤ l.length ∧ i = .int .i64 k ∧ Row wr g2 3 (iv (onesL p (l.take k))) ∧ Box wr w2.heap.size 32 (.int .i64 wd) (.int .i64 hg) (.slice (some ⟨g2, 0, none⟩) p c2) ∧ Box wr w.heap.size 32 (.int .i64 0) (.int .i64 0) (.slice none 0 0) ∧ Below w.heap.size w wr) (fun i _ => l.length - (intOf i).toNat)
    case atStart => exact ⟨0, Nat.zero_le _, rfl, A2.out.alloc _, N2.out, X2.out.alloc _, D2.out.alloc D2.out.size _⟩
    case round =>
      obtain ⟨k, hk, rfl, hrow, hx, hr, hB⟩ := hrel
      have HX := Lib.hid hx
      have HR := Lib.hid hrow
      have HQ := Lib.hid hr
      have HB := Lib.hid hB
      by_cases hlt : k < l.length
      · obtain ⟨b, o, rfl, hb, hc⟩ := (HL.out.below hB (Nat.le_refl _)).at_ hlt
        obtain ⟨q, hq⟩ : ∃ q : Nat, l[k] = (q : Int) := ⟨l[k].toNat, by have := HBD.out _ (List.getElem_mem hlt); omega⟩
        have hqp : (q : Int) < (p : Int) := by have := HBD.out _ (List.getElem_mem hlt); omega
        have hq0 : (0 : Int) ≤ (q : Int) := by omega
        rw [hq] at hc
        have HST := Lib.hid (onesL_snoc p (l.take k) l[k] q hq)
        have HTK := Lib.hid (List.take_succ_eq_append_getElem hlt)
        obtain ⟨c0, c1, c2'⟩ := hx.cells
        obtain ⟨u, hu⟩ : ∃ u, wr.cell? ⟨g2, q, none⟩ = some u := ⟨_, hrow.cell (k := q) (by rw [iv_length, onesL_len]; omega)⟩
        have hf := hrow.frozen q
        have hi : (k : Int) < (l.length : Int) := by omega
        have hi0 : (0 : Int) ≤ (k : Int) := by omega
        clear hx hrow hr hB hq
        go_wp2_with fail
        go_still_tail 7, (by kernel_rfl)
        change wpList _ _ _ _ _ wr.drew
        have hu' : wr.drew.cell? ⟨g2, q, none⟩ = some u := hu
        have hf' : wr.drew.frozen? ⟨g2, q, none⟩ = false := hf
        have HR' : Hid (Row wr.drew g2 3 (iv (onesL p (l.take k)))) := Lib.hid HR.out
        have HX' : Hid (Box wr.drew w2.heap.size 32 (.int .i64 wd) (.int .i64 hg) (.slice (some ⟨g2, 0, none⟩) p c2)) := Lib.hid HX.out
        have HQ' : Hid (Box wr.drew w.heap.size 32 (.int .i64 0) (.int .i64 0) (.slice none 0 0)) := Lib.hid HQ.out
        have HB' : Hid (Below w.heap.size w wr.drew) := Lib.hid HB.out.drew
        clear hu hf HR HX HQ HB hc c0 c1 c2'
        generalize wr.drew = w3 at *
        go_wp2
        go_roundw
        case rel =>
          refine ⟨k + 1, by omega, by go_num, ?_, HX'.out.other (by simp <;> omega) _, HQ'.out.other (by simp <;> omega) _, HB'.out.setCell (p := ⟨g2, q, none⟩) (by simp <;> omega) _⟩
          have h := HR'.out.set q (.int .i64 1)
          rw [iv_set, HST.out, ← HTK.out] at h
          exact h
        case measure => simp [intOf]; omega
      · obtain rfl : k = l.length := by omega
        rw [List.take_length] at HR
        have ho : OwnI wr w.heap.size (some ⟨g2, 0, none⟩) (onesL p l) := ⟨g2, by omega, .inr ⟨rfl, HR.out⟩⟩
        have HO := Lib.hid ho
        obtain ⟨r0, r1, r2⟩ := hr.cells
        obtain ⟨x0, x1, x2⟩ := hx.cells
        have f0 := hr.frozen 0
        have f1 := hr.frozen 1
        have f2 := hr.frozen 2
        have HLN := Lib.hid (onesL_len p l)
        have hg2w : w.heap.size + 1 ≤ g2 := by omega
        clear ho hrow hx hr hB
        go_wp2
        refine bodyPost_ret (v := .tuple #[.agg #[.int .i64 wd, .int .i64 hg, .slice (some ⟨g2, 0, none⟩) p c2], .bool true]) (by simp [results, Try.results53, go_sem, r0, r1, r2]) rfl ⟨some ⟨g2, 0, none⟩, c2, by simp [rW, rH, rL, rB, HLN.out], ?_, ?_⟩
        · exact ⟨g2, by omega, .inr ⟨rfl, ((HR.out.other (by simp <;> omega) _).other (by simp <;> omega) _).other (by simp <;> omega) _⟩⟩
        · exact ((HB.out.setCell (by simp) _).setCell (by simp) _).setCell (by simp) _
set_option maxRecDepth 100000 in
set_option maxHeartbeats 4000000 in
theorem implFld_any (wd hg : Int) (a : Option Addr) (l : List Int) (c : Nat) (w : World) (hl : Ints .i64 w w.heap.size a l) (hn : l.length ≤ 1048576) :
    Calls Try.prog 18 #[.int .i64 wd, .int .i64 hg, .slice a l.length c] w (FRet (fldR wd hg l) w) := by
  have HL := Lib.hid hl
  cases hr : regB wd hg l with
  | false =>
    rw [fldR_no hr]
    have C := Lib.hid (fun W h => implRegion_is wd hg a l c w.heap.size false W h hn hr)
    have X1 := (Box.new w 32 (.int .i64 0) (.int .i64 0) (.slice none 0 0))
    obtain ⟨r0, r1, r2⟩ := X1.cells
    have g0 := X1.frozen 0
    have g1 := X1.frozen 1
    have g2 := X1.frozen 2
    clear hl hr X1
    go_enter Try.func18, Try.ntmps18
    go_wp2_with fail
    refine (C.out _ (HL.out.below (below_all _ _) (Nat.le_refl _))).mono ?_
    rintro e w1 ⟨rfl, rfl⟩
    go_wp2
    refine bodyPost_ret (v := .tuple #[.agg #[.int .i64 0, .int .i64 0, .slice none 0 0], .bool false]) (by simp [results, Try.results18, go_sem, r0, r1, r2]) rfl ⟨none, 0, rfl, OwnI.none_, ?_⟩
    first | exact below_all _ _ | exact (((below_all _ _).setCell (by simp) _).setCell (by simp) _).setCell (by simp) _
  | true =>
    rw [fldR_yes hr]
    have C := Lib.hid (fun W h => implRegion_is wd hg a l c w.heap.size true W h hn hr)
    have hs := reg_shape hr
    have C3 := Lib.hid (fun W => implNew_any wd hg 0 W)
    rw [newR_yes (by rw [hs]; rfl)] at C3
    have hp := prod_bd (reg_shape hr)
    have hlen := reg_len hr
    have HBD := Lib.hid (reg_bd hr)
    obtain ⟨p, hpp⟩ : ∃ p : Nat, (wd * hg).toNat = p := ⟨_, rfl⟩
    have hpi : wd * hg = (p : Int) := by omega
    rw [hpp] at C3 ⊢
    rw [hpi] at hp HBD
    have HP := Lib.hid hpi
    clear hl hr hpp hpi hs
    go_enter Try.func18, Try.ntmps18
    go_wp2_with fail
    refine (C.out _ (HL.out.below (below_all _ _) (Nat.le_refl _))).mono ?_
    rintro e w1 ⟨rfl, rfl⟩
    have X1 := Lib.hid (Box.new w 32 (.int .i64 0) (.int .i64 0) (.slice none 0 0))
    go_wp2_with fail
    refine (C3.out _).mono ?_
    rintro e w2 ⟨a2, c2, rfl, o2, b2⟩
    simp only [rW, rH, rL, rB, List.length_replicate] at o2 ⊢
    rw [← onesL_nil] at o2
    obtain ⟨g2, hg2, hgn2, at2⟩ := o2.pick b2.size
    obtain ⟨rfl, R2⟩ : a2 = some ⟨g2, 0, none⟩ ∧ Row w2 g2 3 (iv (onesL p [])) := by
      rcases at2 with h | h
      · have := congrArg List.length h
        rw [onesL_len] at this
        simp at this; omega
      · exact h
    have D2 := Lib.hid (below_then (below_all _ _) b2)
    have X2 := Lib.hid (X1.out.below b2)
    have A2 := Lib.hid R2
    have z2 := b2.size
    simp only [World.size_alloc] at z2 hg2
    have z0 := X1.out.lt
    have zr := R2.lt
    clear b2 o2 at2 R2 X1
    have N2 := Lib.hid (Box.new w2 32 (.int .i64 wd) (.int .i64 hg) (.slice (some ⟨g2, 0, none⟩) p c2))
    go_wp2
    go_loopw [26] (fun i wr => ∃ k : Nat, k ≤ l.length ∧ i = .int .i64 k ∧ Row wr g2 3 (iv (onesL p (l.take k))) ∧ Box wr w2.heap.size 32 (.int .i64 wd) (.int .i64 hg) (.slice (some ⟨g2, 0, none⟩) p c2) ∧ Box wr w.heap.size 32 (.int .i64 0) (.int .i64 0) (.slice none 0 0) ∧ Below w.heap.size w wr) (fun i _ => l.length - (intOf i).toNat)
    case atStart => exact ⟨0, Nat.zero_le _, rfl, A2.out.alloc _, N2.out, X2.out.alloc _, D2.out.alloc D2.out.size _⟩
    case round =>
      obtain ⟨k, hk, rfl, hrow, hx, hr, hB⟩ := hrel
      have HX := Lib.hid hx
      have HR := Lib.hid hrow
      have HQ := Lib.hid hr
      have HB := Lib.hid hB
      by_cases hlt : k < l.length
      · obtain ⟨b, o, rfl, hb, hc⟩ := (HL.out.below hB (Nat.le_refl _)).at_ hlt
        obtain ⟨q, hq⟩ : ∃ q : Nat, l[k] = (q : Int) := ⟨l[k].toNat, by have := HBD.out _ (List.getElem_mem hlt); omega⟩
        have hqp : (q : Int) < (p : Int) := by have := HBD.out _ (List.getElem_mem hlt); omega
        have hq0 : (0 : Int) ≤ (q : Int) := by omega
        rw [hq] at hc
        have HST := Lib.hid (onesL_snoc p (l.take k) l[k] q hq)
        have HTK := Lib.hid (List.take_succ_eq_append_getElem hlt)
        obtain ⟨c0, c1, c2'⟩ := hx.cells
        obtain ⟨u, hu⟩ : ∃ u, wr.cell? ⟨g2, q, none⟩ = some u := ⟨_, hrow.cell (k := q) (by rw [iv_length, onesL_len]; omega)⟩
        have hf := hrow.frozen q
        have hi : (k : Int) < (l.length : Int) := by omega
        have hi0 : (0 : Int) ≤ (k : Int) := by omega
        clear hx hrow hr hB hq
        go_wp2
        go_roundw
        case rel =>
          refine ⟨k + 1, by omega, by go_num, ?_, HX.out.other (by simp <;> omega) _, HQ.out.other (by simp <;> omega) _, HB.out.setCell (p := ⟨g2, q, none⟩) (by simp <;> omega) _⟩
          have h := HR.out.set q (.int .i64 1)
          rw [iv_set, HST.out, ← HTK.out] at h
          exact h
        case measure => simp [intOf]; omega
      · obtain rfl : k = l.length := by omega
        rw [List.take_length] at HR
        have ho : OwnI wr w.heap.size (some ⟨g2, 0, none⟩) (onesL p l) := ⟨g2, by omega, .inr ⟨rfl, HR.out⟩⟩
        have HO := Lib.hid ho
        obtain ⟨r0, r1, r2⟩ := hr.cells
        obtain ⟨x0, x1, x2⟩ := hx.cells
        have f0 := hr.frozen 0
        have f1 := hr.frozen 1
        have f2 := hr.frozen 2
        have HLN := Lib.hid (onesL_len p l)
        have hg2w : w.heap.size + 1 ≤ g2 := by omega
        clear ho hrow hx hr hB
        go_wp2
        refine bodyPost_ret (v := .tuple #[.agg #[.int .i64 wd, .int .i64 hg, .slice (some ⟨g2, 0, none⟩) p c2], .bool true]) (by simp [results, Try.results18, go_sem, r0, r1, r2]) rfl ⟨some ⟨g2, 0, none⟩, c2, by simp [rW, rH, rL, rB, HLN.out], ?_, ?_⟩
        · exact ⟨g2, by omega, .inr ⟨rfl, ((HR.out.other (by simp <;> omega) _).other (by simp <;> omega) _).other (by simp <;> omega) _⟩⟩
        · exact ((HB.out.setCell (by simp) _).setCell (by simp) _).setCell (by simp) _
end Go.Proofs.Ytgfgimpglaepaaa
