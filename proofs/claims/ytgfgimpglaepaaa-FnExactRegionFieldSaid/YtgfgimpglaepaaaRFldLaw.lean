/- The walk of the law FnExactRegionField. -/
import Derived.Test.YtgfgimpglaepaaaRgnFld
import Derived.Test.YtgfgimpglaepaaaRes
namespace Go.Proofs.Ytgfgimpglaepaaa
open Go.RowKit
set_option linter.unusedVariables false
set_option linter.unusedSimpArgs false
set_option maxRecDepth 100000 in
set_option maxHeartbeats 8000000 in
theorem walk_RFldLaw (x0 : Int) (x1 : Int) (a2 : Option Addr) (l2 : List Int) (c2 : Nat) (w : World) (hl : Ints .i64 w w.heap.size a2 l2) (hm : l2.length ≤ maxLen) :
    Calls Try.prog 12 #[.int .i64 x0, .int .i64 x1, .slice a2 l2.length c2] w fun e w' => e = .returned (.bool true) ∧ Below w.heap.size w w' := by
  unfold maxLen at hm
  by_cases hn : (1048576 : Int) < (l2.length : Int)
  · clear hl
    go_enter Try.func12, Try.ntmps12
    go_wp2
    go_ret
    exact ⟨rfl, Below.refl _ _⟩
  · have hn1 : l2.length ≤ 1048576 := by omega
    have HL := Lib.hid hl
    have HV := Lib.hid (fun W a c h => specFld_any x0 x1 a l2 c W h hn1)
    have HI := Lib.hid (fun W a c h => implFld_any x0 x1 a l2 c W h hn1)
    have hr1 : (rL (fldR x0 x1 l2)).length ≤ 1048576 := by have := fldR_len x0 x1 l2; omega
    unfold FRet at HV HI
    generalize rB (fldR x0 x1 l2) = rb at *
    generalize rW (fldR x0 x1 l2) = rw' at *
    generalize rH (fldR x0 x1 l2) = rh at *
    generalize rL (fldR x0 x1 l2) = rl at *
    have er : (rb != rb) = false := by simp
    have G0 := Lib.hid (Below.refl w.heap.size w)
    clear hl hn hm
    go_enter Try.func12, Try.ntmps12
    go_wp2_with fail
    refine (toInts_any a2 l2 c2 _ ((HL.out.below G0.out (Nat.le_refl _)).more G0.out.size) hn1).mono ?_
    rintro e w1 ⟨rfl, at1, b1, z1⟩
    have G1 := Lib.hid (below_then G0.out b1)
    have P1 := Lib.hid at1
    clear at1 b1 G0
    go_wp2_with fail
    refine (HV.out _ _ _ P1.out.ints).mono ?_
    rintro e w2p ⟨aV, cV, rfl, p2, b2⟩
    have u2 := b2.size
    have ne2 := Res.new (p := rw') (q := rh) (c := cV) p2 b2.size
    obtain ⟨bxV, hbxV⟩ : ∃ q, w2p.heap.size = q := ⟨_, rfl⟩
    have bb2 := b2.trans ((below_all w2p (.cells #[.int .i64 rw', .int .i64 rh, .slice aV rl.length cV] 32)).mono b2.size)
    have sz2 : w2p.heap.size < (w2p.alloc (.cells #[.int .i64 rw', .int .i64 rh, .slice aV rl.length cV] 32)).heap.size := by simp
    obtain ⟨w2, hW2⟩ : ∃ W, w2p.alloc (.cells #[.int .i64 rw', .int .i64 rh, .slice aV rl.length cV] 32) = W := ⟨_, rfl⟩
    rw [hW2] at ne2 bb2 sz2
    rw [hbxV] at ne2 sz2 u2
    have loV : w1.heap.size ≤ bxV := u2
    clear b2 p2
    have b2 := bb2
    clear bb2
    have G2 := Lib.hid (below_then G1.out b2)
    have P2 := Lib.hid (P1.out.below b2)
    have V2 := Lib.hid ne2
    clear b2 ne2 G1 P1
    clear P2
    go_wp2_with fail
    clear hbxV hW2
    refine (toInts_any a2 l2 c2 _ ((HL.out.below G2.out (Nat.le_refl _)).more G2.out.size) hn1).mono ?_
    rintro e w3 ⟨rfl, at3, b3, z3⟩
    have G3 := Lib.hid (below_then G2.out b3)
    have V3 := Lib.hid (V2.out.below b3 (by omega))
    have X3 := Lib.hid at3
    clear at3 b3 G2 V2
    go_wp2_with fail
    refine (HI.out _ _ _ X3.out.ints).mono ?_
    rintro e w4p ⟨aR_, cR_, rfl, p4, b4⟩
    have u4 := b4.size
    have ne4 := Res.new (p := rw') (q := rh) (c := cR_) p4 b4.size
    obtain ⟨bxR_, hbxR_⟩ : ∃ q, w4p.heap.size = q := ⟨_, rfl⟩
    have bb4 := b4.trans ((below_all w4p (.cells #[.int .i64 rw', .int .i64 rh, .slice aR_ rl.length cR_] 32)).mono b4.size)
    have sz4 : w4p.heap.size < (w4p.alloc (.cells #[.int .i64 rw', .int .i64 rh, .slice aR_ rl.length cR_] 32)).heap.size := by simp
    obtain ⟨w4, hW4⟩ : ∃ W, w4p.alloc (.cells #[.int .i64 rw', .int .i64 rh, .slice aR_ rl.length cR_] 32) = W := ⟨_, rfl⟩
    rw [hW4] at ne4 bb4 sz4
    rw [hbxR_] at ne4 sz4 u4
    have loR_ : w3.heap.size ≤ bxR_ := u4
    clear b4 p4
    have b4 := bb4
    clear bb4
    have G4 := Lib.hid (below_then G3.out b4)
    have V4 := Lib.hid (V3.out.below b4 (by omega))
    have X4 := Lib.hid (X3.out.below b4)
    have R_4 := Lib.hid ne4
    clear b4 ne4 G3 V3 X3
    obtain ⟨R_0_, R_1_, R_2_⟩ := R_4.out.k.cells
    obtain ⟨V0_, V1_, V2_⟩ := V4.out.k.cells
    go_wp2_with fail
    clear hbxR_ hW4
    refine (eqField_yes rw' rh _ _ rl _ _ _ R_4.out.ints V4.out.ints hr1).mono ?_
    rintro e w5 ⟨rfl, b5⟩
    have s5 := b5.size
    have G5 := Lib.hid (below_then G4.out b5)
    have V5 := Lib.hid (V4.out.below b5 (by omega))
    have X5 := Lib.hid (X4.out.below b5)
    have R_5 := Lib.hid (R_4.out.below b5 (by omega))
    clear b5 G4 V4 X4 R_4
    clear R_0_ R_1_ R_2_ V0_ V1_ V2_
    go_wp2_with fail
    refine (toInts_any a2 l2 c2 _ ((HL.out.below G5.out (Nat.le_refl _)).more G5.out.size) hn1).mono ?_
    rintro e w6 ⟨rfl, at6, b6, z6⟩
    have G6 := Lib.hid (below_then G5.out b6)
    have V6 := Lib.hid (V5.out.below b6 (by omega))
    have X6 := Lib.hid (X5.out.below b6)
    have R_6 := Lib.hid (R_5.out.below b6 (by omega))
    have Y6 := Lib.hid at6
    clear at6 b6 G5 V5 X5 R_5
    go_wp2_with fail
    refine (eqInts_yes _ _ l2 _ _ _ _ _ X6.out.ints Y6.out.ints hn1).mono ?_
    rintro e w7 ⟨rfl, d7⟩
    have b7 := d7.below w6.heap.size
    have s7 := b7.size
    have G7 := Lib.hid (below_then G6.out b7)
    have V7 := Lib.hid (V6.out.below b7 (by omega))
    have X7 := Lib.hid (X6.out.below b7)
    have R_7 := Lib.hid (R_6.out.below b7 (by omega))
    have Y7 := Lib.hid (Y6.out.below b7)
    clear b7 d7 G6 V6 X6 R_6 Y6
    clear Y7
    go_wp2_with fail
    refine (markInts_any _ l2 _ w2.heap.size 1 _ X7.out hn1 (by omega) (by omega)).mono ?_
    rintro e w8 ⟨rfl, _, o8⟩
    have s8 := o8.1.size
    clear X7
    have G8 := Lib.hid (below_turn G7.out o8.1 G7.out.size (by omega))
    have V8 := Lib.hid (V7.out.turn o8.1 (by omega))
    have R_8 := Lib.hid (R_7.out.past o8.1 (by omega))
    clear o8 G7 V7 R_7
    obtain ⟨R_0_, R_1_, R_2_⟩ := R_8.out.k.cells
    obtain ⟨V0_, V1_, V2_⟩ := V8.out.k.cells
    go_wp2_with fail
    refine (eqField_yes rw' rh _ _ rl _ _ _ R_8.out.ints V8.out.ints hr1).mono ?_
    rintro e w9 ⟨rfl, b9⟩
    have s9 := b9.size
    have G9 := Lib.hid (below_then G8.out b9)
    have V9 := Lib.hid (V8.out.below b9 (by omega))
    have R_9 := Lib.hid (R_8.out.below b9 (by omega))
    clear b9 G8 V8 R_8
    clear R_0_ R_1_ R_2_ V0_ V1_ V2_
    obtain ⟨R_0_, R_1_, R_2_⟩ := R_9.out.k.cells
    go_wp2_with fail
    obtain ⟨gr, hgr, hgn, hat⟩ := R_9.out.pick (by omega)
    have lbR := R_9.out.lb
    have K_ := Lib.hid R_9.out.k
    have A_ := Lib.hid hat
    clear R_9 hat
    refine (markField_any rw' rh aR_ rl cR_ gr 1 w9 A_.out hr1 (by omega) (by omega)).mono ?_
    rintro e w10 ⟨rfl, t10, o10⟩
    have s10 := o10.size
    have G10 := Lib.hid (below_turn' G9.out o10 (by omega))
    have V10 := Lib.hid (V9.out.turn o10 (by omega))
    have M10 := Lib.hid (show Mk w10 bxR_ gr rw' rh aR_ rl.length cR_ from ⟨K_.out.turn o10 (fun e => hgn e.symm), t10⟩)
    clear t10 o10 K_ A_ G9 V9 R_0_ R_1_ R_2_
    obtain ⟨M0_, M1_, M2_⟩ := M10.out.k.cells
    go_wp2_with fail
    refine (heldField_any rw' rh aR_ rl.length cR_ 1 _ M10.out.i.ints hr1 (by omega) (by omega)).mono ?_
    rintro e w11 ⟨rfl, b11⟩
    have s11 := b11.size
    have G11 := Lib.hid (below_then G10.out b11)
    have V11 := Lib.hid (V10.out.below b11 (by omega))
    have M11 := Lib.hid (M10.out.below b11)
    clear b11 G10 V10 M10
    clear M0_ M1_ M2_
    go_wp2_with fail
    refine (toInts_any a2 l2 c2 _ ((HL.out.below G11.out (Nat.le_refl _)).more G11.out.size) hn1).mono ?_
    rintro e w12 ⟨rfl, at12, b12, z12⟩
    have G12 := Lib.hid (below_then G11.out b12)
    have V12 := Lib.hid (V11.out.below b12 (by omega))
    have M12 := Lib.hid (M11.out.below b12)
    have P12 := Lib.hid at12
    clear at12 b12 G11 V11 M11
    go_wp2_with fail
    refine (HI.out _ _ _ P12.out.ints).mono ?_
    rintro e w13p ⟨aH, cH, rfl, p13, b13⟩
    have u13 := b13.size
    have ne13 := Res.new (p := rw') (q := rh) (c := cH) p13 b13.size
    obtain ⟨bxH, hbxH⟩ : ∃ q, w13p.heap.size = q := ⟨_, rfl⟩
    have bb13 := b13.trans ((below_all w13p (.cells #[.int .i64 rw', .int .i64 rh, .slice aH rl.length cH] 32)).mono b13.size)
    have sz13 : w13p.heap.size < (w13p.alloc (.cells #[.int .i64 rw', .int .i64 rh, .slice aH rl.length cH] 32)).heap.size := by simp
    obtain ⟨w13, hW13⟩ : ∃ W, w13p.alloc (.cells #[.int .i64 rw', .int .i64 rh, .slice aH rl.length cH] 32) = W := ⟨_, rfl⟩
    rw [hW13] at ne13 bb13 sz13
    rw [hbxH] at ne13 sz13 u13
    have loH : w12.heap.size ≤ bxH := u13
    clear b13 p13
    have b13 := bb13
    clear bb13
    have G13 := Lib.hid (below_then G12.out b13)
    have V13 := Lib.hid (V12.out.below b13 (by omega))
    have M13 := Lib.hid (M12.out.below b13)
    have P13 := Lib.hid (P12.out.below b13)
    have H13 := Lib.hid ne13
    clear b13 ne13 G12 V12 M12 P12
    clear P13
    obtain ⟨H0_, H1_, H2_⟩ := H13.out.k.cells
    obtain ⟨V0_, V1_, V2_⟩ := V13.out.k.cells
    go_wp2_with fail
    clear hbxH hW13
    refine (eqField_yes rw' rh _ _ rl _ _ _ H13.out.ints V13.out.ints hr1).mono ?_
    rintro e w14 ⟨rfl, b14⟩
    have s14 := b14.size
    have G14 := Lib.hid (below_then G13.out b14)
    have V14 := Lib.hid (V13.out.below b14 (by omega))
    have M14 := Lib.hid (M13.out.below b14)
    have H14 := Lib.hid (H13.out.below b14 (by omega))
    clear b14 G13 V13 M13 H13
    clear H0_ H1_ H2_ V0_ V1_ V2_
    obtain ⟨M0_, M1_, M2_⟩ := M14.out.k.cells
    go_wp2_with fail
    refine (heldField_any rw' rh aR_ rl.length cR_ 1 _ M14.out.i.ints hr1 (by omega) (by omega)).mono ?_
    rintro e w15 ⟨rfl, b15⟩
    have s15 := b15.size
    have G15 := Lib.hid (below_then G14.out b15)
    have V15 := Lib.hid (V14.out.below b15 (by omega))
    have M15 := Lib.hid (M14.out.below b15)
    have H15 := Lib.hid (H14.out.below b15 (by omega))
    clear b15 G14 V14 M14 H14
    clear M0_ M1_ M2_
    go_wp2
    go_ret
    exact ⟨rfl, G15.out⟩
end Go.Proofs.Ytgfgimpglaepaaa
