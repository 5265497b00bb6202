/- The walk of FnExactQuantileField. -/
import Derived.Test.YtpmfgghiiocccaaEnSpecQ
import Derived.Test.YtpmfgghiiocccaaEnQuI
import Derived.Test.YtpmfgghiiocccaaLawRes
namespace Go.Proofs.Ytpmfgghiiocccaa
open Go.RowKit
set_option linter.unusedVariables false
set_option linter.unusedSimpArgs false
set_option maxRecDepth 100000 in
set_option maxHeartbeats 16000000 in
theorem walk_EnQuLaw (a0 : Option Addr) (es0 : List FE) (c0 : Nat) (x1 : Int) (x2 : Int) (w : World) (hl0 : Flds w w.heap.size a0 es0) (hm0 : es0.length ≤ maxLen) (hs0 : ∀ e ∈ es0, e.l.length ≤ maxLen) :
    Calls Try.prog 12 #[.slice a0 es0.length c0, .int .i64 x1, .int .i64 x2] w fun e w' => e = .returned (.bool true) ∧ Below w.heap.size w w' := by
  have HZ0 := Lib.hid (fun W (h : Flds W W.heap.size a0 es0) h1 h2 => szFields_any a0 es0 c0 1048576 W h hm0 hs0 h1 h2)
  have G0 := Lib.hid (Below.refl w.heap.size w)
  have HL0 := Lib.hid hl0
  unfold maxLen at hm0 hs0
  by_cases hn0 : ((es0.length + lenFs es0 : Nat) : Int) ≤ 1048576
  · have HY0 := HZ0
    unfold szF at HY0
    rw [if_pos hn0] at HY0
    have q0 : es0.length ≤ 1048576 := by omega
    have r0 : lenFs es0 ≤ 1048576 := by omega
    have t0 : ∀ e ∈ es0, e.l.length ≤ 1048576 := fun e h => Nat.le_trans (le_lenFs e h) r0
    have HT0 := Lib.hid (fun W (G : Below w.heap.size w W) => toFields_any a0 es0 c0 W ((hl0.below G (Nat.le_refl _)).more G.size) q0 t0)
    have HS : Hid (∀ p0 eq0 W (h0 : Flds W W.heap.size (some ⟨p0, 0, none⟩) eq0) (m0 : eq0.length = es0.length) (n0 : eq0.map FE.plain = es0.map FE.plain), Calls Try.prog 41 #[.slice (some ⟨p0, 0, none⟩) es0.length es0.length, .int .i64 x1, .int .i64 x2] W (FRet (quR (plains es0) x1 x2) W)) := Lib.hid (fun p0 eq0 W h0 m0 n0 => by
      have h9 := specQu_any (some ⟨p0, 0, none⟩) eq0 es0.length x1 x2 W h0 (by omega) (fun e h => Nat.le_trans (le_lenFs e h) (by rw [lenFs_plain n0]; exact r0))
      rw [m0, show plains eq0 = plains es0 from n0] at h9
      exact h9)
    have HI : Hid (∀ p0 eq0 W (h0 : Flds W W.heap.size (some ⟨p0, 0, none⟩) eq0) (m0 : eq0.length = es0.length) (n0 : eq0.map FE.plain = es0.map FE.plain), Calls Try.prog 42 #[.slice (some ⟨p0, 0, none⟩) es0.length es0.length, .int .i64 x1, .int .i64 x2] W (FRet (quR (plains es0) x1 x2) W)) := Lib.hid (fun p0 eq0 W h0 m0 n0 => by
      have h9 := implQu_any p0 eq0 es0.length x1 x2 W h0 (by omega) (fun e h => Nat.le_trans (le_lenFs e h) (by rw [lenFs_plain n0]; exact r0))
      rw [m0, show plains eq0 = plains es0 from n0] at h9
      exact h9)
    have hr : (rL (quR (plains es0) x1 x2)).length ≤ 1048576 := Nat.le_trans (quR_len es0 x1 x2) (by omega)
    unfold FRet at HS HI
    generalize rB (quR (plains es0) x1 x2) = rb at *
    generalize rW (quR (plains es0) x1 x2) = rw' at *
    generalize rH (quR (plains es0) x1 x2) = rh at *
    generalize rL (quR (plains es0) x1 x2) = rl at *
    have hvv : (rb != rb) = false := by cases rb <;> rfl
    clear hl0
    go_enter Try.func12, Try.ntmps12
    go_wp2_with fail
    refine (HY0.out _ ((HL0.out.below G0.out (Nat.le_refl _)).more G0.out.size) (by omega) (by omega)).mono ?_
    rintro e w11 ⟨rfl, b1⟩
    have G1 := Lib.hid (below_then G0.out b1)
    clear b1 G0
    clear HY0 HZ0
    have sb := G1.out.size
    go_wp2_with fail
--@0
    refine (HT0.out _ G1.out).mono ?_
    rintro e w12 ⟨f2, hf2, lk2, rfl, ow2, b2⟩
    have s2 := b2.size
    have G2 := Lib.hid (below_then G1.out b2)
    have P02 := Lib.hid ow2
    have eP0 := Lib.hid (And.intro hf2 (like_plain hf2 lk2))
    have ubP0 := ow2.u
    clear hf2 lk2 ow2
    clear b2 G1
    go_wp2_with fail
--@1
    refine (HS.out _ _ _ (P02.out.flds.more (by omega)) eP0.out.1 eP0.out.2).mono ?_
    rintro e w13p ⟨aV, cV, rfl, o3, b3⟩
    have u3 := b3.size
    have ne3 := Res.new (p := rw') (q := rh) (c := cV) o3 b3.size
    obtain ⟨bxV, hbxV⟩ : ∃ q, w13p.heap.size = q := ⟨_, rfl⟩
    have bb3 := b3.trans ((below_all w13p (.cells #[.int .i64 rw', .int .i64 rh, .slice aV rl.length cV] 31)).mono b3.size)
    have sz3 : w13p.heap.size < (w13p.alloc (.cells #[.int .i64 rw', .int .i64 rh, .slice aV rl.length cV] 31)).heap.size := by simp
    obtain ⟨w13, hW3⟩ : ∃ W, w13p.alloc (.cells #[.int .i64 rw', .int .i64 rh, .slice aV rl.length cV] 31) = W := ⟨_, rfl⟩
    rw [hW3] at ne3 bb3 sz3
    rw [hbxV] at ne3 sz3 u3
    have loV : w12.heap.size ≤ bxV := u3
    clear b3 o3
    have b3 := bb3
    clear bb3
    have G3 := Lib.hid (below_then G2.out b3)
    have P03 := Lib.hid (P02.out.below b3 (by omega))
    have V3 := Lib.hid ne3
    clear ne3
    clear b3 G2 P02
    clear P03 eP0 ubP0
    go_wp2_with fail
    clear hbxV hW3
--@2
    refine (HT0.out _ G3.out).mono ?_
    rintro e w14 ⟨f4, hf4, lk4, rfl, ow4, b4⟩
    have s4 := b4.size
    have G4 := Lib.hid (below_then G3.out b4)
    have V4 := Lib.hid (V3.out.below b4 (by omega))
    have X04 := Lib.hid ow4
    have eX0 := Lib.hid (And.intro hf4 (like_plain hf4 lk4))
    have ubX0 := ow4.u
    clear hf4 lk4 ow4
    clear b4 G3 V3
    go_wp2_with fail
--@3
    refine (HI.out _ _ _ (X04.out.flds.more (by omega)) eX0.out.1 eX0.out.2).mono ?_
    rintro e w15p ⟨aR, cR, rfl, o5, b5⟩
    have u5 := b5.size
    have ne5 := Res.new (p := rw') (q := rh) (c := cR) o5 b5.size
    obtain ⟨bxR, hbxR⟩ : ∃ q, w15p.heap.size = q := ⟨_, rfl⟩
    have bb5 := b5.trans ((below_all w15p (.cells #[.int .i64 rw', .int .i64 rh, .slice aR rl.length cR] 31)).mono b5.size)
    have sz5 : w15p.heap.size < (w15p.alloc (.cells #[.int .i64 rw', .int .i64 rh, .slice aR rl.length cR] 31)).heap.size := by simp
    obtain ⟨w15, hW5⟩ : ∃ W, w15p.alloc (.cells #[.int .i64 rw', .int .i64 rh, .slice aR rl.length cR] 31) = W := ⟨_, rfl⟩
    rw [hW5] at ne5 bb5 sz5
    rw [hbxR] at ne5 sz5 u5
    have loR : w14.heap.size ≤ bxR := u5
    clear b5 o5
    have b5 := bb5
    clear bb5
    have G5 := Lib.hid (below_then G4.out b5)
    have V5 := Lib.hid (V4.out.below b5 (by omega))
    have X05 := Lib.hid (X04.out.below b5 (by omega))
    have R5 := Lib.hid ne5
    clear ne5
    clear b5 G4 V4 X04
    obtain ⟨R0_, R1_, R2_⟩ := R5.out.k.cells
    obtain ⟨V0_, V1_, V2_⟩ := V5.out.k.cells
    go_wp2_with fail
    clear hbxR hW5
--@4
    refine (eqField_yes rw' rh _ _ rl _ _ _ R5.out.ints V5.out.ints hr).mono ?_
    rintro e w16 ⟨rfl, b6⟩
    have s6 := b6.size
    have G6 := Lib.hid (below_then G5.out b6)
    have V6 := Lib.hid (V5.out.below b6 (by omega))
    have X06 := Lib.hid (X05.out.below b6 (by omega))
    have R6 := Lib.hid (R5.out.below b6 (by omega))
    clear b6 G5 V5 X05 R5
    clear R0_ R1_ R2_ V0_ V1_ V2_
    go_wp2_with fail
--@5
    refine (HT0.out _ G6.out).mono ?_
    rintro e w17 ⟨f7, hf7, lk7, rfl, ow7, b7⟩
    have s7 := b7.size
    have G7 := Lib.hid (below_then G6.out b7)
    have V7 := Lib.hid (V6.out.below b7 (by omega))
    have X07 := Lib.hid (X06.out.below b7 (by omega))
    have R7 := Lib.hid (R6.out.below b7 (by omega))
    have E7 := Lib.hid ow7
    have eE := Lib.hid (And.intro hf7 (like_plain hf7 lk7))
    have ubE := ow7.u
    clear hf7 lk7 ow7
    clear b7 G6 V6 X06 R6
    go_wp2_with fail
--@6
    refine (eqFields_n _ _ _ _ es0.length _ _ _ (X07.out.flds.more (by omega)) (E7.out.flds.more (by omega)) eX0.out.1 (eE.out.2.trans eX0.out.2.symm) q0 (by rw [lenFs_plain eX0.out.2]; exact r0)).mono ?_
    rintro e w18 ⟨rfl, b8⟩
    have s8 := b8.size
    have G8 := Lib.hid (below_then G7.out b8)
    have V8 := Lib.hid (V7.out.below b8 (by omega))
    have X08 := Lib.hid (X07.out.below b8 (by omega))
    have R8 := Lib.hid (R7.out.below b8 (by omega))
    have E8 := Lib.hid (E7.out.below b8 (by omega))
    clear b8 G7 V7 X07 R7 E7
    clear E8 eE ubE
    go_wp2_with fail
--@7
    have lf0 : lenFs f4 = lenFs es0 := lenFs_plain eX0.out.2
    refine (markFields_n _ es0.length _ _ _ _ (1) w18 X08.out eX0.out.1 q0 (by omega) (by omega) (by omega)).mono ?_
    rintro e w19 ⟨rfl, _, b9, o9⟩
    have s9 := b9.size
    rw [lf0]
    have G9 := Lib.hid (below_aside G8.out b9 (by omega))
    have V9 := Lib.hid (V8.out.below b9 (by omega))
    have R9 := Lib.hid (R8.out.aside o9 (by omega))
    clear b9 o9 G8 V8 X08 R8 eX0 ubX0 lf0
    obtain ⟨K0, hK0⟩ : ∃ K : Nat, 2 * es0.length + lenFs es0 = K := ⟨_, rfl⟩
    rw [hK0]
    have hk0 : ¬ (1 + (K0 : Int) < 0) := by omega
    obtain ⟨R0_, R1_, R2_⟩ := R9.out.k.cells
    obtain ⟨V0_, V1_, V2_⟩ := V9.out.k.cells
    go_wp2_with fail
--@8
    refine (eqField_yes rw' rh _ _ rl _ _ _ R9.out.ints V9.out.ints hr).mono ?_
    rintro e w20 ⟨rfl, b10⟩
    have s10 := b10.size
    have G10 := Lib.hid (below_then G9.out b10)
    have V10 := Lib.hid (V9.out.below b10 (by omega))
    have R10 := Lib.hid (R9.out.below b10 (by omega))
    clear b10 G9 V9 R9
    clear R0_ R1_ R2_ V0_ V1_ V2_
    clear hk0
    obtain ⟨R0_, R1_, R2_⟩ := R10.out.k.cells
    go_wp2_with fail
    obtain ⟨gr, hgr, hgn, hat⟩ := R10.out.pick (by omega)
    have lbR := R10.out.lb
    have R_ := Lib.hid R10.out.k
    have A_ := Lib.hid hat
    clear R10 hat
--@9
    refine (markField_any rw' rh aR rl cR gr 1 w20 A_.out hr (by omega) (by omega)).mono ?_
    rintro e w21 ⟨rfl, t11, o11⟩
    have s11 := o11.size
    have G11 := Lib.hid (below_turn' G10.out o11 (by omega))
    have V11 := Lib.hid (V10.out.turn o11 (by omega))
    have M11 := Lib.hid (show Mk w21 bxR gr rw' rh aR rl.length cR from ⟨R_.out.turn o11 (fun e => hgn e.symm), t11⟩)
    clear t11 o11 R_ A_ G10 V10 R0_ R1_ R2_
    have hh : ¬ (1 + (rl.length : Int) < 0) := by omega
    obtain ⟨M0_, M1_, M2_⟩ := M11.out.k.cells
    go_wp2_with fail
--@10
    refine (heldField_any rw' rh aR rl.length cR 1 _ M11.out.i.ints hr (by omega) (by omega)).mono ?_
    rintro e w22 ⟨rfl, b12⟩
    have s12 := b12.size
    have G12 := Lib.hid (below_then G11.out b12)
    have V12 := Lib.hid (V11.out.below b12 (by omega))
    have M12 := Lib.hid (M11.out.below b12)
    clear b12 G11 V11 M11
    clear M0_ M1_ M2_
    go_wp2_with fail
--@11
    refine (HT0.out _ G12.out).mono ?_
    rintro e w23 ⟨f13, hf13, lk13, rfl, ow13, b13⟩
    have s13 := b13.size
    have G13 := Lib.hid (below_then G12.out b13)
    have V13 := Lib.hid (V12.out.below b13 (by omega))
    have M13 := Lib.hid (M12.out.below b13)
    have P013 := Lib.hid ow13
    have eP0 := Lib.hid (And.intro hf13 (like_plain hf13 lk13))
    have ubP0 := ow13.u
    clear hf13 lk13 ow13
    clear b13 G12 V12 M12
    go_wp2_with fail
--@12
    refine (HI.out _ _ _ (P013.out.flds.more (by omega)) eP0.out.1 eP0.out.2).mono ?_
    rintro e w24p ⟨aH, cH, rfl, o14, b14⟩
    have u14 := b14.size
    have ne14 := Res.new (p := rw') (q := rh) (c := cH) o14 b14.size
    obtain ⟨bxH, hbxH⟩ : ∃ q, w24p.heap.size = q := ⟨_, rfl⟩
    have bb14 := b14.trans ((below_all w24p (.cells #[.int .i64 rw', .int .i64 rh, .slice aH rl.length cH] 31)).mono b14.size)
    have sz14 : w24p.heap.size < (w24p.alloc (.cells #[.int .i64 rw', .int .i64 rh, .slice aH rl.length cH] 31)).heap.size := by simp
    obtain ⟨w24, hW14⟩ : ∃ W, w24p.alloc (.cells #[.int .i64 rw', .int .i64 rh, .slice aH rl.length cH] 31) = W := ⟨_, rfl⟩
    rw [hW14] at ne14 bb14 sz14
    rw [hbxH] at ne14 sz14 u14
    have loH : w23.heap.size ≤ bxH := u14
    clear b14 o14
    have b14 := bb14
    clear bb14
    have G14 := Lib.hid (below_then G13.out b14)
    have V14 := Lib.hid (V13.out.below b14 (by omega))
    have M14 := Lib.hid (M13.out.below b14)
    have P014 := Lib.hid (P013.out.below b14 (by omega))
    have H14 := Lib.hid ne14
    clear ne14
    clear b14 G13 V13 M13 P013
    clear P014 eP0 ubP0
    obtain ⟨H0_, H1_, H2_⟩ := H14.out.k.cells
    obtain ⟨V0_, V1_, V2_⟩ := V14.out.k.cells
    go_wp2_with fail
    clear hbxH hW14
--@13
    refine (eqField_yes rw' rh _ _ rl _ _ _ H14.out.ints V14.out.ints hr).mono ?_
    rintro e w25 ⟨rfl, b15⟩
    have s15 := b15.size
    have G15 := Lib.hid (below_then G14.out b15)
    have V15 := Lib.hid (V14.out.below b15 (by omega))
    have M15 := Lib.hid (M14.out.below b15)
    have H15 := Lib.hid (H14.out.below b15 (by omega))
    clear b15 G14 V14 M14 H14
    clear H0_ H1_ H2_ V0_ V1_ V2_
    obtain ⟨M0_, M1_, M2_⟩ := M15.out.k.cells
    go_wp2_with fail
--@14
    refine (heldField_any rw' rh aR rl.length cR 1 _ M15.out.i.ints hr (by omega) (by omega)).mono ?_
    rintro e w26 ⟨rfl, b16⟩
    have s16 := b16.size
    have G16 := Lib.hid (below_then G15.out b16)
    have V16 := Lib.hid (V15.out.below b16 (by omega))
    have M16 := Lib.hid (M15.out.below b16)
    have H16 := Lib.hid (H15.out.below b16 (by omega))
    clear b16 G15 V15 M15 H15
    clear M0_ M1_ M2_
    go_wp2_with fail
    go_ret
    exact ⟨rfl, G16.out⟩
  · have HY0 := HZ0
    unfold szF at HY0
    rw [if_neg hn0] at HY0
    go_enter Try.func12, Try.ntmps12
    go_wp2_with fail
    refine (HY0.out _ ((HL0.out.below G0.out (Nat.le_refl _)).more G0.out.size) (by omega) (by omega)).mono ?_
    rintro e w11 ⟨rfl, b1⟩
    have G1 := Lib.hid (below_then G0.out b1)
    clear b1 G0
    go_wp2
    go_ret
    exact ⟨rfl, G1.out⟩
end Go.Proofs.Ytpmfgghiiocccaa
