/- The walk of the law FnExactGrowthOf. -/
import Derived.Test.YthceffkkokgpnaaStGr
import Derived.Test.YthceffkkokgpnaaStLaw
import Derived.Test.YthceffkkokgpnaaStRet
namespace Go.Proofs.Ythceffkkokgpnaa
open Go.RowKit
set_option linter.unusedVariables false
set_option linter.unusedSimpArgs false
set_option maxRecDepth 100000 in
set_option maxHeartbeats 16000000 in
theorem walk_StGrLaw (a0 : Option Addr) (l0 : List StT) (c0 : Nat) (a1 : Option Addr) (l1 : List StT) (c1 : Nat) (a2 : Option Addr) (l2 : List Int) (c2 : Nat) (w : World) (hl0 : Sts w w.heap.size a0 l0) (hm0 : l0.length ≤ maxLen) (hl1 : Sts w w.heap.size a1 l1) (hm1 : l1.length ≤ maxLen) (hl2 : Ints .i64 w w.heap.size a2 l2) (hm2 : l2.length ≤ maxLen) :
    Calls Try.prog 6 #[.slice a0 l0.length c0, .slice a1 l1.length c1, .slice a2 l2.length c2] w fun e w' => e = .returned (.bool true) ∧ Below w.heap.size w w' := by
  have HZ0 := Lib.hid (fun W h => szSt_any a0 l0.length c0 (1048576) W hm0 h (by omega))
  have HZ1 := Lib.hid (fun W h => szSt_any a1 l1.length c1 (1048576 - (l0.length : Int)) W hm1 h (by omega))
  unfold maxLen at hm0 hm1 hm2
  by_cases hn2 : (1048576 : Int) < (l2.length : Int)
  · clear hl0 hl1 hl2
    go_enter Try.func6, Try.ntmps6
    go_wp2
    go_ret
    exact ⟨rfl, Below.refl _ _⟩
  · have q2 : l2.length ≤ 1048576 := by omega
    by_cases hn0 : (l0.length : Int) ≤ 1048576
    · rw [if_pos hn0] at HZ0
      have q0 : l0.length ≤ 1048576 := by omega
      have hz0 : ¬ (1048576 - (l0.length : Int) < 0) := by omega
      by_cases hn1 : (l1.length : Int) ≤ 1048576 - (l0.length : Int)
      · rw [if_pos hn1] at HZ1
        have q1 : l1.length ≤ 1048576 := by omega
        have hz1 : ¬ (1048576 - (l0.length : Int) - (l1.length : Int) < 0) := by omega
        have HT0 := Lib.hid (fun W (G : Below w.heap.size w W) => toSts_any a0 l0 c0 W ((hl0.below G (Nat.le_refl _)).more G.size) q0)
        have HT1 := Lib.hid (fun W (G : Below w.heap.size w W) => toSts_any a1 l1 c1 W ((hl1.below G (Nat.le_refl _)).more G.size) q1)
        have HT2 := Lib.hid (fun W (G : Below w.heap.size w W) => toInts_any a2 l2 c2 W ((hl2.below G (Nat.le_refl _)).more G.size) q2)
        have HS := Lib.hid (fun p0 p1 p2 W (h0 : Sts W W.heap.size (some ⟨p0, 0, none⟩) l0) (h1 : Sts W W.heap.size (some ⟨p1, 0, none⟩) l1) (h2 : Ints .i64 W W.heap.size (some ⟨p2, 0, none⟩) l2) => specGr_any (some ⟨p0, 0, none⟩) l0 l0.length (some ⟨p1, 0, none⟩) l1 l1.length (some ⟨p2, 0, none⟩) l2 l2.length W h0 h1 h2 q0 q1 q2 (Nat.le_refl _))
        have HI := Lib.hid (fun p0 p1 p2 W (h0 : Sts W W.heap.size (some ⟨p0, 0, none⟩) l0) (h1 : Sts W W.heap.size (some ⟨p1, 0, none⟩) l1) (h2 : Ints .i64 W W.heap.size (some ⟨p2, 0, none⟩) l2) => implGr_any (some ⟨p0, 0, none⟩) l0 l0.length (some ⟨p1, 0, none⟩) l1 l1.length (some ⟨p2, 0, none⟩) l2 l2.length W h0 h1 h2 q0 q1 q2 (Nat.le_refl _))
        have hr1 : (grR l0 l1 l2).length ≤ 1048576 := (by have := grR_len l0 l1 l2; omega)
        unfold GvRet at HS HI
        generalize grR l0 l1 l2 = r at *
        generalize trB l0 l1 l2 = rb at *
        have er : (rb != rb) = false := by simp
        have G0 := Lib.hid (Below.refl w.heap.size w)
        clear hl0 hl1 hl2
        go_enter Try.func6, Try.ntmps6
        go_wp2_with fail
        refine (HZ0.out _ (by omega)).mono ?_
        rintro e w1 ⟨rfl, rfl⟩
        go_wp2_with fail
        refine (HZ1.out _ (by omega)).mono ?_
        rintro e w1 ⟨rfl, rfl⟩
        go_wp2_with fail
        refine (HT0.out _ G0.out).mono ?_
        rintro e w11 ⟨rfl, r1, b1, z1⟩
        have G1 := Lib.hid (below_then G0.out b1)
        have Pa1 := Lib.hid (show AtSt w11 (some ⟨w.heap.size, 0, none⟩) w.heap.size l0 from .inr ⟨rfl, r1⟩)
        clear r1
        have s1 := b1.size
        clear b1 G0
        go_wp2_with fail
        refine (HT1.out _ G1.out).mono ?_
        rintro e w12 ⟨rfl, r2, b2, z2⟩
        have G2 := Lib.hid (below_then G1.out b2)
        have Pa2 := Lib.hid (Pa1.out.below b2)
        have Pb2 := Lib.hid (show AtSt w12 (some ⟨w11.heap.size, 0, none⟩) w11.heap.size l1 from .inr ⟨rfl, r2⟩)
        clear r2
        have s2 := b2.size
        clear b2 G1 Pa1
        go_wp2_with fail
        refine (HT2.out _ G2.out).mono ?_
        rintro e w13 ⟨rfl, r3, b3, z3⟩
        have G3 := Lib.hid (below_then G2.out b3)
        have Pa3 := Lib.hid (Pa2.out.below b3)
        have Pb3 := Lib.hid (Pb2.out.below b3)
        have Pc3 := Lib.hid r3
        clear r3
        have s3 := b3.size
        clear b3 G2 Pa2 Pb2
        go_wp2_with fail
        refine (HS.out _ _ _ _ Pa3.out.reads Pb3.out.reads Pc3.out.ints).mono ?_
        rintro e w14 ⟨aV, cV, rfl, p4, b4⟩
        have u4 := b4.size
        have G4 := Lib.hid (below_then G3.out b4)
        have Pa4 := Lib.hid (Pa3.out.below b4)
        have Pb4 := Lib.hid (Pb3.out.below b4)
        have Pc4 := Lib.hid (Pc3.out.below b4)
        have V4 := Lib.hid p4.reads
        clear p4
        have s4 := b4.size
        clear b4 G3 Pa3 Pb3 Pc3
        go_wp2_with fail
        clear Pa4
        clear Pb4
        clear Pc4
        refine (HT0.out _ G4.out).mono ?_
        rintro e w15 ⟨rfl, r5, b5, z5⟩
        have G5 := Lib.hid (below_then G4.out b5)
        have V5 := Lib.hid (V4.out.below b5 (by omega))
        have Xa5 := Lib.hid (show AtSt w15 (some ⟨w14.heap.size, 0, none⟩) w14.heap.size l0 from .inr ⟨rfl, r5⟩)
        clear r5
        have s5 := b5.size
        clear b5 G4 V4
        go_wp2_with fail
        refine (HT1.out _ G5.out).mono ?_
        rintro e w16 ⟨rfl, r6, b6, z6⟩
        have G6 := Lib.hid (below_then G5.out b6)
        have V6 := Lib.hid (V5.out.below b6 (by omega))
        have Xa6 := Lib.hid (Xa5.out.below b6)
        have Xb6 := Lib.hid (show AtSt w16 (some ⟨w15.heap.size, 0, none⟩) w15.heap.size l1 from .inr ⟨rfl, r6⟩)
        clear r6
        have s6 := b6.size
        clear b6 G5 V5 Xa5
        go_wp2_with fail
        refine (HT2.out _ G6.out).mono ?_
        rintro e w17 ⟨rfl, r7, b7, z7⟩
        have G7 := Lib.hid (below_then G6.out b7)
        have V7 := Lib.hid (V6.out.below b7 (by omega))
        have Xa7 := Lib.hid (Xa6.out.below b7)
        have Xb7 := Lib.hid (Xb6.out.below b7)
        have Xc7 := Lib.hid r7
        clear r7
        have s7 := b7.size
        clear b7 G6 V6 Xa6 Xb6
        go_wp2_with fail
        refine (HI.out _ _ _ _ Xa7.out.reads Xb7.out.reads Xc7.out.ints).mono ?_
        rintro e w18 ⟨aR, cR, rfl, p8, b8⟩
        have u8 := b8.size
        have G8 := Lib.hid (below_then G7.out b8)
        have V8 := Lib.hid (V7.out.below b8 (by omega))
        have Xa8 := Lib.hid (Xa7.out.below b8)
        have Xb8 := Lib.hid (Xb7.out.below b8)
        have Xc8 := Lib.hid (Xc7.out.below b8)
        obtain ⟨gR, hgR, hgnR, at8⟩ := p8.pick b8.size
        have R8 := Lib.hid at8
        clear at8
        clear p8
        have s8 := b8.size
        clear b8 G7 V7 Xa7 Xb7 Xc7
        go_wp2_with fail
        refine (eqGrs_yes _ _ r _ _ _ R8.out.reads (V8.out.more (by omega)) hr1).mono ?_
        rintro e w19 ⟨rfl, b9⟩
        have G9 := Lib.hid (below_then G8.out b9)
        have V9 := Lib.hid (V8.out.below b9 (by omega))
        have Xa9 := Lib.hid (Xa8.out.below b9)
        have Xb9 := Lib.hid (Xb8.out.below b9)
        have Xc9 := Lib.hid (Xc8.out.below b9)
        have R9 := Lib.hid (R8.out.below b9)
        have s9 := b9.size
        clear b9 G8 V8 Xa8 Xb8 Xc8 R8
        go_wp2_with fail
        refine (HT0.out _ G9.out).mono ?_
        rintro e w20 ⟨rfl, r10, b10, z10⟩
        have G10 := Lib.hid (below_then G9.out b10)
        have V10 := Lib.hid (V9.out.below b10 (by omega))
        have Xa10 := Lib.hid (Xa9.out.below b10)
        have Xb10 := Lib.hid (Xb9.out.below b10)
        have Xc10 := Lib.hid (Xc9.out.below b10)
        have R10 := Lib.hid (R9.out.below b10)
        have E10 := Lib.hid (show AtSt w20 (some ⟨w19.heap.size, 0, none⟩) w19.heap.size l0 from .inr ⟨rfl, r10⟩)
        clear r10
        have s10 := b10.size
        clear b10 G9 V9 Xa9 Xb9 Xc9 R9
        go_wp2_with fail
        refine (eqSts_yes _ _ l0 _ _ _ Xa10.out.reads E10.out.reads q0).mono ?_
        rintro e w21 ⟨rfl, b11⟩
        have G11 := Lib.hid (below_then G10.out b11)
        have V11 := Lib.hid (V10.out.below b11 (by omega))
        have Xa11 := Lib.hid (Xa10.out.below b11)
        have Xb11 := Lib.hid (Xb10.out.below b11)
        have Xc11 := Lib.hid (Xc10.out.below b11)
        have R11 := Lib.hid (R10.out.below b11)
        have E11 := Lib.hid (E10.out.below b11)
        have s11 := b11.size
        clear b11 G10 V10 Xa10 Xb10 Xc10 R10 E10
        clear E11
        go_wp2_with fail
        refine (HT1.out _ G11.out).mono ?_
        rintro e w22 ⟨rfl, r12, b12, z12⟩
        have G12 := Lib.hid (below_then G11.out b12)
        have V12 := Lib.hid (V11.out.below b12 (by omega))
        have Xa12 := Lib.hid (Xa11.out.below b12)
        have Xb12 := Lib.hid (Xb11.out.below b12)
        have Xc12 := Lib.hid (Xc11.out.below b12)
        have R12 := Lib.hid (R11.out.below b12)
        have E12 := Lib.hid (show AtSt w22 (some ⟨w21.heap.size, 0, none⟩) w21.heap.size l1 from .inr ⟨rfl, r12⟩)
        clear r12
        have s12 := b12.size
        clear b12 G11 V11 Xa11 Xb11 Xc11 R11
        go_wp2_with fail
        refine (eqSts_yes _ _ l1 _ _ _ Xb12.out.reads E12.out.reads q1).mono ?_
        rintro e w23 ⟨rfl, b13⟩
        have G13 := Lib.hid (below_then G12.out b13)
        have V13 := Lib.hid (V12.out.below b13 (by omega))
        have Xa13 := Lib.hid (Xa12.out.below b13)
        have Xb13 := Lib.hid (Xb12.out.below b13)
        have Xc13 := Lib.hid (Xc12.out.below b13)
        have R13 := Lib.hid (R12.out.below b13)
        have E13 := Lib.hid (E12.out.below b13)
        have s13 := b13.size
        clear b13 G12 V12 Xa12 Xb12 Xc12 R12 E12
        clear E13
        go_wp2_with fail
        refine (HT2.out _ G13.out).mono ?_
        rintro e w24 ⟨rfl, r14, b14, z14⟩
        have G14 := Lib.hid (below_then G13.out b14)
        have V14 := Lib.hid (V13.out.below b14 (by omega))
        have Xa14 := Lib.hid (Xa13.out.below b14)
        have Xb14 := Lib.hid (Xb13.out.below b14)
        have Xc14 := Lib.hid (Xc13.out.below b14)
        have R14 := Lib.hid (R13.out.below b14)
        have E14 := Lib.hid r14
        clear r14
        have s14 := b14.size
        clear b14 G13 V13 Xa13 Xb13 Xc13 R13
        go_wp2_with fail
        refine (eqInts_yes _ _ l2 _ _ _ _ _ Xc14.out.ints E14.out.ints q2).mono ?_
        rintro e w25 ⟨rfl, d15⟩
        have b15 := d15.below w24.heap.size
        clear d15
        have G15 := Lib.hid (below_then G14.out b15)
        have V15 := Lib.hid (V14.out.below b15 (by omega))
        have Xa15 := Lib.hid (Xa14.out.below b15)
        have Xb15 := Lib.hid (Xb14.out.below b15)
        have Xc15 := Lib.hid (Xc14.out.below b15)
        have R15 := Lib.hid (R14.out.below b15)
        have E15 := Lib.hid (E14.out.below b15)
        have s15 := b15.size
        clear b15 G14 V14 Xa14 Xb14 Xc14 R14 E14
        clear E15
        go_wp2_with fail
        refine (markSts_any _ l0 _ w14.heap.size (1) _ Xa15.out q0 (by omega) (by omega)).mono ?_
        rintro e w26 ⟨rfl, t16, o16⟩
        have s16 := o16.1.size
        have G16 := Lib.hid (below_turn G15.out o16.1 G15.out.size (by omega))
        have V16 := Lib.hid (V15.out.turn o16.1 (by omega) (by omega))
        have Xb16 := Lib.hid (Xb15.out.only o16 (by omega))
        have Xc16 := Lib.hid (Xc15.out.only o16 (by omega))
        have R16 := Lib.hid (R15.out.only o16 (by omega))
        clear t16 o16 G15 V15 Xa15 Xb15 Xc15 R15
        go_wp2_with fail
        refine (markSts_any _ l1 _ w15.heap.size (1 + 4 * (l0.length : Int)) _ Xb16.out q1 (by omega) (by omega)).mono ?_
        rintro e w27 ⟨rfl, t17, o17⟩
        have s17 := o17.1.size
        have G17 := Lib.hid (below_turn G16.out o17.1 G16.out.size (by omega))
        have V17 := Lib.hid (V16.out.turn o17.1 (by omega) (by omega))
        have Xc17 := Lib.hid (Xc16.out.only o17 (by omega))
        have R17 := Lib.hid (R16.out.only o17 (by omega))
        clear t17 o17 G16 V16 Xb16 Xc16 R16
        go_wp2_with fail
        refine (markIntsW_any _ l2 _ w16.heap.size (1 + 4 * (l0.length : Int) + 4 * (l1.length : Int)) _ Xc17.out q2 (by omega) (by omega)).mono ?_
        rintro e w28 ⟨rfl, t18, o18⟩
        have s18 := o18.1.size
        have G18 := Lib.hid (below_turn G17.out o18.1 G17.out.size (by omega))
        have V18 := Lib.hid (V17.out.turn o18.1 (by omega) (by omega))
        have R18 := Lib.hid (R17.out.only o18 (by omega))
        clear t18 o18 G17 V17 Xc17 R17
        go_wp2_with fail
        refine (eqGrs_yes _ _ r _ _ _ R18.out.reads (V18.out.more (by omega)) hr1).mono ?_
        rintro e w29 ⟨rfl, b19⟩
        have G19 := Lib.hid (below_then G18.out b19)
        have V19 := Lib.hid (V18.out.below b19 (by omega))
        have R19 := Lib.hid (R18.out.below b19)
        have s19 := b19.size
        clear b19 G18 V18 R18
        have hk0 : ¬ (1 + 4 * (l0.length : Int) + 4 * (l1.length : Int) + (l2.length : Int) < 0) := by omega
        go_wp2_with fail
        refine (markGrs_any _ r _ gR 1 _ R19.out hr1 (by omega) (by omega)).mono ?_
        rintro e w30 ⟨rfl, t20, o20⟩
        have s20 := o20.1.size
        have G20 := Lib.hid (below_turn G19.out o20.1 G19.out.size (by omega))
        have V20 := Lib.hid (V19.out.turn o20.1 (by omega) (by omega))
        have M20 := Lib.hid t20
        clear t20 o20 G19 V19 R19
        have hh1 : ¬ (1 + 2 * (r.length : Int) < 0) := by omega
        go_wp2_with fail
        refine (heldGrs_any _ r.length _ 1 _ M20.out.reads hr1 (by omega) (by omega)).mono ?_
        rintro e w91 ⟨rfl, rfl⟩
        go_wp2_with fail
        refine (HT0.out _ G20.out).mono ?_
        rintro e w31 ⟨rfl, r21, b21, z21⟩
        have G21 := Lib.hid (below_then G20.out b21)
        have V21 := Lib.hid (V20.out.below b21 (by omega))
        have M21 := Lib.hid (M20.out.below b21)
        have Pa21 := Lib.hid (show AtSt w31 (some ⟨w30.heap.size, 0, none⟩) w30.heap.size l0 from .inr ⟨rfl, r21⟩)
        clear r21
        have s21 := b21.size
        clear b21 G20 V20 M20
        go_wp2_with fail
        refine (HT1.out _ G21.out).mono ?_
        rintro e w32 ⟨rfl, r22, b22, z22⟩
        have G22 := Lib.hid (below_then G21.out b22)
        have V22 := Lib.hid (V21.out.below b22 (by omega))
        have M22 := Lib.hid (M21.out.below b22)
        have Pa22 := Lib.hid (Pa21.out.below b22)
        have Pb22 := Lib.hid (show AtSt w32 (some ⟨w31.heap.size, 0, none⟩) w31.heap.size l1 from .inr ⟨rfl, r22⟩)
        clear r22
        have s22 := b22.size
        clear b22 G21 V21 M21 Pa21
        go_wp2_with fail
        refine (HT2.out _ G22.out).mono ?_
        rintro e w33 ⟨rfl, r23, b23, z23⟩
        have G23 := Lib.hid (below_then G22.out b23)
        have V23 := Lib.hid (V22.out.below b23 (by omega))
        have M23 := Lib.hid (M22.out.below b23)
        have Pa23 := Lib.hid (Pa22.out.below b23)
        have Pb23 := Lib.hid (Pb22.out.below b23)
        have Pc23 := Lib.hid r23
        clear r23
        have s23 := b23.size
        clear b23 G22 V22 M22 Pa22 Pb22
        go_wp2_with fail
        refine (HI.out _ _ _ _ Pa23.out.reads Pb23.out.reads Pc23.out.ints).mono ?_
        rintro e w34 ⟨aR, cR, rfl, p24, b24⟩
        have u24 := b24.size
        have G24 := Lib.hid (below_then G23.out b24)
        have V24 := Lib.hid (V23.out.below b24 (by omega))
        have M24 := Lib.hid (M23.out.below b24)
        have Pa24 := Lib.hid (Pa23.out.below b24)
        have Pb24 := Lib.hid (Pb23.out.below b24)
        have Pc24 := Lib.hid (Pc23.out.below b24)
        obtain ⟨gR, hgR, hgnR, at24⟩ := p24.pick b24.size
        have R24 := Lib.hid at24
        clear at24
        clear p24
        have s24 := b24.size
        clear b24 G23 V23 M23 Pa23 Pb23 Pc23
        go_wp2_with fail
        clear Pa24
        clear Pb24
        clear Pc24
        refine (eqGrs_yes _ _ r _ _ _ R24.out.reads (V24.out.more (by omega)) hr1).mono ?_
        rintro e w35 ⟨rfl, b25⟩
        have G25 := Lib.hid (below_then G24.out b25)
        have V25 := Lib.hid (V24.out.below b25 (by omega))
        have M25 := Lib.hid (M24.out.below b25)
        have R25 := Lib.hid (R24.out.below b25)
        have s25 := b25.size
        clear b25 G24 V24 M24 R24
        clear R25
        have hh2 : ¬ (1 + 2 * (r.length : Int) < 0) := by omega
        go_wp2_with fail
        refine (heldGrs_any _ r.length _ 1 _ M25.out.reads hr1 (by omega) (by omega)).mono ?_
        rintro e w92 ⟨rfl, rfl⟩
        go_wp2
        go_ret
        exact ⟨rfl, G25.out⟩
      · rw [if_neg hn1] at HZ1
        have hz1 : ¬ (1048576 - (l0.length : Int) - (l1.length : Int) ≥ 0) ∨ True := .inr trivial
        clear hl0 hl1 hl2
        go_enter Try.func6, Try.ntmps6
        go_wp2_with fail
        refine (HZ0.out _ (by omega)).mono ?_
        rintro e w1 ⟨rfl, rfl⟩
        go_wp2_with fail
        refine (HZ1.out _ (by omega)).mono ?_
        rintro e w1 ⟨rfl, rfl⟩
        go_wp2
        go_ret
        exact ⟨rfl, Below.refl _ _⟩
    · rw [if_neg hn0] at HZ0
      have hz0 : ¬ (1048576 - (l0.length : Int) ≥ 0) ∨ True := .inr trivial
      clear hl0 hl1 hl2
      go_enter Try.func6, Try.ntmps6
      go_wp2_with fail
      refine (HZ0.out _ (by omega)).mono ?_
      rintro e w1 ⟨rfl, rfl⟩
      go_wp2
      go_ret
      exact ⟨rfl, Below.refl _ _⟩
end Go.Proofs.Ythceffkkokgpnaa
