/- The walk of the law FnExactTrackingCost. -/
import Derived.Test.YthceffkkokgpnaaStTcS
import Derived.Test.YthceffkkokgpnaaStLaw
import Derived.Test.YthceffkkokgpnaaStRet
namespace Go.Proofs.Ythceffkkokgpnaa
open Go.RowKit
set_option linter.unusedVariables false
set_option linter.unusedSimpArgs false
set_option maxRecDepth 100000 in
set_option maxHeartbeats 16000000 in
theorem walk_StTcLaw (a0 : Option Addr) (l0 : List StT) (c0 : Nat) (a1 : Option Addr) (l1 : List StT) (c1 : Nat) (a2 : Option Addr) (l2 : List Int) (c2 : Nat) (x3 : Int) (w : World) (hl0 : Sts w w.heap.size a0 l0) (hm0 : l0.length ≤ maxLen) (hl1 : Sts w w.heap.size a1 l1) (hm1 : l1.length ≤ maxLen) (hl2 : Ints .i64 w w.heap.size a2 l2) (hm2 : l2.length ≤ maxLen) :
    Calls Try.prog 4 #[.slice a0 l0.length c0, .slice a1 l1.length c1, .slice a2 l2.length c2, .int .i64 x3] w fun e w' => e = .returned (.bool true) ∧ Below w.heap.size w w' := by
  have HZ0 := Lib.hid (fun W h => szSt_any a0 l0.length c0 (1048576) W hm0 h (by omega))
  have HZ1 := Lib.hid (fun W h => szSt_any a1 l1.length c1 (1048576 - (l0.length : Int)) W hm1 h (by omega))
  unfold maxLen at hm0 hm1 hm2
  by_cases hn2 : (1048576 : Int) < (l2.length : Int)
  · clear hl0 hl1 hl2
    go_enter Try.func4, Try.ntmps4
    go_wp2
    go_ret
    exact ⟨rfl, Below.refl _ _⟩
  · have q2 : l2.length ≤ 1048576 := by omega
    by_cases hn0 : (l0.length : Int) ≤ 1048576
    · rw [if_pos hn0] at HZ0
      have q0 : l0.length ≤ 1048576 := by omega
      have hz0 : ¬ (1048576 - (l0.length : Int) < 0) := by omega
      by_cases hn1 : (l1.length : Int) ≤ 1048576 - (l0.length : Int)
      · rw [if_pos hn1] at HZ1
        have q1 : l1.length ≤ 1048576 := by omega
        have hz1 : ¬ (1048576 - (l0.length : Int) - (l1.length : Int) < 0) := by omega
        have HT0 := Lib.hid (fun W (G : Below w.heap.size w W) => toSts_any a0 l0 c0 W ((hl0.below G (Nat.le_refl _)).more G.size) q0)
        have HT1 := Lib.hid (fun W (G : Below w.heap.size w W) => toSts_any a1 l1 c1 W ((hl1.below G (Nat.le_refl _)).more G.size) q1)
        have HT2 := Lib.hid (fun W (G : Below w.heap.size w W) => toInts_any a2 l2 c2 W ((hl2.below G (Nat.le_refl _)).more G.size) q2)
        have HS := Lib.hid (fun p0 p1 p2 W (h0 : Sts W W.heap.size (some ⟨p0, 0, none⟩) l0) (h1 : Sts W W.heap.size (some ⟨p1, 0, none⟩) l1) (h2 : Ints .i64 W W.heap.size (some ⟨p2, 0, none⟩) l2) => specTC_any (some ⟨p0, 0, none⟩) l0 l0.length (some ⟨p1, 0, none⟩) l1 l1.length (some ⟨p2, 0, none⟩) l2 l2.length x3 W h0 h1 h2 q0 q1 q2 (Nat.le_refl _))
        have HI := Lib.hid (fun p0 p1 p2 W (h0 : Sts W W.heap.size (some ⟨p0, 0, none⟩) l0) (h1 : Sts W W.heap.size (some ⟨p1, 0, none⟩) l1) (h2 : Ints .i64 W W.heap.size (some ⟨p2, 0, none⟩) l2) => implTC_any (some ⟨p0, 0, none⟩) l0 l0.length (some ⟨p1, 0, none⟩) l1 l1.length (some ⟨p2, 0, none⟩) l2 l2.length x3 W h0 h1 h2 q0 q1 q2 (Nat.le_refl _))
        generalize tcV l0 l1 l2 x3 = v at *
        generalize tcB l0 l1 l2 x3 = rb at *
        have er : (rb != rb) = false := by simp
        have ev : (v != v) = false := by simp
        have G0 := Lib.hid (Below.refl w.heap.size w)
        clear hl0 hl1 hl2
        go_enter Try.func4, Try.ntmps4
        go_wp2_with fail
        refine (HZ0.out _ (by omega)).mono ?_
        rintro e w1 ⟨rfl, rfl⟩
        go_wp2_with fail
        refine (HZ1.out _ (by omega)).mono ?_
        rintro e w1 ⟨rfl, rfl⟩
        go_wp2_with fail
        refine (HT0.out _ G0.out).mono ?_
        rintro e w11 ⟨rfl, r1, b1, z1⟩
        have G1 := Lib.hid (below_then G0.out b1)
        have Pa1 := Lib.hid (show AtSt w11 (some ⟨w.heap.size, 0, none⟩) w.heap.size l0 from .inr ⟨rfl, r1⟩)
        clear r1
        have s1 := b1.size
        clear b1 G0
        go_wp2_with fail
        refine (HT1.out _ G1.out).mono ?_
        rintro e w12 ⟨rfl, r2, b2, z2⟩
        have G2 := Lib.hid (below_then G1.out b2)
        have Pa2 := Lib.hid (Pa1.out.below b2)
        have Pb2 := Lib.hid (show AtSt w12 (some ⟨w11.heap.size, 0, none⟩) w11.heap.size l1 from .inr ⟨rfl, r2⟩)
        clear r2
        have s2 := b2.size
        clear b2 G1 Pa1
        go_wp2_with fail
        refine (HT2.out _ G2.out).mono ?_
        rintro e w13 ⟨rfl, r3, b3, z3⟩
        have G3 := Lib.hid (below_then G2.out b3)
        have Pa3 := Lib.hid (Pa2.out.below b3)
        have Pb3 := Lib.hid (Pb2.out.below b3)
        have Pc3 := Lib.hid r3
        clear r3
        have s3 := b3.size
        clear b3 G2 Pa2 Pb2
        go_wp2_with fail
        refine (HS.out _ _ _ _ Pa3.out.reads Pb3.out.reads Pc3.out.ints).mono ?_
        rintro e w14 ⟨rfl, b4⟩
        have G4 := Lib.hid (below_then G3.out b4)
        have Pa4 := Lib.hid (Pa3.out.below b4)
        have Pb4 := Lib.hid (Pb3.out.below b4)
        have Pc4 := Lib.hid (Pc3.out.below b4)
        have s4 := b4.size
        clear b4 G3 Pa3 Pb3 Pc3
        go_wp2_with fail
        clear Pa4
        clear Pb4
        clear Pc4
        refine (HT0.out _ G4.out).mono ?_
        rintro e w15 ⟨rfl, r5, b5, z5⟩
        have G5 := Lib.hid (below_then G4.out b5)
        have Xa5 := Lib.hid (show AtSt w15 (some ⟨w14.heap.size, 0, none⟩) w14.heap.size l0 from .inr ⟨rfl, r5⟩)
        clear r5
        have s5 := b5.size
        clear b5 G4
        go_wp2_with fail
        refine (HT1.out _ G5.out).mono ?_
        rintro e w16 ⟨rfl, r6, b6, z6⟩
        have G6 := Lib.hid (below_then G5.out b6)
        have Xa6 := Lib.hid (Xa5.out.below b6)
        have Xb6 := Lib.hid (show AtSt w16 (some ⟨w15.heap.size, 0, none⟩) w15.heap.size l1 from .inr ⟨rfl, r6⟩)
        clear r6
        have s6 := b6.size
        clear b6 G5 Xa5
        go_wp2_with fail
        refine (HT2.out _ G6.out).mono ?_
        rintro e w17 ⟨rfl, r7, b7, z7⟩
        have G7 := Lib.hid (below_then G6.out b7)
        have Xa7 := Lib.hid (Xa6.out.below b7)
        have Xb7 := Lib.hid (Xb6.out.below b7)
        have Xc7 := Lib.hid r7
        clear r7
        have s7 := b7.size
        clear b7 G6 Xa6 Xb6
        go_wp2_with fail
        refine (HI.out _ _ _ _ Xa7.out.reads Xb7.out.reads Xc7.out.ints).mono ?_
        rintro e w18 ⟨rfl, b8⟩
        have G8 := Lib.hid (below_then G7.out b8)
        have Xa8 := Lib.hid (Xa7.out.below b8)
        have Xb8 := Lib.hid (Xb7.out.below b8)
        have Xc8 := Lib.hid (Xc7.out.below b8)
        have s8 := b8.size
        clear b8 G7 Xa7 Xb7 Xc7
        go_wp2_with fail
        refine (HT0.out _ G8.out).mono ?_
        rintro e w19 ⟨rfl, r9, b9, z9⟩
        have G9 := Lib.hid (below_then G8.out b9)
        have Xa9 := Lib.hid (Xa8.out.below b9)
        have Xb9 := Lib.hid (Xb8.out.below b9)
        have Xc9 := Lib.hid (Xc8.out.below b9)
        have E9 := Lib.hid (show AtSt w19 (some ⟨w18.heap.size, 0, none⟩) w18.heap.size l0 from .inr ⟨rfl, r9⟩)
        clear r9
        have s9 := b9.size
        clear b9 G8 Xa8 Xb8 Xc8
        go_wp2_with fail
        refine (eqSts_yes _ _ l0 _ _ _ Xa9.out.reads E9.out.reads q0).mono ?_
        rintro e w20 ⟨rfl, b10⟩
        have G10 := Lib.hid (below_then G9.out b10)
        have Xa10 := Lib.hid (Xa9.out.below b10)
        have Xb10 := Lib.hid (Xb9.out.below b10)
        have Xc10 := Lib.hid (Xc9.out.below b10)
        have E10 := Lib.hid (E9.out.below b10)
        have s10 := b10.size
        clear b10 G9 Xa9 Xb9 Xc9 E9
        clear E10
        go_wp2_with fail
        refine (HT1.out _ G10.out).mono ?_
        rintro e w21 ⟨rfl, r11, b11, z11⟩
        have G11 := Lib.hid (below_then G10.out b11)
        have Xa11 := Lib.hid (Xa10.out.below b11)
        have Xb11 := Lib.hid (Xb10.out.below b11)
        have Xc11 := Lib.hid (Xc10.out.below b11)
        have E11 := Lib.hid (show AtSt w21 (some ⟨w20.heap.size, 0, none⟩) w20.heap.size l1 from .inr ⟨rfl, r11⟩)
        clear r11
        have s11 := b11.size
        clear b11 G10 Xa10 Xb10 Xc10
        go_wp2_with fail
        refine (eqSts_yes _ _ l1 _ _ _ Xb11.out.reads E11.out.reads q1).mono ?_
        rintro e w22 ⟨rfl, b12⟩
        have G12 := Lib.hid (below_then G11.out b12)
        have Xa12 := Lib.hid (Xa11.out.below b12)
        have Xb12 := Lib.hid (Xb11.out.below b12)
        have Xc12 := Lib.hid (Xc11.out.below b12)
        have E12 := Lib.hid (E11.out.below b12)
        have s12 := b12.size
        clear b12 G11 Xa11 Xb11 Xc11 E11
        clear E12
        go_wp2_with fail
        refine (HT2.out _ G12.out).mono ?_
        rintro e w23 ⟨rfl, r13, b13, z13⟩
        have G13 := Lib.hid (below_then G12.out b13)
        have Xa13 := Lib.hid (Xa12.out.below b13)
        have Xb13 := Lib.hid (Xb12.out.below b13)
        have Xc13 := Lib.hid (Xc12.out.below b13)
        have E13 := Lib.hid r13
        clear r13
        have s13 := b13.size
        clear b13 G12 Xa12 Xb12 Xc12
        go_wp2_with fail
        refine (eqInts_yes _ _ l2 _ _ _ _ _ Xc13.out.ints E13.out.ints q2).mono ?_
        rintro e w24 ⟨rfl, d14⟩
        have b14 := d14.below w23.heap.size
        clear d14
        have G14 := Lib.hid (below_then G13.out b14)
        have Xa14 := Lib.hid (Xa13.out.below b14)
        have Xb14 := Lib.hid (Xb13.out.below b14)
        have Xc14 := Lib.hid (Xc13.out.below b14)
        have E14 := Lib.hid (E13.out.below b14)
        have s14 := b14.size
        clear b14 G13 Xa13 Xb13 Xc13 E13
        clear E14
        go_wp2
        go_ret
        exact ⟨rfl, G14.out⟩
      · rw [if_neg hn1] at HZ1
        have hz1 : ¬ (1048576 - (l0.length : Int) - (l1.length : Int) ≥ 0) ∨ True := .inr trivial
        clear hl0 hl1 hl2
        go_enter Try.func4, Try.ntmps4
        go_wp2_with fail
        refine (HZ0.out _ (by omega)).mono ?_
        rintro e w1 ⟨rfl, rfl⟩
        go_wp2_with fail
        refine (HZ1.out _ (by omega)).mono ?_
        rintro e w1 ⟨rfl, rfl⟩
        go_wp2
        go_ret
        exact ⟨rfl, Below.refl _ _⟩
    · rw [if_neg hn0] at HZ0
      have hz0 : ¬ (1048576 - (l0.length : Int) ≥ 0) ∨ True := .inr trivial
      clear hl0 hl1 hl2
      go_enter Try.func4, Try.ntmps4
      go_wp2_with fail
      refine (HZ0.out _ (by omega)).mono ?_
      rintro e w1 ⟨rfl, rfl⟩
      go_wp2
      go_ret
      exact ⟨rfl, Below.refl _ _⟩
end Go.Proofs.Ythceffkkokgpnaa
