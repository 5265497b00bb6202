/- The walk of FnMasks. -/
import Derived.Test.YtglpkfkbbjbjjaaMaskDraws
import Derived.Test.YtglpkfkbbjbjjaaMaskMath
import Derived.Test.YtglpkfkbbjbjjaaVField
import Derived.Test.YtglpkfkbbjbjjaaAlgComb
import Derived.Test.YtglpkfkbbjbjjaaAlgImpl
import Derived.Test.YtglpkfkbbjbjjaaAlgSpecTwo
import Derived.Test.YtglpkfkbbjbjjaaAlgSpecAbs
import Derived.Test.YtglpkfkbbjbjjaaAlgSpecClip
import Derived.Test.YtglpkfkbbjbjjaaAlgSpecChoose
import Derived.Test.YtglpkfkbbjbjjaaDiffImpl
import Derived.Test.YtglpkfkbbjbjjaaChooseImpl
import Derived.Test.YtglpkfkbbjbjjaaRange
import Derived.Deep.QuietTactic
import Derived.BigQuiet
import Derived.Deep.DeepCutAuto
namespace Go.Proofs.Ytglpkfkbbjbjjaa
open Go.RowKit
set_option linter.unusedVariables false
set_option linter.unusedSimpArgs false
/-- what the law knows of a later world -/
def Gc (w : World) (a : Option Addr) (l : List Int) (w' : World) : Prop := Below w.heap.size w w' ∧ Ints .u8 w' w'.heap.size a l
theorem Gc.step {w w1 w2 : World} {a : Option Addr} {l : List Int} (h : Gc w a l w1) (hb : Below w1.heap.size w1 w2) : Gc w a l w2 :=
  ⟨below_then h.1 hb, ints_below h.2 hb⟩
/-- a field in a box of the law's own -/
structure Fd (w : World) (b : Nat) (wd hg : Int) (a : Option Addr) (L : List Int) (c : Nat) : Prop where
  k : Box w b 26 (.int .i64 wd) (.int .i64 hg) (.slice a L.length c)
  i : Ints .i64 w w.heap.size a L
theorem Fd.new {w : World} {wd hg : Int} {a : Option Addr} {L : List Int} {c : Nat} (h : Ints .i64 w w.heap.size a L) : Fd (w.alloc (.cells #[.int .i64 wd, .int .i64 hg, .slice a L.length c] 26)) w.heap.size wd hg a L c := ⟨Box.new _ _ _ _ _, ints_alloc h _⟩
theorem Fd.step {w w' : World} {b : Nat} {wd hg : Int} {a : Option Addr} {L : List Int} {c : Nat} (h : Fd w b wd hg a L c) (hb : Below w.heap.size w w') : Fd w' b wd hg a L c := ⟨h.k.below hb, ints_below h.i hb⟩
set_option maxRecDepth 100000 in
set_option maxHeartbeats 16000000 in
theorem walk_Masks (a : Option Addr) (l : List Int) (c : Nat) (w : World) (hi : Ints .u8 w w.heap.size a l) (hb : ∀ z ∈ l, 0 ≤ z ∧ z ≤ 255) (hlm : l.length ≤ maxLen) :
    Calls Try.prog 5 #[.slice a l.length c] w fun e w' => e = .returned (.bool true) ∧ Below w.heap.size w w' := by
  unfold maxLen at hlm
  by_cases hbig : (65536 : Int) < (l.length : Int)
  · clear hi hb
    go_enter Try.func5, Try.ntmps5
    go_wp2
    go_ret
    exact ⟨rfl, Below.refl _ _⟩
  · have G0 := Lib.hid (show Gc w a l w from ⟨Below.refl _ _, hi⟩)
    have HBY := Lib.hid hb
    have hl : l.length ≤ 65536 := by omega
    clear hi hb hlm
    go_enter Try.func5, Try.ntmps5
    go_wp2_with (first | (go_at_call 6; go_in) | fail)
    refine (drawMask_any _ a l c G0.out.2 HBY.out (by omega)).mono ?_
    rintro e w1 ⟨wd, hg, LA, aA, cA, wd2, hg2, LB, aB, cB, mA, mB, rfl, oA, oB, b1⟩
    have hz1 := b1.size
    obtain ⟨f1, hf1⟩ : ∃ q, w1.heap.size = q := ⟨_, rfl⟩
    have T_A := ((Fd.new (wd := wd) (hg := hg) (c := cA) (L := LA) (a := some aA) oA.ints).step (below_all _ (.cells #[.int .i64 wd2, .int .i64 hg2, .slice aB LB.length cB] 26)))
    have T_B := Fd.new (wd := wd2) (hg := hg2) (c := cB) (L := LB) (a := aB) (ints_alloc oB.ints (.cells #[.int .i64 wd, .int .i64 hg, .slice (some aA) LA.length cA] 26))
    have T_G := ((G0.out.step b1).step (below_all w1 (.cells #[.int .i64 wd, .int .i64 hg, .slice (some aA) LA.length cA] 26))).step (below_all _ (.cells #[.int .i64 wd2, .int .i64 hg2, .slice aB LB.length cB] 26))
    obtain ⟨W2, hW2⟩ : ∃ W, (w1.alloc (.cells #[.int .i64 wd, .int .i64 hg, .slice (some aA) LA.length cA] 26)).alloc (.cells #[.int .i64 wd2, .int .i64 hg2, .slice aB LB.length cB] 26) = W := ⟨_, rfl⟩
    rw [hW2] at T_A T_B T_G
    rw [World.size_alloc] at T_B
    rw [hf1] at T_A T_B
    have A2 := Lib.hid T_A
    have B2 := Lib.hid T_B
    have G2 := Lib.hid T_G
    have nA : LA.length ≤ 1048576 := by omega
    have nB : LB.length ≤ 1048576 := by omega
    have HC1 := Lib.hid (fun W h1 h2 => implMask_any wd hg (some aA) LA cA wd2 hg2 aB LB cB W h1 h2 nA nB)
    have HC2 := Lib.hid (fun W h1 h2 => specMask_any wd hg (some aA) LA cA wd2 hg2 aB LB cB W h1 h2 nA nB)
    have KEY1 := Lib.hid (fun h => mask_back (wd := wd) (hg := hg) (wd2 := wd2) (hg2 := hg2) (a := LA) (b := LB) h)
    have hlen := maskR_len wd hg LA wd2 hg2 LB
    unfold FRet at HC1 HC2
    generalize rB (maskR wd hg LA wd2 hg2 LB) = ok at *
    generalize rW (maskR wd hg LA wd2 hg2 LB) = p at *
    generalize rH (maskR wd hg LA wd2 hg2 LB) = q at *
    generalize rL (maskR wd hg LA wd2 hg2 LB) = LC at *
    clear T_A T_B T_G oA oB b1 G0
    obtain ⟨A0_, A1_, A2_⟩ := A2.out.k.cells
    obtain ⟨B0_, B1_, B2_⟩ := B2.out.k.cells
    go_wp2_with fail
    refine (HC1.out _ A2.out.i B2.out.i).mono ?_
    rintro e w3 ⟨a3, c3, rfl, o3, b3⟩
    have T_C := Fd.new (wd := p) (hg := q) (c := c3) (L := LC) (a := a3) o3.ints
    have T_G := (G2.out.step b3).step (below_all w3 (.cells #[.int .i64 p, .int .i64 q, .slice a3 (LC : List Int).length c3] 26))
    have T_A := (A2.out.step b3).step (below_all w3 (.cells #[.int .i64 p, .int .i64 q, .slice a3 (LC : List Int).length c3] 26))
    have T_B := (B2.out.step b3).step (below_all w3 (.cells #[.int .i64 p, .int .i64 q, .slice a3 (LC : List Int).length c3] 26))
    obtain ⟨f3, hf3⟩ : ∃ q, w3.heap.size = q := ⟨_, rfl⟩
    obtain ⟨W3, hW3⟩ : ∃ W, w3.alloc (.cells #[.int .i64 p, .int .i64 q, .slice a3 (LC : List Int).length c3] 26) = W := ⟨_, rfl⟩
    rw [hW3] at T_G T_A T_B T_C
    rw [hf3] at T_C
    have G3 := Lib.hid T_G
    have A3 := Lib.hid T_A
    have B3 := Lib.hid T_B
    have C3 := Lib.hid T_C
    clear o3 b3 T_G T_A T_B T_C G2 A2 B2
    clear A0_ A1_ A2_ B0_ B1_ B2_
    clear hf1 hW2
    obtain ⟨A0_, A1_, A2_⟩ := A3.out.k.cells
    obtain ⟨B0_, B1_, B2_⟩ := B3.out.k.cells
    go_wp2_with fail
    refine (HC2.out _ A3.out.i B3.out.i).mono ?_
    rintro e w4 ⟨a4, c4, rfl, o4, b4⟩
    have T_V := Fd.new (wd := p) (hg := q) (c := c4) (L := LC) (a := a4) o4.ints
    have T_G := (G3.out.step b4).step (below_all w4 (.cells #[.int .i64 p, .int .i64 q, .slice a4 (LC : List Int).length c4] 26))
    have T_A := (A3.out.step b4).step (below_all w4 (.cells #[.int .i64 p, .int .i64 q, .slice a4 (LC : List Int).length c4] 26))
    have T_B := (B3.out.step b4).step (below_all w4 (.cells #[.int .i64 p, .int .i64 q, .slice a4 (LC : List Int).length c4] 26))
    have T_C := (C3.out.step b4).step (below_all w4 (.cells #[.int .i64 p, .int .i64 q, .slice a4 (LC : List Int).length c4] 26))
    obtain ⟨f4, hf4⟩ : ∃ q, w4.heap.size = q := ⟨_, rfl⟩
    obtain ⟨W4, hW4⟩ : ∃ W, w4.alloc (.cells #[.int .i64 p, .int .i64 q, .slice a4 (LC : List Int).length c4] 26) = W := ⟨_, rfl⟩
    rw [hW4] at T_G T_A T_B T_C T_V
    rw [hf4] at T_V
    have G4 := Lib.hid T_G
    have A4 := Lib.hid T_A
    have B4 := Lib.hid T_B
    have C4 := Lib.hid T_C
    have V4 := Lib.hid T_V
    clear o4 b4 T_G T_A T_B T_C T_V G3 A3 B3 C3
    clear A0_ A1_ A2_ B0_ B1_ B2_
    clear hf3 hW3
    have nC : LC.length ≤ 1048576 := by omega
    obtain ⟨C0_, C1_, C2_⟩ := C4.out.k.cells
    obtain ⟨V0_, V1_, V2_⟩ := V4.out.k.cells
    go_wp2_with fail
    refine (vField_yes p q _ _ LC _ _ _ C4.out.i V4.out.i nC).mono ?_
    rintro e w5 ⟨rfl, b5⟩
    have G5 := Lib.hid (G4.out.step b5)
    have A5 := Lib.hid (A4.out.step b5)
    have B5 := Lib.hid (B4.out.step b5)
    have C5 := Lib.hid (C4.out.step b5)
    have V5 := Lib.hid (V4.out.step b5)
    clear b5 G4 A4 B4 C4 V4
    clear C0_ C1_ C2_ V0_ V1_ V2_
    clear hf4 hW4
    clear V5
    clear HC1 HC2
    go_upto_if 64 with fail
    go_cut [] (fun wx => Gc w a l wx)
    case first =>
      as_aux_lemma =>
        cases ok with
        | false =>
          go_wp2_with fail
          go_meet
          exact G5.out
        | true =>
          obtain ⟨ep, eq, hf, hd, hs⟩ := KEY1.out rfl
          subst ep eq
          have HD1 := Lib.hid (fun W h1 h2 => implFill_any p q a3 LC c3 p q (some aA) LA cA W h1 h2 nC nA)
          rw [hf] at HD1
          unfold FRet at HD1
          simp only [rW, rH, rL, rB] at HD1
          have HD2 := Lib.hid (fun W a6 c6 h1 h2 => implDiff_any p q a6 LA c6 p q (some aA) LA cA W h1 h2 nA nA)
          rw [hd, hs] at HD2
          clear KEY1 hf hd hs
          obtain ⟨C0_, C1_, C2_⟩ := C5.out.k.cells
          obtain ⟨A0_, A1_, A2_⟩ := A5.out.k.cells
          go_wp2_with fail
          refine (HD1.out _ C5.out.i A5.out.i).mono ?_
          rintro e w6 ⟨a6, c6, rfl, o6, b6⟩
          have T_K := Fd.new (wd := p) (hg := q) (c := c6) (L := LA) (a := a6) o6.ints
          have T_G := (G5.out.step b6).step (below_all w6 (.cells #[.int .i64 p, .int .i64 q, .slice a6 (LA : List Int).length c6] 26))
          have T_A := (A5.out.step b6).step (below_all w6 (.cells #[.int .i64 p, .int .i64 q, .slice a6 (LA : List Int).length c6] 26))
          have T_B := (B5.out.step b6).step (below_all w6 (.cells #[.int .i64 p, .int .i64 q, .slice a6 (LA : List Int).length c6] 26))
          have T_C := (C5.out.step b6).step (below_all w6 (.cells #[.int .i64 p, .int .i64 q, .slice a6 (LA : List Int).length c6] 26))
          obtain ⟨f6, hf6⟩ : ∃ q, w6.heap.size = q := ⟨_, rfl⟩
          obtain ⟨W6, hW6⟩ : ∃ W, w6.alloc (.cells #[.int .i64 p, .int .i64 q, .slice a6 (LA : List Int).length c6] 26) = W := ⟨_, rfl⟩
          rw [hW6] at T_G T_A T_B T_C T_K
          rw [hf6] at T_K
          have G6 := Lib.hid T_G
          have A6 := Lib.hid T_A
          have B6 := Lib.hid T_B
          have C6 := Lib.hid T_C
          have K6 := Lib.hid T_K
          clear o6 b6 T_G T_A T_B T_C T_K G5 A5 B5 C5
          clear C0_ C1_ C2_ A0_ A1_ A2_
          obtain ⟨K0_, K1_, K2_⟩ := K6.out.k.cells
          obtain ⟨A0_, A1_, A2_⟩ := A6.out.k.cells
          go_wp2_with fail
          refine (HD2.out _ _ _ K6.out.i A6.out.i).mono ?_
          rintro e w7 ⟨rfl, b7⟩
          have G7 := Lib.hid (G6.out.step b7)
          have A7 := Lib.hid (A6.out.step b7)
          have B7 := Lib.hid (B6.out.step b7)
          have C7 := Lib.hid (C6.out.step b7)
          have K7 := Lib.hid (K6.out.step b7)
          clear b7 G6 A6 B6 C6 K6
          clear K0_ K1_ K2_ A0_ A1_ A2_
          clear hf6 hW6
          go_wp2_with fail
          go_meet
          exact G7.out
    case rest =>
    have G20 := Lib.hid hcut
    clear hcut KEY1 G5 A5 B5 C5
    go_wp2_with fail
    refine (drawChoose_any _ a l c G20.out.2 HBY.out (by omega)).mono ?_
    rintro e w21 ⟨wa, ha, LX, aX, cX, wt, ht, LT, aT, cT, wb, hb2, LY, aY, cY, mX, mT, mY, rfl, oX, oT, oY, b21⟩
    obtain ⟨f21, hf21⟩ : ∃ q, w21.heap.size = q := ⟨_, rfl⟩
    have T_T := ((Fd.new (wd := wt) (hg := ht) (c := cT) (L := LT) (a := aT) oT.ints).step (below_all _ (.cells #[.int .i64 wa, .int .i64 ha, .slice (some aX) LX.length cX] 26))).step (below_all _ (.cells #[.int .i64 wb, .int .i64 hb2, .slice aY LY.length cY] 26))
    have T_X := (Fd.new (wd := wa) (hg := ha) (c := cX) (L := LX) (a := some aX) (ints_alloc oX.ints (.cells #[.int .i64 wt, .int .i64 ht, .slice aT LT.length cT] 26))).step (below_all _ (.cells #[.int .i64 wb, .int .i64 hb2, .slice aY LY.length cY] 26))
    have T_Y := Fd.new (wd := wb) (hg := hb2) (c := cY) (L := LY) (a := aY) (ints_alloc (ints_alloc oY.ints (.cells #[.int .i64 wt, .int .i64 ht, .slice aT LT.length cT] 26)) (.cells #[.int .i64 wa, .int .i64 ha, .slice (some aX) LX.length cX] 26))
    have T_G := (((G20.out.step b21).step (below_all w21 (.cells #[.int .i64 wt, .int .i64 ht, .slice aT LT.length cT] 26))).step (below_all _ (.cells #[.int .i64 wa, .int .i64 ha, .slice (some aX) LX.length cX] 26))).step (below_all _ (.cells #[.int .i64 wb, .int .i64 hb2, .slice aY LY.length cY] 26))
    obtain ⟨W22, hW22⟩ : ∃ W, ((w21.alloc (.cells #[.int .i64 wt, .int .i64 ht, .slice aT LT.length cT] 26)).alloc (.cells #[.int .i64 wa, .int .i64 ha, .slice (some aX) LX.length cX] 26)).alloc (.cells #[.int .i64 wb, .int .i64 hb2, .slice aY LY.length cY] 26) = W := ⟨_, rfl⟩
    rw [hW22] at T_T T_X T_Y T_G
    simp only [World.size_alloc] at T_X T_Y
    rw [hf21] at T_T T_X T_Y
    have T22 := Lib.hid T_T
    have X22 := Lib.hid T_X
    have Y22 := Lib.hid T_Y
    have G22 := Lib.hid T_G
    have nX : LX.length ≤ 1048576 := by omega
    have nT : LT.length ≤ 1048576 := by omega
    have nY : LY.length ≤ 1048576 := by omega
    have HC1 := Lib.hid (fun W h0 h1 h2 => implChoose_any wt ht aT LT cT wa ha (some aX) LX cX wb hb2 aY LY cY W h0 h1 h2 nT nX nY)
    have HC2 := Lib.hid (fun W h0 h1 h2 => specChoose_any wt ht aT LT cT wa ha (some aX) LX cX wb hb2 aY LY cY W h0 h1 h2 nT nX nY)
    have KEY2 := Lib.hid (choose_from wt ht LT wa ha LX wb hb2 LY)
    have hlen2 := chooseR_len wt ht LT wa ha LX wb hb2 LY
    unfold FRet at HC1 HC2
    generalize rB (chooseR wt ht LT wa ha LX wb hb2 LY) = okc at *
    generalize rW (chooseR wt ht LT wa ha LX wb hb2 LY) = pc at *
    generalize rH (chooseR wt ht LT wa ha LX wb hb2 LY) = qc at *
    generalize rL (chooseR wt ht LT wa ha LX wb hb2 LY) = LD at *
    clear T_T T_X T_Y T_G oX oT oY b21 G20
    obtain ⟨T0_, T1_, T2_⟩ := T22.out.k.cells
    obtain ⟨X0_, X1_, X2_⟩ := X22.out.k.cells
    obtain ⟨Y0_, Y1_, Y2_⟩ := Y22.out.k.cells
    go_wp2_with fail
    refine (HC1.out _ T22.out.i X22.out.i Y22.out.i).mono ?_
    rintro e w23 ⟨a23, c23, rfl, o23, b23⟩
    have T_D := Fd.new (wd := pc) (hg := qc) (c := c23) (L := LD) (a := a23) o23.ints
    have T_G := (G22.out.step b23).step (below_all w23 (.cells #[.int .i64 pc, .int .i64 qc, .slice a23 (LD : List Int).length c23] 26))
    have T_T := (T22.out.step b23).step (below_all w23 (.cells #[.int .i64 pc, .int .i64 qc, .slice a23 (LD : List Int).length c23] 26))
    have T_X := (X22.out.step b23).step (below_all w23 (.cells #[.int .i64 pc, .int .i64 qc, .slice a23 (LD : List Int).length c23] 26))
    have T_Y := (Y22.out.step b23).step (below_all w23 (.cells #[.int .i64 pc, .int .i64 qc, .slice a23 (LD : List Int).length c23] 26))
    obtain ⟨f23, hf23⟩ : ∃ q, w23.heap.size = q := ⟨_, rfl⟩
    obtain ⟨W23, hW23⟩ : ∃ W, w23.alloc (.cells #[.int .i64 pc, .int .i64 qc, .slice a23 (LD : List Int).length c23] 26) = W := ⟨_, rfl⟩
    rw [hW23] at T_G T_T T_X T_Y T_D
    rw [hf23] at T_D
    have G23 := Lib.hid T_G
    have T23 := Lib.hid T_T
    have X23 := Lib.hid T_X
    have Y23 := Lib.hid T_Y
    have D23 := Lib.hid T_D
    clear o23 b23 T_G T_T T_X T_Y T_D G22 T22 X22 Y22
    clear T0_ T1_ T2_ X0_ X1_ X2_ Y0_ Y1_ Y2_
    clear hf21 hW22
    obtain ⟨T0_, T1_, T2_⟩ := T23.out.k.cells
    obtain ⟨X0_, X1_, X2_⟩ := X23.out.k.cells
    obtain ⟨Y0_, Y1_, Y2_⟩ := Y23.out.k.cells
    go_wp2_with fail
    refine (HC2.out _ T23.out.i X23.out.i Y23.out.i).mono ?_
    rintro e w24 ⟨a24, c24, rfl, o24, b24⟩
    have T_V := Fd.new (wd := pc) (hg := qc) (c := c24) (L := LD) (a := a24) o24.ints
    have T_G := (G23.out.step b24).step (below_all w24 (.cells #[.int .i64 pc, .int .i64 qc, .slice a24 (LD : List Int).length c24] 26))
    have T_T := (T23.out.step b24).step (below_all w24 (.cells #[.int .i64 pc, .int .i64 qc, .slice a24 (LD : List Int).length c24] 26))
    have T_X := (X23.out.step b24).step (below_all w24 (.cells #[.int .i64 pc, .int .i64 qc, .slice a24 (LD : List Int).length c24] 26))
    have T_Y := (Y23.out.step b24).step (below_all w24 (.cells #[.int .i64 pc, .int .i64 qc, .slice a24 (LD : List Int).length c24] 26))
    have T_D := (D23.out.step b24).step (below_all w24 (.cells #[.int .i64 pc, .int .i64 qc, .slice a24 (LD : List Int).length c24] 26))
    obtain ⟨f24, hf24⟩ : ∃ q, w24.heap.size = q := ⟨_, rfl⟩
    obtain ⟨W24, hW24⟩ : ∃ W, w24.alloc (.cells #[.int .i64 pc, .int .i64 qc, .slice a24 (LD : List Int).length c24] 26) = W := ⟨_, rfl⟩
    rw [hW24] at T_G T_T T_X T_Y T_D T_V
    rw [hf24] at T_V
    have G24 := Lib.hid T_G
    have T24 := Lib.hid T_T
    have X24 := Lib.hid T_X
    have Y24 := Lib.hid T_Y
    have D24 := Lib.hid T_D
    have V24 := Lib.hid T_V
    clear o24 b24 T_G T_T T_X T_Y T_D T_V G23 T23 X23 Y23 D23
    clear T0_ T1_ T2_ X0_ X1_ X2_ Y0_ Y1_ Y2_
    clear hf23 hW23
    have nD : LD.length ≤ 1048576 := by omega
    obtain ⟨D0_, D1_, D2_⟩ := D24.out.k.cells
    obtain ⟨V0_, V1_, V2_⟩ := V24.out.k.cells
    go_wp2_with fail
    refine (vField_yes pc qc _ _ LD _ _ _ D24.out.i V24.out.i nD).mono ?_
    rintro e w25 ⟨rfl, b25⟩
    have G25 := Lib.hid (G24.out.step b25)
    have T25 := Lib.hid (T24.out.step b25)
    have X25 := Lib.hid (X24.out.step b25)
    have Y25 := Lib.hid (Y24.out.step b25)
    have D25 := Lib.hid (D24.out.step b25)
    have V25 := Lib.hid (V24.out.step b25)
    clear b25 G24 T24 X24 Y24 D24 V24
    clear D0_ D1_ D2_ V0_ V1_ V2_
    clear hf24 hW24
    clear V25
    clear HC1 HC2
    obtain ⟨T0_, T1_, T2_⟩ := T25.out.k.cells
    obtain ⟨X0_, X1_, X2_⟩ := X25.out.k.cells
    obtain ⟨Y0_, Y1_, Y2_⟩ := Y25.out.k.cells
    obtain ⟨D0_, D1_, D2_⟩ := D25.out.k.cells
    go_wp2_with fail
    go_loopw [20] (fun i wr => ∃ k : Nat, k ≤ LD.length ∧ i = .int .i64 k ∧ Drew w25 wr) (fun i _ => LD.length - (intOf i).toNat)
    case atStart => exact ⟨0, Nat.zero_le _, rfl, Drew.refl _⟩
    case round =>
      obtain ⟨k, hk, rfl, hw⟩ := hrel
      have HW := Lib.hid hw
      have tt2 := (hw.cell ⟨f21, 2, none⟩).trans T2_
      have xx2 := (hw.cell ⟨f21 + 1, 2, none⟩).trans X2_
      have yy2 := (hw.cell ⟨f21 + 1 + 1, 2, none⟩).trans Y2_
      have dd2 := (hw.cell ⟨f23, 2, none⟩).trans D2_
      clear hw
      by_cases hlt : k < LD.length
      · obtain ⟨ht1, hx1, hy1, hval⟩ := KEY2.out k hlt
        obtain ⟨bt, ot, et, _, ct⟩ := (T25.out.i.drew HW.out).at_ ht1
        obtain ⟨bx, ox, ex, _, cx⟩ := (X25.out.i.drew HW.out).at_ hx1
        obtain ⟨bz, oz, ez, _, cz⟩ := (Y25.out.i.drew HW.out).at_ hy1
        obtain ⟨bd, od, ed, _, cd⟩ := (D25.out.i.drew HW.out).at_ hlt
        subst et ez ed
        injection ex with ex
        subst ex
        have hi1 : (k : Int) < (LD.length : Int) := by omega
        have hi2 : (k : Int) < (LT.length : Int) := by omega
        have hi3 : (k : Int) < (LX.length : Int) := by omega
        have hi4 : (k : Int) < (LY.length : Int) := by omega
        have hi0 : (0 : Int) ≤ (k : Int) := by omega
        generalize LT[k] = zt at *
        generalize LX[k] = zx at *
        generalize LY[k] = zy at *
        generalize LD[k] = zd at *
        clear T0_ T1_ T2_ X0_ X1_ X2_ Y0_ Y1_ Y2_ D0_ D1_ D2_ T25 X25 Y25 D25
        by_cases hca : zd = zx
        · subst hca
          clear hval ct cz
          go_wp2_with fail
          go_quiet (fail)
          go_wp2_with fail
          go_roundw
          case rel => exact ⟨k + 1, by omega, by go_num, HW.out.more _⟩
          case measure => simp [intOf]; omega
        · have e1 : (zd != zx) = true := by simp [hca]
          by_cases hcb : zd = zy
          · subst hcb
            clear hval hca ct
            go_wp2_with fail
            go_quiet (fail)
            go_wp2_with fail
            go_roundw
            case rel => exact ⟨k + 1, by omega, by go_num, HW.out.more _⟩
            case measure => simp [intOf]; omega
          · have e2 : (zd != zy) = true := by simp [hcb]
            obtain rfl : zt = -9999 := by
              rcases hval with h | h | h
              · exact absurd h hca
              · exact absurd h hcb
              · exact h
            clear hval hca hcb
            go_wp2_with fail
            go_quiet (fail)
            go_wp2_with fail
            go_roundw
            case rel => exact ⟨k + 1, by omega, by go_num, HW.out.more _⟩
            case measure => simp [intOf]; omega
      · obtain rfl : k = LD.length := by omega
        have G30 := Lib.hid (G25.out.step (HW.out.below _))
        clear T0_ T1_ T2_ X0_ X1_ X2_ Y0_ Y1_ Y2_ D0_ D1_ D2_ G25 T25 X25 Y25 D25 HW KEY2 xx2 yy2 tt2
        go_wp2_with fail
        refine (drawClip_any _ a l c G30.out.2 HBY.out (by omega)).mono ?_
        rintro e w31 ⟨wd3, hg3, L3, aS, cS, lo, hi, mL3, rfl, o31, b31⟩
        have T_S := Fd.new (wd := wd3) (hg := hg3) (c := cS) (L := L3) (a := (some aS)) o31.ints
        have T_G := (G30.out.step b31).step (below_all w31 (.cells #[.int .i64 wd3, .int .i64 hg3, .slice (some aS) (L3 : List Int).length cS] 26))
        obtain ⟨f31, hf31⟩ : ∃ q, w31.heap.size = q := ⟨_, rfl⟩
        obtain ⟨W31, hW31⟩ : ∃ W, w31.alloc (.cells #[.int .i64 wd3, .int .i64 hg3, .slice (some aS) (L3 : List Int).length cS] 26) = W := ⟨_, rfl⟩
        rw [hW31] at T_S T_G
        rw [hf31] at T_S
        have S31 := Lib.hid T_S
        have G31 := Lib.hid T_G
        clear T_S T_G o31 b31 G30
        have nS31 : L3.length ≤ 1048576 := by omega
        have HS1 := Lib.hid (fun W h1 => implClip_any wd3 hg3 (some aS) L3 cS lo hi W h1 nS31)
        have HS2 := Lib.hid (fun W h1 => specClip_any wd3 hg3 (some aS) L3 cS lo hi W h1 nS31)
        have KEY3 := Lib.hid (fun h k => clip_range (wd := wd3) (hg := hg3) (low := lo) (high := hi) (l := L3) h k)
        have hlen31 := clipR_len wd3 hg3 L3 lo hi
        unfold FRet at HS1 HS2
        generalize rB (clipR wd3 hg3 L3 lo hi) = ok31 at *
        generalize rW (clipR wd3 hg3 L3 lo hi) = p31 at *
        generalize rH (clipR wd3 hg3 L3 lo hi) = q31 at *
        generalize rL (clipR wd3 hg3 L3 lo hi) = M31 at *
        obtain ⟨S0_, S1_, S2_⟩ := S31.out.k.cells
        go_wp2_with fail
        refine (HS1.out _ S31.out.i).mono ?_
        rintro e w32 ⟨a32, c32, rfl, o32, b32⟩
        have T_E := Fd.new (wd := p31) (hg := q31) (c := c32) (L := M31) (a := a32) o32.ints
        have T_G := (G31.out.step b32).step (below_all w32 (.cells #[.int .i64 p31, .int .i64 q31, .slice a32 (M31 : List Int).length c32] 26))
        have T_S := (S31.out.step b32).step (below_all w32 (.cells #[.int .i64 p31, .int .i64 q31, .slice a32 (M31 : List Int).length c32] 26))
        obtain ⟨f32, hf32⟩ : ∃ q, w32.heap.size = q := ⟨_, rfl⟩
        obtain ⟨W32, hW32⟩ : ∃ W, w32.alloc (.cells #[.int .i64 p31, .int .i64 q31, .slice a32 (M31 : List Int).length c32] 26) = W := ⟨_, rfl⟩
        rw [hW32] at T_G T_S T_E
        rw [hf32] at T_E
        have G32 := Lib.hid T_G
        have S32 := Lib.hid T_S
        have E32 := Lib.hid T_E
        clear o32 b32 T_G T_S T_E G31 S31
        clear S0_ S1_ S2_
        clear hf31 hW31
        obtain ⟨S0_, S1_, S2_⟩ := S32.out.k.cells
        go_wp2_with fail
        refine (HS2.out _ S32.out.i).mono ?_
        rintro e w33 ⟨a33, c33, rfl, o33, b33⟩
        have T_H := Fd.new (wd := p31) (hg := q31) (c := c33) (L := M31) (a := a33) o33.ints
        have T_G := (G32.out.step b33).step (below_all w33 (.cells #[.int .i64 p31, .int .i64 q31, .slice a33 (M31 : List Int).length c33] 26))
        have T_S := (S32.out.step b33).step (below_all w33 (.cells #[.int .i64 p31, .int .i64 q31, .slice a33 (M31 : List Int).length c33] 26))
        have T_E := (E32.out.step b33).step (below_all w33 (.cells #[.int .i64 p31, .int .i64 q31, .slice a33 (M31 : List Int).length c33] 26))
        obtain ⟨f33, hf33⟩ : ∃ q, w33.heap.size = q := ⟨_, rfl⟩
        obtain ⟨W33, hW33⟩ : ∃ W, w33.alloc (.cells #[.int .i64 p31, .int .i64 q31, .slice a33 (M31 : List Int).length c33] 26) = W := ⟨_, rfl⟩
        rw [hW33] at T_G T_S T_E T_H
        rw [hf33] at T_H
        have G33 := Lib.hid T_G
        have S33 := Lib.hid T_S
        have E33 := Lib.hid T_E
        have H33 := Lib.hid T_H
        clear o33 b33 T_G T_S T_E T_H G32 S32 E32
        clear S0_ S1_ S2_
        clear hf32 hW32
        have nM31 : M31.length ≤ 1048576 := by omega
        have hbb : (ok31 == ok31) = true := by cases ok31 <;> rfl
        obtain ⟨E0_, E1_, E2_⟩ := E33.out.k.cells
        obtain ⟨H0_, H1_, H2_⟩ := H33.out.k.cells
        go_wp2_with fail
        refine (vField_yes p31 q31 _ _ M31 _ _ _ E33.out.i H33.out.i nM31).mono ?_
        rintro e w34 ⟨rfl, b34⟩
        have G34 := Lib.hid (G33.out.step b34)
        have S34 := Lib.hid (S33.out.step b34)
        have E34 := Lib.hid (E33.out.step b34)
        have H34 := Lib.hid (H33.out.step b34)
        clear b34 G33 S33 E33 H33
        clear E0_ E1_ E2_ H0_ H1_ H2_
        clear hf33 hW33
        clear hbb HS1 HS2
        clear H34
        go_upto_if 184 with fail
        go_cut [] (fun wx => Gc w a l wx)
        case first =>
          as_aux_lemma =>
            cases ok31 with
            | false =>
              go_wp2_with fail
              go_meet
              exact G34.out
            | true =>
              have HR := Lib.hid (fun W h1 => implRange_any p31 q31 a32 M31 c32 W h1 nM31)
              have HK := Lib.hid (fun k => KEY3.out rfl k)
              clear KEY3
              generalize rngLo p31 q31 M31 = xlo at *
              generalize rngHi p31 q31 M31 = xhi at *
              generalize rngB p31 q31 M31 = vk at *
              obtain ⟨E0_, E1_, E2_⟩ := E34.out.k.cells
              go_wp2_with fail
              refine (HR.out _ E34.out.i).mono ?_
              rintro e w35 ⟨rfl, b35⟩
              have G35 := Lib.hid (G34.out.step b35)
              clear b35 E0_ E1_ E2_
              cases vk with
              | false =>
                go_wp2_with fail
                go_meet
                exact G35.out
              | true =>
                obtain ⟨hk1, hk2⟩ := HK.out rfl
                have n1 : ¬ (xlo < lo) := by omega
                have n2 : ¬ (hi < xhi) := by omega
                clear hk1 hk2
                go_wp2_with fail
                go_meet
                exact G35.out
        case rest =>
        have G50 := Lib.hid hcut
        clear hcut KEY3 G34 S34 E34
        go_wp2_with fail
        refine (drawAbs_any _ a l c G50.out.2 HBY.out (by omega)).mono ?_
        rintro e w51 ⟨wd4, hg4, L4, aU, cU, mL4, rfl, o51, b51⟩
        have T_S := Fd.new (wd := wd4) (hg := hg4) (c := cU) (L := L4) (a := (some aU)) o51.ints
        have T_G := (G50.out.step b51).step (below_all w51 (.cells #[.int .i64 wd4, .int .i64 hg4, .slice (some aU) (L4 : List Int).length cU] 26))
        obtain ⟨f51, hf51⟩ : ∃ q, w51.heap.size = q := ⟨_, rfl⟩
        obtain ⟨W51, hW51⟩ : ∃ W, w51.alloc (.cells #[.int .i64 wd4, .int .i64 hg4, .slice (some aU) (L4 : List Int).length cU] 26) = W := ⟨_, rfl⟩
        rw [hW51] at T_S T_G
        rw [hf51] at T_S
        have S51 := Lib.hid T_S
        have G51 := Lib.hid T_G
        clear T_S T_G o51 b51 G50
        have nS51 : L4.length ≤ 1048576 := by omega
        have HS1 := Lib.hid (fun W h1 => implAbs_any wd4 hg4 (some aU) L4 cU W h1 nS51)
        have HS2 := Lib.hid (fun W h1 => specAbs_any wd4 hg4 (some aU) L4 cU W h1 nS51)
        have hlen51 := absR_len wd4 hg4 L4
        unfold FRet at HS1 HS2
        generalize rB (absR wd4 hg4 L4) = ok51 at *
        generalize rW (absR wd4 hg4 L4) = p51 at *
        generalize rH (absR wd4 hg4 L4) = q51 at *
        generalize rL (absR wd4 hg4 L4) = M51 at *
        obtain ⟨S0_, S1_, S2_⟩ := S51.out.k.cells
        go_wp2_with fail
        refine (HS1.out _ S51.out.i).mono ?_
        rintro e w52 ⟨a52, c52, rfl, o52, b52⟩
        have T_E := Fd.new (wd := p51) (hg := q51) (c := c52) (L := M51) (a := a52) o52.ints
        have T_G := (G51.out.step b52).step (below_all w52 (.cells #[.int .i64 p51, .int .i64 q51, .slice a52 (M51 : List Int).length c52] 26))
        have T_S := (S51.out.step b52).step (below_all w52 (.cells #[.int .i64 p51, .int .i64 q51, .slice a52 (M51 : List Int).length c52] 26))
        obtain ⟨f52, hf52⟩ : ∃ q, w52.heap.size = q := ⟨_, rfl⟩
        obtain ⟨W52, hW52⟩ : ∃ W, w52.alloc (.cells #[.int .i64 p51, .int .i64 q51, .slice a52 (M51 : List Int).length c52] 26) = W := ⟨_, rfl⟩
        rw [hW52] at T_G T_S T_E
        rw [hf52] at T_E
        have G52 := Lib.hid T_G
        have S52 := Lib.hid T_S
        have E52 := Lib.hid T_E
        clear o52 b52 T_G T_S T_E G51 S51
        clear S0_ S1_ S2_
        clear hf51 hW51
        obtain ⟨S0_, S1_, S2_⟩ := S52.out.k.cells
        go_wp2_with fail
        refine (HS2.out _ S52.out.i).mono ?_
        rintro e w53 ⟨a53, c53, rfl, o53, b53⟩
        have T_H := Fd.new (wd := p51) (hg := q51) (c := c53) (L := M51) (a := a53) o53.ints
        have T_G := (G52.out.step b53).step (below_all w53 (.cells #[.int .i64 p51, .int .i64 q51, .slice a53 (M51 : List Int).length c53] 26))
        have T_S := (S52.out.step b53).step (below_all w53 (.cells #[.int .i64 p51, .int .i64 q51, .slice a53 (M51 : List Int).length c53] 26))
        have T_E := (E52.out.step b53).step (below_all w53 (.cells #[.int .i64 p51, .int .i64 q51, .slice a53 (M51 : List Int).length c53] 26))
        obtain ⟨f53, hf53⟩ : ∃ q, w53.heap.size = q := ⟨_, rfl⟩
        obtain ⟨W53, hW53⟩ : ∃ W, w53.alloc (.cells #[.int .i64 p51, .int .i64 q51, .slice a53 (M51 : List Int).length c53] 26) = W := ⟨_, rfl⟩
        rw [hW53] at T_G T_S T_E T_H
        rw [hf53] at T_H
        have G53 := Lib.hid T_G
        have S53 := Lib.hid T_S
        have E53 := Lib.hid T_E
        have H53 := Lib.hid T_H
        clear o53 b53 T_G T_S T_E T_H G52 S52 E52
        clear S0_ S1_ S2_
        clear hf52 hW52
        have nM51 : M51.length ≤ 1048576 := by omega
        have hbb : (ok51 == ok51) = true := by cases ok51 <;> rfl
        obtain ⟨E0_, E1_, E2_⟩ := E53.out.k.cells
        obtain ⟨H0_, H1_, H2_⟩ := H53.out.k.cells
        go_wp2_with fail
        refine (vField_yes p51 q51 _ _ M51 _ _ _ E53.out.i H53.out.i nM51).mono ?_
        rintro e w54 ⟨rfl, b54⟩
        have G54 := Lib.hid (G53.out.step b54)
        have S54 := Lib.hid (S53.out.step b54)
        have E54 := Lib.hid (E53.out.step b54)
        have H54 := Lib.hid (H53.out.step b54)
        clear b54 G53 S53 E53 H53
        clear E0_ E1_ E2_ H0_ H1_ H2_
        clear hf53 hW53
        go_wp2_with fail
        go_ret
        exact ⟨rfl, G54.out.1⟩
end Go.Proofs.Ytglpkfkbbjbjjaa
