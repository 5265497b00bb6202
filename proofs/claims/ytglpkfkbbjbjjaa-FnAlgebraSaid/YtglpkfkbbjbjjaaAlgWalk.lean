/- The walk of FnAlgebra. -/
import Derived.Test.YtglpkfkbbjbjjaaAlgDraws
import Derived.Test.YtglpkfkbbjbjjaaAlgLawMath
import Derived.Test.YtglpkfkbbjbjjaaVField
import Derived.Test.YtglpkfkbbjbjjaaAlgComb
import Derived.Test.YtglpkfkbbjbjjaaAlgImpl
import Derived.Test.YtglpkfkbbjbjjaaAlgSpecCombine
import Derived.Test.YtglpkfkbbjbjjaaAlgSpecScale
import Derived.Deep.QuietTactic
import Derived.BigQuiet
import Derived.Deep.DeepCutAuto
namespace Go.Proofs.Ytglpkfkbbjbjjaa
open Go.RowKit
set_option linter.unusedVariables false
set_option linter.unusedSimpArgs false
/-- what the law knows of a later world -/
def Gc (w : World) (a : Option Addr) (l : List Int) (w' : World) : Prop := Below w.heap.size w w' ∧ Ints .u8 w' w'.heap.size a l
theorem Gc.step {w w1 w2 : World} {a : Option Addr} {l : List Int} (h : Gc w a l w1) (hb : Below w1.heap.size w1 w2) : Gc w a l w2 :=
  ⟨below_then h.1 hb, ints_below h.2 hb⟩
/-- a field in a box of the law's own -/
structure Fd (w : World) (b : Nat) (wd hg : Int) (a : Option Addr) (L : List Int) (c : Nat) : Prop where
  k : Box w b 26 (.int .i64 wd) (.int .i64 hg) (.slice a L.length c)
  i : Ints .i64 w w.heap.size a L
theorem Fd.new {w : World} {wd hg : Int} {a : Option Addr} {L : List Int} {c : Nat} (h : Ints .i64 w w.heap.size a L) : Fd (w.alloc (.cells #[.int .i64 wd, .int .i64 hg, .slice a L.length c] 26)) w.heap.size wd hg a L c := ⟨Box.new _ _ _ _ _, ints_alloc h _⟩
theorem Fd.step {w w' : World} {b : Nat} {wd hg : Int} {a : Option Addr} {L : List Int} {c : Nat} (h : Fd w b wd hg a L c) (hb : Below w.heap.size w w') : Fd w' b wd hg a L c := ⟨h.k.below hb, ints_below h.i hb⟩
set_option maxRecDepth 100000 in
set_option maxHeartbeats 16000000 in
theorem walk_Algebra (a : Option Addr) (l : List Int) (c : Nat) (w : World) (hi : Ints .u8 w w.heap.size a l) (hb : ∀ z ∈ l, 0 ≤ z ∧ z ≤ 255) (hlm : l.length ≤ maxLen) :
    Calls Try.prog 4 #[.slice a l.length c] w fun e w' => e = .returned (.bool true) ∧ Below w.heap.size w w' := by
  unfold maxLen at hlm
  by_cases hbig : (65536 : Int) < (l.length : Int)
  · clear hi hb
    go_enter Try.func4, Try.ntmps4
    go_wp2
    go_ret
    exact ⟨rfl, Below.refl _ _⟩
  · have G0 := Lib.hid (show Gc w a l w from ⟨Below.refl _ _, hi⟩)
    have HBY := Lib.hid hb
    have hl : l.length ≤ 65536 := by omega
    clear hi hb hlm
    go_enter Try.func4, Try.ntmps4
    go_wp2_with (first | (go_at_call 6; go_in) | fail)
    refine (drawCombine_any _ a l c G0.out.2 HBY.out (by omega)).mono ?_
    rintro e w1 ⟨op, wd, hg, LA, aA, cA, wd2, hg2, LB, aB, cB, mA, mB, op0, op5, rfl, oA, oB, b1⟩
    have hz1 := b1.size
    obtain ⟨f1, hf1⟩ : ∃ q, w1.heap.size = q := ⟨_, rfl⟩
    have T_A := ((Fd.new (wd := wd) (hg := hg) (c := cA) (L := LA) (a := some aA) oA.ints).step (below_all _ (.cells #[.int .i64 wd2, .int .i64 hg2, .slice aB LB.length cB] 26)))
    have T_B := Fd.new (wd := wd2) (hg := hg2) (c := cB) (L := LB) (a := aB) (ints_alloc oB.ints (.cells #[.int .i64 wd, .int .i64 hg, .slice (some aA) LA.length cA] 26))
    have T_G := ((G0.out.step b1).step (below_all w1 (.cells #[.int .i64 wd, .int .i64 hg, .slice (some aA) LA.length cA] 26))).step (below_all _ (.cells #[.int .i64 wd2, .int .i64 hg2, .slice aB LB.length cB] 26))
    obtain ⟨W2, hW2⟩ : ∃ W, (w1.alloc (.cells #[.int .i64 wd, .int .i64 hg, .slice (some aA) LA.length cA] 26)).alloc (.cells #[.int .i64 wd2, .int .i64 hg2, .slice aB LB.length cB] 26) = W := ⟨_, rfl⟩
    rw [hW2] at T_A T_B T_G
    rw [World.size_alloc] at T_B
    rw [hf1] at T_A T_B
    have A2 := Lib.hid T_A
    have B2 := Lib.hid T_B
    have G2 := Lib.hid T_G
    have nA : LA.length ≤ 1048576 := by omega
    have nB : LB.length ≤ 1048576 := by omega
    have HC1 := Lib.hid (fun W h1 h2 => implCombine_any op wd hg (some aA) LA cA wd2 hg2 aB LB cB W h1 h2 nA nB)
    have HC2 := Lib.hid (fun W h1 h2 => specCombine_any op wd hg (some aA) LA cA wd2 hg2 aB LB cB W h1 h2 nA nB)
    have KEY1 := Lib.hid (show rB (combineR op wd hg LA wd2 hg2 LB) = true → op = 1 → wd2 = wd ∧ hg2 = hg ∧ rW (combineR op wd hg LA wd2 hg2 LB) = wd ∧ rH (combineR op wd hg LA wd2 hg2 LB) = hg ∧ ∃ bk mk : List Int, combineR 2 wd hg (rL (combineR op wd hg LA wd2 hg2 LB)) wd hg LB = some (wd, hg, bk) ∧ combineR 3 wd hg LA wd hg (rL (combineR op wd hg LA wd2 hg2 LB)) = some (wd, hg, mk) ∧ bk.length = LA.length ∧ mk.length = LA.length ∧
        ∀ k (h1 : k < bk.length) (h2 : k < mk.length) (h3 : k < LA.length), (bk[k] = -9999 ∧ mk[k] = -9999) ∨ (¬ bk[k] = -9999 ∧ ¬ mk[k] = -9999 ∧ bk[k] = LA[k]) from by
      intro h1 h2
      cases hs : sameB wd hg LA wd2 hg2 LB with
      | false => rw [combine_no hs] at h1; cases h1
      | true =>
        obtain ⟨_, _, rfl, rfl⟩ := same_iff.1 hs
        obtain ⟨⟨p, q, LC⟩, hr⟩ : ∃ x, combineR op wd hg LA wd hg LB = some x := by
          cases hr : combineR op wd hg LA wd hg LB with
          | none => rw [hr] at h1; cases h1
          | some x => exact ⟨x, rfl⟩
        obtain ⟨e1, e2, e3, e4⟩ := combine_some h2 hr hs
        rw [hr]
        exact ⟨rfl, rfl, e1, e2, add_back hs e3 e4⟩)
    have KEY2 := Lib.hid (show (combineR 3 wd hg LA wd2 hg2 LB = none ∧ combineR 4 wd hg LA wd2 hg2 LB = none) ∨ ∃ x y : List Int, combineR 3 wd hg LA wd2 hg2 LB = some (wd, hg, x) ∧ combineR 4 wd hg LA wd2 hg2 LB = some (wd, hg, y) ∧ x.length = LA.length ∧ y.length = LA.length ∧ LB.length = LA.length ∧
        ∀ k (h1 : k < x.length) (h2 : k < y.length) (h3 : k < LA.length) (h4 : k < LB.length), x[k] = -9999 ∨ (¬ x[k] = -9999 ∧ x[k] + y[k] = LA[k] + LB[k] ∧ -20000 ≤ LA[k] + LB[k] ∧ LA[k] + LB[k] ≤ 20000) from by
      cases hs : sameB wd hg LA wd2 hg2 LB with
      | false => exact .inl ⟨combine_no hs, combine_no hs⟩
      | true =>
        obtain ⟨_, _, rfl, rfl⟩ := same_iff.1 hs
        exact .inr (low_high hs))
    have hlen := combineR_len op wd hg LA wd2 hg2 LB
    unfold FRet at HC1 HC2
    generalize rB (combineR op wd hg LA wd2 hg2 LB) = ok at *
    generalize rW (combineR op wd hg LA wd2 hg2 LB) = p at *
    generalize rH (combineR op wd hg LA wd2 hg2 LB) = q at *
    generalize rL (combineR op wd hg LA wd2 hg2 LB) = LC at *
    clear T_A T_B T_G oA oB b1 G0
    obtain ⟨A0_, A1_, A2_⟩ := A2.out.k.cells
    obtain ⟨B0_, B1_, B2_⟩ := B2.out.k.cells
    go_wp2_with fail
    refine (HC1.out _ A2.out.i B2.out.i).mono ?_
    rintro e w3 ⟨a3, c3, rfl, o3, b3⟩
    have T_C := Fd.new (wd := p) (hg := q) (c := c3) (L := LC) (a := a3) o3.ints
    have T_G := (G2.out.step b3).step (below_all w3 (.cells #[.int .i64 p, .int .i64 q, .slice a3 (LC : List Int).length c3] 26))
    have T_A := (A2.out.step b3).step (below_all w3 (.cells #[.int .i64 p, .int .i64 q, .slice a3 (LC : List Int).length c3] 26))
    have T_B := (B2.out.step b3).step (below_all w3 (.cells #[.int .i64 p, .int .i64 q, .slice a3 (LC : List Int).length c3] 26))
    obtain ⟨f3, hf3⟩ : ∃ q, w3.heap.size = q := ⟨_, rfl⟩
    obtain ⟨W3, hW3⟩ : ∃ W, w3.alloc (.cells #[.int .i64 p, .int .i64 q, .slice a3 (LC : List Int).length c3] 26) = W := ⟨_, rfl⟩
    rw [hW3] at T_G T_A T_B T_C
    rw [hf3] at T_C
    have G3 := Lib.hid T_G
    have A3 := Lib.hid T_A
    have B3 := Lib.hid T_B
    have C3 := Lib.hid T_C
    clear o3 b3 T_G T_A T_B T_C G2 A2 B2
    clear A0_ A1_ A2_ B0_ B1_ B2_
    clear hf1 hW2
    obtain ⟨A0_, A1_, A2_⟩ := A3.out.k.cells
    obtain ⟨B0_, B1_, B2_⟩ := B3.out.k.cells
    go_wp2_with fail
    refine (HC2.out _ A3.out.i B3.out.i).mono ?_
    rintro e w4 ⟨a4, c4, rfl, o4, b4⟩
    have T_V := Fd.new (wd := p) (hg := q) (c := c4) (L := LC) (a := a4) o4.ints
    have T_G := (G3.out.step b4).step (below_all w4 (.cells #[.int .i64 p, .int .i64 q, .slice a4 (LC : List Int).length c4] 26))
    have T_A := (A3.out.step b4).step (below_all w4 (.cells #[.int .i64 p, .int .i64 q, .slice a4 (LC : List Int).length c4] 26))
    have T_B := (B3.out.step b4).step (below_all w4 (.cells #[.int .i64 p, .int .i64 q, .slice a4 (LC : List Int).length c4] 26))
    have T_C := (C3.out.step b4).step (below_all w4 (.cells #[.int .i64 p, .int .i64 q, .slice a4 (LC : List Int).length c4] 26))
    obtain ⟨f4, hf4⟩ : ∃ q, w4.heap.size = q := ⟨_, rfl⟩
    obtain ⟨W4, hW4⟩ : ∃ W, w4.alloc (.cells #[.int .i64 p, .int .i64 q, .slice a4 (LC : List Int).length c4] 26) = W := ⟨_, rfl⟩
    rw [hW4] at T_G T_A T_B T_C T_V
    rw [hf4] at T_V
    have G4 := Lib.hid T_G
    have A4 := Lib.hid T_A
    have B4 := Lib.hid T_B
    have C4 := Lib.hid T_C
    have V4 := Lib.hid T_V
    clear o4 b4 T_G T_A T_B T_C T_V G3 A3 B3 C3
    clear A0_ A1_ A2_ B0_ B1_ B2_
    clear hf3 hW3
    have nC : LC.length ≤ 1048576 := by omega
    obtain ⟨C0_, C1_, C2_⟩ := C4.out.k.cells
    obtain ⟨V0_, V1_, V2_⟩ := V4.out.k.cells
    go_wp2_with fail
    refine (vField_yes p q _ _ LC _ _ _ C4.out.i V4.out.i nC).mono ?_
    rintro e w5 ⟨rfl, b5⟩
    have G5 := Lib.hid (G4.out.step b5)
    have A5 := Lib.hid (A4.out.step b5)
    have B5 := Lib.hid (B4.out.step b5)
    have C5 := Lib.hid (C4.out.step b5)
    have V5 := Lib.hid (V4.out.step b5)
    clear b5 G4 A4 B4 C4 V4
    clear C0_ C1_ C2_ V0_ V1_ V2_
    clear hf4 hW4
    clear V5
    clear HC1 HC2
    skip
    go_upto_region 8 with fail
    go_cut [62] (fun s wx => ∃ v : Bool, s = .bool v ∧ (v = true → ok = true ∧ op = 1) ∧ Gc w a l wx ∧ Fd wx f1 wd hg (some aA) LA cA ∧ Fd wx (f1 + 1) wd2 hg2 aB LB cB ∧ Fd wx f3 p q a3 LC c3)
    case first =>
      clear KEY1 KEY2
      as_aux_lemma =>
        by_cases hop : op = 1
        · subst hop
          cases ok <;> (go_wp2_with fail; go_meet; exact ⟨_, rfl, by simp, G5.out, A5.out, B5.out, C5.out⟩)
        · have e1 : (op == 1) = false := by rw [beq_eq_false_iff_ne]; exact hop
          cases ok <;> (go_wp2_with fail; go_meet; exact ⟨_, rfl, by simp, G5.out, A5.out, B5.out, C5.out⟩)
    case rest =>
    obtain ⟨v, rfl, hv, cu1, cu2, cu3, cu4⟩ := hcut
    have HV := Lib.hid hv
    have G20 := Lib.hid cu1
    have A20 := Lib.hid cu2
    have B20 := Lib.hid cu3
    have C20 := Lib.hid cu4
    clear cu1 cu2 cu3 cu4 hv G5 A5 B5 C5
    go_upto_if 62 with fail
    go_cut [] (fun wx => Gc w a l wx ∧ Fd wx f1 wd hg (some aA) LA cA ∧ Fd wx (f1 + 1) wd2 hg2 aB LB cB)
    case first =>
      as_aux_lemma =>
        cases v with
        | false =>
          go_wp2_with fail
          go_meet
          exact ⟨G20.out, A20.out, B20.out⟩
        | true =>
          obtain ⟨hok, hop⟩ := HV.out rfl
          obtain ⟨rfl, rfl, rfl, rfl, bk, mk, hbk, hmk, lbk, lmk, key⟩ := KEY1.out hok hop
          have HKEY := Lib.hid key
          have HD1 := Lib.hid (fun W h1 h2 => implCombine_any 2 p q a3 LC c3 p q aB LB cB W h1 h2 nC nB)
          have HD2 := Lib.hid (fun W h1 h2 => implCombine_any 3 p q (some aA) LA cA p q a3 LC c3 W h1 h2 nA nC)
          rw [hbk] at HD1
          rw [hmk] at HD2
          unfold FRet at HD1 HD2
          simp only [rW, rH, rL, rB] at HD1 HD2
          have LBK := Lib.hid lbk
          have LMK := Lib.hid lmk
          clear KEY1 KEY2 HV key hbk hmk hok hop lbk lmk
          obtain ⟨C0_, C1_, C2_⟩ := C20.out.k.cells
          obtain ⟨B0_, B1_, B2_⟩ := B20.out.k.cells
          go_wp2_with fail
          refine (HD1.out _ C20.out.i B20.out.i).mono ?_
          rintro e w21 ⟨a21, c21, rfl, o21, b21⟩
          have T_K := Fd.new (wd := p) (hg := q) (c := c21) (L := bk) (a := a21) o21.ints
          have T_G := (G20.out.step b21).step (below_all w21 (.cells #[.int .i64 p, .int .i64 q, .slice a21 (bk : List Int).length c21] 26))
          have T_A := (A20.out.step b21).step (below_all w21 (.cells #[.int .i64 p, .int .i64 q, .slice a21 (bk : List Int).length c21] 26))
          have T_B := (B20.out.step b21).step (below_all w21 (.cells #[.int .i64 p, .int .i64 q, .slice a21 (bk : List Int).length c21] 26))
          have T_C := (C20.out.step b21).step (below_all w21 (.cells #[.int .i64 p, .int .i64 q, .slice a21 (bk : List Int).length c21] 26))
          obtain ⟨f21, hf21⟩ : ∃ q, w21.heap.size = q := ⟨_, rfl⟩
          obtain ⟨W21, hW21⟩ : ∃ W, w21.alloc (.cells #[.int .i64 p, .int .i64 q, .slice a21 (bk : List Int).length c21] 26) = W := ⟨_, rfl⟩
          rw [hW21] at T_G T_A T_B T_C T_K
          rw [hf21] at T_K
          have G21 := Lib.hid T_G
          have A21 := Lib.hid T_A
          have B21 := Lib.hid T_B
          have C21 := Lib.hid T_C
          have K21 := Lib.hid T_K
          clear o21 b21 T_G T_A T_B T_C T_K G20 A20 B20 C20
          clear C0_ C1_ C2_ B0_ B1_ B2_
          obtain ⟨A0_, A1_, A2_⟩ := A21.out.k.cells
          obtain ⟨C0_, C1_, C2_⟩ := C21.out.k.cells
          go_wp2_with fail
          refine (HD2.out _ A21.out.i C21.out.i).mono ?_
          rintro e w22 ⟨a22, c22, rfl, o22, b22⟩
          have T_M := Fd.new (wd := p) (hg := q) (c := c22) (L := mk) (a := a22) o22.ints
          have T_G := (G21.out.step b22).step (below_all w22 (.cells #[.int .i64 p, .int .i64 q, .slice a22 (mk : List Int).length c22] 26))
          have T_A := (A21.out.step b22).step (below_all w22 (.cells #[.int .i64 p, .int .i64 q, .slice a22 (mk : List Int).length c22] 26))
          have T_B := (B21.out.step b22).step (below_all w22 (.cells #[.int .i64 p, .int .i64 q, .slice a22 (mk : List Int).length c22] 26))
          have T_C := (C21.out.step b22).step (below_all w22 (.cells #[.int .i64 p, .int .i64 q, .slice a22 (mk : List Int).length c22] 26))
          have T_K := (K21.out.step b22).step (below_all w22 (.cells #[.int .i64 p, .int .i64 q, .slice a22 (mk : List Int).length c22] 26))
          obtain ⟨f22, hf22⟩ : ∃ q, w22.heap.size = q := ⟨_, rfl⟩
          obtain ⟨W22, hW22⟩ : ∃ W, w22.alloc (.cells #[.int .i64 p, .int .i64 q, .slice a22 (mk : List Int).length c22] 26) = W := ⟨_, rfl⟩
          rw [hW22] at T_G T_A T_B T_C T_K T_M
          rw [hf22] at T_M
          have G22 := Lib.hid T_G
          have A22 := Lib.hid T_A
          have B22 := Lib.hid T_B
          have C22 := Lib.hid T_C
          have K22 := Lib.hid T_K
          have M22 := Lib.hid T_M
          clear o22 b22 T_G T_A T_B T_C T_K T_M G21 A21 B21 C21 K21
          clear A0_ A1_ A2_ C0_ C1_ C2_
          clear hf21 hW21
          obtain ⟨K0_, K1_, K2_⟩ := K22.out.k.cells
          obtain ⟨M0_, M1_, M2_⟩ := M22.out.k.cells
          obtain ⟨A0_, A1_, A2_⟩ := A22.out.k.cells
          have hne : ((mk.length : Int) != (bk.length : Int)) = false := by rw [LBK.out, LMK.out]; simp
          go_wp2_with fail
          go_loopw [14] (fun i wr => ∃ k : Nat, k ≤ LA.length ∧ i = .int .i64 k ∧ Drew W22 wr) (fun i _ => LA.length - (intOf i).toNat)
          case atStart => exact ⟨0, Nat.zero_le _, rfl, Drew.refl _⟩
          case round =>
            obtain ⟨k, hk, rfl, hw⟩ := hrel
            have HW := Lib.hid hw
            have hcK := fun j => hw.cell ⟨f21, j, none⟩
            have hcM := fun j => hw.cell ⟨f22, j, none⟩
            have hcA := fun j => hw.cell ⟨f1, j, none⟩
            have kk2 := (hcK 2).trans K2_
            have mm2 := (hcM 2).trans M2_
            have aa2 := (hcA 2).trans A2_
            clear hcK hcM hcA hw
            by_cases hlt : k < LA.length
            · have hkb : k < bk.length := by have := LBK.out; omega
              have hkm : k < mk.length := by have := LMK.out; omega
              obtain ⟨bb, ob, eb, _, cb⟩ := (K22.out.i.drew HW.out).at_ hkb
              obtain ⟨bm, om, em, _, cm⟩ := (M22.out.i.drew HW.out).at_ hkm
              obtain ⟨ba, oa, ea, _, ca⟩ := (A22.out.i.drew HW.out).at_ hlt
              subst eb em
              injection ea with ea
              subst ea
              have hi : (k : Int) < (LA.length : Int) := by omega
              have hi2 : (k : Int) < (bk.length : Int) := by omega
              have hi3 : (k : Int) < (mk.length : Int) := by omega
              have hi0 : (0 : Int) ≤ (k : Int) := by omega
              rcases HKEY.out k hkb hkm hlt with ⟨h1, h2⟩ | ⟨h1, h2, h3⟩
              · rw [h1] at cb
                rw [h2] at cm
                generalize LA[k] = za at *
                clear h1 h2
                go_wp2_with fail
                go_quiet (fail)
                go_wp2_with fail
                go_roundw
                case rel => exact ⟨k + 1, by omega, by go_num, HW.out.more _⟩
                case measure => simp [intOf]; omega
              · rw [h3] at cb h1
                generalize LA[k] = za at *
                generalize mk[k] = zm at *
                have e1 : (za == -9999) = false := by rw [beq_eq_false_iff_ne]; exact h1
                have e2 : (zm == -9999) = false := by rw [beq_eq_false_iff_ne]; exact h2
                have e3 : (za != -9999) = true := by simp [h1]
                clear h1 h2 h3
                go_wp2_with fail
                go_quiet (fail)
                go_wp2_with fail
                go_roundw
                case rel => exact ⟨k + 1, by omega, by go_num, HW.out.more _⟩
                case measure => simp [intOf]; omega
            · obtain rfl : k = LA.length := by omega
              have hge : ¬ ((LA.length : Int) < (bk.length : Int)) := by have := LBK.out; omega
              go_wp2_with fail
              go_meet
              exact ⟨G22.out.step (HW.out.below _), A22.out.step (HW.out.below _), B22.out.step (HW.out.below _)⟩
    case rest =>
    obtain ⟨cu1, cu2, cu3⟩ := hcut
    have G40 := Lib.hid cu1
    have A40 := Lib.hid cu2
    have B40 := Lib.hid cu3
    clear cu1 cu2 cu3 G20 A20 B20 C20 HV
    have HE1 := Lib.hid (fun W h1 h2 => implCombine_any 3 wd hg (some aA) LA cA wd2 hg2 aB LB cB W h1 h2 nA nB)
    have HE2 := Lib.hid (fun W h1 h2 => implCombine_any 4 wd hg (some aA) LA cA wd2 hg2 aB LB cB W h1 h2 nA nB)
    have K2' := KEY2.out
    unfold FRet at HE1 HE2
    clear KEY1 KEY2
    rcases K2' with ⟨k3, k4⟩ | ⟨x, y, k3, k4, lx, ly, lb, key⟩
    · rw [k3] at HE1
      rw [k4] at HE2
      simp only [rW, rH, rL, rB] at HE1 HE2
      clear k3 k4
      obtain ⟨A0_, A1_, A2_⟩ := A40.out.k.cells
      obtain ⟨B0_, B1_, B2_⟩ := B40.out.k.cells
      go_wp2_with fail
      refine (HE1.out _ A40.out.i B40.out.i).mono ?_
      rintro e w41 ⟨a41, c41, rfl, o41, b41⟩
      have T_X := Fd.new (wd := 0) (hg := 0) (c := c41) (L := []) (a := a41) o41.ints
      have T_G := (G40.out.step b41).step (below_all w41 (.cells #[.int .i64 0, .int .i64 0, .slice a41 ([] : List Int).length c41] 26))
      have T_A := (A40.out.step b41).step (below_all w41 (.cells #[.int .i64 0, .int .i64 0, .slice a41 ([] : List Int).length c41] 26))
      have T_B := (B40.out.step b41).step (below_all w41 (.cells #[.int .i64 0, .int .i64 0, .slice a41 ([] : List Int).length c41] 26))
      obtain ⟨f41, hf41⟩ : ∃ q, w41.heap.size = q := ⟨_, rfl⟩
      obtain ⟨W41, hW41⟩ : ∃ W, w41.alloc (.cells #[.int .i64 0, .int .i64 0, .slice a41 ([] : List Int).length c41] 26) = W := ⟨_, rfl⟩
      rw [hW41] at T_G T_A T_B T_X
      rw [hf41] at T_X
      have G41 := Lib.hid T_G
      have A41 := Lib.hid T_A
      have B41 := Lib.hid T_B
      have X41 := Lib.hid T_X
      clear o41 b41 T_G T_A T_B T_X G40 A40 B40
      clear A0_ A1_ A2_ B0_ B1_ B2_
      try rw [List.length_nil] at hW41
      obtain ⟨A0_, A1_, A2_⟩ := A41.out.k.cells
      obtain ⟨B0_, B1_, B2_⟩ := B41.out.k.cells
      go_wp2_with fail
      refine (HE2.out _ A41.out.i B41.out.i).mono ?_
      rintro e w42 ⟨a42, c42, rfl, o42, b42⟩
      have T_Y := Fd.new (wd := 0) (hg := 0) (c := c42) (L := []) (a := a42) o42.ints
      have T_G := (G41.out.step b42).step (below_all w42 (.cells #[.int .i64 0, .int .i64 0, .slice a42 ([] : List Int).length c42] 26))
      have T_A := (A41.out.step b42).step (below_all w42 (.cells #[.int .i64 0, .int .i64 0, .slice a42 ([] : List Int).length c42] 26))
      have T_B := (B41.out.step b42).step (below_all w42 (.cells #[.int .i64 0, .int .i64 0, .slice a42 ([] : List Int).length c42] 26))
      have T_X := (X41.out.step b42).step (below_all w42 (.cells #[.int .i64 0, .int .i64 0, .slice a42 ([] : List Int).length c42] 26))
      obtain ⟨f42, hf42⟩ : ∃ q, w42.heap.size = q := ⟨_, rfl⟩
      obtain ⟨W42, hW42⟩ : ∃ W, w42.alloc (.cells #[.int .i64 0, .int .i64 0, .slice a42 ([] : List Int).length c42] 26) = W := ⟨_, rfl⟩
      rw [hW42] at T_G T_A T_B T_X T_Y
      rw [hf42] at T_Y
      have G42 := Lib.hid T_G
      have A42 := Lib.hid T_A
      have B42 := Lib.hid T_B
      have X42 := Lib.hid T_X
      have Y42 := Lib.hid T_Y
      clear o42 b42 T_G T_A T_B T_X T_Y G41 A41 B41 X41
      clear A0_ A1_ A2_ B0_ B1_ B2_
      clear hf41 hW41
      try rw [List.length_nil] at hW42
      obtain ⟨X0_, X1_, X2_⟩ := X42.out.k.cells
      simp only [List.length_nil] at X2_
      go_wp2_with fail
      go_loopw [19] (fun i wr => i = .int .i64 0 ∧ Drew W42 wr) (fun i _ => 1)
      case atStart => exact ⟨rfl, Drew.refl _⟩
      case round =>
      obtain ⟨rfl, hw⟩ := hrel
      have xx2 := (hw.cell ⟨f41, 2, none⟩).trans X2_
      have G52 := Lib.hid (G42.out.step (hw.below _))
      clear hw X0_ X1_ X2_ G42 A42 B42 X42 Y42
      go_wp2_with fail
      refine (drawScale_any _ a l c G52.out.2 HBY.out (by omega)).mono ?_
      rintro e w53 ⟨wd3, hg3, L3, aS, cS, sx, sy, mL3, rfl, o53, b53⟩
      have T_S := Fd.new (wd := wd3) (hg := hg3) (c := cS) (L := L3) (a := some aS) o53.ints
      have T_G := (G52.out.step b53).step (below_all w53 (.cells #[.int .i64 wd3, .int .i64 hg3, .slice (some aS) (L3 : List Int).length cS] 26))
      obtain ⟨f53, hf53⟩ : ∃ q, w53.heap.size = q := ⟨_, rfl⟩
      obtain ⟨W53, hW53⟩ : ∃ W, w53.alloc (.cells #[.int .i64 wd3, .int .i64 hg3, .slice (some aS) (L3 : List Int).length cS] 26) = W := ⟨_, rfl⟩
      rw [hW53] at T_S T_G
      rw [hf53] at T_S
      have S53 := Lib.hid T_S
      have G53 := Lib.hid T_G
      clear T_S T_G o53 b53 G52
      clear hf42 hW42
      have nS : L3.length ≤ 1048576 := by omega
      have HS1 := Lib.hid (fun W h1 => implScale_any wd3 hg3 (some aS) L3 cS sx sy W h1 nS)
      have HS2 := Lib.hid (fun W h1 => specScale_any wd3 hg3 (some aS) L3 cS sx sy W h1 nS)
      have hlen3 := scaleR_len wd3 hg3 L3 sx sy
      unfold FRet at HS1 HS2
      generalize rB (scaleR wd3 hg3 L3 sx sy) = ok3 at *
      generalize rW (scaleR wd3 hg3 L3 sx sy) = p3 at *
      generalize rH (scaleR wd3 hg3 L3 sx sy) = q3 at *
      generalize rL (scaleR wd3 hg3 L3 sx sy) = LD at *
      obtain ⟨S0_, S1_, S2_⟩ := S53.out.k.cells
      go_wp2_with fail
      refine (HS1.out _ S53.out.i).mono ?_
      rintro e w54 ⟨a54, c54, rfl, o54, b54⟩
      have T_D := Fd.new (wd := p3) (hg := q3) (c := c54) (L := LD) (a := a54) o54.ints
      have T_G := (G53.out.step b54).step (below_all w54 (.cells #[.int .i64 p3, .int .i64 q3, .slice a54 (LD : List Int).length c54] 26))
      have T_S := (S53.out.step b54).step (below_all w54 (.cells #[.int .i64 p3, .int .i64 q3, .slice a54 (LD : List Int).length c54] 26))
      obtain ⟨f54, hf54⟩ : ∃ q, w54.heap.size = q := ⟨_, rfl⟩
      obtain ⟨W54, hW54⟩ : ∃ W, w54.alloc (.cells #[.int .i64 p3, .int .i64 q3, .slice a54 (LD : List Int).length c54] 26) = W := ⟨_, rfl⟩
      rw [hW54] at T_G T_S T_D
      rw [hf54] at T_D
      have G54 := Lib.hid T_G
      have S54 := Lib.hid T_S
      have D54 := Lib.hid T_D
      clear o54 b54 T_G T_S T_D G53 S53
      clear S0_ S1_ S2_
      clear hf53 hW53
      obtain ⟨S0_, S1_, S2_⟩ := S54.out.k.cells
      go_wp2_with fail
      refine (HS2.out _ S54.out.i).mono ?_
      rintro e w55 ⟨a55, c55, rfl, o55, b55⟩
      have T_E := Fd.new (wd := p3) (hg := q3) (c := c55) (L := LD) (a := a55) o55.ints
      have T_G := (G54.out.step b55).step (below_all w55 (.cells #[.int .i64 p3, .int .i64 q3, .slice a55 (LD : List Int).length c55] 26))
      have T_S := (S54.out.step b55).step (below_all w55 (.cells #[.int .i64 p3, .int .i64 q3, .slice a55 (LD : List Int).length c55] 26))
      have T_D := (D54.out.step b55).step (below_all w55 (.cells #[.int .i64 p3, .int .i64 q3, .slice a55 (LD : List Int).length c55] 26))
      obtain ⟨f55, hf55⟩ : ∃ q, w55.heap.size = q := ⟨_, rfl⟩
      obtain ⟨W55, hW55⟩ : ∃ W, w55.alloc (.cells #[.int .i64 p3, .int .i64 q3, .slice a55 (LD : List Int).length c55] 26) = W := ⟨_, rfl⟩
      rw [hW55] at T_G T_S T_D T_E
      rw [hf55] at T_E
      have G55 := Lib.hid T_G
      have S55 := Lib.hid T_S
      have D55 := Lib.hid T_D
      have E55 := Lib.hid T_E
      clear o55 b55 T_G T_S T_D T_E G54 S54 D54
      clear S0_ S1_ S2_
      clear hf54 hW54
      have nD : LD.length ≤ 1048576 := by omega
      have hbb : (ok3 == ok3) = true := by cases ok3 <;> rfl
      obtain ⟨D0_, D1_, D2_⟩ := D55.out.k.cells
      obtain ⟨E0_, E1_, E2_⟩ := E55.out.k.cells
      go_wp2_with fail
      refine (vField_yes p3 q3 _ _ LD _ _ _ D55.out.i E55.out.i nD).mono ?_
      rintro e w56 ⟨rfl, b56⟩
      have G56 := Lib.hid (G55.out.step b56)
      have S56 := Lib.hid (S55.out.step b56)
      have D56 := Lib.hid (D55.out.step b56)
      have E56 := Lib.hid (E55.out.step b56)
      clear b56 G55 S55 D55 E55
      clear D0_ D1_ D2_ E0_ E1_ E2_
      clear hf55 hW55
      go_wp2_with fail
      go_ret
      exact ⟨rfl, G56.out.1⟩
    · rw [k3] at HE1
      rw [k4] at HE2
      simp only [rW, rH, rL, rB] at HE1 HE2
      have HKEY := Lib.hid key
      have LX := Lib.hid lx
      have LY := Lib.hid ly
      have LBB := Lib.hid lb
      clear k3 k4 key lx ly lb
      have G70 := Lib.hid G40.out
      have A70 := Lib.hid A40.out
      have B70 := Lib.hid B40.out
      clear G40 A40 B40
      obtain ⟨A0_, A1_, A2_⟩ := A70.out.k.cells
      obtain ⟨B0_, B1_, B2_⟩ := B70.out.k.cells
      go_wp2_with fail
      refine (HE1.out _ A70.out.i B70.out.i).mono ?_
      rintro e w71 ⟨a71, c71, rfl, o71, b71⟩
      have T_X := Fd.new (wd := wd) (hg := hg) (c := c71) (L := x) (a := a71) o71.ints
      have T_G := (G70.out.step b71).step (below_all w71 (.cells #[.int .i64 wd, .int .i64 hg, .slice a71 (x : List Int).length c71] 26))
      have T_A := (A70.out.step b71).step (below_all w71 (.cells #[.int .i64 wd, .int .i64 hg, .slice a71 (x : List Int).length c71] 26))
      have T_B := (B70.out.step b71).step (below_all w71 (.cells #[.int .i64 wd, .int .i64 hg, .slice a71 (x : List Int).length c71] 26))
      obtain ⟨f71, hf71⟩ : ∃ q, w71.heap.size = q := ⟨_, rfl⟩
      obtain ⟨W71, hW71⟩ : ∃ W, w71.alloc (.cells #[.int .i64 wd, .int .i64 hg, .slice a71 (x : List Int).length c71] 26) = W := ⟨_, rfl⟩
      rw [hW71] at T_G T_A T_B T_X
      rw [hf71] at T_X
      have G71 := Lib.hid T_G
      have A71 := Lib.hid T_A
      have B71 := Lib.hid T_B
      have X71 := Lib.hid T_X
      clear o71 b71 T_G T_A T_B T_X G70 A70 B70
      clear A0_ A1_ A2_ B0_ B1_ B2_
      obtain ⟨A0_, A1_, A2_⟩ := A71.out.k.cells
      obtain ⟨B0_, B1_, B2_⟩ := B71.out.k.cells
      go_wp2_with fail
      refine (HE2.out _ A71.out.i B71.out.i).mono ?_
      rintro e w72 ⟨a72, c72, rfl, o72, b72⟩
      have T_Y := Fd.new (wd := wd) (hg := hg) (c := c72) (L := y) (a := a72) o72.ints
      have T_G := (G71.out.step b72).step (below_all w72 (.cells #[.int .i64 wd, .int .i64 hg, .slice a72 (y : List Int).length c72] 26))
      have T_A := (A71.out.step b72).step (below_all w72 (.cells #[.int .i64 wd, .int .i64 hg, .slice a72 (y : List Int).length c72] 26))
      have T_B := (B71.out.step b72).step (below_all w72 (.cells #[.int .i64 wd, .int .i64 hg, .slice a72 (y : List Int).length c72] 26))
      have T_X := (X71.out.step b72).step (below_all w72 (.cells #[.int .i64 wd, .int .i64 hg, .slice a72 (y : List Int).length c72] 26))
      obtain ⟨f72, hf72⟩ : ∃ q, w72.heap.size = q := ⟨_, rfl⟩
      obtain ⟨W72, hW72⟩ : ∃ W, w72.alloc (.cells #[.int .i64 wd, .int .i64 hg, .slice a72 (y : List Int).length c72] 26) = W := ⟨_, rfl⟩
      rw [hW72] at T_G T_A T_B T_X T_Y
      rw [hf72] at T_Y
      have G72 := Lib.hid T_G
      have A72 := Lib.hid T_A
      have B72 := Lib.hid T_B
      have X72 := Lib.hid T_X
      have Y72 := Lib.hid T_Y
      clear o72 b72 T_G T_A T_B T_X T_Y G71 A71 B71 X71
      clear A0_ A1_ A2_ B0_ B1_ B2_
      clear hf71 hW71
      obtain ⟨X0_, X1_, X2_⟩ := X72.out.k.cells
      obtain ⟨Y0_, Y1_, Y2_⟩ := Y72.out.k.cells
      obtain ⟨A0_, A1_, A2_⟩ := A72.out.k.cells
      obtain ⟨B0_, B1_, B2_⟩ := B72.out.k.cells
      go_wp2_with fail
      go_loopw [19] (fun i wr => ∃ k : Nat, k ≤ LA.length ∧ i = .int .i64 k ∧ Drew W72 wr) (fun i _ => LA.length - (intOf i).toNat)
      case atStart => exact ⟨0, Nat.zero_le _, rfl, Drew.refl _⟩
      case round =>
      obtain ⟨k, hk, rfl, hw⟩ := hrel
      have HW := Lib.hid hw
      have xx2 := (hw.cell ⟨f71, 2, none⟩).trans X2_
      have yy2 := (hw.cell ⟨f72, 2, none⟩).trans Y2_
      have aa2 := (hw.cell ⟨f1, 2, none⟩).trans A2_
      have bb2 := (hw.cell ⟨f1 + 1, 2, none⟩).trans B2_
      clear hw
      by_cases hlt : k < LA.length
      · have hkx : k < x.length := by have := LX.out; omega
        have hky : k < y.length := by have := LY.out; omega
        have hkb : k < LB.length := by have := LBB.out; omega
        obtain ⟨bx, ox, ex, _, cx⟩ := (X72.out.i.drew HW.out).at_ hkx
        obtain ⟨bz, oz, ez, _, cz⟩ := (Y72.out.i.drew HW.out).at_ hky
        obtain ⟨ba, oa, ea, _, ca⟩ := (A72.out.i.drew HW.out).at_ hlt
        obtain ⟨bb, ob, eb, _, cb⟩ := (B72.out.i.drew HW.out).at_ hkb
        subst ex ez eb
        injection ea with ea
        subst ea
        have hi1 : (k : Int) < (LA.length : Int) := by omega
        have hi2 : (k : Int) < (x.length : Int) := by omega
        have hi3 : (k : Int) < (y.length : Int) := by omega
        have hi4 : (k : Int) < (LB.length : Int) := by omega
        have hi0 : (0 : Int) ≤ (k : Int) := by omega
        rcases HKEY.out k hkx hky hlt hkb with h1 | ⟨h1, h2, h3, h4⟩
        · rw [h1] at cx
          clear h1
          go_wp2_with fail
          go_quiet (fail)
          go_wp2_with fail
          go_roundw
          case rel => exact ⟨k + 1, by omega, by go_num, HW.out.more _⟩
          case measure => simp [intOf]; omega
        · generalize LA[k] = za at *
          generalize LB[k] = zb at *
          generalize x[k] = zx at *
          generalize y[k] = zy at *
          have e3 : (zx != -9999) = true := by simp [h1]
          have s1 : wrap64 (zx + zy) = za + zb := by rw [h2]; exact IntWalk.wrap64_in _ (by omega)
          have s2 : wrap64 (za + zb) = za + zb := IntWalk.wrap64_in _ (by omega)
          obtain ⟨ss, hss⟩ : ∃ q, za + zb = q := ⟨_, rfl⟩
          rw [hss] at h2 h3 h4
          clear h1 s1 s2
          go_wp2_with fail
          go_quiet (fail)
          go_wp2_with fail
          go_roundw
          case rel => exact ⟨k + 1, by omega, by go_num, HW.out.more _⟩
          case measure => simp [intOf]; omega
      · obtain rfl : k = LA.length := by omega
        have hge : ¬ ((LA.length : Int) < (x.length : Int)) := by have := LX.out; omega
        have G82 := Lib.hid (G72.out.step (HW.out.below _))
        clear X0_ X1_ X2_ Y0_ Y1_ Y2_ A0_ A1_ A2_ B0_ B1_ B2_ G72 A72 B72 X72 Y72 HW
        go_wp2_with fail
        refine (drawScale_any _ a l c G82.out.2 HBY.out (by omega)).mono ?_
        rintro e w83 ⟨wd3, hg3, L3, aS, cS, sx, sy, mL3, rfl, o83, b83⟩
        have T_S := Fd.new (wd := wd3) (hg := hg3) (c := cS) (L := L3) (a := some aS) o83.ints
        have T_G := (G82.out.step b83).step (below_all w83 (.cells #[.int .i64 wd3, .int .i64 hg3, .slice (some aS) (L3 : List Int).length cS] 26))
        obtain ⟨f83, hf83⟩ : ∃ q, w83.heap.size = q := ⟨_, rfl⟩
        obtain ⟨W83, hW83⟩ : ∃ W, w83.alloc (.cells #[.int .i64 wd3, .int .i64 hg3, .slice (some aS) (L3 : List Int).length cS] 26) = W := ⟨_, rfl⟩
        rw [hW83] at T_S T_G
        rw [hf83] at T_S
        have S83 := Lib.hid T_S
        have G83 := Lib.hid T_G
        clear T_S T_G o83 b83 G82
        clear hf72 hW72
        have nS : L3.length ≤ 1048576 := by omega
        have HS1 := Lib.hid (fun W h1 => implScale_any wd3 hg3 (some aS) L3 cS sx sy W h1 nS)
        have HS2 := Lib.hid (fun W h1 => specScale_any wd3 hg3 (some aS) L3 cS sx sy W h1 nS)
        have hlen3 := scaleR_len wd3 hg3 L3 sx sy
        unfold FRet at HS1 HS2
        generalize rB (scaleR wd3 hg3 L3 sx sy) = ok3 at *
        generalize rW (scaleR wd3 hg3 L3 sx sy) = p3 at *
        generalize rH (scaleR wd3 hg3 L3 sx sy) = q3 at *
        generalize rL (scaleR wd3 hg3 L3 sx sy) = LD at *
        obtain ⟨S0_, S1_, S2_⟩ := S83.out.k.cells
        go_wp2_with fail
        refine (HS1.out _ S83.out.i).mono ?_
        rintro e w84 ⟨a84, c84, rfl, o84, b84⟩
        have T_D := Fd.new (wd := p3) (hg := q3) (c := c84) (L := LD) (a := a84) o84.ints
        have T_G := (G83.out.step b84).step (below_all w84 (.cells #[.int .i64 p3, .int .i64 q3, .slice a84 (LD : List Int).length c84] 26))
        have T_S := (S83.out.step b84).step (below_all w84 (.cells #[.int .i64 p3, .int .i64 q3, .slice a84 (LD : List Int).length c84] 26))
        obtain ⟨f84, hf84⟩ : ∃ q, w84.heap.size = q := ⟨_, rfl⟩
        obtain ⟨W84, hW84⟩ : ∃ W, w84.alloc (.cells #[.int .i64 p3, .int .i64 q3, .slice a84 (LD : List Int).length c84] 26) = W := ⟨_, rfl⟩
        rw [hW84] at T_G T_S T_D
        rw [hf84] at T_D
        have G84 := Lib.hid T_G
        have S84 := Lib.hid T_S
        have D84 := Lib.hid T_D
        clear o84 b84 T_G T_S T_D G83 S83
        clear S0_ S1_ S2_
        clear hf83 hW83
        obtain ⟨S0_, S1_, S2_⟩ := S84.out.k.cells
        go_wp2_with fail
        refine (HS2.out _ S84.out.i).mono ?_
        rintro e w85 ⟨a85, c85, rfl, o85, b85⟩
        have T_E := Fd.new (wd := p3) (hg := q3) (c := c85) (L := LD) (a := a85) o85.ints
        have T_G := (G84.out.step b85).step (below_all w85 (.cells #[.int .i64 p3, .int .i64 q3, .slice a85 (LD : List Int).length c85] 26))
        have T_S := (S84.out.step b85).step (below_all w85 (.cells #[.int .i64 p3, .int .i64 q3, .slice a85 (LD : List Int).length c85] 26))
        have T_D := (D84.out.step b85).step (below_all w85 (.cells #[.int .i64 p3, .int .i64 q3, .slice a85 (LD : List Int).length c85] 26))
        obtain ⟨f85, hf85⟩ : ∃ q, w85.heap.size = q := ⟨_, rfl⟩
        obtain ⟨W85, hW85⟩ : ∃ W, w85.alloc (.cells #[.int .i64 p3, .int .i64 q3, .slice a85 (LD : List Int).length c85] 26) = W := ⟨_, rfl⟩
        rw [hW85] at T_G T_S T_D T_E
        rw [hf85] at T_E
        have G85 := Lib.hid T_G
        have S85 := Lib.hid T_S
        have D85 := Lib.hid T_D
        have E85 := Lib.hid T_E
        clear o85 b85 T_G T_S T_D T_E G84 S84 D84
        clear S0_ S1_ S2_
        clear hf84 hW84
        have nD : LD.length ≤ 1048576 := by omega
        have hbb : (ok3 == ok3) = true := by cases ok3 <;> rfl
        obtain ⟨D0_, D1_, D2_⟩ := D85.out.k.cells
        obtain ⟨E0_, E1_, E2_⟩ := E85.out.k.cells
        go_wp2_with fail
        refine (vField_yes p3 q3 _ _ LD _ _ _ D85.out.i E85.out.i nD).mono ?_
        rintro e w86 ⟨rfl, b86⟩
        have G86 := Lib.hid (G85.out.step b86)
        have S86 := Lib.hid (S85.out.step b86)
        have D86 := Lib.hid (D85.out.step b86)
        have E86 := Lib.hid (E85.out.step b86)
        clear b86 G85 S85 D85 E85
        clear D0_ D1_ D2_ E0_ E1_ E2_
        clear hf85 hW85
        go_wp2_with fail
        go_ret
        exact ⟨rfl, G86.out.1⟩
end Go.Proofs.Ytglpkfkbbjbjjaa
