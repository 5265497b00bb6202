/- The walk of FnNearest. -/
import Derived.Test.YtccplndimdmjpaaNearDraws
import Derived.Test.YtccplndimdmjpaaRgNearS
import Derived.Test.YtccplndimdmjpaaRgNearI
import Derived.Test.YtccplndimdmjpaaVField
import Derived.Deep.QuietTactic
import Derived.BigQuiet
import Derived.Deep.DeepCutAuto
namespace Go.Proofs.Ytccplndimdmjpaa
open Go.RowKit
set_option linter.unusedVariables false
set_option linter.unusedSimpArgs false
/-- what the law knows of a later world -/
def Gcn (w : World) (a : Option Addr) (l : List Int) (w' : World) : Prop := Below w.heap.size w w' ∧ Ints .u8 w' w'.heap.size a l
theorem Gcn.step {w w1 w2 : World} {a : Option Addr} {l : List Int} (h : Gcn w a l w1) (hb : Below w1.heap.size w1 w2) : Gcn w a l w2 :=
  ⟨below_then h.1 hb, ints_below h.2 hb⟩
/-- a field in a box of the law's own -/
structure Fdn (w : World) (b : Nat) (wd hg : Int) (a : Option Addr) (L : List Int) (c : Nat) : Prop where
  k : Box w b 29 (.int .i64 wd) (.int .i64 hg) (.slice a L.length c)
  i : Ints .i64 w w.heap.size a L
theorem Fdn.new {w : World} {wd hg : Int} {a : Option Addr} {L : List Int} {c : Nat} (h : Ints .i64 w w.heap.size a L) : Fdn (w.alloc (.cells #[.int .i64 wd, .int .i64 hg, .slice a L.length c] 29)) w.heap.size wd hg a L c := ⟨Box.new _ _ _ _ _, ints_alloc h _⟩
theorem Fdn.step {w w' : World} {b : Nat} {wd hg : Int} {a : Option Addr} {L : List Int} {c : Nat} (h : Fdn w b wd hg a L c) (hb : Below w.heap.size w w') : Fdn w' b wd hg a L c := ⟨h.k.below hb, ints_below h.i hb⟩
set_option maxHeartbeats 1000000 in
theorem vHas_is (a : Option Addr) (l : List Int) (c B : Nat) (z : Int) (w : World) (hl : Ints .i64 w B a l) (hn : l.length ≤ 1048576) (hz : z ∈ l) :
    Calls Try.prog 28 #[.slice a l.length c, .int .i64 z] w fun e w' => e = .returned (.bool true) ∧ w = w' := by
  obtain ⟨m, hm, hmz⟩ := List.getElem_of_mem hz
  have HM := Lib.hid hmz
  have HL := Lib.hid hl
  clear hz hmz hl
  go_enter Try.func28, Try.ntmps28
  go_wp2
  go_loop [5] (fun i => ∃ k : Nat, k ≤ m ∧ i = .int .i64 k) (fun i => m + 1 - (intOf i).toNat)
  case atStart => exact ⟨0, Nat.zero_le _, rfl⟩
  case round =>
    obtain ⟨k, hk, rfl⟩ := hrel
    have hlt : k < l.length := by omega
    have hi : (k : Int) < (l.length : Int) := by omega
    have hi0 : (0 : Int) ≤ (k : Int) := by omega
    obtain ⟨b, o, rfl, hb, hc⟩ := HL.out.at_ hlt
    by_cases he : l[k] = z
    · have e1 : (l[k] == z) = true := by simp [he]
      have HE := Lib.hid he
      clear he
      generalize l[k] = y at *
      go_wp2
      go_ret
      exact ⟨rfl, rfl⟩
    · have e1 : (l[k] == z) = false := by simp [he]
      have hne : k ≠ m := fun e => he (by subst e; exact HM.out)
      clear he
      generalize l[k] = y at *
      go_wp2
      go_round
      case rel => exact ⟨k + 1, by omega, by go_num⟩
      case measure => simp [intOf]; omega
set_option maxRecDepth 100000 in
set_option maxHeartbeats 16000000 in
theorem walk_Nearest (a : Option Addr) (l : List Int) (c : Nat) (w : World) (hi : Ints .u8 w w.heap.size a l) (hb : ∀ z ∈ l, 0 ≤ z ∧ z ≤ 255) (hlm : l.length ≤ maxLen) :
    Calls Try.prog 8 #[.slice a l.length c] w fun e w' => e = .returned (.bool true) ∧ Below w.heap.size w w' := by
  unfold maxLen at hlm
  by_cases hbig : (65536 : Int) < (l.length : Int)
  · clear hi hb
    go_enter Try.func8, Try.ntmps8
    go_wp2
    go_ret
    exact ⟨rfl, Below.refl _ _⟩
  · have G0 := Lib.hid (show Gcn w a l w from ⟨Below.refl _ _, hi⟩)
    have HBY := Lib.hid hb
    have hl : l.length ≤ 65536 := by omega
    clear hi hb hlm
    go_enter Try.func8, Try.ntmps8
    go_wp2_with (first | (go_at_call 24; go_in) | fail)
    refine (drawOv_any _ a l c G0.out.2 HBY.out (by omega)).mono ?_
    rintro e w1 ⟨x, y, p, q, rfl, b1⟩
    have G1 := Lib.hid (G0.out.step b1)
    clear b1 G0
    have HV := Lib.hid (fun W => specOv_any x y p q W)
    have HI := Lib.hid (fun W => implOv_any x y p q W)
    obtain ⟨b0, hb0⟩ : ∃ b, ovB x y p q = b := ⟨_, rfl⟩
    obtain ⟨n0, hn0⟩ : ∃ b, ovN x y p q = b := ⟨_, rfl⟩
    rw [hb0, hn0] at HV HI
    have HB0 := Lib.hid hb0
    have HN0 := Lib.hid hn0
    clear hb0 hn0
    have en : (n0 != n0) = false := by simp
    go_wp2_with fail
    refine (HI.out _).mono ?_
    rintro e w8 ⟨rfl, rfl⟩
    go_wp2_with fail
    refine (HV.out _).mono ?_
    rintro e w8 ⟨rfl, rfl⟩
    clear HV HI
    go_upto_if 60 with fail
    go_cut [] (fun wx => Gcn w a l wx)
    case first =>
      as_aux_lemma =>
        cases b0 with
        | false =>
          go_wp2_with fail
          go_meet
          exact G1.out
        | true =>
          have hob := HB0.out
          obtain ⟨⟨x1, x2⟩, ⟨y1, y2⟩, ⟨p1, p2⟩, q1, q2⟩ := ov_bd hob
          have HS := Lib.hid (fun m W' (h : ovB x y p m = true) => by have h9 := implOv_any x y p m W'; rw [h, ovN_yes h] at h9; exact h9)
          have HBK := Lib.hid (fun W' => by have h9 := implOv_any y x q p W'; rw [ovB_back hob, ovN_yes (ovB_back hob), ovl_back] at h9; exact h9)
          have hov0 := ovN_yes hob
          rw [HN0.out] at hov0
          rw [← hov0] at HBK
          clear hov0
          have HSH := Lib.hid (show shapeB x y = true from by unfold ovB at hob; simp only [Bool.and_eq_true] at hob; exact hob.1)
          obtain ⟨Y, rfl⟩ : ∃ Y : Nat, y = (Y : Int) := ⟨y.toNat, by omega⟩
          clear hob HB0 HN0
          go_wp2_with fail
          go_loop [11, 12] (fun s i => ∃ m : Nat, m ≤ Y ∧ i = .int .i64 m ∧ s = .int .i64 (sumO x Y p m)) (fun _ i => Y - (intOf i).toNat)
          case atStart => exact ⟨0, Nat.zero_le _, rfl, by rw [show ((0 : Nat) : Int) = 0 from rfl, sumO_zero p1 y1]⟩
          case round =>
            obtain ⟨m, hm, rfl, rfl⟩ := hrel
            have hsb := sumO_bd (a := x) p1 y1 m
            by_cases hlt : m < Y
            · have hi : (m : Int) < (Y : Int) := by omega
              have hov : ovB x Y p m = true := by
                unfold ovB
                rw [HSH.out, inB_iff.2 (by omega)]
                rfl
              have HST := Lib.hid (sumO_step hov)
              have HC := Lib.hid (fun W' => HS.out m W' hov)
              have hsb2 := sumO_bd (a := x) p1 y1 ((m : Int) + 1)
              have hsb3 : 0 ≤ sumO x Y p m + ovl x Y p m ∧ sumO x Y p m + ovl x Y p m ≤ Y := by rw [HST.out]; exact hsb2
              clear hov hsb2
              generalize ovl x Y p m = o1 at *
              generalize sumO x Y p m = s1 at *
              go_wp2_with fail
              refine (HC.out _).mono ?_
              rintro e w8 ⟨rfl, rfl⟩
              go_wp2_with fail
              go_round
              case rel => exact ⟨m + 1, by omega, by go_num, by rw [show ((m + 1 : Nat) : Int) = (m : Int) + 1 by push_cast; rfl, ← HST.out]⟩
              case measure => simp [intOf]; omega
            · obtain rfl : m = Y := by omega
              have hal := sumO_all (c := (m : Int)) p1 p2 y1
              have e1 : (sumO x m p m != (m : Int)) = false := by rw [hal]; simp
              generalize sumO x m p m = s1 at *
              clear hal
              go_wp2_with fail
              refine (HBK.out _).mono ?_
              rintro e w8 ⟨rfl, rfl⟩
              go_wp2_with fail
              go_meet
              exact G1.out
    case rest =>
    have G2 := Lib.hid hcut
    clear hcut G1 en
    go_wp2_with fail
    refine (drawNear_any _ a l c G2.out.2 HBY.out (by omega)).mono ?_
    rintro e w3 ⟨wd, hg, L, a1, c1, u, v, hL, rfl, o1, b3⟩
    obtain ⟨f3, hf3⟩ : ∃ q, w3.heap.size = q := ⟨_, rfl⟩
    have T_F := Fdn.new (wd := wd) (hg := hg) (c := c1) (L := L) (a := some a1) o1.ints
    have T_G := (G2.out.step b3).step (below_all w3 (.cells #[.int .i64 wd, .int .i64 hg, .slice (some a1) L.length c1] 29))
    obtain ⟨W3, hW3⟩ : ∃ W, w3.alloc (.cells #[.int .i64 wd, .int .i64 hg, .slice (some a1) L.length c1] 29) = W := ⟨_, rfl⟩
    rw [hW3] at T_F T_G
    rw [hf3] at T_F
    have F3 := Lib.hid T_F
    have G3 := Lib.hid T_G
    have nL : L.length ≤ 1048576 := by omega
    clear T_F T_G o1 b3 G2
    have HC1 := Lib.hid (fun W h => implNearR_any wd hg (some a1) L c1 u v W h nL)
    have HC2 := Lib.hid (fun W h => specNearR_any wd hg (some a1) L c1 u v W h nL)
    have HC3 := Lib.hid (fun W h => implNearR_any wd hg (some a1) L c1 wd hg W h nL)
    unfold FRet at HC1 HC2 HC3
    cases hnb : nearB wd hg L u v with
    | false =>
      rw [nearR_no hnb] at HC1 HC2
      simp only [rW, rH, rL, rB] at HC1 HC2
      clear hnb HC3
      obtain ⟨F0_, F1_, F2_⟩ := F3.out.k.cells
      go_wp2_with fail
      refine (HC1.out _ F3.out.i).mono ?_
      rintro e w4 ⟨a4, c4, rfl, o4, b4⟩
      have T_C := Fdn.new (wd := 0) (hg := 0) (c := c4) (L := []) (a := a4) o4.ints
      have T_G := (G3.out.step b4).step (below_all w4 (.cells #[.int .i64 0, .int .i64 0, .slice a4 ([] : List Int).length c4] 29))
      have T_F := (F3.out.step b4).step (below_all w4 (.cells #[.int .i64 0, .int .i64 0, .slice a4 ([] : List Int).length c4] 29))
      obtain ⟨f4, hf4⟩ : ∃ q, w4.heap.size = q := ⟨_, rfl⟩
      obtain ⟨W4, hW4⟩ : ∃ Wz, w4.alloc (.cells #[.int .i64 0, .int .i64 0, .slice a4 ([] : List Int).length c4] 29) = Wz := ⟨_, rfl⟩
      rw [hW4] at T_G T_F T_C
      rw [hf4] at T_C
      have G4 := Lib.hid T_G
      have F4 := Lib.hid T_F
      have C4 := Lib.hid T_C
      clear o4 b4 T_G T_F T_C G3 F3
      clear F0_ F1_ F2_
      clear hf3 hW3
      try rw [List.length_nil] at hW4
      obtain ⟨F0_, F1_, F2_⟩ := F4.out.k.cells
      go_wp2_with fail
      refine (HC2.out _ F4.out.i).mono ?_
      rintro e w5 ⟨a5, c5, rfl, o5, b5⟩
      have T_V := Fdn.new (wd := 0) (hg := 0) (c := c5) (L := []) (a := a5) o5.ints
      have T_G := (G4.out.step b5).step (below_all w5 (.cells #[.int .i64 0, .int .i64 0, .slice a5 ([] : List Int).length c5] 29))
      have T_F := (F4.out.step b5).step (below_all w5 (.cells #[.int .i64 0, .int .i64 0, .slice a5 ([] : List Int).length c5] 29))
      have T_C := (C4.out.step b5).step (below_all w5 (.cells #[.int .i64 0, .int .i64 0, .slice a5 ([] : List Int).length c5] 29))
      obtain ⟨f5, hf5⟩ : ∃ q, w5.heap.size = q := ⟨_, rfl⟩
      obtain ⟨W5, hW5⟩ : ∃ Wz, w5.alloc (.cells #[.int .i64 0, .int .i64 0, .slice a5 ([] : List Int).length c5] 29) = Wz := ⟨_, rfl⟩
      rw [hW5] at T_G T_F T_C T_V
      rw [hf5] at T_V
      have G5 := Lib.hid T_G
      have F5 := Lib.hid T_F
      have C5 := Lib.hid T_C
      have V5 := Lib.hid T_V
      clear o5 b5 T_G T_F T_C T_V G4 F4 C4
      clear F0_ F1_ F2_
      clear hf4 hW4
      try rw [List.length_nil] at hW5
      have C9 := Lib.hid C5.out
      have V9 := Lib.hid V5.out
      obtain ⟨C0_, C1_, C2_⟩ := C5.out.k.cells
      obtain ⟨V0_, V1_, V2_⟩ := V5.out.k.cells
      go_wp2_with fail
      refine (vField_yes 0 0 _ _ [] _ _ _ C5.out.i V5.out.i (by simp)).mono ?_
      rintro e w6 ⟨rfl, b6⟩
      have G6 := Lib.hid (G5.out.step b6)
      have F6 := Lib.hid (F5.out.step b6)
      have C6 := Lib.hid (C5.out.step b6)
      have V6 := Lib.hid (V5.out.step b6)
      clear b6 G5 F5 C5 V5
      clear C0_ C1_ C2_ V0_ V1_ V2_
      clear hf5 hW5
      go_wp2
      go_ret
      exact ⟨rfl, G6.out.1⟩
    | true =>
      obtain ⟨W, H, P, Q, rfl, rfl, rfl, rfl, n1, n2, n3, n4, p1, p2, q1, q2, hln⟩ := near_nat hnb
      have hgd : goodB (W : Int) (H : Int) L = true := by unfold nearB at hnb; simp only [Bool.and_eq_true] at hnb; exact hnb.1
      rw [nearR_yes hnb] at HC1 HC2
      rw [nearR_self hgd] at HC3
      simp only [rW, rH, rL, rB, Int.toNat_natCast] at HC1 HC2 HC3
      have HMEM := Lib.hid (nearL_mem (P := P) (Q := Q) n1 n3 p1 hln)
      have hNl : (nearL W H P Q L).length ≤ 64 := by rw [nearL_len]; exact Nat.mul_le_mul p2 q2
      generalize nearL W H P Q L = N at *
      clear hnb hgd hln
      obtain ⟨F0_, F1_, F2_⟩ := F3.out.k.cells
      go_wp2_with fail
      refine (HC1.out _ F3.out.i).mono ?_
      rintro e w4 ⟨a4, c4, rfl, o4, b4⟩
      have T_C := Fdn.new (wd := P) (hg := Q) (c := c4) (L := N) (a := a4) o4.ints
      have T_G := (G3.out.step b4).step (below_all w4 (.cells #[.int .i64 P, .int .i64 Q, .slice a4 (N : List Int).length c4] 29))
      have T_F := (F3.out.step b4).step (below_all w4 (.cells #[.int .i64 P, .int .i64 Q, .slice a4 (N : List Int).length c4] 29))
      obtain ⟨f4, hf4⟩ : ∃ q, w4.heap.size = q := ⟨_, rfl⟩
      obtain ⟨W4, hW4⟩ : ∃ Wz, w4.alloc (.cells #[.int .i64 P, .int .i64 Q, .slice a4 (N : List Int).length c4] 29) = Wz := ⟨_, rfl⟩
      rw [hW4] at T_G T_F T_C
      rw [hf4] at T_C
      have G4 := Lib.hid T_G
      have F4 := Lib.hid T_F
      have C4 := Lib.hid T_C
      clear o4 b4 T_G T_F T_C G3 F3
      clear F0_ F1_ F2_
      clear hf3 hW3
      obtain ⟨F0_, F1_, F2_⟩ := F4.out.k.cells
      go_wp2_with fail
      refine (HC2.out _ F4.out.i).mono ?_
      rintro e w5 ⟨a5, c5, rfl, o5, b5⟩
      have T_V := Fdn.new (wd := P) (hg := Q) (c := c5) (L := N) (a := a5) o5.ints
      have T_G := (G4.out.step b5).step (below_all w5 (.cells #[.int .i64 P, .int .i64 Q, .slice a5 (N : List Int).length c5] 29))
      have T_F := (F4.out.step b5).step (below_all w5 (.cells #[.int .i64 P, .int .i64 Q, .slice a5 (N : List Int).length c5] 29))
      have T_C := (C4.out.step b5).step (below_all w5 (.cells #[.int .i64 P, .int .i64 Q, .slice a5 (N : List Int).length c5] 29))
      obtain ⟨f5, hf5⟩ : ∃ q, w5.heap.size = q := ⟨_, rfl⟩
      obtain ⟨W5, hW5⟩ : ∃ Wz, w5.alloc (.cells #[.int .i64 P, .int .i64 Q, .slice a5 (N : List Int).length c5] 29) = Wz := ⟨_, rfl⟩
      rw [hW5] at T_G T_F T_C T_V
      rw [hf5] at T_V
      have G5 := Lib.hid T_G
      have F5 := Lib.hid T_F
      have C5 := Lib.hid T_C
      have V5 := Lib.hid T_V
      clear o5 b5 T_G T_F T_C T_V G4 F4 C4
      clear F0_ F1_ F2_
      clear hf4 hW4
      obtain ⟨C0_, C1_, C2_⟩ := C5.out.k.cells
      obtain ⟨V0_, V1_, V2_⟩ := V5.out.k.cells
      go_wp2_with fail
      refine (vField_yes P Q _ _ N _ _ _ C5.out.i V5.out.i (by omega)).mono ?_
      rintro e w6 ⟨rfl, b6⟩
      have G6 := Lib.hid (G5.out.step b6)
      have F6 := Lib.hid (F5.out.step b6)
      have C6 := Lib.hid (C5.out.step b6)
      have V6 := Lib.hid (V5.out.step b6)
      clear b6 G5 F5 C5 V5
      clear C0_ C1_ C2_ V0_ V1_ V2_
      clear hf5 hW5
      clear V6
      obtain ⟨F0_, F1_, F2_⟩ := F6.out.k.cells
      go_wp2_with fail
      refine (HC3.out _ F6.out.i).mono ?_
      rintro e w7 ⟨a7, c7, rfl, o7, b7⟩
      have T_S := Fdn.new (wd := W) (hg := H) (c := c7) (L := L) (a := a7) o7.ints
      have T_G := (G6.out.step b7).step (below_all w7 (.cells #[.int .i64 W, .int .i64 H, .slice a7 (L : List Int).length c7] 29))
      have T_F := (F6.out.step b7).step (below_all w7 (.cells #[.int .i64 W, .int .i64 H, .slice a7 (L : List Int).length c7] 29))
      have T_C := (C6.out.step b7).step (below_all w7 (.cells #[.int .i64 W, .int .i64 H, .slice a7 (L : List Int).length c7] 29))
      obtain ⟨f7, hf7⟩ : ∃ q, w7.heap.size = q := ⟨_, rfl⟩
      obtain ⟨W7, hW7⟩ : ∃ Wz, w7.alloc (.cells #[.int .i64 W, .int .i64 H, .slice a7 (L : List Int).length c7] 29) = Wz := ⟨_, rfl⟩
      rw [hW7] at T_G T_F T_C T_S
      rw [hf7] at T_S
      have G7 := Lib.hid T_G
      have F7 := Lib.hid T_F
      have C7 := Lib.hid T_C
      have S7 := Lib.hid T_S
      clear o7 b7 T_G T_F T_C T_S G6 F6 C6
      clear F0_ F1_ F2_
      obtain ⟨C0_, C1_, C2_⟩ := C7.out.k.cells
      obtain ⟨F0_, F1_, F2_⟩ := F7.out.k.cells
      go_wp2_with fail
      go_loopw [26] (fun i wr => ∃ k : Nat, k ≤ N.length ∧ i = .int .i64 k ∧ Drew W7 wr) (fun i _ => N.length - (intOf i).toNat)
      case atStart => exact ⟨0, Nat.zero_le _, rfl, Drew.refl _⟩
      case round =>
        obtain ⟨k, hk, rfl, hw⟩ := hrel
        have HW := Lib.hid hw
        have cc2 := (hw.cell ⟨f4, 2, none⟩).trans C2_
        have ff2 := (hw.cell ⟨f3, 2, none⟩).trans F2_
        clear hw
        by_cases hlt : k < N.length
        · obtain ⟨bz, oz, ez, _, cz⟩ := (C7.out.i.drew HW.out).at_ hlt
          subst ez
          have hi : (k : Int) < (N.length : Int) := by omega
          have hi0 : (0 : Int) ≤ (k : Int) := by omega
          have HH := Lib.hid (fun W' h => vHas_is (some a1) L c1 W'.heap.size N[k] W' h nL (HMEM.out _ (List.getElem_mem hlt)))
          have HFI := Lib.hid (F7.out.step (HW.out.below _)).i
          generalize N[k] = z at *
          go_wp2_with fail
          go_quiet ((go_at_call 28; exact Calls.quiet_of_same (quietSame (HH.out _ (ints_below HFI.out (by exact ⟨rfl, rfl, rfl, Nat.le_refl _, fun _ _ => rfl⟩))))))
          go_wp2_with fail
          go_roundw
          case rel => exact ⟨k + 1, by omega, by go_num, HW.out.more _⟩
          case measure => simp [intOf]; omega
        · obtain rfl : k = N.length := by omega
          have G30 := Lib.hid (G7.out.step (HW.out.below _))
          have S30 := Lib.hid (S7.out.step (HW.out.below _))
          have F30 := Lib.hid (F7.out.step (HW.out.below _))
          clear C0_ C1_ C2_ F0_ F1_ F2_ ff2 G7 S7 F7 C7 HW
          obtain ⟨S0_, S1_, S2_⟩ := S30.out.k.cells
          obtain ⟨F0_, F1_, F2_⟩ := F30.out.k.cells
          go_wp2_with fail
          refine (vField_yes W H _ _ L _ _ _ S30.out.i F30.out.i nL).mono ?_
          rintro e w31 ⟨rfl, b31⟩
          have G31 := Lib.hid (G30.out.step b31)
          clear b31
          go_wp2
          go_ret
          exact ⟨rfl, G31.out.1⟩
end Go.Proofs.Ytccplndimdmjpaa
