/- The walk of FnTotals. -/
import Derived.Test.YtglpkfkbbjbjjaaFieldDraws
import Derived.Test.YtglpkfkbbjbjjaaTotLawMath
import Derived.Test.YtglpkfkbbjbjjaaVField
import Derived.Test.YtglpkfkbbjbjjaaSubImpl
import Derived.Test.YtglpkfkbbjbjjaaSub
import Derived.Deep.DeepCutAuto
namespace Go.Proofs.Ytglpkfkbbjbjjaa
open Go.RowKit
set_option linter.unusedVariables false
set_option linter.unusedSimpArgs false
/-- what the law knows of a later world -/
def Gc (w : World) (a : Option Addr) (l : List Int) (w' : World) : Prop := Below w.heap.size w w' ∧ Ints .u8 w' w'.heap.size a l
theorem Gc.step {w w1 w2 : World} {a : Option Addr} {l : List Int} (h : Gc w a l w1) (hb : Below w1.heap.size w1 w2) : Gc w a l w2 :=
  ⟨below_then h.1 hb, ints_below h.2 hb⟩
/-- a field in a box of the law's own -/
structure Fd (w : World) (b : Nat) (wd hg : Int) (a : Option Addr) (L : List Int) (c : Nat) : Prop where
  k : Box w b 26 (.int .i64 wd) (.int .i64 hg) (.slice a L.length c)
  i : Ints .i64 w w.heap.size a L
theorem Fd.new {w : World} {wd hg : Int} {a : Option Addr} {L : List Int} {c : Nat} (h : Ints .i64 w w.heap.size a L) : Fd (w.alloc (.cells #[.int .i64 wd, .int .i64 hg, .slice a L.length c] 26)) w.heap.size wd hg a L c := ⟨Box.new _ _ _ _ _, ints_alloc h _⟩
theorem Fd.step {w w' : World} {b : Nat} {wd hg : Int} {a : Option Addr} {L : List Int} {c : Nat} (h : Fd w b wd hg a L c) (hb : Below w.heap.size w w') : Fd w' b wd hg a L c := ⟨h.k.below hb, ints_below h.i hb⟩
set_option maxRecDepth 100000 in
set_option maxHeartbeats 8000000 in
theorem walk_Totals (a : Option Addr) (l : List Int) (c : Nat) (w : World) (hi : Ints .u8 w w.heap.size a l) (hb : ∀ z ∈ l, 0 ≤ z ∧ z ≤ 255) (hlm : l.length ≤ maxLen) :
    Calls Try.prog 3 #[.slice a l.length c] w fun e w' => e = .returned (.bool true) ∧ Below w.heap.size w w' := by
  unfold maxLen at hlm
  by_cases hbig : (65536 : Int) < (l.length : Int)
  · clear hi hb
    go_enter Try.func3, Try.ntmps3
    go_wp2
    go_ret
    exact ⟨rfl, Below.refl _ _⟩
  · have G0 := Lib.hid (show Gc w a l w from ⟨Below.refl _ _, hi⟩)
    have HBY := Lib.hid hb
    have hl : l.length ≤ 65536 := by omega
    clear hi hb hlm
    go_enter Try.func3, Try.ntmps3
    go_wp2_with (first | (go_at_call 6; go_in) | fail)
    refine (drawRange_any _ a l c G0.out.2 HBY.out (by omega)).mono ?_
    rintro e w1 ⟨wd, hg, L, a1, c1, m1, rfl, o1, b1⟩
    have F1' := Fd.new (wd := wd) (hg := hg) (c := c1) o1.ints
    have G1' := (G0.out.step b1).step (below_all w1 (.cells #[.int .i64 wd, .int .i64 hg, .slice a1 L.length c1] 26))
    obtain ⟨f1, hf1⟩ : ∃ q, w1.heap.size = q := ⟨_, rfl⟩
    obtain ⟨W1, hW1⟩ : ∃ W, w1.alloc (.cells #[.int .i64 wd, .int .i64 hg, .slice a1 L.length c1] 26) = W := ⟨_, rfl⟩
    rw [hf1, hW1] at F1'
    rw [hW1] at G1'
    have F1 := Lib.hid F1'
    have G1 := Lib.hid G1'
    have hn : L.length ≤ 1048576 := by omega
    have HKEY := Lib.hid (show (goodB wd hg L = false ∧ rngB wd hg L = false ∧ totN wd hg L = 0 ∧ misN wd hg L = 0) ∨ (goodB wd hg L = true ∧ rngB wd hg L = true ∧ ∃ n : Nat, 1 ≤ n ∧ n ≤ 64 ∧ (L.length : Int) - misN wd hg L = (n : Int) ∧ 0 ≤ misN wd hg L ∧ misN wd hg L ≤ 64 ∧ (-9000 ≤ rngLo wd hg L ∧ rngLo wd hg L ≤ 9000) ∧ (-9000 ≤ rngHi wd hg L ∧ rngHi wd hg L ≤ 9000) ∧
      rngLo wd hg L * (n : Int) ≤ totN wd hg L ∧ totN wd hg L ≤ rngHi wd hg L * (n : Int) ∧ -640000 ≤ rngLo wd hg L * (n : Int) ∧ rngHi wd hg L * (n : Int) ≤ 640000 ∧ rngLo wd hg L * (n : Int) ≤ 640000 ∧ -640000 ≤ rngHi wd hg L * (n : Int)) ∨ (goodB wd hg L = true ∧ rngB wd hg L = false ∧ (L.length : Int) - misN wd hg L = 0 ∧ totN wd hg L = 0 ∧ 0 ≤ misN wd hg L ∧ misN wd hg L ≤ 64) from by
        cases hgd : goodB wd hg L with
        | false => exact .inl ⟨rfl, (rng_no hgd).1, totN_no hgd, misN_no hgd⟩
        | true =>
          cases hv : anyB (vals L) with
          | false => exact .inr (.inr ⟨rfl, by rw [(rng_yes hgd).1, hv], (rng_none hgd hv).1, (rng_none hgd hv).2.1, by rw [(rng_none hgd hv).2.2]; omega, by rw [(rng_none hgd hv).2.2]; omega⟩)
          | true => exact .inr (.inl ⟨rfl, by rw [(rng_yes hgd).1, hv], rng_bd hgd hv⟩))
    have HI1 := Lib.hid (fun W h => implRange_any wd hg a1 L c1 W h hn)
    have HI2 := Lib.hid (fun W h => specRange_any wd hg a1 L c1 W h hn)
    have HI3 := Lib.hid (fun W h => implTotal_any wd hg a1 L c1 W h hn)
    have HI4 := Lib.hid (fun W h => implMissing_any wd hg a1 L c1 W h hn)
    have HI5 := Lib.hid (fun W h => implGood_is wd hg a1 L c1 _ (goodB wd hg L) W h (Nat.le_refl _) hn rfl)
    generalize goodB wd hg L = gd at *
    generalize rngB wd hg L = ok at *
    generalize rngLo wd hg L = lo at *
    generalize rngHi wd hg L = hi at *
    generalize totN wd hg L = tt at *
    generalize misN wd hg L = ms at *
    clear F1' G1' o1 b1 G0
    obtain ⟨k0, k1, k2⟩ := F1.out.k.cells
    go_wp2_with fail
    refine (HI1.out _ F1.out.i).mono ?_
    rintro e w2 ⟨rfl, b2⟩
    have F2 := Lib.hid (F1.out.step b2)
    have G2 := Lib.hid (G1.out.step b2)
    clear b2 F1 G1 k0 k1 k2 HI1
    obtain ⟨k0, k1, k2⟩ := F2.out.k.cells
    go_wp2_with fail
    refine (HI2.out _ F2.out.i).mono ?_
    rintro e w3 ⟨rfl, b3⟩
    have F3 := Lib.hid (F2.out.step b3)
    have G3 := Lib.hid (G2.out.step b3)
    clear b3 F2 G2 k0 k1 k2 HI2
    obtain ⟨k0, k1, k2⟩ := F3.out.k.cells
    go_wp2_with fail
    refine (HI3.out _ F3.out.i).mono ?_
    rintro e w4 ⟨rfl, b4⟩
    have F4 := Lib.hid (F3.out.step b4)
    have G4 := Lib.hid (G3.out.step b4)
    clear b4 F3 G3 k0 k1 k2 HI3
    obtain ⟨k0, k1, k2⟩ := F4.out.k.cells
    go_wp2_with fail
    refine (HI4.out _ F4.out.i).mono ?_
    rintro e w5 ⟨rfl, b5⟩
    have F5 := Lib.hid (F4.out.step b5)
    have G5 := Lib.hid (G4.out.step b5)
    clear b5 F4 G4 k0 k1 k2 HI4
    obtain ⟨k0, k1, k2⟩ := F5.out.k.cells
    go_wp2_with fail
    refine (HI5.out _ F5.out.i).mono ?_
    rintro e w6 ⟨rfl, b6⟩
    have F6 := Lib.hid (F5.out.step b6)
    have G6 := Lib.hid (G5.out.step b6)
    clear b6 F5 G5 k0 k1 k2 HI5
    go_upto_if 75 with fail
    go_cut [] (fun wx => Gc w a l wx ∧ Fd wx f1 wd hg a1 L c1)
    case first =>
      as_aux_lemma =>
        cases gd <;> (go_wp2_with fail; go_meet; exact ⟨G6.out, F6.out⟩)
    case rest =>
    obtain ⟨hcut1, hcut2⟩ := hcut
    have G6 := Lib.hid hcut1
    have F6 := Lib.hid hcut2
    clear hcut1 hcut2
    obtain ⟨k0, k1, k2⟩ := F6.out.k.cells
    have hms : 0 ≤ ms ∧ ms ≤ 64 := by
      rcases HKEY.out with h | h | h
      · omega
      · obtain ⟨_, _, n, h⟩ := h; omega
      · omega
    go_upto_region 13 with fail
    generalize (L.length : Int) - ms = nn at *
    go_cut [114] (fun s wx => s = .bool false ∧ Gc w a l wx)
    case first =>
      as_aux_lemma =>
        rcases HKEY.out with ⟨rfl, rfl, h3, h4⟩ | ⟨rfl, rfl, n, n1, n2, rfl, n4, n5, n6, n7, n8, n9, n10, n11, n12, n13⟩ | ⟨rfl, rfl, rfl, rfl, h5, h6⟩
        · clear h3 h4
          go_wp2_with fail
          go_meet
          exact ⟨rfl, G6.out⟩
        · obtain ⟨p1, hp1⟩ : ∃ p, lo * (n : Int) = p := ⟨_, rfl⟩
          obtain ⟨p2, hp2⟩ : ∃ p, hi * (n : Int) = p := ⟨_, rfl⟩
          rw [hp1] at n8 n10 n12
          rw [hp2] at n9 n11 n13
          have d1 : decide (tt < p1) = false := decide_eq_false (by omega)
          have d2 : decide (p2 < tt) = false := decide_eq_false (by omega)
          have d3 : decide ((n : Int) < 1) = false := decide_eq_false (by omega)
          go_wp2_with fail
          go_meet
          exact ⟨rfl, G6.out⟩
        · go_wp2_with fail
          go_meet
          exact ⟨rfl, G6.out⟩
    case rest =>
    obtain ⟨rfl, hcut2⟩ := hcut
    have G7 := Lib.hid hcut2
    clear hcut2 HKEY F6 G6 k0 k1 k2 hms hW1 hf1
    go_wp2_with fail
    refine (drawSub_any _ a l c G7.out.2 HBY.out (by omega)).mono ?_
    rintro e w8 ⟨wd2, hg2, L2, a2, c2, x, y, p, q, ⟨u1, u2', u3', u4', u5', u6', u7', u8', u9', u10'⟩, rfl, o8, b8⟩
    have F8' := Fd.new (wd := wd2) (hg := hg2) (c := c2) o8.ints
    have G8' := (G7.out.step b8).step (below_all w8 (.cells #[.int .i64 wd2, .int .i64 hg2, .slice a2 L2.length c2] 26))
    obtain ⟨f2, hf2⟩ : ∃ q, w8.heap.size = q := ⟨_, rfl⟩
    obtain ⟨W8, hW8⟩ : ∃ W, w8.alloc (.cells #[.int .i64 wd2, .int .i64 hg2, .slice a2 L2.length c2] 26) = W := ⟨_, rfl⟩
    rw [hf2, hW8] at F8'
    rw [hW8] at G8'
    have F8 := Lib.hid F8'
    have G8 := Lib.hid G8'
    have hn2 : L2.length ≤ 1048576 := by omega
    have HS1 := Lib.hid (fun W h => implSub_any wd2 hg2 a2 L2 c2 x y p q W h hn2 u2')
    have HS2 := Lib.hid (fun W h => specSub_any wd2 hg2 a2 L2 c2 x y p q W h hn2)
    have HC2 := Lib.hid (fun W h => implCellAt_any wd2 hg2 a2 L2 c2 (x + p - 1) (y + q - 1) W h hn2)
    unfold FRet at HS1 HS2
    clear F8' G8' o8 b8 G7
    obtain ⟨k0, k1, k2⟩ := F8.out.k.cells
    cases hs : subOk wd2 hg2 L2 x y p q with
    | false =>
      rw [subR_no hs] at HS1 HS2
      simp only [rW, rH, rL, rB] at HS1 HS2
      go_wp2_with fail
      refine (HS1.out _ F8.out.i).mono ?_
      rintro e w9 ⟨a9, c9, rfl, o9, b9⟩
      have P9' := Fd.new (wd := 0) (hg := 0) (c := c9) (L := []) (a := a9) o9.ints
      have F9' := (F8.out.step b9).step (below_all w9 (.cells #[.int .i64 0, .int .i64 0, .slice a9 ([] : List Int).length c9] 26))
      have G9' := (G8.out.step b9).step (below_all w9 (.cells #[.int .i64 0, .int .i64 0, .slice a9 ([] : List Int).length c9] 26))
      obtain ⟨f3, hf3⟩ : ∃ q, w9.heap.size = q := ⟨_, rfl⟩
      obtain ⟨W9, hW9⟩ : ∃ W, w9.alloc (.cells #[.int .i64 0, .int .i64 0, .slice a9 ([] : List Int).length c9] 26) = W := ⟨_, rfl⟩
      rw [hW9] at F9' G9' P9'
      rw [hf3] at P9'
      have F9 := Lib.hid F9'
      have G9 := Lib.hid G9'
      have P9 := Lib.hid P9'
      try rw [List.length_nil] at hW9
      clear F8 G8 k0 k1 k2 HS1 F9' G9' P9' o9 b9
      obtain ⟨k0, k1, k2⟩ := F9.out.k.cells
      go_wp2_with fail
      refine (HS2.out _ F9.out.i).mono ?_
      rintro e w10 ⟨a10, c10, rfl, o10, b10⟩
      have V10' := Fd.new (wd := 0) (hg := 0) (c := c10) (L := []) (a := a10) o10.ints
      have F10' := (F9.out.step b10).step (below_all w10 (.cells #[.int .i64 0, .int .i64 0, .slice a10 ([] : List Int).length c10] 26))
      have P10' := (P9.out.step b10).step (below_all w10 (.cells #[.int .i64 0, .int .i64 0, .slice a10 ([] : List Int).length c10] 26))
      have G10' := (G9.out.step b10).step (below_all w10 (.cells #[.int .i64 0, .int .i64 0, .slice a10 ([] : List Int).length c10] 26))
      obtain ⟨f4, hf4⟩ : ∃ q, w10.heap.size = q := ⟨_, rfl⟩
      obtain ⟨W10, hW10⟩ : ∃ W, w10.alloc (.cells #[.int .i64 0, .int .i64 0, .slice a10 ([] : List Int).length c10] 26) = W := ⟨_, rfl⟩
      rw [hW10] at F10' P10' G10' V10'
      rw [hf4] at V10'
      have F10 := Lib.hid F10'
      have G10 := Lib.hid G10'
      have P10 := Lib.hid P10'
      have V10 := Lib.hid V10'
      try rw [List.length_nil] at hW10
      clear F9 G9 P9 k0 k1 k2 HS2 F10' G10' P10' V10' o10 b10 hW9 hf3
      obtain ⟨k0, k1, k2⟩ := P10.out.k.cells
      obtain ⟨j0, j1, j2⟩ := V10.out.k.cells
      simp only [List.length_nil] at k2 j2
      go_wp2_with fail
      refine (vField_yes 0 0 a9 a10 [] c9 c10 _ P10.out.i V10.out.i (by simp)).mono ?_
      rintro e w11 ⟨rfl, b11⟩
      have F11 := Lib.hid (F10.out.step b11)
      have P11 := Lib.hid (P10.out.step b11)
      have G11 := Lib.hid (G10.out.step b11)
      clear F10 G10 P10 V10 k0 k1 k2 j0 j1 j2 b11 hW10 hf4
      go_wp2_with fail
      go_ret
      exact ⟨rfl, G11.out.1⟩
    | true =>
      obtain ⟨z1, z2, z3⟩ := sub_part hs
      have hlen := subR_len wd2 hg2 L2 x y p q
      rw [subR_yes hs] at HS1 HS2 hlen
      simp only [rW, rH, rL, rB] at HS1 HS2 hlen
      generalize (subRows L2 wd2.toNat x.toNat y.toNat p.toNat q.toNat).flatten = FL at *
      have hnf : FL.length ≤ 1048576 := by omega
      rw [z2] at HC2
      have HC1 := Lib.hid (fun a9 c9 W h => implCellAt_any p q a9 FL c9 (p - 1) (q - 1) W h hnf)
      rw [z1, z3] at HC1
      generalize cellN wd2 hg2 L2 (x + p - 1) (y + q - 1) = cv at *
      clear z1 z2 z3 hs
      go_wp2_with fail
      refine (HS1.out _ F8.out.i).mono ?_
      rintro e w9 ⟨a9, c9, rfl, o9, b9⟩
      have P9' := Fd.new (wd := p) (hg := q) (c := c9) (L := FL) (a := a9) o9.ints
      have F9' := (F8.out.step b9).step (below_all w9 (.cells #[.int .i64 p, .int .i64 q, .slice a9 (FL : List Int).length c9] 26))
      have G9' := (G8.out.step b9).step (below_all w9 (.cells #[.int .i64 p, .int .i64 q, .slice a9 (FL : List Int).length c9] 26))
      obtain ⟨f3, hf3⟩ : ∃ q, w9.heap.size = q := ⟨_, rfl⟩
      obtain ⟨W9, hW9⟩ : ∃ W, w9.alloc (.cells #[.int .i64 p, .int .i64 q, .slice a9 (FL : List Int).length c9] 26) = W := ⟨_, rfl⟩
      rw [hW9] at F9' G9' P9'
      rw [hf3] at P9'
      have F9 := Lib.hid F9'
      have G9 := Lib.hid G9'
      have P9 := Lib.hid P9'
      try rw [List.length_nil] at hW9
      clear F8 G8 k0 k1 k2 HS1 F9' G9' P9' o9 b9
      obtain ⟨k0, k1, k2⟩ := F9.out.k.cells
      go_wp2_with fail
      refine (HS2.out _ F9.out.i).mono ?_
      rintro e w10 ⟨a10, c10, rfl, o10, b10⟩
      have V10' := Fd.new (wd := p) (hg := q) (c := c10) (L := FL) (a := a10) o10.ints
      have F10' := (F9.out.step b10).step (below_all w10 (.cells #[.int .i64 p, .int .i64 q, .slice a10 (FL : List Int).length c10] 26))
      have P10' := (P9.out.step b10).step (below_all w10 (.cells #[.int .i64 p, .int .i64 q, .slice a10 (FL : List Int).length c10] 26))
      have G10' := (G9.out.step b10).step (below_all w10 (.cells #[.int .i64 p, .int .i64 q, .slice a10 (FL : List Int).length c10] 26))
      obtain ⟨f4, hf4⟩ : ∃ q, w10.heap.size = q := ⟨_, rfl⟩
      obtain ⟨W10, hW10⟩ : ∃ W, w10.alloc (.cells #[.int .i64 p, .int .i64 q, .slice a10 (FL : List Int).length c10] 26) = W := ⟨_, rfl⟩
      rw [hW10] at F10' P10' G10' V10'
      rw [hf4] at V10'
      have F10 := Lib.hid F10'
      have G10 := Lib.hid G10'
      have P10 := Lib.hid P10'
      have V10 := Lib.hid V10'
      try rw [List.length_nil] at hW10
      clear F9 G9 P9 k0 k1 k2 HS2 F10' G10' P10' V10' o10 b10 hW9 hf3
      obtain ⟨k0, k1, k2⟩ := P10.out.k.cells
      obtain ⟨j0, j1, j2⟩ := V10.out.k.cells
      skip
      go_wp2_with fail
      refine (vField_yes p q a9 a10 FL c9 c10 _ P10.out.i V10.out.i (by omega)).mono ?_
      rintro e w11 ⟨rfl, b11⟩
      have F11 := Lib.hid (F10.out.step b11)
      have P11 := Lib.hid (P10.out.step b11)
      have G11 := Lib.hid (G10.out.step b11)
      clear F10 G10 P10 V10 k0 k1 k2 j0 j1 j2 b11 hW10 hf4
      obtain ⟨k0, k1, k2⟩ := P11.out.k.cells
      go_wp2_with fail
      refine (HC1.out _ _ _ P11.out.i).mono ?_
      rintro e w12 ⟨rfl, b12⟩
      have F12 := Lib.hid (F11.out.step b12)
      have G12 := Lib.hid (G11.out.step b12)
      clear F11 P11 G11 b12 k0 k1 k2
      obtain ⟨k0, k1, k2⟩ := F12.out.k.cells
      go_wp2_with fail
      refine (HC2.out _ F12.out.i).mono ?_
      rintro e w13 ⟨rfl, b13⟩
      have G13 := Lib.hid (G12.out.step b13)
      clear F12 G12 b13 k0 k1 k2
      go_wp2_with fail
      go_ret
      exact ⟨rfl, G13.out.1⟩
end Go.Proofs.Ytglpkfkbbjbjjaa
