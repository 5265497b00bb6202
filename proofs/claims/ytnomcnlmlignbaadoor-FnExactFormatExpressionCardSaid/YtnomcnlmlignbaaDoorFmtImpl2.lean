/- The program's text of a tree: over the whole tree; the program's FormatExpression. -/
import Derived.Test.YtnomcnlmlignbaaDoorFmtImpl
import Derived.Test.YtnomcnlmlignbaaDoorNodeLaw
namespace Go.Proofs.YtnomcnlmlignbaaDoor
open Go.RowKit
set_option linter.unusedVariables false
set_option linter.unusedSimpArgs false
theorem mkA_list (l : List UInt8) : (⟨l.toArray⟩ : ByteArray).data.toList = l := by simp
theorem tcells_get (k v : Int) (a : Option Addr) (n c : Nat) : (tcells k v a n c)[0]? = some (.int .i64 k) ∧ (tcells k v a n c)[1]? = some (.int .i64 v) ∧ (tcells k v a n c)[2]? = some (.int .i64 (fmK k)) ∧ (tcells k v a n c)[3]? = some (.int .i64 (fmT k)) ∧ (tcells k v a n c)[4]? = some (.int .i64 (fmM k)) ∧ (tcells k v a n c)[5]? = some (.int .i64 (fmO k)) ∧ (tcells k v a n c)[6]? = some (.string (fmA k)) ∧ (tcells k v a n c)[7]? = some (.string (fmB k)) ∧ (tcells k v a n c)[8]? = some (.string (fmC k)) ∧ (tcells k v a n c)[9]? = some (.slice a n c) :=
  ⟨rfl, rfl, rfl, rfl, rfl, rfl, rfl, rfl, rfl, rfl⟩
/-- the ten cells of a tree's box, read in a later world -/
theorem tcells_at {w0 w1 : World} {bb b : Nat} {J : List UInt8} {k v : Int} {a : Option Addr} {n c : Nat} (h : Bd w0 bb J w1) (hx : BoxC w0 b 142 (tcells k v a n c)) (hb : b < bb) :
    w1.cell? ⟨b, 0, none⟩ = some (.int .i64 k) ∧ w1.cell? ⟨b, 1, none⟩ = some (.int .i64 v) ∧ w1.cell? ⟨b, 2, none⟩ = some (.int .i64 (fmK k)) ∧ w1.cell? ⟨b, 3, none⟩ = some (.int .i64 (fmT k)) ∧ w1.cell? ⟨b, 4, none⟩ = some (.int .i64 (fmM k)) ∧ w1.cell? ⟨b, 5, none⟩ = some (.int .i64 (fmO k)) ∧ w1.cell? ⟨b, 6, none⟩ = some (.string (fmA k)) ∧ w1.cell? ⟨b, 7, none⟩ = some (.string (fmB k)) ∧ w1.cell? ⟨b, 8, none⟩ = some (.string (fmC k)) ∧ w1.cell? ⟨b, 9, none⟩ = some (.slice a n c) := by
  have hX := bd_box h hx hb
  obtain ⟨h0, h1, h2, h3, h4, h5, h6, h7, h8, h9⟩ := tcells_get k v a n c
  exact ⟨(hX.cell 0).trans h0, (hX.cell 1).trans h1, (hX.cell 2).trans h2, (hX.cell 3).trans h3, (hX.cell 4).trans h4, (hX.cell 5).trans h5, (hX.cell 6).trans h6, (hX.cell 7).trans h7, (hX.cell 8).trans h8, (hX.cell 9).trans h9⟩
theorem var_byte (n : Nat) (h : n ≤ 3) : (varS (n : Int)).data.toList = [UInt8.ofNat (97 + n)] := by
  have : n = 0 ∨ n = 1 ∨ n = 2 ∨ n = 3 := by omega
  rcases this with rfl | rfl | rfl | rfl <;> decide
set_option maxRecDepth 100000 in
set_option maxHeartbeats 1000000 in
theorem write_leaf (w0 : World) (bb b : Nat) (k v : Int) (a : Option Addr) (c : Nat) (hk : arity k v = some 0) (hx : BoxC w0 b 142 (tcells k v a 0 c)) (hb : b < bb) (HT : ∀ W, Below bb w0 W → bb ≤ W.heap.size → Tab W) :
    Wr w0 bb 93 #[.pointer (some ⟨b, 0, none⟩), .pointer (some ⟨bb, 0, none⟩)] (txtE (.n0 k v)) := by
  intro J W hB hl
  obtain ⟨c0, c1, _⟩ := tcells_at hB hx hb
  have HB := Lib.hid hB
  by_cases h1 : k = 1
  · subst h1
    have hv : v = 0 ∨ v = 1 ∨ v = 2 ∨ v = 3 := by
      unfold arity at hk
      rw [if_pos rfl] at hk
      split at hk
      · omega
      · cases hk
    have ez : txtE (.n0 1 v) = varS v := by rw [txtE, if_pos rfl]
    rw [ez]
    have hJ : J.length + 1 ≤ 1000000 := by
      rw [ez] at hl
      rcases hv with rfl | rfl | rfl | rfl <;> exact hl
    clear hk hx hB hl ez
    rcases hv with rfl | rfl | rfl | rfl
    · have HC := Lib.hid (bd_byte HB.out 97 hJ)
      go_enter Tryd.func93, Tryd.ntmps93
      go_wp2_with fail
      refine HC.out.mono ?_
      rintro e w1 ⟨rfl, b1⟩
      have HB1 := Lib.hid b1
      clear b1
      go_wp2
      go_end0
      exact ⟨rfl, HB1.out⟩
    · have HC := Lib.hid (bd_byte HB.out 98 hJ)
      go_enter Tryd.func93, Tryd.ntmps93
      go_wp2_with fail
      refine HC.out.mono ?_
      rintro e w1 ⟨rfl, b1⟩
      have HB1 := Lib.hid b1
      clear b1
      go_wp2
      go_end0
      exact ⟨rfl, HB1.out⟩
    · have HC := Lib.hid (bd_byte HB.out 99 hJ)
      go_enter Tryd.func93, Tryd.ntmps93
      go_wp2_with fail
      refine HC.out.mono ?_
      rintro e w1 ⟨rfl, b1⟩
      have HB1 := Lib.hid b1
      clear b1
      go_wp2
      go_end0
      exact ⟨rfl, HB1.out⟩
    · have HC := Lib.hid (bd_byte HB.out 100 hJ)
      go_enter Tryd.func93, Tryd.ntmps93
      go_wp2_with fail
      refine HC.out.mono ?_
      rintro e w1 ⟨rfl, b1⟩
      have HB1 := Lib.hid b1
      clear b1
      go_wp2
      go_end0
      exact ⟨rfl, HB1.out⟩
  · have hv : k = 2 ∧ 0 ≤ v ∧ v ≤ 9000 := by
      unfold arity at hk
      rw [if_neg h1] at hk
      (repeat' split at hk) <;> first | omega | (exfalso; simp at hk)
    obtain ⟨rfl, v0, v9⟩ := hv
    obtain ⟨n, rfl⟩ : ∃ n : Nat, v = (n : Int) := ⟨v.toNat, by omega⟩
    have ez : txtE (.n0 2 (n : Int)) = digS n := by rw [txtE, if_neg h1]; simp
    rw [ez] at hl ⊢
    have HI := Lib.hid (itoa_call n (by omega) W (HT W hB.b hB.n))
    clear hk hx hB h1 HT ez
    generalize digS n = dn at *
    go_enter Tryd.func93, Tryd.ntmps93
    go_wp2_with fail
    refine HI.out.mono ?_
    rintro e w1 ⟨rfl, b1⟩
    have HB1 := Lib.hid (bd_below HB.out b1)
    clear b1 c0 c1
    go_wp2_with fail
    refine (bd_write HB1.out dn hl).mono ?_
    rintro e w2 ⟨rfl, b2⟩
    have HB2 := Lib.hid b2
    clear b2
    go_wp2
    go_end0
    exact ⟨rfl, HB2.out⟩
theorem lit_le (k : Int) : (fmA k).size ≤ 6 ∧ (fmB k).size ≤ 6 ∧ (fmC k).size ≤ 6 := by
  unfold fmA fmB fmC
  refine ⟨?_, ?_, ?_⟩ <;> (repeat' split) <;> decide
set_option maxRecDepth 100000 in
set_option maxHeartbeats 1000000 in
/-- an operation: its opening, its first argument, what stands between, the rest, its closing -/
theorem write_op (w0 : World) (bb b : Nat) (k v : Int) (ga c n bx : Nat) (sx s2 : ByteArray) (k1 : ¬ k = 1) (k2 : ¬ k = 2) (hx : BoxC w0 b 142 (tcells k v (some ⟨ga, 0, none⟩) n c)) (hn : 1 ≤ n) (hg : w0.cell? ⟨ga, 0, none⟩ = some (.pointer (some ⟨bx, 0, none⟩))) (hb : b < bb) (hgb : ga < bb)
    (R1 : Wr w0 bb 93 #[.pointer (some ⟨bx, 0, none⟩), .pointer (some ⟨bb, 0, none⟩)] sx) (R2 : Wr w0 bb 121 #[.pointer (some ⟨b, 0, none⟩), .pointer (some ⟨bb, 0, none⟩)] s2) :
    Wr w0 bb 93 #[.pointer (some ⟨b, 0, none⟩), .pointer (some ⟨bb, 0, none⟩)] (fmA k ++ sx ++ fmB k ++ s2 ++ fmC k) := by
  intro J W hB hl
  simp only [ByteArray.size_append] at hl
  have HTC := Lib.hid (fun J' W' (h : Bd w0 bb J' W') => tcells_at h hx hb)
  have HGC := Lib.hid (fun J' W' (h : Bd w0 bb J' W') => bd_cell h hg hgb)
  have HR1 := Lib.hid R1
  have HR2 := Lib.hid R2
  have HB := Lib.hid hB
  have e1 : (k == 1) = false := by rw [beq_eq_false_iff_ne]; exact k1
  have e2 : (k == 2) = false := by rw [beq_eq_false_iff_ne]; exact k2
  have hni : (0 : Int) < (n : Int) := by omega
  obtain ⟨z1, z2, z3⟩ := lit_le k
  have HJ := Lib.hid (show J ++ (fmA k ++ sx ++ fmB k ++ s2 ++ fmC k).data.toList = J ++ (fmA k).data.toList ++ sx.data.toList ++ (fmB k).data.toList ++ s2.data.toList ++ (fmC k).data.toList by simp [ByteArray.data_append])
  rw [HJ.out]
  have y1 : (fmA k).data.toList.length = (fmA k).size := rfl
  have y2 : (fmB k).data.toList.length = (fmB k).size := rfl
  have y3 : (fmC k).data.toList.length = (fmC k).size := rfl
  have y4 : sx.data.toList.length = sx.size := rfl
  have y5 : s2.data.toList.length = s2.size := rfl
  have HY := Lib.hid (And.intro y1 (And.intro y2 (And.intro y3 (And.intro y4 y5))))
  obtain ⟨c0, c1, c2, c3, c4, c5, c6, c7, c8, c9⟩ := HTC.out _ _ HB.out
  clear y1 y2 y3 y4 y5 hx hg R1 R2 hB k1 k2 HJ c1 c2 c3 c4 c5 c7 c8
  generalize fmK k = yk at *
  generalize fmT k = yt at *
  generalize fmM k = ym at *
  generalize fmO k = yo at *
  generalize fmA k = A at *
  generalize fmB k = B at *
  generalize fmC k = C at *
  go_enter Tryd.func93, Tryd.ntmps93
  go_wp2_with fail
  refine (bd_write HB.out A (by omega)).mono ?_
  rintro e w1 ⟨rfl, b1⟩
  have HB1 := Lib.hid b1
  clear b1 c0 c6 c9
  obtain ⟨_, _, _, _, _, _, _, _, _, c9⟩ := HTC.out _ _ HB1.out
  have g0 := HGC.out _ _ HB1.out
  go_wp2_with fail
  refine (HR1.out _ _ HB1.out (by have := HY.out; rw [List.length_append]; omega)).mono ?_
  rintro e w2 ⟨rfl, b2⟩
  have HB2 := Lib.hid b2
  clear b2 c9 g0 HB HB1
  obtain ⟨_, _, _, _, _, _, _, c7, _, _⟩ := HTC.out _ _ HB2.out
  go_wp2_with fail
  refine (bd_write HB2.out B (by have := HY.out; rw [List.length_append, List.length_append]; omega)).mono ?_
  rintro e w3 ⟨rfl, b3⟩
  have HB3 := Lib.hid b3
  clear b3 c7 HB2
  go_wp2_with fail
  refine (HR2.out _ _ HB3.out (by have := HY.out; rw [List.length_append, List.length_append, List.length_append]; omega)).mono ?_
  rintro e w4 ⟨rfl, b4⟩
  have HB4 := Lib.hid b4
  clear b4 HB3
  obtain ⟨_, _, _, _, _, _, _, _, c8, _⟩ := HTC.out _ _ HB4.out
  go_wp2_with fail
  refine (bd_write HB4.out C (by have := HY.out; rw [List.length_append, List.length_append, List.length_append, List.length_append]; omega)).mono ?_
  rintro e w5 ⟨rfl, b5⟩
  have HB5 := Lib.hid b5
  clear b5 HB4 c8
  go_wp2
  go_end0
  exact ⟨rfl, HB5.out⟩
set_option maxRecDepth 100000 in
set_option maxHeartbeats 1000000 in
theorem second_above (w0 : World) (bb b n : Nat) (a : Option Addr) (m c : Nat) (hn : n ≤ 9000) (hx : BoxC w0 b 142 (tcells 7 (n : Int) a m c)) (hb : b < bb) (HT : ∀ W, Below bb w0 W → bb ≤ W.heap.size → Tab W) :
    Wr w0 bb 121 #[.pointer (some ⟨b, 0, none⟩), .pointer (some ⟨bb, 0, none⟩)] (digS n) := by
  intro J W hB hl
  obtain ⟨c0, c1, _⟩ := tcells_at hB hx hb
  have HB := Lib.hid hB
  have HI := Lib.hid (itoa_call n (by omega) W (HT W hB.b hB.n))
  clear hx hB HT
  generalize digS n = dn at *
  go_enter Tryd.func121, Tryd.ntmps121
  go_wp2_with fail
  refine HI.out.mono ?_
  rintro e w1 ⟨rfl, b1⟩
  have HB1 := Lib.hid (bd_below HB.out b1)
  clear b1 c0 c1
  go_wp2_with fail
  refine (bd_write HB1.out dn hl).mono ?_
  rintro e w2 ⟨rfl, b2⟩
  have HB2 := Lib.hid b2
  clear b2
  go_wp2
  (try simp only [Exit.inBlock, Exit.then])
  refine bodyPost_ret (results_none rfl _ _ _) rfl ?_
  exact ⟨rfl, HB2.out⟩
theorem tree_root {w : World} {P : Nat → Prop} {t : ET} {b : Nat} (h : TreeAt w P t b) : P b ∧ ∃ a n c, BoxC w b 142 (tcells t.kind t.val a n c) := by
  cases t with
  | n0 k v => obtain ⟨h1, a, c, h2⟩ := h; exact ⟨h1, a, 0, c, h2⟩
  | n1 k v x => obtain ⟨h1, ga, c, bx, _, h3, _⟩ := h; exact ⟨h1, _, 1, c, h3⟩
  | n2 k v x y => obtain ⟨h1, ga, c, bx, bz, _, h3, _⟩ := h; exact ⟨h1, _, 2, c, h3⟩
set_option maxRecDepth 100000 in
set_option maxHeartbeats 1000000 in
theorem second_two (w0 : World) (bb b : Nat) (k v yk yv : Int) (ga c bz : Nat) (ya : Option Addr) (yn yc : Nat) (sy : ByteArray) (hk : k = 3 ∨ k = 4 ∨ k = 5 ∨ k = 6) (hyk : yk = 1 ∨ yk = 2 ∨ yk = 3 ∨ yk = 4 ∨ yk = 5 ∨ yk = 6 ∨ yk = 7) (hx : BoxC w0 b 142 (tcells k v (some ⟨ga, 0, none⟩) 2 c)) (hg : w0.cell? ⟨ga, 1, none⟩ = some (.pointer (some ⟨bz, 0, none⟩))) (hy : BoxC w0 bz 142 (tcells yk yv ya yn yc)) (hb : b < bb) (hgb : ga < bb) (hzb : bz < bb)
    (R1 : Wr w0 bb 93 #[.pointer (some ⟨bz, 0, none⟩), .pointer (some ⟨bb, 0, none⟩)] sy) :
    Wr w0 bb 121 #[.pointer (some ⟨b, 0, none⟩), .pointer (some ⟨bb, 0, none⟩)] (if sumK k = true then parS yk sy else sy) := by
  intro J W hB hl
  have HTC := Lib.hid (fun J' W' (h : Bd w0 bb J' W') => tcells_at h hx hb)
  have HYC := Lib.hid (fun J' W' (h : Bd w0 bb J' W') => tcells_at h hy hzb)
  have HGC := Lib.hid (fun J' W' (h : Bd w0 bb J' W') => bd_cell h hg hgb)
  have HR1 := Lib.hid R1
  have HB := Lib.hid hB
  have HI1 := Lib.hid (fun W => infix_is k (by omega) W)
  have HI2 := Lib.hid (fun W => infix_is yk hyk W)
  unfold formV at HI1 HI2
  have e7 : (k == 7) = false := by rw [beq_eq_false_iff_ne]; omega
  obtain ⟨c0, c1, c2, c3, c4, c5, c6, c7, c8, c9⟩ := HTC.out _ _ HB.out
  have g1 := HGC.out _ _ HB.out
  clear hx hg hy R1 hB hk hyk
  generalize fmK k = k0 at *
  generalize fmT k = k1 at *
  generalize fmM k = k2 at *
  generalize fmO k = k3 at *
  generalize fmA k = k4 at *
  generalize fmB k = k5 at *
  generalize fmC k = k6 at *
  generalize fmK yk = y0 at *
  generalize fmT yk = y1 at *
  generalize fmM yk = y2 at *
  generalize fmO yk = y3 at *
  generalize fmA yk = y4 at *
  generalize fmB yk = y5 at *
  generalize fmC yk = y6 at *
  cases hsk : sumK k with
  | false =>
    rw [hsk] at HI1 hl
    simp only [Bool.false_eq_true, if_false] at hl ⊢
    clear hsk
    go_enter Tryd.func121, Tryd.ntmps121
    go_wp2_with fail
    refine (HI1.out _).mono ?_
    rintro e w1 ⟨rfl, b1⟩
    have HB1 := Lib.hid (bd_below HB.out b1)
    clear b1 c0 c1 c2 c3 c4 c5 c6 c7 c8 c9 g1
    go_wp2_with fail
    refine (HR1.out _ _ HB1.out hl).mono ?_
    rintro e w2 ⟨rfl, b2⟩
    have HB2 := Lib.hid b2
    clear b2
    go_wp2
    (try simp only [Exit.inBlock, Exit.then])
    refine bodyPost_ret (results_none rfl _ _ _) rfl ?_
    exact ⟨rfl, HB2.out⟩
  | true =>
    rw [hsk] at HI1 hl
    simp only [if_true] at hl ⊢
    clear hsk
    cases hsy : sumK yk with
    | false =>
      have ep : parS yk sy = sy := by unfold parS; rw [hsy]; rfl
      rw [ep] at hl ⊢
      rw [hsy] at HI2
      clear hsy ep
      go_enter Tryd.func121, Tryd.ntmps121
      go_wp2_with fail
      refine (HI1.out _).mono ?_
      rintro e w1 ⟨rfl, b1⟩
      have HB1 := Lib.hid (bd_below HB.out b1)
      clear b1 c0 c1 c2 c3 c4 c5 c6 c7 c8 c9 g1 HB
      obtain ⟨d0, d1, d2, d3, d4, d5, d6, d7, d8, d9⟩ := HYC.out _ _ HB1.out
      go_wp2_with fail
      refine (HI2.out _).mono ?_
      rintro e w2 ⟨rfl, b2⟩
      have HB2 := Lib.hid (bd_below HB1.out b2)
      clear b2 d0 d1 d2 d3 d4 d5 d6 d7 d8 d9
      go_wp2_with fail
      refine (HR1.out _ _ HB2.out hl).mono ?_
      rintro e w3 ⟨rfl, b3⟩
      have HB3 := Lib.hid b3
      clear b3
      go_wp2
      (try simp only [Exit.inBlock, Exit.then])
      refine bodyPost_ret (results_none rfl _ _ _) rfl ?_
      exact ⟨rfl, HB3.out⟩
    | true =>
      have ep : parS yk sy = opnS ++ sy ++ clsS := by unfold parS; rw [hsy]; rfl
      rw [ep] at hl ⊢
      simp only [ByteArray.size_append] at hl
      have HJ := Lib.hid (show J ++ (opnS ++ sy ++ clsS).data.toList = J ++ opnS.data.toList ++ sy.data.toList ++ clsS.data.toList by simp [ByteArray.data_append])
      rw [HJ.out]
      have z1 : opnS.size = 1 := rfl
      have z2 : clsS.size = 1 := rfl
      have z3 : opnS.data.toList.length = 1 := rfl
      have z4 : sy.data.toList.length = sy.size := rfl
      have hl1 : J.length + opnS.size ≤ 1000000 := by omega
      have hl2 : (J ++ opnS.data.toList).length + sy.size ≤ 1000000 := by rw [List.length_append]; omega
      have hl3 : (J ++ opnS.data.toList ++ sy.data.toList).length + clsS.size ≤ 1000000 := by rw [List.length_append, List.length_append]; omega
      have HL1 := Lib.hid hl1
      have HL2 := Lib.hid hl2
      have HL3 := Lib.hid hl3
      rw [hsy] at HI2
      clear hsy ep z1 z2 z3 z4 hl1 hl2 hl3 hl HJ
      go_enter Tryd.func121, Tryd.ntmps121
      go_wp2_with fail
      refine (HI1.out _).mono ?_
      rintro e w1 ⟨rfl, b1⟩
      have HB1 := Lib.hid (bd_below HB.out b1)
      clear b1 c0 c1 c2 c3 c4 c5 c6 c7 c8 c9 g1 HB
      obtain ⟨d0, d1, d2, d3, d4, d5, d6, d7, d8, d9⟩ := HYC.out _ _ HB1.out
      go_wp2_with fail
      refine (HI2.out _).mono ?_
      rintro e w2 ⟨rfl, b2⟩
      have HB2 := Lib.hid (bd_below HB1.out b2)
      clear b2 d0 d1 d2 d3 d4 d5 d6 d7 d8 d9
      go_wp2_with fail
      refine (bd_write HB2.out opnS HL1.out).mono ?_
      rintro e w3 ⟨rfl, b3⟩
      have HB3 := Lib.hid b3
      clear b3
      go_wp2_with fail
      refine (HR1.out _ _ HB3.out HL2.out).mono ?_
      rintro e w4 ⟨rfl, b4⟩
      have HB4 := Lib.hid b4
      clear b4
      go_wp2_with fail
      refine (bd_write HB4.out clsS HL3.out).mono ?_
      rintro e w5 ⟨rfl, b5⟩
      have HB5 := Lib.hid b5
      clear b5
      go_wp2
      go_end0
      exact ⟨rfl, HB5.out⟩
end Go.Proofs.YtnomcnlmlignbaaDoor
