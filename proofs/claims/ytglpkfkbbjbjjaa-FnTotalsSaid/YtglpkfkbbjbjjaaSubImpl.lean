/- The program's SubField. -/
import Derived.Test.YtglpkfkbbjbjjaaSubMath
namespace Go.Proofs.Ytglpkfkbbjbjjaa
open Go.RowKit
set_option linter.unusedVariables false
set_option linter.unusedSimpArgs false
/-- the rows of a field, those from Y to Y + k cut to P cells from X on -/
def subV (b o W X Y P c k j : Nat) : Value := if Y ≤ j ∧ j < Y + k then .slice (some ⟨b, o + j * W + X, none⟩) P (c - j * W - X) else .slice (some ⟨b, o + j * W, none⟩) W (c - j * W)
theorem subV_step (b o W X Y P c k j : Nat) : (if j = Y + k then Value.slice (some ⟨b, o + (Y + k) * W + X, none⟩) P (c - (Y + k) * W - X) else subV b o W X Y P c k j) = subV b o W X Y P c (k + 1) j := by
  unfold subV
  by_cases e : j = Y + k
  · subst e; rw [if_pos rfl, if_pos (by omega)]
  · rw [if_neg e]
    by_cases e2 : Y ≤ j ∧ j < Y + k
    · rw [if_pos e2, if_pos (by omega)]
    · rw [if_neg e2, if_neg (by omega)]
theorem sub_ints {w : World} {B b o W H X Y P Q : Nat} {l : List Int} (h : Ints .i64 w B (some ⟨b, o, none⟩) l) (hX : X + P ≤ W) (hY : Y + Q ≤ H) (hl : l.length = W * H) (j : Nat) (hj : j < (subRows l W X Y P Q).length) : Ints .i64 w B (some ⟨b, o + (Y + j) * W + X, none⟩) (subRows l W X Y P Q)[j] := by
  rw [subRows_length] at hj
  have hf := sub_fits hX hY hj hl
  rw [subRows_get]
  rcases h with rfl | ⟨b', o', e, hb, hc⟩
  · exact .inl (by simp)
  · injection e with e
    injection e with e1 e2
    subst e1 e2
    refine .inr ⟨b, _, rfl, hb, fun i hi => ?_⟩
    rw [List.length_take, List.length_drop] at hi
    have := hc ((Y + j) * W + X + i) (by omega)
    rw [show o + (Y + j) * W + X + i = o + ((Y + j) * W + X + i) by omega, this]
    simp

set_option maxRecDepth 100000 in
set_option maxHeartbeats 4000000 in
/-- the program's SubField -/
theorem implSub_any (wd hg : Int) (a : Option Addr) (l : List Int) (c : Nat) (x : Int) (y : Int) (p : Int) (q : Int) (w : World) (hl : Ints .i64 w w.heap.size a l) (hn : l.length ≤ 1048576) (hcap : l.length ≤ c) :
    Calls Try.prog 14 #[.agg #[.int .i64 wd, .int .i64 hg, .slice a l.length c], .int .i64 x, .int .i64 y, .int .i64 p, .int .i64 q] w (FRet (subR wd hg l x y p q) w) := by
  have I0 := ints_alloc (ints_alloc hl (.cells #[.int .i64 wd, .int .i64 hg, .slice a l.length c] 26)) (.cells #[.int .i64 0, .int .i64 0, .slice none 0 0] 26)
  have X0 := (Box.new w 26 (.int .i64 wd) (.int .i64 hg) (.slice a l.length c)).alloc (.cells #[.int .i64 0, .int .i64 0, .slice none 0 0] 26)
  have R0 := Box.new (w.alloc (.cells #[.int .i64 wd, .int .i64 hg, .slice a l.length c] 26)) 26 (.int .i64 0) (.int .i64 0) (.slice none 0 0)
  rw [World.size_alloc] at R0
  have B0 := (below_all w (.cells #[.int .i64 wd, .int .i64 hg, .slice a l.length c] 26)).alloc (by simp) (.cells #[.int .i64 0, .int .i64 0, .slice none 0 0] 26)
  have hX0 := Lib.hid X0
  have hR0 := Lib.hid R0
  have hB0 := Lib.hid B0
  have hI0 := Lib.hid I0
  have HAL := Lib.hid hl
  clear hl X0 R0 B0 I0
  cases hgd : goodB wd hg l with
  | false =>
    have C1 := Lib.hid (fun W h => implGood_is wd hg a l c _ false W h (Nat.le_refl _) hn hgd)
    rw [subR_no (by unfold subOk; rw [hgd]; simp)]
    clear hgd
    go_enter Try.func14, Try.ntmps14
    go_wp2_with fail
    refine (C1.out _ hI0.out).mono ?_
    rintro e w1 ⟨rfl, b⟩
    have z1 := b.size
    simp only [World.size_alloc] at z1
    have hX1 := Lib.hid (hX0.out.below b)
    have hR1 := Lib.hid (hR0.out.below b)
    have hB1 := Lib.hid (below_then hB0.out b)
    have hI1 := Lib.hid (ints_below hI0.out b)
    clear b hX0 hR0 hB0 hI0
    obtain ⟨r0, r1, r2⟩ := hR1.out.cells
    have g0 := hR1.out.frozen 0
    have g1 := hR1.out.frozen 1
    have g2 := hR1.out.frozen 2
    go_wp2
    refine bodyPost_ret (v := .tuple #[.agg #[.int .i64 0, .int .i64 0, .slice none 0 0], .bool false]) (by simp [results, Try.results14, go_sem, r0, r1, r2]) rfl ⟨none, 0, rfl, OwnI.none_, ?_⟩
    exact ((hB1.out.setCell (by simp) _).setCell (by simp) _).setCell (by simp) _
  | true =>
    have C1 := Lib.hid (fun W h => implGood_is wd hg a l c _ true W h (Nat.le_refl _) hn hgd)
    cases hs : shapeB p q with
    | false =>
      have C2 := Lib.hid (fun W => implShape_is p q false W hs)
      rw [subR_no (by unfold subOk; rw [hs]; simp)]
      clear hgd hs
      go_enter Try.func14, Try.ntmps14
      go_wp2_with fail
      refine (C1.out _ hI0.out).mono ?_
      rintro e w1 ⟨rfl, b⟩
      have z1 := b.size
      simp only [World.size_alloc] at z1
      have hX1 := Lib.hid (hX0.out.below b)
      have hR1 := Lib.hid (hR0.out.below b)
      have hB1 := Lib.hid (below_then hB0.out b)
      have hI1 := Lib.hid (ints_below hI0.out b)
      clear b hX0 hR0 hB0 hI0
      obtain ⟨k0, k1, k2⟩ := hX1.out.cells
      go_wp2_with fail
      refine (C2.out _).mono ?_
      rintro e w2 ⟨rfl, rfl⟩
      have hX2 := Lib.hid hX1.out
      have hR2 := Lib.hid hR1.out
      have hB2 := Lib.hid hB1.out
      have hI2 := Lib.hid hI1.out
      clear hX1 hR1 hB1 hI1
      clear k0 k1 k2
      obtain ⟨r0, r1, r2⟩ := hR2.out.cells
      have g0 := hR2.out.frozen 0
      have g1 := hR2.out.frozen 1
      have g2 := hR2.out.frozen 2
      go_wp2
      refine bodyPost_ret (v := .tuple #[.agg #[.int .i64 0, .int .i64 0, .slice none 0 0], .bool false]) (by simp [results, Try.results14, go_sem, r0, r1, r2]) rfl ⟨none, 0, rfl, OwnI.none_, ?_⟩
      exact ((hB2.out.setCell (by simp) _).setCell (by simp) _).setCell (by simp) _
    | true =>
      have C2 := Lib.hid (fun W => implShape_is p q true W hs)
      cases hh : inB wd hg x y with
      | false =>
        have C3 := Lib.hid (fun W => implHas_is wd hg a l.length c x y false W hh)
        rw [subR_no (by unfold subOk; rw [hh]; simp)]
        clear hgd hs hh
        go_enter Try.func14, Try.ntmps14
        go_wp2_with fail
        refine (C1.out _ hI0.out).mono ?_
        rintro e w1 ⟨rfl, b⟩
        have z1 := b.size
        simp only [World.size_alloc] at z1
        have hX1 := Lib.hid (hX0.out.below b)
        have hR1 := Lib.hid (hR0.out.below b)
        have hB1 := Lib.hid (below_then hB0.out b)
        have hI1 := Lib.hid (ints_below hI0.out b)
        clear b hX0 hR0 hB0 hI0
        obtain ⟨k0, k1, k2⟩ := hX1.out.cells
        go_wp2_with fail
        refine (C2.out _).mono ?_
        rintro e w2 ⟨rfl, rfl⟩
        have hX2 := Lib.hid hX1.out
        have hR2 := Lib.hid hR1.out
        have hB2 := Lib.hid hB1.out
        have hI2 := Lib.hid hI1.out
        clear hX1 hR1 hB1 hI1
        clear k0 k1 k2
        obtain ⟨k0, k1, k2⟩ := hX2.out.cells
        go_wp2_with fail
        refine (C3.out _).mono ?_
        rintro e w3 ⟨rfl, b⟩
        have z3 := b.size
        have hX3 := Lib.hid (hX2.out.below b)
        have hR3 := Lib.hid (hR2.out.below b)
        have hB3 := Lib.hid (below_then hB2.out b)
        have hI3 := Lib.hid (ints_below hI2.out b)
        clear b hX2 hR2 hB2 hI2
        clear k0 k1 k2
        obtain ⟨r0, r1, r2⟩ := hR3.out.cells
        have g0 := hR3.out.frozen 0
        have g1 := hR3.out.frozen 1
        have g2 := hR3.out.frozen 2
        go_wp2
        refine bodyPost_ret (v := .tuple #[.agg #[.int .i64 0, .int .i64 0, .slice none 0 0], .bool false]) (by simp [results, Try.results14, go_sem, r0, r1, r2]) rfl ⟨none, 0, rfl, OwnI.none_, ?_⟩
        exact ((hB3.out.setCell (by simp) _).setCell (by simp) _).setCell (by simp) _
      | true =>
        have C3 := Lib.hid (fun W => implHas_is wd hg a l.length c x y true W hh)
        cases hh2 : inB wd hg (x + p - 1) (y + q - 1) with
        | false =>
          have C4 := Lib.hid (fun W => implHas_is wd hg a l.length c (x + p - 1) (y + q - 1) false W hh2)
          rw [subR_no (by unfold subOk; rw [hh2]; simp)]
          have ix := inB_iff.1 hh
          have iw := shapeB_iff.1 (good_shape hgd)
          have ip := shapeB_iff.1 hs
          have x0 : 0 ≤ x := ix.1.1
          have x8 : x ≤ 8 := by omega
          have y0 : 0 ≤ y := ix.2.1
          have y8 : y ≤ 8 := by omega
          have p0 : 1 ≤ p := ip.1.1
          have p8 : p ≤ 8 := ip.1.2
          have q0 : 1 ≤ q := ip.2.1
          have q8 : q ≤ 8 := ip.2.2
          clear ix iw ip
          clear hgd hs hh hh2
          go_enter Try.func14, Try.ntmps14
          go_wp2_with fail
          refine (C1.out _ hI0.out).mono ?_
          rintro e w1 ⟨rfl, b⟩
          have z1 := b.size
          simp only [World.size_alloc] at z1
          have hX1 := Lib.hid (hX0.out.below b)
          have hR1 := Lib.hid (hR0.out.below b)
          have hB1 := Lib.hid (below_then hB0.out b)
          have hI1 := Lib.hid (ints_below hI0.out b)
          clear b hX0 hR0 hB0 hI0
          obtain ⟨k0, k1, k2⟩ := hX1.out.cells
          go_wp2_with fail
          refine (C2.out _).mono ?_
          rintro e w2 ⟨rfl, rfl⟩
          have hX2 := Lib.hid hX1.out
          have hR2 := Lib.hid hR1.out
          have hB2 := Lib.hid hB1.out
          have hI2 := Lib.hid hI1.out
          clear hX1 hR1 hB1 hI1
          clear k0 k1 k2
          obtain ⟨k0, k1, k2⟩ := hX2.out.cells
          go_wp2_with fail
          refine (C3.out _).mono ?_
          rintro e w3 ⟨rfl, b⟩
          have z3 := b.size
          have hX3 := Lib.hid (hX2.out.below b)
          have hR3 := Lib.hid (hR2.out.below b)
          have hB3 := Lib.hid (below_then hB2.out b)
          have hI3 := Lib.hid (ints_below hI2.out b)
          clear b hX2 hR2 hB2 hI2
          clear k0 k1 k2
          obtain ⟨k0, k1, k2⟩ := hX3.out.cells
          go_wp2_with fail
          refine (C4.out _).mono ?_
          rintro e w4 ⟨rfl, b⟩
          have z4 := b.size
          have hX4 := Lib.hid (hX3.out.below b)
          have hR4 := Lib.hid (hR3.out.below b)
          have hB4 := Lib.hid (below_then hB3.out b)
          have hI4 := Lib.hid (ints_below hI3.out b)
          clear b hX3 hR3 hB3 hI3
          clear k0 k1 k2
          obtain ⟨r0, r1, r2⟩ := hR4.out.cells
          have g0 := hR4.out.frozen 0
          have g1 := hR4.out.frozen 1
          have g2 := hR4.out.frozen 2
          go_wp2
          refine bodyPost_ret (v := .tuple #[.agg #[.int .i64 0, .int .i64 0, .slice none 0 0], .bool false]) (by simp [results, Try.results14, go_sem, r0, r1, r2]) rfl ⟨none, 0, rfl, OwnI.none_, ?_⟩
          exact ((hB4.out.setCell (by simp) _).setCell (by simp) _).setCell (by simp) _
        | true =>
          have C4 := Lib.hid (fun W => implHas_is wd hg a l.length c (x + p - 1) (y + q - 1) true W hh2)
          have hok : subOk wd hg l x y p q = true := by unfold subOk; rw [hgd, hh, hs, hh2]; rfl
          rw [subR_yes hok]
          obtain ⟨W, H, X, Y, P, Q, rfl, rfl, rfl, rfl, rfl, rfl, n1, n2, n3, n4, n5, n6, n7, n8, n9, n10, hLL⟩ := sub_nat hok
          simp only [Int.toNat_natCast]
          have HLL := Lib.hid hLL
          have HRO := Lib.hid (fun b o Wd => rowsOf_any W H b o l.length c Wd n1 n2 n3 n4 hLL hcap)
          have HFR := Lib.hid (fun g cp Wd C A => fieldOfRows_any g Y Q cp P (subRows l W X Y P Q) A C Wd (subRows_length _ _ _ _ _ _) n7 n8 n5 n6 (subRows_each n9 n10 hLL))
          clear hgd hh hs hh2 hok hLL
          go_enter Try.func14, Try.ntmps14
          go_wp2_with fail
          refine (C1.out _ hI0.out).mono ?_
          rintro e w1 ⟨rfl, b⟩
          have z1 := b.size
          simp only [World.size_alloc] at z1
          have hX1 := Lib.hid (hX0.out.below b)
          have hR1 := Lib.hid (hR0.out.below b)
          have hB1 := Lib.hid (below_then hB0.out b)
          have hI1 := Lib.hid (ints_below hI0.out b)
          clear b hX0 hR0 hB0 hI0
          obtain ⟨k0, k1, k2⟩ := hX1.out.cells
          go_wp2_with fail
          refine (C2.out _).mono ?_
          rintro e w2 ⟨rfl, rfl⟩
          have hX2 := Lib.hid hX1.out
          have hR2 := Lib.hid hR1.out
          have hB2 := Lib.hid hB1.out
          have hI2 := Lib.hid hI1.out
          clear hX1 hR1 hB1 hI1
          clear k0 k1 k2
          obtain ⟨k0, k1, k2⟩ := hX2.out.cells
          go_wp2_with fail
          refine (C3.out _).mono ?_
          rintro e w3 ⟨rfl, b⟩
          have z3 := b.size
          have hX3 := Lib.hid (hX2.out.below b)
          have hR3 := Lib.hid (hR2.out.below b)
          have hB3 := Lib.hid (below_then hB2.out b)
          have hI3 := Lib.hid (ints_below hI2.out b)
          clear b hX2 hR2 hB2 hI2
          clear k0 k1 k2
          obtain ⟨k0, k1, k2⟩ := hX3.out.cells
          go_wp2_with fail
          refine (C4.out _).mono ?_
          rintro e w4 ⟨rfl, b⟩
          have z4 := b.size
          have hX4 := Lib.hid (hX3.out.below b)
          have hR4 := Lib.hid (hR3.out.below b)
          have hB4 := Lib.hid (below_then hB3.out b)
          have hI4 := Lib.hid (ints_below hI3.out b)
          clear b hX3 hR3 hB3 hI3
          clear k0 k1 k2
          obtain ⟨k0, k1, k2⟩ := hX4.out.cells
          go_wp2_with fail
          obtain ⟨b, o, rfl⟩ : ∃ b o, a = some ⟨b, o, none⟩ := by
            have h0 : 0 < l.length := by rw [HLL.out]; exact Nat.mul_pos (by omega) (by omega)
            obtain ⟨b, o, h, _⟩ := hI4.out.at_ h0
            exact ⟨b, o, h⟩
          refine (HRO.out b o _).mono ?_
          rintro e w5 ⟨g, hg5, rfl, hrow, b5⟩
          have z5 := b5.size
          have hR5 := Lib.hid (hR4.out.below b5)
          have hB5 := Lib.hid (below_then hB4.out b5)
          have hI5 := Lib.hid (ints_below hI4.out b5)
          have HROW := Lib.hid (hrow.congr (g := subV b o W X Y P c 0) (fun j hj => by unfold subV rowV; rw [if_pos hj, if_neg (by omega)]))
          have y0 : (0 : Int) ≤ (Y : Int) := by omega
          have y1 : (Y : Int) ≤ (Y : Int) + (Q : Int) := by omega
          have y2 : (Y : Int) + (Q : Int) ≤ (H : Int) := by omega
          have y3 : ((Y : Int) + (Q : Int)).toNat = Y + Q := by omega
          have y4 : ¬ H = Y := by omega
          have y5 : Y + Q - Y = Q := by omega
          clear hrow b5 hR4 hB4 hI4 hX4 k0 k1 k2 C1 C2 C3 C4 HRO
          go_wp2
          have hgw : w.heap.size + 1 < g := by omega
          go_loopw [53] (fun i wr => ∃ k : Nat, k ≤ Q ∧ i = .int .i64 k ∧ wr.rowIs g 24 H (subV b o W X Y P c k) ∧ Box wr (w.heap.size + 1) 26 (.int .i64 0) (.int .i64 0) (.slice none 0 0) ∧ Below w.heap.size w wr) (fun i _ => Q - (intOf i).toNat)
          case atStart => exact ⟨0, Nat.zero_le _, rfl, HROW.out, hR5.out, hB5.out⟩
          case round =>
            obtain ⟨k, hk, rfl, hrow, hR, hB⟩ := hrel
            clear HROW hR5 hB5 hI5
            by_cases hlt : k < Q
            · have hi : (k : Int) < (Q : Int) := by omega
              have hi0 : (0 : Int) ≤ (k : Int) := by omega
              have hcell := hrow.cell (i := Y + k) (by omega)
              have hfz := hrow.frozen (Y + k)
              have hfit := sub_fits n9 n10 hlt HLL.out
              have hsub : subV b o W X Y P c k (Y + k) = .slice (some ⟨b, o + (Y + k) * W, none⟩) W (c - (Y + k) * W) := if_neg (by omega)
              rw [hsub] at hcell
              have hcc : X + P ≤ c - (Y + k) * W := by omega
              have HST := Lib.hid (fun j => subV_step b o W X Y P c k j)
              generalize (Y + k) * W = p at *
              generalize c - p = cc at *
              have x0 : (0 : Int) ≤ (X : Int) := by omega
              have x1 : (X : Int) ≤ (X : Int) + (P : Int) := by omega
              have x2 : (X : Int) + (P : Int) ≤ (cc : Int) := by omega
              have x3 : ((X : Int) + (P : Int)).toNat = X + P := by omega
              have x4 : ¬ cc = X := by omega
              have x5 : X + P - X = P := by omega
              have HR := Lib.hid hrow
              have HRB := Lib.hid hR
              have HB := Lib.hid hB
              clear hrow hR hB hsub hfit
              go_wp2
              go_roundw
              case rel => exact ⟨k + 1, by omega, by go_num, (HR.out.set (Y + k) _).congr (fun j _ => HST.out j), HRB.out.other (by simp <;> omega) _, HB.out.setCell (by simp <;> omega) _⟩
              case measure => simp [intOf]; omega
            · obtain rfl : k = Q := by omega
              have HIw := (HAL.out.below hB (Nat.le_refl _)).more hB.size
              have HF := Lib.hid (HFR.out g (H - Y) wr (fun j => c - (Y + j) * W - X) (fun j => some ⟨b, o + (Y + j) * W + X, none⟩) hrow.lt (fun j hj => by rw [hrow.cell (by omega)]; unfold subV; rw [if_pos (by omega)]) (fun j hj => sub_ints HIw n9 n10 HLL.out j hj))
              have HRB := Lib.hid hR
              have HB := Lib.hid hB
              generalize (subRows l W X Y P k).flatten = rl at *
              clear hrow hR hB HIw HFR
              go_wp2_with fail
              refine HF.out.mono ?_
              rintro e w6 ⟨a6, c6, rfl, o6, b6⟩
              have z6 := b6.size
              have R6 := HRB.out.below b6
              obtain ⟨r0, r1, r2⟩ := R6.cells
              have g0 := R6.frozen 0
              have g1 := R6.frozen 1
              have g2 := R6.frozen 2
              have zr := HRB.out.lt
              have HO := Lib.hid o6
              have HB6 := Lib.hid (below_then HB.out b6)
              clear o6 b6 R6
              go_wp2
              refine bodyPost_ret (v := .tuple #[.agg #[.int .i64 P, .int .i64 k, .slice a6 rl.length c6], .bool true]) (by simp [results, Try.results14, go_sem, r0, r1, r2]) rfl ⟨a6, c6, rfl, ?_, ?_⟩
              · exact (ownI_set (ownI_set (ownI_set HO.out (by omega) _) (by omega) _) (by omega) _).more (by have := HB.out.size; omega)
              · exact ((HB6.out.setCell (by simp) _).setCell (by simp) _).setCell (by simp) _
end Go.Proofs.Ytglpkfkbbjbjjaa
