/- RepeatMaximum, the program's and the model's. -/
import Derived.Test.YtecjkammoakakaaNbFill
import Derived.Test.YtecjkammoakakaaSet
namespace Go.Proofs.Ytecjkammoakakaa
open Go.RowKit
set_option linter.unusedVariables false
set_option linter.unusedSimpArgs false
/-- the greatest values, taken k times -/
def repL (W H r : Nat) (l : List Int) : Nat → List Int
  | 0 => l
  | k + 1 => filtL (gapC hiV) W H r (repL W H r l k)
theorem repL_len (W H r : Nat) (l : List Int) : ∀ k, (repL W H r l k).length = l.length
  | 0 => rfl
  | k + 1 => by rw [repL, filtL_len]; exact repL_len W H r l k
theorem repL_good {wd hg : Int} {l : List Int} (h : goodB wd hg l = true) (r : Nat) : ∀ k, goodB wd hg (repL wd.toNat hg.toNat r l k) = true
  | 0 => h
  | k + 1 => filt_good fit_hi (repL_good h r k) r
def repB (wd hg : Int) (l : List Int) (r n : Int) : Bool := nbB wd hg l r && (decide (0 ≤ n) && decide (n ≤ 5))
theorem repB_iff {wd hg : Int} {l : List Int} {r n : Int} : repB wd hg l r n = true ↔ nbB wd hg l r = true ∧ 0 ≤ n ∧ n ≤ 5 := by unfold repB; simp
/-- what RepeatMaximum answers -/
def repR (wd hg : Int) (l : List Int) (r n : Int) : Option (Int × Int × List Int) := if repB wd hg l r n = true then some (wd, hg, repL wd.toNat hg.toNat r.toNat l n.toNat) else none
theorem repR_yes {wd hg : Int} {l : List Int} {r n : Int} (h : repB wd hg l r n = true) : repR wd hg l r n = some (wd, hg, repL wd.toNat hg.toNat r.toNat l n.toNat) := if_pos h
theorem repR_no {wd hg : Int} {l : List Int} {r n : Int} (h : ¬ (nbB wd hg l r = true ∧ 0 ≤ n ∧ n ≤ 5)) : repR wd hg l r n = none := if_neg (fun e => h (repB_iff.1 e))
theorem repR_len (wd hg : Int) (l : List Int) (r n : Int) : (rL (repR wd hg l r n)).length ≤ 64 := by
  cases h : repB wd hg l r n with
  | false => rw [show repR wd hg l r n = none from if_neg (by rw [h]; simp)]; simp [rL]
  | true => rw [repR_yes h]; have := good_le (nbB_iff.1 (repB_iff.1 h).1).1; simp only [rL, repL_len]; omega
theorem rep_step {wd hg : Int} {l : List Int} {r : Int} (h : nbB wd hg l r = true) (k : Nat) :
    filtR hiV wd hg (repL wd.toNat hg.toNat r.toNat l k) r = some (wd, hg, repL wd.toNat hg.toNat r.toNat l (k + 1)) :=
  filtR_yes (nbB_iff.2 ⟨repL_good (nbB_iff.1 h).1 _ k, (nbB_iff.1 h).2⟩)
theorem Box.put3 {w : World} {b : Nat} {t : TypeId} {v0 v1 v2 : Value} (h : Box w b t v0 v1 v2) (u0 u1 u2 : Value) : Box (((w.setCell ⟨b, 0, none⟩ u0).setCell ⟨b, 1, none⟩ u1).setCell ⟨b, 2, none⟩ u2) b t u0 u1 u2 := by
  unfold Box at *
  simp [World.setCell, Array.getElem?_modify, h]
theorem turn_put3 (w : World) (g : Nat) (u v x : Value) : w.grownBy (((w.setCell ⟨g, 0, none⟩ u).setCell ⟨g, 1, none⟩ v).setCell ⟨g, 2, none⟩ x) (some g) := turn_trans (turn_trans (turn_set _ _ _ _) (turn_set _ _ _ _)) (turn_set _ _ _ _)
/-- a loop that puts a new field into a box of the call's own -/
structure RpAt (w : World) (q : Nat) (wd hg : Int) (a : Option Addr) (l : List Int) (c : Nat) (L : List Int) (wr : World) : Prop where
  f : Fr1 w wd hg a l c wr
  n : w.heap.size + 2 ≤ q
  x : ∃ a' c', L.length ≤ c' ∧ Box wr q 26 (.int .i64 wd) (.int .i64 hg) (.slice a' L.length c') ∧ OwnI wr (w.heap.size + 2) a' L
section
variable {w wr w1 : World} {q c : Nat} {wd hg : Int} {a : Option Addr} {l L L' : List Int}
theorem RpAt.put {v0 v1 v2 : Value} {a1 : Option Addr} {c1 : Nat} (hf : Fr1 w wd hg a l c w1) (hn : w.heap.size + 2 ≤ q) (hx : Box w1 q 26 v0 v1 v2) (o : OwnI w1 (q + 1) a1 L') (hc : L'.length ≤ c1) :
    RpAt w q wd hg a l c L' (((w1.setCell ⟨q, 0, none⟩ (.int .i64 wd)).setCell ⟨q, 1, none⟩ (.int .i64 hg)).setCell ⟨q, 2, none⟩ (.slice a1 L'.length c1)) :=
  ⟨hf.turn (turn_put3 w1 q _ _ _) hn, hn, a1, c1, hc, hx.put3 _ _ _, (ownI_set (ownI_set (ownI_set o (Nat.lt_succ_self _) _) (Nat.lt_succ_self _) _) (Nat.lt_succ_self _) _).more (by omega)⟩
end
/-- .. of the model: nothing is known of the room behind the cells -/
structure SpRep (w : World) (q : Nat) (wd hg : Int) (a : Option Addr) (l : List Int) (c : Nat) (L : List Int) (wr : World) : Prop where
  f : Fr1 w wd hg a l c wr
  n : w.heap.size + 2 ≤ q
  x : ∃ a' c', Box wr q 26 (.int .i64 wd) (.int .i64 hg) (.slice a' L.length c') ∧ OwnI wr (w.heap.size + 2) a' L
theorem SpRep.put {w w1 : World} {q c : Nat} {wd hg : Int} {a : Option Addr} {l L' : List Int} {v0 v1 v2 : Value} {a1 : Option Addr} {c1 : Nat} (hf : Fr1 w wd hg a l c w1) (hn : w.heap.size + 2 ≤ q) (hx : Box w1 q 26 v0 v1 v2) (o : OwnI w1 (q + 1) a1 L') :
    SpRep w q wd hg a l c L' (((w1.setCell ⟨q, 0, none⟩ (.int .i64 wd)).setCell ⟨q, 1, none⟩ (.int .i64 hg)).setCell ⟨q, 2, none⟩ (.slice a1 L'.length c1)) :=
  ⟨hf.turn (turn_put3 w1 q _ _ _) hn, hn, a1, c1, hx.put3 _ _ _, (ownI_set (ownI_set (ownI_set o (Nat.lt_succ_self _) _) (Nat.lt_succ_self _) _) (Nat.lt_succ_self _) _).more (by omega)⟩
set_option maxRecDepth 100000 in
set_option maxHeartbeats 4000000 in
theorem implRep_any (wd hg : Int) (a : Option Addr) (l : List Int) (c : Nat) (r n : Int) (w : World) (hl : Ints .i64 w w.heap.size a l) (hn : l.length ≤ 1048576) (hcap : l.length ≤ c) :
    Calls Try.prog 36 #[.agg #[.int .i64 wd, .int .i64 hg, .slice a l.length c], .int .i64 r, .int .i64 n] w (FRet (repR wd hg l r n) w) := by
  have F0 := Lib.hid (Fr1.new (wd0 := wd) (hg0 := hg) (c0 := c) hl)
  by_cases hall : nbB wd hg l r = true ∧ 0 ≤ n ∧ n ≤ 5
  · obtain ⟨hb, hn0, hn5⟩ := hall
    rw [repR_yes (repB_iff.2 ⟨hb, hn0, hn5⟩)]
    have HC := Lib.hid (hasNb_is wd hg a l c r true _ F0.out.i0 hn hb)
    have HSTEP := Lib.hid (fun k => rep_step hb k)
    obtain ⟨m, rfl⟩ : ∃ m : Nat, n = (m : Int) := ⟨n.toNat, by omega⟩
    obtain ⟨hgd, hrd⟩ := nbB_iff.1 hb
    have HLEN := Lib.hid (repL_len wd.toNat hg.toNat r.toNat l)
    obtain ⟨RL, hRL⟩ : ∃ f, repL wd.toNat hg.toNat r.toNat l = f := ⟨_, rfl⟩
    have hz : RL 0 = l := by rw [← hRL]; rfl
    have HZ := Lib.hid hz
    rw [hRL] at HSTEP HLEN ⊢
    obtain ⟨W, H, rfl, rfl, n1, n2, n3, n4, hLL⟩ := good_nat hgd
    have hle := good_le hgd
    obtain ⟨b, o, rfl⟩ : ∃ b o, a = some ⟨b, o, none⟩ := by
      obtain ⟨b, o, h, _⟩ := hl.at_ hle.1
      exact ⟨b, o, h⟩
    have HMAX := Lib.hid (fun k a' c' Wd hi hc => by have := implMax_c (W : Int) (H : Int) a' (RL k) c' r Wd hi (by rw [HLEN.out]; omega) hc; rw [HSTEP.out] at this; exact this.mono fun _ _ h => h.yes)
    have HRO := Lib.hid (fun Wd => rowsOf_any W H b o l.length c Wd n1 n2 n3 n4 hLL hcap)
    have HFR := Lib.hid (fun g W' C A => fieldOfRows_c g 0 H H W (chunks l W H) A C W' (chunks_length _ _ _) n3 n4 n1 n2 (chunks_each hLL))
    have HLL := Lib.hid hLL
    rw [show ((m : Int)).toNat = m by omega]
    clear hl hb hgd hrd hRL hz hLL
    go_enter Try.func36, Try.ntmps36
    go_wp2_with fail
    refine HC.out.mono ?_
    rintro e w1 ⟨rfl, b1⟩
    have F1 := Lib.hid (F0.out.step b1)
    obtain ⟨k0, k1, k2⟩ := F1.out.k0.cells
    clear b1 F0 HC
    have e5 : ¬ (5 : Int) < (m : Int) := by omega
    have e0 : ¬ (m : Int) < 0 := by omega
    go_wp2_with fail
    refine (HRO.out _).mono ?_
    rintro e w2 ⟨gm, hgm, rfl, rowm, bm⟩
    have hglm := rowm.lt
    have F2 := Lib.hid (F1.out.step bm)
    have HF := Lib.hid (HFR.out gm w2 (fun j => c - j * W) (fun j => some ⟨b, o + j * W, none⟩) hglm (fun j hj => by rw [Nat.zero_add, rowm.cell hj]; unfold rowV; rw [if_pos hj]) (fun j hj => chunk_ints (c := c) F2.out.i0 HLL.out j hj))
    rw [chunks_all HLL.out] at HF
    clear rowm bm F1 HRO HFR k0 k1 k2
    go_wp2_with fail
    refine HF.out.mono ?_
    rintro e w3 ⟨a3, c3, hc3, rfl, o3, b3⟩
    have F3 := Lib.hid (F2.out.step b3)
    have zz := F3.out.r.lt
    have S3 : RpAt w w3.heap.size W H (some ⟨b, o, none⟩) l c (RL 0) (w3.alloc (.cells #[.int .i64 W, .int .i64 H, .slice a3 l.length c3] 26)) := by
      rw [HZ.out]
      exact ⟨F3.out.step (below_all _ _), by omega, a3, c3, hc3, Box.new _ _ _ _ _, (o3.below (below_all _ _)).more (by have := F2.out.r.lt; omega)⟩
    have HS3 := Lib.hid S3
    clear S3 o3 b3 F3 F2 HF
    go_wp2
    obtain ⟨W3, hW3⟩ : ∃ x, w3.alloc (.cells #[.int .i64 W, .int .i64 H, .slice a3 l.length c3] 26) = x := ⟨_, rfl⟩
    obtain ⟨q, hq⟩ : ∃ x, w3.heap.size = x := ⟨_, rfl⟩
    rw [hW3, hq] at HS3
    rw [hW3]
    rw [hq]
    clear hW3 hq zz
    go_loopw [26] (fun i wr => ∃ k : Nat, k ≤ m ∧ i = .int .i64 k ∧ RpAt w q W H (some ⟨b, o, none⟩) l c (RL k) wr) (fun i _ => m - (intOf i).toNat)
    case atStart => exact ⟨0, Nat.zero_le _, rfl, HS3.out⟩
    case round =>
      obtain ⟨k, hk, rfl, hS⟩ := hrel
      clear HS3
      obtain ⟨a4, c4, hc4, hx, ho⟩ := hS.x
      have hqn := hS.n
      have HF4 := Lib.hid hS.f
      have HX4 := Lib.hid hx
      have HO4 := Lib.hid ho
      obtain ⟨x0, x1, x2⟩ := hx.cells
      clear hS hx
      by_cases hlt : k < m
      · have hi : (k : Int) < (m : Int) := by omega
        have HCALL := Lib.hid (HMAX.out k a4 c4 wr ho.ints hc4)
        clear ho
        go_wp2_with fail
        refine HCALL.out.mono ?_
        rintro e w5 ⟨a5, c5, hc5, rfl, o5, b5⟩
        have X5 := Lib.hid (HX4.out.below b5)
        have F5 := Lib.hid (HF4.out.step b5)
        have S5 := Lib.hid (RpAt.put F5.out hqn X5.out (o5.more (by have := HX4.out.lt; omega)) hc5)
        have f0 := X5.out.frozen 0
        have f1 := X5.out.frozen 1
        have f2 := X5.out.frozen 2
        obtain ⟨y0, y1, y2⟩ := X5.out.cells
        clear b5 o5 x0 x1 x2 HX4 HF4 HO4 HCALL
        go_wp2
        go_roundw
        case rel => exact ⟨k + 1, by omega, by go_num, S5.out⟩
        case measure => simp [intOf]; omega
      · obtain rfl : k = m := by omega
        have hi : ¬ (k : Int) < (k : Int) := by omega
        obtain ⟨r0, r1, r2⟩ := HF4.out.r.cells
        have g0 := HF4.out.r.frozen 0
        have g1 := HF4.out.r.frozen 1
        have g2 := HF4.out.r.frozen 2
        have q7 : ¬ w.heap.size + 1 = q := by omega
        have q8 : ¬ q = w.heap.size + 1 := by omega
        clear ho HMAX HSTEP
        generalize RL k = L at *
        go_wp2
        refine bodyPost_ret (v := .tuple #[.agg #[.int .i64 W, .int .i64 H, .slice a4 L.length c4], .bool true]) (by simp [results, Try.results36, go_sem, r0, r1, r2, q7, q8]) rfl ⟨a4, c4, rfl, ?_, ?_⟩
        · exact (ownI_set (ownI_set (ownI_set HO4.out (by show w.heap.size + 1 < _; omega) _) (by show w.heap.size + 1 < _; omega) _) (by show w.heap.size + 1 < _; omega) _).more (by omega)
        · exact ((HF4.out.b.setCell (by show w.heap.size ≤ w.heap.size + 1; omega) _).setCell (by show w.heap.size ≤ w.heap.size + 1; omega) _).setCell (by show w.heap.size ≤ w.heap.size + 1; omega) _
  · rw [repR_no hall]
    have HC := Lib.hid (fun v h => hasNb_is wd hg a l c r v _ F0.out.i0 hn h)
    cases hb : nbB wd hg l r with
    | false =>
      have HC1 := Lib.hid (HC.out false hb)
      clear hl hb hall HC
      go_enter Try.func36, Try.ntmps36
      go_wp2_with fail
      refine HC1.out.mono ?_
      rintro e w1 ⟨rfl, b1⟩
      have F1 := Lib.hid (F0.out.step b1)
      have B1 := Lib.hid F1.out.b
      obtain ⟨r0, r1, r2⟩ := F1.out.r.cells
      have g0 := F1.out.r.frozen 0
      have g1 := F1.out.r.frozen 1
      have g2 := F1.out.r.frozen 2
      clear b1 F0 F1
      go_wp2
      refine bodyPost_ret (v := .tuple #[.agg #[.int .i64 0, .int .i64 0, .slice none 0 0], .bool false]) (by simp [results, Try.results36, go_sem, r0, r1, r2]) rfl ⟨none, 0, rfl, OwnI.none_, ?_⟩
      first | exact B1.out | exact ((B1.out.setCell (p := ⟨w.heap.size + 1, 0, none⟩) (by show w.heap.size ≤ w.heap.size + 1; omega) _).setCell (p := ⟨w.heap.size + 1, 1, none⟩) (by show w.heap.size ≤ w.heap.size + 1; omega) _).setCell (p := ⟨w.heap.size + 1, 2, none⟩) (by show w.heap.size ≤ w.heap.size + 1; omega) _
    | true =>
      have HC1 := Lib.hid (HC.out true hb)
      rcases (show n < 0 ∨ 0 ≤ n by omega) with e0 | e0
      · clear hl hb hall HC
        go_enter Try.func36, Try.ntmps36
        go_wp2_with fail
        refine HC1.out.mono ?_
        rintro e w1 ⟨rfl, b1⟩
        have F1 := Lib.hid (F0.out.step b1)
        have B1 := Lib.hid F1.out.b
        obtain ⟨r0, r1, r2⟩ := F1.out.r.cells
        have g0 := F1.out.r.frozen 0
        have g1 := F1.out.r.frozen 1
        have g2 := F1.out.r.frozen 2
        clear b1 F0 F1
        go_wp2
        refine bodyPost_ret (v := .tuple #[.agg #[.int .i64 0, .int .i64 0, .slice none 0 0], .bool false]) (by simp [results, Try.results36, go_sem, r0, r1, r2]) rfl ⟨none, 0, rfl, OwnI.none_, ?_⟩
        first | exact B1.out | exact ((B1.out.setCell (p := ⟨w.heap.size + 1, 0, none⟩) (by show w.heap.size ≤ w.heap.size + 1; omega) _).setCell (p := ⟨w.heap.size + 1, 1, none⟩) (by show w.heap.size ≤ w.heap.size + 1; omega) _).setCell (p := ⟨w.heap.size + 1, 2, none⟩) (by show w.heap.size ≤ w.heap.size + 1; omega) _
      · have e5 : 5 < n := by rcases (show 5 < n ∨ n ≤ 5 by omega) with h | h; exact h; exact absurd ⟨hb, e0, h⟩ hall
        have e1 : ¬ n < 0 := by omega
        clear hl hb hall HC e0
        go_enter Try.func36, Try.ntmps36
        go_wp2_with fail
        refine HC1.out.mono ?_
        rintro e w1 ⟨rfl, b1⟩
        have F1 := Lib.hid (F0.out.step b1)
        have B1 := Lib.hid F1.out.b
        obtain ⟨r0, r1, r2⟩ := F1.out.r.cells
        have g0 := F1.out.r.frozen 0
        have g1 := F1.out.r.frozen 1
        have g2 := F1.out.r.frozen 2
        clear b1 F0 F1
        go_wp2
        refine bodyPost_ret (v := .tuple #[.agg #[.int .i64 0, .int .i64 0, .slice none 0 0], .bool false]) (by simp [results, Try.results36, go_sem, r0, r1, r2]) rfl ⟨none, 0, rfl, OwnI.none_, ?_⟩
        first | exact B1.out | exact ((B1.out.setCell (p := ⟨w.heap.size + 1, 0, none⟩) (by show w.heap.size ≤ w.heap.size + 1; omega) _).setCell (p := ⟨w.heap.size + 1, 1, none⟩) (by show w.heap.size ≤ w.heap.size + 1; omega) _).setCell (p := ⟨w.heap.size + 1, 2, none⟩) (by show w.heap.size ≤ w.heap.size + 1; omega) _
set_option maxRecDepth 100000 in
set_option maxHeartbeats 4000000 in
theorem specRep_any (wd hg : Int) (a : Option Addr) (l : List Int) (c : Nat) (r n : Int) (w : World) (hl : Ints .i64 w w.heap.size a l) (hn : l.length ≤ 1048576) :
    Calls Try.prog 37 #[.agg #[.int .i64 wd, .int .i64 hg, .slice a l.length c], .int .i64 r, .int .i64 n] w (FRet (repR wd hg l r n) w) := by
  have F0 := Lib.hid (Fr1.new (wd0 := wd) (hg0 := hg) (c0 := c) hl)
  by_cases hall : nbB wd hg l r = true ∧ 0 ≤ n ∧ n ≤ 5
  · obtain ⟨hb, hn0, hn5⟩ := hall
    rw [repR_yes (repB_iff.2 ⟨hb, hn0, hn5⟩)]
    obtain ⟨hgd, hrd⟩ := nbB_iff.1 hb
    have HC := Lib.hid (specGood_is wd hg a l c _ true _ F0.out.i0 (Nat.le_refl _) hn hgd)
    have HI1 := Lib.hid (fun W => l1In_is r 0 3 true W (by unfold radB at hrd; exact hrd))
    have HI2 := Lib.hid (fun W => l1In_is n 0 5 true W (by simp [hn0, hn5]))
    have HSTEP := Lib.hid (fun k => rep_step hb k)
    obtain ⟨m, rfl⟩ : ∃ m : Nat, n = (m : Int) := ⟨n.toNat, by omega⟩
    have HLEN := Lib.hid (repL_len wd.toNat hg.toNat r.toNat l)
    obtain ⟨RL, hRL⟩ : ∃ f, repL wd.toNat hg.toNat r.toNat l = f := ⟨_, rfl⟩
    have hz : RL 0 = l := by rw [← hRL]; rfl
    have HZ := Lib.hid hz
    rw [hRL] at HSTEP HLEN ⊢
    have hle := good_le hgd
    have HMAX := Lib.hid (fun k a' c' Wd hi => by have := specMax_any wd hg a' (RL k) c' r Wd hi (by rw [HLEN.out]; omega); rw [HSTEP.out] at this; exact this.mono fun _ _ h => h.yes)
    have HOW := Lib.hid (fun Wd h => l2Own_any wd hg a l c Wd h hn (by omega))
    rw [show ((m : Int)).toNat = m by omega]
    clear hl hb hgd hrd hRL hz
    go_enter Try.func37, Try.ntmps37
    go_wp2_with fail
    refine HC.out.mono ?_
    rintro e w1 ⟨rfl, b1⟩
    have F1 := Lib.hid (F0.out.step b1)
    obtain ⟨k0, k1, k2⟩ := F1.out.k0.cells
    clear b1 F0 HC
    go_wp2_with (first | (go_at_call 67; first | ((with_reducible refine (HI1.out _).mono ?_); rintro e w8 ⟨rfl, rfl⟩) | ((with_reducible refine (HI2.out _).mono ?_); rintro e w8 ⟨rfl, rfl⟩)) | fail)
    refine (HOW.out _ F1.out.i0).mono ?_
    rintro e w3 ⟨a3, c3, rfl, o3, b3⟩
    have F3 := Lib.hid (F1.out.step b3)
    have zz := F3.out.r.lt
    have S3 : SpRep w w3.heap.size wd hg a l c (RL 0) (w3.alloc (.cells #[.int .i64 wd, .int .i64 hg, .slice a3 l.length c3] 26)) := by
      rw [HZ.out]
      exact ⟨F3.out.step (below_all _ _), by omega, a3, c3, Box.new _ _ _ _ _, (o3.below (below_all _ _)).more (by have := F1.out.r.lt; omega)⟩
    have HS3 := Lib.hid S3
    clear S3 o3 b3 F3 F1 HI1 HI2 HOW k0 k1 k2
    go_wp2
    obtain ⟨W3, hW3⟩ : ∃ x, w3.alloc (.cells #[.int .i64 wd, .int .i64 hg, .slice a3 l.length c3] 26) = x := ⟨_, rfl⟩
    obtain ⟨q, hq⟩ : ∃ x, w3.heap.size = x := ⟨_, rfl⟩
    rw [hW3, hq] at HS3
    rw [hW3]
    rw [hq]
    clear hW3 hq zz
    go_loopw [2] (fun i wr => ∃ k j : Nat, k + j = m ∧ i = .int .i64 j ∧ SpRep w q wd hg a l c (RL k) wr) (fun i _ => (intOf i).toNat)
    case atStart => exact ⟨0, m, by omega, rfl, HS3.out⟩
    case round =>
      obtain ⟨k, j, hkj, rfl, hS⟩ := hrel
      clear HS3
      obtain ⟨a4, c4, hx, ho⟩ := hS.x
      have hqn := hS.n
      have HF4 := Lib.hid hS.f
      have HX4 := Lib.hid hx
      have HO4 := Lib.hid ho
      obtain ⟨x0, x1, x2⟩ := hx.cells
      clear hS hx
      rcases Nat.eq_zero_or_pos j with hj0 | hj0
      · subst hj0
        obtain rfl : k = m := by omega
        obtain ⟨r0, r1, r2⟩ := HF4.out.r.cells
        have g0 := HF4.out.r.frozen 0
        have g1 := HF4.out.r.frozen 1
        have g2 := HF4.out.r.frozen 2
        have q7 : ¬ w.heap.size + 1 = q := by omega
        have q8 : ¬ q = w.heap.size + 1 := by omega
        clear ho HMAX HSTEP
        generalize RL k = L at *
        go_wp2
        refine bodyPost_ret (v := .tuple #[.agg #[.int .i64 wd, .int .i64 hg, .slice a4 L.length c4], .bool true]) (by simp [results, Try.results37, go_sem, r0, r1, r2, q7, q8]) rfl ⟨a4, c4, rfl, ?_, ?_⟩
        · exact (ownI_set (ownI_set (ownI_set HO4.out (by show w.heap.size + 1 < _; omega) _) (by show w.heap.size + 1 < _; omega) _) (by show w.heap.size + 1 < _; omega) _).more (by omega)
        · exact ((HF4.out.b.setCell (by show w.heap.size ≤ w.heap.size + 1; omega) _).setCell (by show w.heap.size ≤ w.heap.size + 1; omega) _).setCell (by show w.heap.size ≤ w.heap.size + 1; omega) _
      · obtain ⟨i, rfl⟩ : ∃ i, j = i + 1 := ⟨j - 1, by omega⟩
        have p1 : ((i + 1 : Nat) : Int) - 1 = (i : Int) := by omega
        have p2 : (0 : Int) < ((i + 1 : Nat) : Int) := by omega
        have hm5 : (i : Int) ≤ 5 := by omega
        have HCALL := Lib.hid (HMAX.out k a4 c4 wr ho.ints)
        clear ho
        go_wp2_with fail
        refine HCALL.out.mono ?_
        rintro e w5 ⟨a5, c5, rfl, o5, b5⟩
        have X5 := Lib.hid (HX4.out.below b5)
        have F5 := Lib.hid (HF4.out.step b5)
        have S5 := Lib.hid (SpRep.put (c1 := c5) F5.out hqn X5.out (o5.more (by have := HX4.out.lt; omega)))
        have f0 := X5.out.frozen 0
        have f1 := X5.out.frozen 1
        have f2 := X5.out.frozen 2
        obtain ⟨y0, y1, y2⟩ := X5.out.cells
        clear b5 o5 x0 x1 x2 HX4 HF4 HO4 HCALL
        go_wp2
        go_roundw
        case rel => exact ⟨k + 1, i, by omega, by go_num, S5.out⟩
        case measure => simp [intOf] <;> omega
  · rw [repR_no hall]
    cases hgd : goodB wd hg l with
    | false =>
      have HC := Lib.hid (specGood_is wd hg a l c _ false _ F0.out.i0 (Nat.le_refl _) hn hgd)
      clear hl hgd hall
      go_enter Try.func37, Try.ntmps37
      go_wp2_with fail
      refine HC.out.mono ?_
      rintro e w1 ⟨rfl, b1⟩
      have F1 := Lib.hid (F0.out.step b1)
      have B1 := Lib.hid F1.out.b
      obtain ⟨r0, r1, r2⟩ := F1.out.r.cells
      have g0 := F1.out.r.frozen 0
      have g1 := F1.out.r.frozen 1
      have g2 := F1.out.r.frozen 2
      clear b1 F0 F1
      go_wp2
      refine bodyPost_ret (v := .tuple #[.agg #[.int .i64 0, .int .i64 0, .slice none 0 0], .bool false]) (by simp [results, Try.results37, go_sem, r0, r1, r2]) rfl ⟨none, 0, rfl, OwnI.none_, ?_⟩
      first | exact B1.out | exact ((B1.out.setCell (p := ⟨w.heap.size + 1, 0, none⟩) (by show w.heap.size ≤ w.heap.size + 1; omega) _).setCell (p := ⟨w.heap.size + 1, 1, none⟩) (by show w.heap.size ≤ w.heap.size + 1; omega) _).setCell (p := ⟨w.heap.size + 1, 2, none⟩) (by show w.heap.size ≤ w.heap.size + 1; omega) _
    | true =>
      have HC := Lib.hid (specGood_is wd hg a l c _ true _ F0.out.i0 (Nat.le_refl _) hn hgd)
      cases hrd : radB r with
      | false =>
        have HI1 := Lib.hid (fun W => l1In_is r 0 3 false W (by unfold radB at hrd; exact hrd))
        clear hl hgd hall hrd
        go_enter Try.func37, Try.ntmps37
        go_wp2_with fail
        refine HC.out.mono ?_
        rintro e w1 ⟨rfl, b1⟩
        have F1 := Lib.hid (F0.out.step b1)
        have B1 := Lib.hid F1.out.b
        obtain ⟨r0, r1, r2⟩ := F1.out.r.cells
        have g0 := F1.out.r.frozen 0
        have g1 := F1.out.r.frozen 1
        have g2 := F1.out.r.frozen 2
        clear b1 F0 F1
        go_wp2_with (go_at_call 67; refine (HI1.out _).mono ?_; rintro e w8 ⟨rfl, rfl⟩)
        refine bodyPost_ret (v := .tuple #[.agg #[.int .i64 0, .int .i64 0, .slice none 0 0], .bool false]) (by simp [results, Try.results37, go_sem, r0, r1, r2]) rfl ⟨none, 0, rfl, OwnI.none_, ?_⟩
        first | exact B1.out | exact ((B1.out.setCell (p := ⟨w.heap.size + 1, 0, none⟩) (by show w.heap.size ≤ w.heap.size + 1; omega) _).setCell (p := ⟨w.heap.size + 1, 1, none⟩) (by show w.heap.size ≤ w.heap.size + 1; omega) _).setCell (p := ⟨w.heap.size + 1, 2, none⟩) (by show w.heap.size ≤ w.heap.size + 1; omega) _
      | true =>
        have HI1 := Lib.hid (fun W => l1In_is r 0 3 true W (by unfold radB at hrd; exact hrd))
        have hnn : (decide (0 ≤ n) && decide (n ≤ 5)) = false := by
          cases h : (decide (0 ≤ n) && decide (n ≤ 5)) with
          | false => rfl
          | true => simp at h; exact absurd ⟨nbB_iff.2 ⟨hgd, hrd⟩, h.1, h.2⟩ hall
        have HI2 := Lib.hid (fun W => l1In_is n 0 5 false W hnn)
        clear hl hgd hall hrd hnn
        go_enter Try.func37, Try.ntmps37
        go_wp2_with fail
        refine HC.out.mono ?_
        rintro e w1 ⟨rfl, b1⟩
        have F1 := Lib.hid (F0.out.step b1)
        have B1 := Lib.hid F1.out.b
        obtain ⟨r0, r1, r2⟩ := F1.out.r.cells
        have g0 := F1.out.r.frozen 0
        have g1 := F1.out.r.frozen 1
        have g2 := F1.out.r.frozen 2
        clear b1 F0 F1
        go_wp2_with (first | (go_at_call 67; first | ((with_reducible refine (HI1.out _).mono ?_); rintro e w8 ⟨rfl, rfl⟩) | ((with_reducible refine (HI2.out _).mono ?_); rintro e w8 ⟨rfl, rfl⟩)))
        refine bodyPost_ret (v := .tuple #[.agg #[.int .i64 0, .int .i64 0, .slice none 0 0], .bool false]) (by simp [results, Try.results37, go_sem, r0, r1, r2]) rfl ⟨none, 0, rfl, OwnI.none_, ?_⟩
        first | exact B1.out | exact ((B1.out.setCell (p := ⟨w.heap.size + 1, 0, none⟩) (by show w.heap.size ≤ w.heap.size + 1; omega) _).setCell (p := ⟨w.heap.size + 1, 1, none⟩) (by show w.heap.size ≤ w.heap.size + 1; omega) _).setCell (p := ⟨w.heap.size + 1, 2, none⟩) (by show w.heap.size ≤ w.heap.size + 1; omega) _
end Go.Proofs.Ytecjkammoakakaa
