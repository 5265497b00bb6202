/- Points of cells: pointAt, neighborsOf, cornersOf. -/
import Derived.Test.YthceffkkokgpnaaRgnVal
import Derived.Test.YthceffkkokgpnaaPSet
import Derived.Test.YthceffkkokgpnaaMake
import Derived.RegionTactic
namespace Go.Proofs.Ythceffkkokgpnaa
open Go.RowKit
set_option linter.unusedVariables false
set_option linter.unusedSimpArgs false
set_option maxHeartbeats 1000000 in
theorem pointAt_any (wd i : Int) (w : World) (h1 : 1 ≤ wd) (h2 : wd ≤ 8) (h3 : 0 ≤ i) (h4 : i ≤ 64) :
    Calls Try.prog 120 #[.int .i64 wd, .int .i64 i] w fun e w' => e = .returned (.agg #[.int .i64 (i % wd), .int .i64 (i / wd)]) ∧ Below w.heap.size w w' := by
  have hne : ¬ wd = 0 := by omega
  go_enter Try.func120, Try.ntmps120
  go_wp2
  go_region
  all_goals go_wp2
  all_goals refine bodyPost_ret (v := .agg #[.int .i64 (i % wd), .int .i64 (i / wd)]) (by simp [results, Try.results120, go_sem]) rfl ⟨rfl, ?_⟩
  all_goals exact (below_all _ _).drew
theorem below_drewN {B : Nat} {w w' : World} (h : Below B w w') (n : Nat) : Below B w (w'.drewN n) := ⟨h.os, h.tape, h.output, h.size, h.block⟩
set_option maxHeartbeats 1000000 in
theorem neighbors_any (x y : Int) (w : World) (hx : -1 ≤ x ∧ x ≤ 8) (hy : -1 ≤ y ∧ y ≤ 8) :
    Calls Try.prog 166 #[.agg #[.int .i64 x, .int .i64 y]] w fun e w' => e = .returned (.agg #[.int .i64 x, .int .i64 (y - 1), .int .i64 (x + 1), .int .i64 y, .int .i64 x, .int .i64 (y + 1), .int .i64 (x - 1), .int .i64 y]) ∧ Below w.heap.size w w' := by
  go_enter Try.func166, Try.ntmps166
  go_wp2
  go_quiet (fail)
  go_wp2
  refine bodyPost_ret (v := .agg #[.int .i64 x, .int .i64 (y - 1), .int .i64 (x + 1), .int .i64 y, .int .i64 x, .int .i64 (y + 1), .int .i64 (x - 1), .int .i64 y]) (by simp [results, Try.results166, go_sem]) rfl ⟨rfl, ?_⟩
  iterate 8 (refine Below.setCell ?_ (by simp) _)
  exact below_drewN ((below_all _ _).alloc (by simp) _) _
set_option maxHeartbeats 2000000 in
theorem cellsOf_any (wd hg : Int) (a : Option Addr) (l : List Int) (c : Nat) (w : World) (hl : Ints .i64 w w.heap.size a l) (hr : regB wd hg l = true) :
    Calls Try.prog 137 #[.int .i64 wd, .slice a l.length c] w fun e w' => ∃ b, e = .returned (.map (some b)) ∧ w.heap.size ≤ b ∧ PSet w' b 64 (inP wd l) ∧ Below w.heap.size w w' := by
  have HL := Lib.hid hl
  have hs := shapeB_iff.1 (reg_shape hr)
  have hp := prod_bd (reg_shape hr)
  have hlen := reg_len hr
  have HBD := Lib.hid (reg_bd hr)
  have hmm := @run_makeMap Try.prog
  clear hl hr
  go_enter Try.func137, Try.ntmps137
  go_wp2
  clear hmm
  have M0 := Lib.hid (PSet.made w)
  go_loopw [11] (fun i wr => ∃ k : Nat, k ≤ l.length ∧ i = .int .i64 k ∧ PSet wr w.heap.size k (inP wd (l.take k)) ∧ Below w.heap.size w wr) (fun i _ => l.length - (intOf i).toNat)
  case atStart => exact ⟨0, Nat.zero_le _, rfl, M0.out.congr (fun x y _ _ => rfl), below_all _ _⟩
  case round =>
    obtain ⟨k, hk, rfl, hm, hB⟩ := hrel
    have HM := Lib.hid hm
    have HB := Lib.hid hB
    by_cases hlt : k < l.length
    · obtain ⟨b, o, rfl, hb, hc⟩ := (HL.out.below hB (Nat.le_refl _)).at_ hlt
      have hz := HBD.out _ (List.getElem_mem hlt)
      have HTK := Lib.hid (List.take_succ_eq_append_getElem hlt)
      have hlm := hm.lt
      clear hm hB
      obtain ⟨z, hzz⟩ : ∃ z, l[k] = z := ⟨_, rfl⟩
      rw [hzz] at hc hz HTK
      have hi : (k : Int) < (l.length : Int) := by omega
      have hi0 : (0 : Int) ≤ (k : Int) := by omega
      clear hzz
      have m0 : okI (z % wd) := by have := Int.emod_nonneg z (b := wd) (by omega); have := Int.emod_lt_of_pos z (b := wd) (by omega); unfold okI; omega
      have m1 : okI (z / wd) := by have := Int.ediv_nonneg (a := z) (b := wd) (by omega) (by omega); have := Int.ediv_le_self (a := z) wd (by omega); unfold okI; omega
      have HP := Lib.hid (fun W => pointAt_any wd z W (by omega) (by omega) (by omega) (by omega))
      have Hm0 := Lib.hid m0
      have Hm1 := Lib.hid m1
      clear m0 m1
      go_wp2_with fail
      refine (HP.out _).mono ?_
      rintro e w1 ⟨rfl, b1⟩
      have M1 := Lib.hid (HM.out.below b1 hlm)
      have B1 := Lib.hid (HB.out.trans (b1.mono HB.out.size))
      clear b1
      generalize hxm : z % wd = xm at *
      generalize hym : z / wd = ym at *
      have HXM := Lib.hid hxm
      have HYM := Lib.hid hym
      clear hxm hym
      go_wp2_with (at_mapUpdate; refine wpList_put_set _ rfl _ _ _ 162 rfl Try.underlying162 w.heap.size k (inP wd (l.take k)) rfl M1.out (by unfold maxLen; omega) xm ym rfl Hm0.out Hm1.out true rfl ?_; intro w2 h2 g2 s2; have M2 := Lib.hid h2; have G2 := Lib.hid g2; clear h2 g2 s2)
      go_roundw
      case rel =>
        refine ⟨k + 1, by omega, by go_num, ?_, B1.out.grown G2.out B1.out.size (fun j e => by injection e with e; omega)⟩
        refine M2.out.congr fun p q _ _ => ?_
        rw [HTK.out, inP_snoc, HXM.out, HYM.out]
        by_cases e : p = xm ∧ q = ym
        · rw [if_pos e]; obtain ⟨rfl, rfl⟩ := e; simp
        · rw [if_neg e]
          have : (decide (xm = p) && decide (ym = q)) = false := by
            rw [Bool.and_eq_false_iff]
            by_cases e1 : p = xm
            · right; simp; exact fun h => e ⟨e1, h.symm⟩
            · left; simp; exact fun h => e1 h.symm
          rw [this]; simp
      case measure => simp [intOf]; omega
    · obtain rfl : k = l.length := by omega
      rw [List.take_length] at HM
      clear hm hB
      go_wp2
      go_ret
      exact ⟨_, rfl, Nat.le_refl _, HM.out.mono hlen, HB.out⟩
end Go.Proofs.Ythceffkkokgpnaa
