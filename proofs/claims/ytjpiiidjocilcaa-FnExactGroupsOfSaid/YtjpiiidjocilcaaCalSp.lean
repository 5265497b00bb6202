/- The model's CalibrationOf. -/
import Derived.Test.YtjpiiidjocilcaaShrS
namespace Go.Proofs.Ytjpiiidjocilcaa
open Go.RowKit
set_option linter.unusedVariables false
set_option linter.unusedSimpArgs false
theorem calL_yes {l r : List Int} (h : tlB l r = true) : calL l r = calT l r := by unfold calL calT; rw [if_pos h]
theorem calT_len (l r : List Int) : (calT l r).length = if (calG l r 11).length = 0 then 0 else 11 := by
  unfold calT
  split
  · rfl
  · rw [calS_len]
theorem calB_is (l r : List Int) (h : tlB l r = true) : calB l r = !((calT l r).length == 0) := by
  unfold calB
  rw [h, calT_len]
  by_cases h0 : (calG l r 11).length = 0
  · rw [if_pos h0, h0]; rfl
  · rw [if_neg h0]; simp [h0]
set_option maxRecDepth 100000 in
set_option maxHeartbeats 4000000 in
theorem specCal_any (a b : Option Addr) (l r : List Int) (c d : Nat) (w : World) (hl : Ints .i64 w w.heap.size a l) (hr : Ints .i64 w w.heap.size b r) :
    Calls Try.prog 27 #[.agg #[.slice a l.length c, .slice b r.length d]] w (SRet (calL l r) (calB l r) w) := by
  have hlW := ints_alloc hl (.cells #[.slice a l.length c, .slice b r.length d] 27)
  have hrW := ints_alloc hr (.cells #[.slice a l.length c, .slice b r.length d] 27)
  have HV := Lib.hid (specTl_is a b l r c d _ _ hlW hrW rfl)
  have B0 := Lib.hid (below_all w (.cells #[.slice a l.length c, .slice b r.length d] 27))
  have HL := Lib.hid hlW
  have HR := Lib.hid hrW
  have hlt0 : w.heap.size < (w.alloc (.cells #[.slice a l.length c, .slice b r.length d] 27)).heap.size := by simp
  have X0 := Lib.hid (show (w.alloc (.cells #[.slice a l.length c, .slice b r.length d] 27)).cell? ⟨w.heap.size, 0, none⟩ = some (.slice a l.length c) ∧ (w.alloc (.cells #[.slice a l.length c, .slice b r.length d] 27)).cell? ⟨w.heap.size, 1, none⟩ = some (.slice b r.length d) by constructor <;> simp [go_sem])
  clear hl hr hlW hrW
  cases ht : tlB l r with
  | false =>
    have eL : calL l r = [] := by unfold calL; rw [ht]; rfl
    have eB : calB l r = false := by unfold calB; rw [ht]; rfl
    rw [eL, eB]
    rw [ht] at HV
    clear ht eL eB
    go_enter Try.func27, Try.ntmps27
    go_wp2_with fail
    refine HV.out.mono ?_
    rintro e w1 ⟨rfl, b1⟩
    have HB := Lib.hid (B0.out.trans (b1.mono B0.out.size))
    clear b1
    go_wp2
    go_ret2
    exact ⟨_, 0, rfl, OwnSh.none_, HB.out.alloc HB.out.size _⟩
  | true =>
    have HS := Lib.hid (fun W (h : Ints .i64 W W.heap.size a l) (h' : Ints .i64 W W.heap.size b r) => specShares_any a b l r c d W h h' ht)
    have hlen := calT_len l r
    have hcl : (calT l r).length ≤ 11 := by rw [hlen]; split <;> omega
    rw [ht] at HV
    rw [calL_yes ht, calB_is l r ht]
    clear ht hlen
    unfold ShPost at HS
    obtain ⟨L, hL⟩ : ∃ L, calT l r = L := ⟨_, rfl⟩
    rw [hL] at HS hcl ⊢
    clear hL
    cases L with
    | nil =>
      show Calls _ _ _ w (SRet [] false w)
      go_enter Try.func27, Try.ntmps27
      go_wp2_with fail
      refine HV.out.mono ?_
      rintro e w1 ⟨rfl, b1⟩
      have y0 := (b1.cell (p := ⟨w.heap.size, 0, none⟩) hlt0).trans X0.out.1
      have y1 := (b1.cell (p := ⟨w.heap.size, 1, none⟩) hlt0).trans X0.out.2
      have HB := Lib.hid (B0.out.trans (b1.mono B0.out.size))
      have LA := Lib.hid (ints_below HL.out b1)
      have RA := Lib.hid (ints_below HR.out b1)
      clear b1
      go_wp2_with (go_at_call 67; refine (HS.out _ LA.out RA.out).mono ?_; rintro e w2 ⟨av, cv, rfl, ho2, b2⟩; have HB2 := Lib.hid (HB.out.trans (b2.mono HB.out.size)); clear ho2 b2)
      go_ret2
      exact ⟨_, 0, rfl, OwnSh.none_, HB2.out.alloc HB2.out.size _⟩
    | cons p L =>
      obtain ⟨n, hn⟩ : ∃ n, (p :: L).length = n := ⟨_, rfl⟩
      have hn0 : ¬ n = 0 := by rw [← hn]; simp
      have e1 : (!((p :: L).length == 0)) = true := by simp
      rw [e1]
      unfold SRet
      rw [hn] at HS hcl ⊢
      clear e1 hn
      go_enter Try.func27, Try.ntmps27
      go_wp2_with fail
      refine HV.out.mono ?_
      rintro e w1 ⟨rfl, b1⟩
      have y0 := (b1.cell (p := ⟨w.heap.size, 0, none⟩) hlt0).trans X0.out.1
      have y1 := (b1.cell (p := ⟨w.heap.size, 1, none⟩) hlt0).trans X0.out.2
      have hlt1 : w.heap.size < w1.heap.size := Nat.lt_of_lt_of_le hlt0 b1.size
      have HB := Lib.hid (B0.out.trans (b1.mono B0.out.size))
      have LA := Lib.hid (ints_below HL.out b1)
      have RA := Lib.hid (ints_below HR.out b1)
      clear b1
      go_wp2_with (first
        | (go_at_call 67; refine (HS.out _ LA.out RA.out).mono ?_; rintro e w2 ⟨av, cv, rfl, ho2, b2⟩; have HB2 := Lib.hid (HB.out.trans (b2.mono HB.out.size)); have LA2 := Lib.hid (ints_below LA.out b2); have RA2 := Lib.hid (ints_below RA.out b2); have y0 := (b2.cell (p := ⟨w.heap.size, 0, none⟩) hlt1).trans y0; have y1 := (b2.cell (p := ⟨w.heap.size, 1, none⟩) hlt1).trans y1; clear ho2 b2 LA RA))
      refine (HS.out _ LA2.out RA2.out).mono ?_
      rintro e w3 ⟨av3, cv3, rfl, ho3, b3⟩
      have HB3 := Lib.hid (HB2.out.trans (b3.mono HB2.out.size))
      have HO3 := Lib.hid (ho3.more HB2.out.size)
      clear b3 ho3
      go_wp2
      go_ret2
      exact ⟨_, _, rfl, HO3.out, HB3.out⟩
end Go.Proofs.Ytjpiiidjocilcaa
