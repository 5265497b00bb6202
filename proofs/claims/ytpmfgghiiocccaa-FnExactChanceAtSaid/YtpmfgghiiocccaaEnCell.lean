/- The cell of an ensemble: the model's l9Cell, the program's valuesAtCell. -/
import Derived.Test.YtpmfgghiiocccaaEnGood
import Derived.Test.YtpmfgghiiocccaaEnMem
namespace Go.Proofs.Ytpmfgghiiocccaa
open Go.RowKit
set_option linter.unusedVariables false
set_option linter.unusedSimpArgs false
theorem ret_i {a b : Int} (h : a = b) : Ending.returned (.int .i64 a) = .returned (.int .i64 b) := by rw [h]
theorem en_place {es : List FE} {W H : Nat} {x y : Int} (hok : OkE es W H) (hin : inB (W : Int) (H : Int) x y = true) : ∃ k : Nat, place (W : Int) x y = k ∧ k < W * H ∧ y * (W : Int) + x = (k : Int) ∧ 0 ≤ y * (W : Int) ∧ y * (W : Int) ≤ 64 := by
  have hs : shapeB (W : Int) (H : Int) = true := shapeB_iff.2 (by have := hok.s; omega)
  obtain ⟨h1, h2, h3, h4⟩ := place_int hs hin
  rw [← Int.natCast_mul] at h2
  exact ⟨_, rfl, by omega, h1, h3, h4⟩
set_option maxRecDepth 100000 in
set_option maxHeartbeats 4000000 in
theorem specCell_any (a : Option Addr) (es : List FE) (c : Nat) (x y : Int) (w : World) (hl : Flds w w.heap.size a es) (hn : es.length ≤ 1048576) (hs : ∀ e ∈ es, e.l.length ≤ 1048576) :
    Calls Try.prog 56 #[.slice a es.length c, .int .i64 x, .int .i64 y] w fun e w' => e = .returned (.int .i64 (cellI (plains es) x y)) ∧ Below w.heap.size w w' := by
  have HC := Lib.hid (fun v hv => specEn_is a es c v w hl hn hs hv)
  have HL := Lib.hid hl
  clear hl hs
  cases he : enB (plains es) with
  | false =>
    have hR : cellI (plains es) x y = -1 := if_neg (by rw [he]; simp)
    rw [hR]
    have HD := Lib.hid (HC.out false he)
    clear hR he HC
    go_enter Try.func56, Try.ntmps56
    go_wp2_with (go_at_call 43; refine HD.out.mono ?_; rintro e w1 ⟨rfl, b1⟩; have HB := Lib.hid b1; clear b1)
    go_ret
    exact ⟨rfl, HB.out⟩
  | true =>
    have HD := Lib.hid (HC.out true he)
    obtain ⟨W, H, hok, hW, hH⟩ := okE_of he
    have h0 : 0 < es.length := by have := hok.n; omega
    obtain ⟨b, o, rfl, hb, q0, q1, _, _⟩ := HL.out.at_ h0
    obtain ⟨e0, e1, -, -⟩ := hok.e 0 h0
    rw [e0] at q0
    rw [e1] at q1
    simp only [Nat.zero_mul, Nat.add_zero] at q0 q1
    have h00 : (0 : Int) < (es.length : Int) := by omega
    have hs1 := hok.s
    have w1' : (1 : Int) ≤ (W : Int) := by omega
    have w8' : (W : Int) ≤ 8 := by omega
    have h1' : (1 : Int) ≤ (H : Int) := by omega
    have h8' : (H : Int) ≤ 8 := by omega
    have HQ := Lib.hid (And.intro q0 q1)
    obtain ⟨W1, hW1⟩ : ∃ d, (W : Int) - 1 = d := ⟨_, rfl⟩
    obtain ⟨H1, hH1⟩ : ∃ d, (H : Int) - 1 = d := ⟨_, rfl⟩
    unfold cellI
    rw [he, hW, hH, Bool.true_and]
    have hx : ∀ v, (decide (0 ≤ x) && decide (x < (W : Int))) = v → Hid (∀ Wd, Calls Try.prog 69 #[.int .i64 x, .int .i64 0, .int .i64 W1] Wd fun e w' => e = .returned (.bool v) ∧ Wd = w') := fun v hv => Lib.hid (fun Wd => l1In_is x 0 W1 v Wd (by rw [← hv]; congr 1; exact decide_eq_decide.2 (by omega)))
    have hy : ∀ v, (decide (0 ≤ y) && decide (y < (H : Int))) = v → Hid (∀ Wd, Calls Try.prog 69 #[.int .i64 y, .int .i64 0, .int .i64 H1] Wd fun e w' => e = .returned (.bool v) ∧ Wd = w') := fun v hv => Lib.hid (fun Wd => l1In_is y 0 H1 v Wd (by rw [← hv]; congr 1; exact decide_eq_decide.2 (by omega)))
    cases hvx : (decide (0 ≤ x) && decide (x < (W : Int))) with
    | false =>
      have hin : inB (W : Int) (H : Int) x y = false := by unfold inB; rw [hvx]; rfl
      rw [hin, if_neg (by simp)]
      have HX := hx false hvx
      clear hvx hin hx hy hok hW hH he HC q0 q1 e0 e1 hs1 hH1
      go_enter Try.func56, Try.ntmps56
      go_wp2_with fail
      refine HD.out.mono ?_
      rintro e w1 ⟨rfl, b1⟩
      have k0 := (b1.cell (p := ⟨b, o, none⟩) hb).trans HQ.out.1
      have HB := Lib.hid b1
      clear b1
      go_wp2_with (go_at_call 69; refine (HX.out _).mono ?_; rintro e w2 ⟨rfl, rfl⟩)
      go_ret
      exact ⟨rfl, HB.out⟩
    | true =>
      have HX := hx true hvx
      cases hvy : (decide (0 ≤ y) && decide (y < (H : Int))) with
      | false =>
        have hin : inB (W : Int) (H : Int) x y = false := by unfold inB; rw [hvy]; simp
        rw [hin, if_neg (by simp)]
        have HY := hy false hvy
        clear hvx hvy hin hx hy hok hW hH he HC q0 q1 e0 e1 hs1
        go_enter Try.func56, Try.ntmps56
        go_wp2_with fail
        refine HD.out.mono ?_
        rintro e w1 ⟨rfl, b1⟩
        have k0 := (b1.cell (p := ⟨b, o, none⟩) hb).trans HQ.out.1
        have k1 := (b1.cell (p := ⟨b, o + 1, none⟩) hb).trans HQ.out.2
        have HB := Lib.hid b1
        clear b1
        go_wp2_with (go_at_call 69; first | ((with_reducible refine (HX.out _).mono ?_); rintro e w2 ⟨rfl, rfl⟩) | ((with_reducible refine (HY.out _).mono ?_); rintro e w2 ⟨rfl, rfl⟩))
        go_ret
        exact ⟨rfl, HB.out⟩
      | true =>
        have hin : inB (W : Int) (H : Int) x y = true := by unfold inB; rw [hvx, hvy]; rfl
        rw [hin, if_pos rfl]
        have HY := hy true hvy
        have hxb := (inB_iff.1 hin).1
        have hyb := (inB_iff.1 hin).2
        obtain ⟨k, hk1, hk2, hk3, hk4, hk5⟩ := en_place hok hin
        rw [hk1]
        have hk64 : k < 64 := Nat.lt_of_lt_of_le hk2 hok.le.1
        obtain ⟨p, hp⟩ : ∃ p : Nat, y * (W : Int) = (p : Int) := ⟨(y * (W : Int)).toNat, by omega⟩
        have hp2 : (W : Int) * y = (p : Int) := by rw [Int.mul_comm]; exact hp
        have hp64 : p ≤ 64 := by omega
        have HE := Lib.hid (show (p : Int) + x = (k : Int) by omega)
        have x0 : 0 ≤ x := hxb.1
        have x8 : x ≤ 8 := by omega
        clear hvx hvy hin hx hy hok hW hH he HC q0 q1 e0 e1 hs1 hk1 hk2 hk3 hk4 hk5 hp hxb hyb
        go_enter Try.func56, Try.ntmps56
        go_wp2_with fail
        refine HD.out.mono ?_
        rintro e w1 ⟨rfl, b1⟩
        have k0 := (b1.cell (p := ⟨b, o, none⟩) hb).trans HQ.out.1
        have k1 := (b1.cell (p := ⟨b, o + 1, none⟩) hb).trans HQ.out.2
        have HB := Lib.hid b1
        clear b1
        go_wp2_with (go_at_call 69; first | ((with_reducible refine (HX.out _).mono ?_); rintro e w2 ⟨rfl, rfl⟩) | ((with_reducible refine (HY.out _).mono ?_); rintro e w2 ⟨rfl, rfl⟩))
        go_ret
        exact ⟨ret_i HE.out, HB.out⟩
/-- a list of numbers and whether there is one -/
def LRet (r : Option (List Int)) (w : World) (e : Ending) (w' : World) : Prop :=
  ∃ a c, e = .returned (.tuple #[.slice a (r.getD []).length c, .bool r.isSome]) ∧ OwnI w' w.heap.size a (r.getD []) ∧ Below w.heap.size w w'
set_option maxRecDepth 100000 in
set_option maxHeartbeats 4000000 in
theorem implCell_any (g : Nat) (es : List FE) (c : Nat) (x y : Int) (w : World) (hl : Flds w w.heap.size (some ⟨g, 0, none⟩) es) (hn : es.length ≤ 1048576) (hs : ∀ e ∈ es, e.l.length ≤ 1048576) :
    Calls Try.prog 57 #[.slice (some ⟨g, 0, none⟩) es.length c, .int .i64 x, .int .i64 y] w (LRet (cellR (plains es) x y) w) := by
  have HC := Lib.hid (fun v hv => implEn_is g es c v w hl hn hs hv)
  have HL := Lib.hid hl
  clear hl hs
  cases he : enB (plains es) with
  | false =>
    rw [cellR_no (by rw [he]; rfl)]
    have HD := Lib.hid (HC.out false he)
    clear he HC
    go_enter Try.func57, Try.ntmps57
    go_wp2_with (go_at_call 16; refine HD.out.mono ?_; rintro e w1 ⟨rfl, b1⟩; have HB := Lib.hid b1; clear b1)
    go_ret2
    exact ⟨none, 0, rfl, OwnI.none_, HB.out⟩
  | true =>
    have HD := Lib.hid (HC.out true he)
    obtain ⟨W, H, hok, hW, hH⟩ := okE_of he
    have h0 : 0 < es.length := by have := hok.n; omega
    obtain ⟨b, o, eg, hb, q0, q1, q2, _⟩ := HL.out.at_ h0
    injection eg with eg
    injection eg with e1 e2
    subst e1 e2
    obtain ⟨e0, e1, -, -⟩ := hok.e 0 h0
    rw [e0] at q0
    rw [e1] at q1
    simp only [Nat.zero_mul, Nat.add_zero, Nat.zero_add] at q0 q1 q2
    have h00 : (0 : Int) < (es.length : Int) := by omega
    have hs1 := hok.s
    have HQ := Lib.hid (And.intro q0 (And.intro q1 q2))
    have HH := Lib.hid (fun v hv Wd => implHas_is (W : Int) (H : Int) (es[0]'h0).ad (es[0]'h0).l.length (es[0]'h0).c x y v Wd hv)
    generalize (es[0]'h0).ad = x2 at *
    generalize (es[0]'h0).c = x3 at *
    generalize (es[0]'h0).l.length = x4 at *
    cases hin : inB (W : Int) (H : Int) x y with
    | false =>
      rw [cellR_no (by rw [he, hW, hH, hin]; rfl)]
      have HV := Lib.hid (HH.out false hin)
      clear hin hok hW hH he HC q0 q1 q2 e0 e1 HH
      go_enter Try.func57, Try.ntmps57
      go_wp2_with fail
      refine HD.out.mono ?_
      rintro e w1 ⟨rfl, b1⟩
      have k0 := (b1.cell (p := ⟨g, 0, none⟩) hb).trans HQ.out.1
      have k1 := (b1.cell (p := ⟨g, 1, none⟩) hb).trans HQ.out.2.1
      have k2 := (b1.cell (p := ⟨g, 2, none⟩) hb).trans HQ.out.2.2
      have HB := Lib.hid b1
      clear b1
      go_wp2_with (go_at_call 80; refine (HV.out _).mono ?_; rintro e w2 ⟨rfl, b2⟩; have HB2 := Lib.hid (below_then HB.out b2); clear b2)
      go_ret2
      exact ⟨none, 0, rfl, OwnI.none_, HB2.out⟩
    | true =>
      rw [cellR_yes (by rw [he, hW, hH, hin]; rfl), hW]
      have HV := Lib.hid (HH.out true hin)
      have hxb := (inB_iff.1 hin).1
      obtain ⟨k, hk1, hk2, hk3, hk4, hk5⟩ := en_place hok hin
      rw [hk1]
      have hk64 : k < 64 := Nat.lt_of_lt_of_le hk2 hok.le.1
      obtain ⟨p, hp⟩ : ∃ p : Nat, y * (W : Int) = (p : Int) := ⟨(y * (W : Int)).toNat, by omega⟩
      have hp64 : p ≤ 64 := by omega
      have HE := Lib.hid (show (p : Int) + x = (k : Int) by omega)
      have x0 : 0 ≤ x := hxb.1
      have x8 : x ≤ 8 := by omega
      have HM := Lib.hid (fun Wd h => memVals_any W H (some ⟨g, 0, none⟩) es c k Wd hok hk2 h)
      generalize colV (plains es) k = vs at *
      clear hin hok hW hH he HC q0 q1 q2 e0 e1 HH hk1 hk2 hk3 hk4 hk5 hxb hs1
      go_enter Try.func57, Try.ntmps57
      go_wp2_with fail
      refine HD.out.mono ?_
      rintro e w1 ⟨rfl, b1⟩
      have k0 := (b1.cell (p := ⟨g, 0, none⟩) hb).trans HQ.out.1
      have k1 := (b1.cell (p := ⟨g, 1, none⟩) hb).trans HQ.out.2.1
      have k2 := (b1.cell (p := ⟨g, 2, none⟩) hb).trans HQ.out.2.2
      have HB := Lib.hid b1
      clear b1
      go_wp2_with fail
      refine (HV.out _).mono ?_
      rintro e w2 ⟨rfl, b2⟩
      have HB2 := Lib.hid (below_then HB.out b2)
      have k3 := (b2.cell (p := ⟨g, 0, none⟩) (Nat.lt_of_lt_of_le hb HB.out.size)).trans k0
      clear b2 k0 k1 k2
      have hpk : (p : Int) + x = (k : Int) := HE.out
      go_wp2_with fail
      refine (HM.out _ (flds_below (HL.out) HB2.out)).mono ?_
      rintro e w3 ⟨a3, c3, rfl, o3, b3⟩
      have HO := Lib.hid (o3.more HB2.out.size)
      have HB3 := Lib.hid (below_then HB2.out b3)
      clear o3 b3 hpk
      go_wp2
      go_ret2
      exact ⟨a3, c3, rfl, HO.out, HB3.out⟩
end Go.Proofs.Ytpmfgghiiocccaa
