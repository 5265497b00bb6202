/- The walk of FnUnits. -/
import Derived.Test.YtnomcnlmlignbaaDoorUnitDraws
import Derived.Test.YtnomcnlmlignbaaDoorPQSpec
import Derived.Test.YtnomcnlmlignbaaDoorPQuant
import Derived.Test.YtnomcnlmlignbaaDoorKind
import Derived.Test.YtnomcnlmlignbaaDoorConv
import Derived.Test.YtnomcnlmlignbaaDoorWordOf
namespace Go.Proofs.YtnomcnlmlignbaaDoor
open Go.RowKit
set_option linter.unusedVariables false
set_option linter.unusedSimpArgs false
theorem conv_own {x u : Int} (hx : tenB x = true) (hu : unitB u = true) : cvT x u u = .tuple #[.int .i64 x, .bool true] := by
  have hz : convZ x u u = x := by
    unfold convZ rdiv
    rcases unit_cases hu with h | h | h | h | h | h | h | h <;> subst h <;> simp only [partZ, zeroZ] <;> simp <;> split <;> omega
  have hok : convOk x u u = true := by unfold convOk; rw [hz, hx, hu]; simp
  rw [cvT_yes hok, hz]
theorem pqV_is (s : ByteArray) : ∃ x u b, pqV s = .tuple #[.int .i64 x, .int .i64 u, .bool b] := by
  cases h : pqB s with
  | true => exact ⟨_, _, _, pqV_yes h⟩
  | false => exact ⟨_, _, _, pqV_no h⟩
set_option maxRecDepth 100000 in
set_option maxHeartbeats 4000000 in
theorem walk_Units (a : Option Addr) (l : List Int) (c : Nat) (w : World) (hi : Ints .u8 w w.heap.size a l) (hb : ∀ z ∈ l, 0 ≤ z ∧ z ≤ 255) (hlm : l.length ≤ maxLen) (hu : UTab w) (ht : Tab w) (he : Errs w) :
    Calls Tryd.prog 4 #[.slice a l.length c] w fun e w' => e = .returned (.bool true) ∧ Below w.heap.size w w' := by
  unfold maxLen at hlm
  by_cases hbig : (65536 : Int) < (l.length : Int)
  · clear hi hb
    go_enter Tryd.func4, Tryd.ntmps4
    go_wp2
    go_ret
    exact ⟨rfl, Below.refl _ _⟩
  · have HI := Lib.hid (fun W (G : Below w.heap.size w W) => (show Ints .u8 W W.heap.size a l from (hi.below G (Nat.le_refl _)).more G.size))
    have HBY := Lib.hid hb
    have HU := Lib.hid (fun W (G : Below w.heap.size w W) => hu.below G)
    have HT := Lib.hid (fun W (G : Below w.heap.size w W) => ht.below G)
    have HE := Lib.hid (fun W (G : Below w.heap.size w W) => he.below G)
    have G0 := Lib.hid (Below.refl w.heap.size w)
    have hl : l.length ≤ 65536 := by omega
    have hl2 : ¬ (65536 : Int) < (l.length : Int) := by omega
    clear hi hb hlm hu ht he
    go_enter Tryd.func4, Tryd.ntmps4
    go_wp2_with (first | (go_at_call 19; go_in) | fail)
    refine (drawQT_any _ a l c (HI.out _ G0.out) HBY.out (by omega)).mono ?_
    rintro e w1 ⟨x, u, x0, x1, u0, u1, rfl, b1⟩
    have G1 := Lib.hid (below_then G0.out b1)
    clear b1 G0
    have HQ1 := Lib.hid (fun W h1 h2 => implQT_any x u W h1 h2)
    have HQ2 := Lib.hid (fun W => specQT_any x u W)
    have hss := qtS_size x u
    cases hq : qtB x u with
    | false =>
      rw [qtT_no hq] at HQ1 HQ2
      clear hq hss
      go_wp2_with fail
      refine (HQ1.out _ (HU.out _ G1.out) (HT.out _ G1.out)).mono ?_
      rintro e w2 ⟨rfl, b2⟩
      have G2 := Lib.hid (below_then G1.out b2)
      clear b2 G1
      go_wp2_with fail
      refine (HQ2.out _).mono ?_
      rintro e w3 ⟨rfl, b3⟩
      have G3 := Lib.hid (below_then G2.out b3)
      clear b3 G2
      go_wp2_with fail
      refine (drawPQ_any _ a l c (HI.out _ G3.out) HBY.out (by omega)).mono ?_
      rintro e w4 ⟨t, ht, rfl, b4⟩
      have G4 := Lib.hid (below_then G3.out b4)
      clear b4 G3
      have HP1 := Lib.hid (fun W h1 h2 h3 => implPQ_any t W (by omega) h1 h2 h3)
      have HP2 := Lib.hid (fun W => specPQ_any t W (by omega))
      obtain ⟨y, v, k, hv⟩ := pqV_is t
      rw [hv] at HP1 HP2
      clear hv
      have hyy : (y != y) = false := by simp
      have hvv : (v != v) = false := by simp
      have hkk : (k != k) = false := by cases k <;> rfl
      go_wp2_with fail
      refine (HP1.out _ (HT.out _ G4.out) (HE.out _ G4.out) (HU.out _ G4.out)).mono ?_
      rintro e w5 ⟨rfl, b5⟩
      have G5 := Lib.hid (below_then G4.out b5)
      clear b5 G4
      go_wp2_with fail
      refine (HP2.out _).mono ?_
      rintro e w6 ⟨rfl, b6⟩
      have G6 := Lib.hid (below_then G5.out b6)
      clear b6 G5
      go_wp2_with fail
      refine (drawSK_any _ a l c (HI.out _ G6.out) HBY.out (by omega)).mono ?_
      rintro e w7 ⟨p, q, p0, p1, q0, q1, rfl, b7⟩
      have G7 := Lib.hid (below_then G6.out b7)
      clear b7 G6
      have HS1 := Lib.hid (fun W h => implSame_any p q W h)
      have HS2 := Lib.hid (fun W => specSame_any p q W)
      generalize skV p q = sv at *
      generalize skB p q = sb at *
      have hsv : (sv == sv) = true := by simp
      have hsb : (sb == sb) = true := by simp
      go_wp2_with fail
      refine (HS1.out _ (HU.out _ G7.out)).mono ?_
      rintro e w8 ⟨rfl, b8⟩
      have G8 := Lib.hid (below_then G7.out b8)
      clear b8 G7
      go_wp2_with fail
      refine (HS2.out _).mono ?_
      rintro e w9 ⟨rfl, rfl⟩
      go_wp2
      go_ret
      exact ⟨by first | rfl | simp, G8.out⟩
    | true =>
      rw [qtT_yes hq] at HQ1 HQ2
      rw [if_pos hq] at hss
      have hq2 := hq
      unfold qtB at hq2
      rw [Bool.and_eq_true] at hq2
      have HPV := Lib.hid (pqV_of hq)
      have HP := Lib.hid (fun W h1 h2 h3 => implPQ_any (qS x u) W (by omega) h1 h2 h3)
      rw [HPV.out] at HP
      have HC := Lib.hid (fun W h => implCT_any x u u W h)
      rw [conv_own hq2.1 hq2.2] at HC
      have HW := Lib.hid (fun W h => implWord_any u W h)
      have ew : rowW u = wordS u := if_pos hq2.2
      rw [ew, hq2.2] at HW
      have HO := Lib.hid (fun W h => implWordOf_any (wordS u) W h)
      rw [unitOf_word hq2.2, isWord_word hq2.2] at HO
      clear hq hq2 ew HPV
      generalize qS x u = s at *
      generalize wordS u = wd at *
      have hxx : (x != x) = false := by simp
      have huu : (u != u) = false := by simp
      go_wp2_with fail
      refine (HQ1.out _ (HU.out _ G1.out) (HT.out _ G1.out)).mono ?_
      rintro e w2 ⟨rfl, b2⟩
      have G2 := Lib.hid (below_then G1.out b2)
      clear b2 G1
      go_wp2_with fail
      refine (HQ2.out _).mono ?_
      rintro e w3 ⟨rfl, b3⟩
      have G3 := Lib.hid (below_then G2.out b3)
      clear b3 G2
      go_wp2_with fail
      refine (HP.out _ (HT.out _ G3.out) (HE.out _ G3.out) (HU.out _ G3.out)).mono ?_
      rintro e w4 ⟨rfl, b4⟩
      have G4 := Lib.hid (below_then G3.out b4)
      clear b4 G3
      go_wp2_with fail
      refine (HC.out _ (HU.out _ G4.out)).mono ?_
      rintro e w5 ⟨rfl, b5⟩
      have G5 := Lib.hid (below_then G4.out b5)
      clear b5 G4
      go_wp2_with fail
      refine (HW.out _ (HU.out _ G5.out)).mono ?_
      rintro e w6 ⟨rfl, b6⟩
      have G6 := Lib.hid (below_then G5.out b6)
      clear b6 G5
      go_wp2_with fail
      refine (HO.out _ (HU.out _ G6.out)).mono ?_
      rintro e w7 ⟨rfl, b7⟩
      have G7 := Lib.hid (below_then G6.out b7)
      clear b7 G6
      go_wp2_with fail
      refine (drawPQ_any _ a l c (HI.out _ G7.out) HBY.out (by omega)).mono ?_
      rintro e w8 ⟨t, ht, rfl, b8⟩
      have G8 := Lib.hid (below_then G7.out b8)
      clear b8 G7
      have HP1 := Lib.hid (fun W h1 h2 h3 => implPQ_any t W (by omega) h1 h2 h3)
      have HP2 := Lib.hid (fun W => specPQ_any t W (by omega))
      obtain ⟨y, v, k, hv⟩ := pqV_is t
      rw [hv] at HP1 HP2
      clear hv
      have hyy : (y != y) = false := by simp
      have hvv : (v != v) = false := by simp
      have hkk : (k != k) = false := by cases k <;> rfl
      go_wp2_with fail
      refine (HP1.out _ (HT.out _ G8.out) (HE.out _ G8.out) (HU.out _ G8.out)).mono ?_
      rintro e w9 ⟨rfl, b9⟩
      have G9 := Lib.hid (below_then G8.out b9)
      clear b9 G8
      go_wp2_with fail
      refine (HP2.out _).mono ?_
      rintro e w10 ⟨rfl, b10⟩
      have G10 := Lib.hid (below_then G9.out b10)
      clear b10 G9
      go_wp2_with fail
      refine (drawSK_any _ a l c (HI.out _ G10.out) HBY.out (by omega)).mono ?_
      rintro e w11 ⟨p, q, p0, p1, q0, q1, rfl, b11⟩
      have G11 := Lib.hid (below_then G10.out b11)
      clear b11 G10
      have HS1 := Lib.hid (fun W h => implSame_any p q W h)
      have HS2 := Lib.hid (fun W => specSame_any p q W)
      generalize skV p q = sv at *
      generalize skB p q = sb at *
      have hsv : (sv == sv) = true := by simp
      have hsb : (sb == sb) = true := by simp
      go_wp2_with fail
      refine (HS1.out _ (HU.out _ G11.out)).mono ?_
      rintro e w12 ⟨rfl, b12⟩
      have G12 := Lib.hid (below_then G11.out b12)
      clear b12 G11
      go_wp2_with fail
      refine (HS2.out _).mono ?_
      rintro e w13 ⟨rfl, rfl⟩
      go_wp2
      go_ret
      exact ⟨by first | rfl | simp, G12.out⟩
end Go.Proofs.YtnomcnlmlignbaaDoor
