/- ParseQuantity, the program's side. -/
import Derived.Test.YtnomcnlmlignbaaDoorTenths
import Derived.Test.YtnomcnlmlignbaaDoorWordOf
import Derived.Test.YtnomcnlmlignbaaDoorQuant
namespace Go.Proofs.YtnomcnlmlignbaaDoor
open Go.RowKit
set_option linter.unusedVariables false
set_option linter.unusedSimpArgs false
theorem qtT_parts (x u : Int) : qtT x u = .tuple #[.string (if qtB x u = true then qS x u else ⟨#[]⟩), .bool (qtB x u)] := rfl
/-- what the program's ParseQuantity computes on the way -/
def pqX (s : ByteArray) : Int := tnN (cutA s 32)
def pqU (s : ByteArray) : Int := unitOf (cutB s 32)
def pqB (s : ByteArray) : Bool := isWord (cutB s 32) && tnB (cutA s 32) && qtB (pqX s) (pqU s) && decide (qS (pqX s) (pqU s) = s)
def pqV (s : ByteArray) : Value := if pqB s = true then .tuple #[.int .i64 (pqX s), .int .i64 (pqU s), .bool true] else .tuple #[.int .i64 0, .int .i64 0, .bool false]
theorem pqV_yes {s : ByteArray} (h : pqB s = true) : pqV s = .tuple #[.int .i64 (pqX s), .int .i64 (pqU s), .bool true] := if_pos h
theorem pqV_no {s : ByteArray} (h : pqB s = false) : pqV s = .tuple #[.int .i64 0, .int .i64 0, .bool false] := if_neg (by rw [h]; simp)

set_option maxHeartbeats 1000000 in
theorem implPQ_any (s : ByteArray) (w : World) (hs : s.size ≤ 1048576) (ht : Tab w) (he : Errs w) (hu : UTab w) :
    Calls Tryd.prog 23 #[.string s] w fun e w' => e = .returned (pqV s) ∧ Below w.heap.size w w' := by
  have HCU := Lib.hid (fun W => cut_is s 32 W hs)
  rw [cutV_is] at HCU
  have z2 := cutA_size s 32
  have z3 := cutB_size s 32
  have HW := Lib.hid (fun W (h : Below w.heap.size w W) => implWordOf_any (cutB s 32) W (hu.below h))
  have HT := Lib.hid (fun W (h : Below w.heap.size w W) => tenths_is (cutA s 32) W (by omega) (ht.below h) (he.below h))
  have HQ := Lib.hid (fun W (h : Below w.heap.size w W) => implQT_any (pqX s) (pqU s) W (hu.below h) (ht.below h))
  have hx : tnN (cutA s 32) = pqX s := rfl
  have hu' : unitOf (cutB s 32) = pqU s := rfl
  rw [hx] at HT
  rw [hu'] at HW
  clear ht he hu hx hu'
  cases hk : isWord (cutB s 32) with
  | false =>
    have R := Lib.hid (pqV_no (s := s) (by unfold pqB; rw [hk]; rfl))
    rw [hk] at HW
    clear hk
    generalize pqX s = x at *
    generalize pqU s = u at *
    generalize tnB (cutA s 32) = kb at *
    generalize cutF s 32 = sf at *
    generalize cutA s 32 = sa at *
    generalize cutB s 32 = sb at *
    go_enter Tryd.func23, Tryd.ntmps23
    go_wp2_with fail
    refine (HCU.out _).mono ?_
    rintro e w2 ⟨rfl, d2⟩
    have HB2 := Lib.hid (d2.below w.heap.size)
    clear d2
    go_wp2_with fail
    refine (HW.out _ HB2.out).mono ?_
    rintro e w3 ⟨rfl, b3⟩
    have HB3 := Lib.hid (below_then HB2.out b3)
    clear b3
    go_wp2_with fail
    refine (HT.out _ HB3.out).mono ?_
    rintro e w4 ⟨rfl, b4⟩
    have HB4 := Lib.hid (below_then HB3.out b4)
    clear b4
    go_wp2
    go_ret3
    exact ⟨by rw [R.out]; rfl, HB4.out⟩
  | true =>
  rw [hk] at HW
  cases hb : tnB (cutA s 32) with
  | false =>
    have R := Lib.hid (pqV_no (s := s) (by unfold pqB; rw [hb]; simp))
    rw [hb] at HT
    clear hk hb
    generalize pqX s = x at *
    generalize pqU s = u at *
    generalize cutF s 32 = sf at *
    generalize cutA s 32 = sa at *
    generalize cutB s 32 = sb at *
    go_enter Tryd.func23, Tryd.ntmps23
    go_wp2_with fail
    refine (HCU.out _).mono ?_
    rintro e w2 ⟨rfl, d2⟩
    have HB2 := Lib.hid (d2.below w.heap.size)
    clear d2
    go_wp2_with fail
    refine (HW.out _ HB2.out).mono ?_
    rintro e w3 ⟨rfl, b3⟩
    have HB3 := Lib.hid (below_then HB2.out b3)
    clear b3
    go_wp2_with fail
    refine (HT.out _ HB3.out).mono ?_
    rintro e w4 ⟨rfl, b4⟩
    have HB4 := Lib.hid (below_then HB3.out b4)
    clear b4
    go_wp2
    go_ret3
    exact ⟨by rw [R.out]; rfl, HB4.out⟩
  | true =>
  rw [hb] at HT
  cases hq : qtB (pqX s) (pqU s) with
  | false =>
    have R := Lib.hid (pqV_no (s := s) (by unfold pqB; rw [hq]; simp))
    rw [qtT_no hq] at HQ
    clear hk hb hq
    generalize pqX s = x at *
    generalize pqU s = u at *
    generalize cutF s 32 = sf at *
    generalize cutA s 32 = sa at *
    generalize cutB s 32 = sb at *
    go_enter Tryd.func23, Tryd.ntmps23
    go_wp2_with fail
    refine (HCU.out _).mono ?_
    rintro e w2 ⟨rfl, d2⟩
    have HB2 := Lib.hid (d2.below w.heap.size)
    clear d2
    go_wp2_with fail
    refine (HW.out _ HB2.out).mono ?_
    rintro e w3 ⟨rfl, b3⟩
    have HB3 := Lib.hid (below_then HB2.out b3)
    clear b3
    go_wp2_with fail
    refine (HT.out _ HB3.out).mono ?_
    rintro e w4 ⟨rfl, b4⟩
    have HB4 := Lib.hid (below_then HB3.out b4)
    clear b4
    go_wp2_with fail
    refine (HQ.out _ HB4.out).mono ?_
    rintro e w5 ⟨rfl, b5⟩
    have HB5 := Lib.hid (below_then HB4.out b5)
    clear b5
    go_wp2
    go_ret3
    exact ⟨by rw [R.out]; rfl, HB5.out⟩
  | true =>
  rw [qtT_yes hq] at HQ
  by_cases hqs : qS (pqX s) (pqU s) = s
  · have R := Lib.hid (pqV_yes (s := s) (by unfold pqB; rw [hk, hb, hq, hqs]; simp))
    rw [hqs] at HQ
    have heq : (s.toList == s.toList) = true := by simp
    clear hk hb hq hqs
    generalize pqX s = x at *
    generalize pqU s = u at *
    generalize cutF s 32 = sf at *
    generalize cutA s 32 = sa at *
    generalize cutB s 32 = sb at *
    go_enter Tryd.func23, Tryd.ntmps23
    go_wp2_with fail
    refine (HCU.out _).mono ?_
    rintro e w2 ⟨rfl, d2⟩
    have HB2 := Lib.hid (d2.below w.heap.size)
    clear d2
    go_wp2_with fail
    refine (HW.out _ HB2.out).mono ?_
    rintro e w3 ⟨rfl, b3⟩
    have HB3 := Lib.hid (below_then HB2.out b3)
    clear b3
    go_wp2_with fail
    refine (HT.out _ HB3.out).mono ?_
    rintro e w4 ⟨rfl, b4⟩
    have HB4 := Lib.hid (below_then HB3.out b4)
    clear b4
    go_wp2_with fail
    refine (HQ.out _ HB4.out).mono ?_
    rintro e w5 ⟨rfl, b5⟩
    have HB5 := Lib.hid (below_then HB4.out b5)
    clear b5
    go_wp2
    go_ret3
    exact ⟨by rw [R.out]; rfl, HB5.out⟩
  · have R := Lib.hid (pqV_no (s := s) (by
      unfold pqB
      have : decide (qS (pqX s) (pqU s) = s) = false := decide_eq_false hqs
      rw [this]; simp))
    have heq : ((qS (pqX s) (pqU s)).toList == s.toList) = false := by
      rw [beq_eq_false_iff_ne, Lib.toList_data, Lib.toList_data]
      exact fun e => hqs (ByteArray.ext (Array.ext' e))
    clear hk hb hq hqs
    generalize qS (pqX s) (pqU s) = qs at *
    generalize pqX s = x at *
    generalize pqU s = u at *
    generalize cutF s 32 = sf at *
    generalize cutA s 32 = sa at *
    generalize cutB s 32 = sb at *
    go_enter Tryd.func23, Tryd.ntmps23
    go_wp2_with fail
    refine (HCU.out _).mono ?_
    rintro e w2 ⟨rfl, d2⟩
    have HB2 := Lib.hid (d2.below w.heap.size)
    clear d2
    go_wp2_with fail
    refine (HW.out _ HB2.out).mono ?_
    rintro e w3 ⟨rfl, b3⟩
    have HB3 := Lib.hid (below_then HB2.out b3)
    clear b3
    go_wp2_with fail
    refine (HT.out _ HB3.out).mono ?_
    rintro e w4 ⟨rfl, b4⟩
    have HB4 := Lib.hid (below_then HB3.out b4)
    clear b4
    go_wp2_with fail
    refine (HQ.out _ HB4.out).mono ?_
    rintro e w5 ⟨rfl, b5⟩
    have HB5 := Lib.hid (below_then HB4.out b5)
    clear b5
    go_wp2
    go_ret3
    exact ⟨by rw [R.out]; rfl, HB5.out⟩
end Go.Proofs.YtnomcnlmlignbaaDoor
