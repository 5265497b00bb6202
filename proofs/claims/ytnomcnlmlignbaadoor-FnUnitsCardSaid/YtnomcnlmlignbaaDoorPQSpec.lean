/- ParseQuantity, the model's side, and the walk of FnExactParseQuantity. -/
import Derived.Test.YtnomcnlmlignbaaDoorPQSplit
import Derived.Test.YtnomcnlmlignbaaDoorRead
import Derived.Test.YtnomcnlmlignbaaDoorSplit
namespace Go.Proofs.YtnomcnlmlignbaaDoor
open Go.RowKit
set_option linter.unusedVariables false
set_option linter.unusedSimpArgs false
/-- the refusal -/
def pqNo : Value := .tuple #[.int .i64 0, .int .i64 0, .bool false]
section
variable {s : ByteArray}
theorem pq_long (h : 20 < s.size) : pqV s = pqNo := pqV_else (fun x u hq e => by
  unfold qtB at hq; rw [Bool.and_eq_true] at hq
  have := qS_size (u := u) hq.1
  rw [e] at this; omega)
theorem pq_parts (h : (splitL s.data.toList 32).length ≠ 2) : pqV s = pqNo := pqV_else (fun x u hq e => by
  unfold qtB at hq; rw [Bool.and_eq_true] at hq
  apply h; rw [← e, qS_split hq.2]; rfl)
theorem pq_digits (h : (splitL (negS (cutA s 32)).data.toList 46).length ≠ 2) : pqV s = pqNo := pqV_else (fun x u hq e => by
  apply h; rw [← e, qS_cutA, tS_negS, bare_split]; rfl)
theorem pq_word (h : isWord (cutB s 32) = false) : pqV s = pqNo := pqV_no (by unfold pqB; rw [h]; rfl)
theorem pq_k1 (h : pB (cutA (negS (cutA s 32)) 46) = false) : pqV s = pqNo := pqV_no (by unfold pqB tnB; rw [h]; simp)
theorem pq_k2 (h : pB (cutB (negS (cutA s 32)) 46) = false) : pqV s = pqNo := pqV_no (by unfold pqB tnB; rw [h]; simp)
theorem pq_z {z : Int} (h1 : pB (cutA (negS (cutA s 32)) 46) = true) (h2 : pB (cutB (negS (cutA s 32)) 46) = true) (hz : tnZ (cutA s 32) = z) : pqX s = z := by
  unfold pqX tnN
  rw [if_pos (by unfold tnB; rw [h1, h2]; rfl), hz]
theorem pq_q {z : Int} (hx : pqX s = z) (hq : qtB z (pqU s) = false) : pqV s = pqNo := pqV_no (by unfold pqB; rw [hx, hq]; simp)
theorem pq_t {z : Int} (hx : pqX s = z) (ht : qS z (pqU s) ≠ s) : pqV s = pqNo := pqV_no (by unfold pqB; rw [hx, decide_eq_false ht]; simp)
theorem pq_yes {z : Int} (hk : isWord (cutB s 32) = true) (h1 : pB (cutA (negS (cutA s 32)) 46) = true) (h2 : pB (cutB (negS (cutA s 32)) 46) = true) (hx : pqX s = z) (hq : qtB z (pqU s) = true) (ht : qS z (pqU s) = s) : pqV s = .tuple #[.int .i64 z, .int .i64 (pqU s), .bool true] := by
  rw [pqV_yes (by unfold pqB tnB; rw [hx, hk, h1, h2, hq, ht]; simp), hx]
end
theorem neg_form {A : ByteArray} (h : negB A = true) : ∃ h0 : 0 < A.size, ((A[0].toNat : Int) == 45) = true ∧ A.extract 1 A.size = negS A := by
  have h0 : 0 < A.size := by
    rcases Nat.eq_zero_or_pos A.size with e | e
    · have hn : A.data.toList = [] := List.eq_nil_of_length_eq_zero (by rw [Array.length_toList]; exact e)
      unfold negB at h; rw [hn] at h; simp at h
    · exact e
  refine ⟨h0, ?_, ?_⟩
  · have h1 := head_at A h0
    unfold negB at h; rw [h1] at h
    have h2 : A[0] = 45 := by simpa using h
    rw [h2]; rfl
  · unfold negS; rw [if_pos h, ext_list, List.take_of_length_le (by rw [Array.length_toList]; exact Nat.le_refl _)]
theorem pos_form {A : ByteArray} (h : negB A = false) : negS A = A ∧ (A.size = 0 ∨ ∃ h0 : 0 < A.size, ((A[0].toNat : Int) == 45) = false) := by
  refine ⟨if_neg (by rw [h]; simp), ?_⟩
  rcases Nat.eq_zero_or_pos A.size with e | e
  · exact .inl e
  · refine .inr ⟨e, ?_⟩
    have h1 := head_at A e
    unfold negB at h; rw [h1] at h
    cases hc : ((A[0].toNat : Int) == 45) with
    | false => rfl
    | true =>
      have h2 : A[0] = 45 := UInt8.toNat_inj.1 (by have := beq_iff_eq.1 hc; show A[0].toNat = 45; omega)
      rw [h2] at h; simp at h
/-- two pieces in a row of the call's own -/
theorem own_two {w1 : World} {B : Nat} {t : TypeId} {v : Value} {l : List (List UInt8)} {a r : List UInt8} (h : w1.ownsRow B t 1 v l.length (txt l)) (e : l = [a, r]) : ∃ g cap, v = .slice (some ⟨g, 0, none⟩) 2 cap ∧ g < w1.heap.size ∧ w1.cell? ⟨g, 0, none⟩ = some (.string ⟨a.toArray⟩) ∧ w1.cell? ⟨g, 1, none⟩ = some (.string ⟨r.toArray⟩) := by
  subst e
  obtain ⟨cap, g, rfl, _, hr, _⟩ := Row.of_own h (by simp)
  exact ⟨g, cap, rfl, hr.lt, hr.cell (k := 0) (by simp [txt]), hr.cell (k := 1) (by simp [txt])⟩
theorem two_of {l : List (List UInt8)} (h : l.length = 2) : ∃ a r, l = [a, r] := by
  match l, h with
  | [a, r], _ => exact ⟨a, r, rfl⟩

set_option maxHeartbeats 2000000 in
theorem specPQ_any (s : ByteArray) (w : World) (hs : s.size ≤ 1048576) :
    Calls Tryd.prog 28 #[.string s] w fun e w' => e = .returned (pqV s) ∧ Below w.heap.size w w' := by
  by_cases hl : 20 < s.size
  · have R := Lib.hid (pq_long hl)
    go_enter Tryd.func28, Tryd.ntmps28
    go_wp2
    go_ret3
    exact ⟨by rw [R.out]; rfl, Below.refl _ _⟩
  have HS1 := Lib.hid (fun W => split_any s 32 W hs)
  by_cases hp : (splitL s.data.toList 32).length ≠ 2
  · have R := Lib.hid (pq_parts hp)
    have hpos := splitL_pos s.data.toList 32
    generalize splitL s.data.toList 32 = P at *
    go_enter Tryd.func28, Tryd.ntmps28
    go_wp2_with fail
    refine (HS1.out _).mono ?_
    rintro e w1 ⟨v1, rfl, ho1, b1⟩
    have HB1 := Lib.hid b1
    obtain ⟨cap, g, rfl, _, _, _⟩ := Row.of_own ho1 hpos
    have hpp : ((P.length : Int) == 2) = false := by simpa using fun h : (P.length : Int) = 2 => hp (by omega)
    clear b1 ho1
    go_wp2
    go_ret3
    exact ⟨by rw [R.out]; rfl, HB1.out⟩
  obtain ⟨a, r, hP⟩ := two_of (Decidable.not_not.1 hp)
  obtain ⟨hsl, ha32, _⟩ := two_split (b := 32) hP
  have eA := cutA_at hsl ha32
  have eB := cutB_at hsl ha32
  have EA := Lib.hid eA
  have EB := Lib.hid eB
  have HP := Lib.hid hP
  clear hsl ha32 hp eA eB hP
  have z2 := cutA_size s 32
  have z3 := cutB_size s 32
  have z4 := negS_size (cutA s 32)
  have HW := Lib.hid (fun W => specWordOf_any (cutB s 32) W)
  rw [show unitOf (cutB s 32) = pqU s from rfl] at HW
  have HQ := Lib.hid (fun z W => specQT_any z (pqU s) W)
  cases hneg : negB (cutA s 32) with
  | true =>
    obtain ⟨hA0, hA45, hext⟩ := neg_form hneg
    have HS2 := Lib.hid (show ∀ W, Calls Tryd.prog 81 #[.string ((cutA s 32).extract 1 (cutA s 32).size), .int .u8 46] W (SplitPost (splitL (negS (cutA s 32)).data.toList 46) W) from fun W => by rw [hext]; exact split_any _ 46 W (by omega))
    by_cases hd : (splitL (negS (cutA s 32)).data.toList 46).length ≠ 2
    · have R := Lib.hid (pq_digits hd)
      have hpos := splitL_pos (negS (cutA s 32)).data.toList 46
      clear HQ
      try clear hext
      clear hneg
      generalize splitL (negS (cutA s 32)).data.toList 46 = D at *
      generalize pqU s = us at *
      generalize cutB s 32 = sb at *
      generalize cutA s 32 = sa at *
      go_enter Tryd.func28, Tryd.ntmps28
      go_wp2_with fail
      refine (HS1.out _).mono ?_
      rintro e w1 ⟨v1, rfl, ho1, b1⟩
      have HB1 := Lib.hid b1
      clear b1
      obtain ⟨g1, cap1, rfl, hg1, c0, c1⟩ := own_two ho1 HP.out
      rw [← EA.out] at c0
      rw [← EB.out] at c1
      clear ho1
      have C0 := Lib.hid c0
      have HG1 := Lib.hid hg1
      go_wp2_with fail
      refine (HW.out _).mono ?_
      rintro e w2 ⟨rfl, b2⟩
      have HB2 := Lib.hid (below_then HB1.out b2)
      have d0 : w2.cell? ⟨g1, 0, none⟩ = some (.string sa) := (b2.cell HG1.out).trans C0.out
      clear b2 c0 c1 hg1
      go_wp2_with fail
      refine (HS2.out _).mono ?_
      rintro e w3 ⟨v2, rfl, ho2, b3⟩
      have HB3 := Lib.hid (below_then HB2.out b3)
      clear b3 d0
      obtain ⟨cap2, g2, rfl, _, _, _⟩ := Row.of_own ho2 hpos
      have hdd : ((D.length : Int) == 2) = false := by simpa using fun h : (D.length : Int) = 2 => hd (by omega)
      clear ho2
      generalize isWord sb = kw at *
      cases kw
      all_goals
        go_wp2
        go_ret3
        exact ⟨by rw [R.out]; rfl, HB3.out⟩
    obtain ⟨d, f, hD⟩ := two_of (Decidable.not_not.1 hd)
    obtain ⟨hsl, hd46, _⟩ := two_split (b := 46) hD
    have eC := cutA_at hsl hd46
    have eD := cutB_at hsl hd46
    have EC := Lib.hid eC
    have ED := Lib.hid eD
    have HD := Lib.hid hD
    clear hsl hd46 hd eC eD hD
    cases hk : isWord (cutB s 32) with
    | false =>
      have R := Lib.hid (pq_word hk)
      rw [hk] at HW
      clear HQ hk
      try clear hext
      clear hneg
      generalize pqU s = us at *
      generalize cutB s 32 = sb at *
      generalize cutA s 32 = sa at *
      go_enter Tryd.func28, Tryd.ntmps28
      go_wp2_with fail
      refine (HS1.out _).mono ?_
      rintro e w1 ⟨v1, rfl, ho1, b1⟩
      have HB1 := Lib.hid b1
      clear b1
      obtain ⟨g1, cap1, rfl, hg1, c0, c1⟩ := own_two ho1 HP.out
      rw [← EA.out] at c0
      rw [← EB.out] at c1
      clear ho1
      have C0 := Lib.hid c0
      have HG1 := Lib.hid hg1
      go_wp2_with fail
      refine (HW.out _).mono ?_
      rintro e w2 ⟨rfl, b2⟩
      have HB2 := Lib.hid (below_then HB1.out b2)
      have d0 : w2.cell? ⟨g1, 0, none⟩ = some (.string sa) := (b2.cell HG1.out).trans C0.out
      clear b2 c0 c1 hg1
      go_wp2_with fail
      refine (HS2.out _).mono ?_
      rintro e w3 ⟨v2, rfl, ho2, b3⟩
      have HB3 := Lib.hid (below_then HB2.out b3)
      clear b3 d0
      obtain ⟨g2, cap2, rfl, hg2, c2, c3⟩ := own_two ho2 HD.out
      clear ho2
      go_wp2
      go_ret3
      exact ⟨by rw [R.out]; rfl, HB3.out⟩
    | true =>
      rw [hk] at HW
      have z5 := cutA_size (negS (cutA s 32)) 46
      have z6 := cutB_size (negS (cutA s 32)) 46
      have HR1 := Lib.hid (fun W => read_any (cutA (negS (cutA s 32)) 46) W (by omega))
      have HR2 := Lib.hid (fun W => read_any (cutB (negS (cutA s 32)) 46) W (by omega))
      have q1 := pN_bd (cutA (negS (cutA s 32)) 46)
      have q2 := pN_bd (cutB (negS (cutA s 32)) 46)
      have HK1 := Lib.hid (pq_k1 (s := s))
      have HK2 := Lib.hid (pq_k2 (s := s))
      have HX := Lib.hid (fun h1 h2 => pq_z (s := s) (z := (-(10 * pN (cutA (negS (cutA s 32)) 46) + pN (cutB (negS (cutA s 32)) 46)))) h1 h2 (by unfold tnZ; rw [hneg]; simp))
      have HY := Lib.hid (fun h1 h2 hx hq ht => pq_yes (s := s) (z := (-(10 * pN (cutA (negS (cutA s 32)) 46) + pN (cutB (negS (cutA s 32)) 46)))) hk h1 h2 hx hq ht)
      have HNQ := Lib.hid (fun hx hq => pq_q (s := s) (z := (-(10 * pN (cutA (negS (cutA s 32)) 46) + pN (cutB (negS (cutA s 32)) 46)))) hx hq)
      have HNT := Lib.hid (fun hx ht => pq_t (s := s) (z := (-(10 * pN (cutA (negS (cutA s 32)) 46) + pN (cutB (negS (cutA s 32)) 46)))) hx ht)
      clear hk
      try clear hext
      clear hneg
      generalize pqU s = us at *
      generalize cutB s 32 = sb at *
      generalize cutA s 32 = sa at *
      go_enter Tryd.func28, Tryd.ntmps28
      go_wp2_with fail
      refine (HS1.out _).mono ?_
      rintro e w1 ⟨v1, rfl, ho1, b1⟩
      have HB1 := Lib.hid b1
      clear b1
      obtain ⟨g1, cap1, rfl, hg1, c0, c1⟩ := own_two ho1 HP.out
      rw [← EA.out] at c0
      rw [← EB.out] at c1
      clear ho1
      have C0 := Lib.hid c0
      have HG1 := Lib.hid hg1
      go_wp2_with fail
      refine (HW.out _).mono ?_
      rintro e w2 ⟨rfl, b2⟩
      have HB2 := Lib.hid (below_then HB1.out b2)
      have d0 : w2.cell? ⟨g1, 0, none⟩ = some (.string sa) := (b2.cell HG1.out).trans C0.out
      clear b2 c0 c1 hg1
      go_wp2_with fail
      refine (HS2.out _).mono ?_
      rintro e w3 ⟨v2, rfl, ho2, b3⟩
      have HB3 := Lib.hid (below_then HB2.out b3)
      clear b3 d0
      obtain ⟨g2, cap2, rfl, hg2, c2, c3⟩ := own_two ho2 HD.out
      clear ho2
      rw [← EC.out] at c2
      rw [← ED.out] at c3
      have C3 := Lib.hid c3
      have HG2 := Lib.hid hg2
      generalize pN (cutA (negS sa) 46) = n1 at *
      generalize pN (cutB (negS sa) 46) = n2 at *
      generalize pB (cutA (negS sa) 46) = k1 at *
      generalize pB (cutB (negS sa) 46) = k2 at *
      go_wp2_with fail
      refine (HR1.out _).mono ?_
      rintro e w4 ⟨rfl, dr4⟩
      have e3 : w4.cell? ⟨g2, 1, none⟩ = some (.string (cutB (negS sa) 46)) := ((dr4.below _).cell HG2.out).trans C3.out
      have HB4 := Lib.hid (HB3.out.trans (dr4.below _))
      clear dr4 c2 c3 hg2
      go_wp2_with fail
      refine (HR2.out _).mono ?_
      rintro e w5 ⟨rfl, dr5⟩
      have HB5 := Lib.hid (HB4.out.trans (dr5.below _))
      clear dr5 e3
      go_wp2_with fail
      refine (HQ.out _ _).mono ?_
      rintro e w6 ⟨rfl, b6⟩
      have HB6 := Lib.hid (below_then HB5.out b6)
      clear b6
      clear HR1 HR2 HQ
      generalize (-(10 * n1 + n2)) = z at *
      cases hq : qtB z us with
      | false =>
        rw [qtT_no hq]
        have R := Lib.hid (show pqV s = pqNo by
          cases k1
          · exact HK1.out rfl
          · cases k2
            · exact HK2.out rfl
            · exact HNQ.out (HX.out rfl rfl) hq)
        clear HK1 HK2 HX HY HNQ HNT hq
        cases k1 <;> cases k2
        all_goals
          go_wp2
          go_ret3
          exact ⟨by rw [R.out]; rfl, HB6.out⟩
      | true =>
        rw [qtT_yes hq]
        by_cases ht : qS z us = s
        · rw [ht]
          have heq : (s.toList == s.toList) = true := by simp
          have R := Lib.hid (show pqV s = if (k1 && k2) = true then .tuple #[.int .i64 z, .int .i64 us, .bool true] else pqNo by
            cases k1
            · exact HK1.out rfl
            · cases k2
              · exact HK2.out rfl
              · exact HY.out rfl rfl (HX.out rfl rfl) hq ht)
          clear HK1 HK2 HX HY HNQ HNT hq ht
          cases k1 <;> cases k2
          all_goals
            go_wp2
            go_ret3
            exact ⟨by rw [R.out]; rfl, HB6.out⟩
        · have heq : ((qS z us).toList == s.toList) = false := by
            rw [beq_eq_false_iff_ne, Lib.toList_data, Lib.toList_data]
            exact fun e => ht (ByteArray.ext (Array.ext' e))
          have R := Lib.hid (show pqV s = pqNo by
            cases k1
            · exact HK1.out rfl
            · cases k2
              · exact HK2.out rfl
              · exact HNT.out (HX.out rfl rfl) ht)
          clear HK1 HK2 HX HY HNQ HNT hq ht
          generalize qS z us = qs at *
          cases k1 <;> cases k2
          all_goals
            go_wp2
            go_ret3
            exact ⟨by rw [R.out]; rfl, HB6.out⟩
  | false =>
    obtain ⟨hns, hA⟩ := pos_form hneg
    have HS2 := Lib.hid (show ∀ W, Calls Tryd.prog 81 #[.string (cutA s 32), .int .u8 46] W (SplitPost (splitL (negS (cutA s 32)).data.toList 46) W) from fun W => by rw [hns]; exact split_any _ 46 W (by omega))
    have HNS := Lib.hid hns
    clear hns
    rcases hA with hA0 | ⟨hA0, hA45⟩
    · by_cases hd : (splitL (negS (cutA s 32)).data.toList 46).length ≠ 2
      · have R := Lib.hid (pq_digits hd)
        have hpos := splitL_pos (negS (cutA s 32)).data.toList 46
        clear HQ
        try clear hext
        clear hneg
        generalize splitL (negS (cutA s 32)).data.toList 46 = D at *
        generalize pqU s = us at *
        generalize cutB s 32 = sb at *
        generalize cutA s 32 = sa at *
        go_enter Tryd.func28, Tryd.ntmps28
        go_wp2_with fail
        refine (HS1.out _).mono ?_
        rintro e w1 ⟨v1, rfl, ho1, b1⟩
        have HB1 := Lib.hid b1
        clear b1
        obtain ⟨g1, cap1, rfl, hg1, c0, c1⟩ := own_two ho1 HP.out
        rw [← EA.out] at c0
        rw [← EB.out] at c1
        clear ho1
        have C0 := Lib.hid c0
        have HG1 := Lib.hid hg1
        go_wp2_with fail
        refine (HW.out _).mono ?_
        rintro e w2 ⟨rfl, b2⟩
        have HB2 := Lib.hid (below_then HB1.out b2)
        have d0 : w2.cell? ⟨g1, 0, none⟩ = some (.string sa) := (b2.cell HG1.out).trans C0.out
        clear b2 c0 c1 hg1
        go_wp2_with fail
        refine (HS2.out _).mono ?_
        rintro e w3 ⟨v2, rfl, ho2, b3⟩
        have HB3 := Lib.hid (below_then HB2.out b3)
        clear b3 d0
        obtain ⟨cap2, g2, rfl, _, _, _⟩ := Row.of_own ho2 hpos
        have hdd : ((D.length : Int) == 2) = false := by simpa using fun h : (D.length : Int) = 2 => hd (by omega)
        clear ho2
        generalize isWord sb = kw at *
        cases kw
        all_goals
          go_wp2
          go_ret3
          exact ⟨by rw [R.out]; rfl, HB3.out⟩
      obtain ⟨d, f, hD⟩ := two_of (Decidable.not_not.1 hd)
      obtain ⟨hsl, hd46, _⟩ := two_split (b := 46) hD
      have eC := cutA_at hsl hd46
      have eD := cutB_at hsl hd46
      have EC := Lib.hid eC
      have ED := Lib.hid eD
      have HD := Lib.hid hD
      clear hsl hd46 hd eC eD hD
      cases hk : isWord (cutB s 32) with
      | false =>
        have R := Lib.hid (pq_word hk)
        rw [hk] at HW
        clear HQ hk
        try clear hext
        clear hneg
        generalize pqU s = us at *
        generalize cutB s 32 = sb at *
        generalize cutA s 32 = sa at *
        go_enter Tryd.func28, Tryd.ntmps28
        go_wp2_with fail
        refine (HS1.out _).mono ?_
        rintro e w1 ⟨v1, rfl, ho1, b1⟩
        have HB1 := Lib.hid b1
        clear b1
        obtain ⟨g1, cap1, rfl, hg1, c0, c1⟩ := own_two ho1 HP.out
        rw [← EA.out] at c0
        rw [← EB.out] at c1
        clear ho1
        have C0 := Lib.hid c0
        have HG1 := Lib.hid hg1
        go_wp2_with fail
        refine (HW.out _).mono ?_
        rintro e w2 ⟨rfl, b2⟩
        have HB2 := Lib.hid (below_then HB1.out b2)
        have d0 : w2.cell? ⟨g1, 0, none⟩ = some (.string sa) := (b2.cell HG1.out).trans C0.out
        clear b2 c0 c1 hg1
        go_wp2_with fail
        refine (HS2.out _).mono ?_
        rintro e w3 ⟨v2, rfl, ho2, b3⟩
        have HB3 := Lib.hid (below_then HB2.out b3)
        clear b3 d0
        obtain ⟨g2, cap2, rfl, hg2, c2, c3⟩ := own_two ho2 HD.out
        clear ho2
        go_wp2
        go_ret3
        exact ⟨by rw [R.out]; rfl, HB3.out⟩
      | true =>
        rw [hk] at HW
        have z5 := cutA_size (negS (cutA s 32)) 46
        have z6 := cutB_size (negS (cutA s 32)) 46
        have HR1 := Lib.hid (fun W => read_any (cutA (negS (cutA s 32)) 46) W (by omega))
        have HR2 := Lib.hid (fun W => read_any (cutB (negS (cutA s 32)) 46) W (by omega))
        have q1 := pN_bd (cutA (negS (cutA s 32)) 46)
        have q2 := pN_bd (cutB (negS (cutA s 32)) 46)
        have HK1 := Lib.hid (pq_k1 (s := s))
        have HK2 := Lib.hid (pq_k2 (s := s))
        have HX := Lib.hid (fun h1 h2 => pq_z (s := s) (z := (10 * pN (cutA (negS (cutA s 32)) 46) + pN (cutB (negS (cutA s 32)) 46))) h1 h2 (by unfold tnZ; rw [hneg]; simp))
        have HY := Lib.hid (fun h1 h2 hx hq ht => pq_yes (s := s) (z := (10 * pN (cutA (negS (cutA s 32)) 46) + pN (cutB (negS (cutA s 32)) 46))) hk h1 h2 hx hq ht)
        have HNQ := Lib.hid (fun hx hq => pq_q (s := s) (z := (10 * pN (cutA (negS (cutA s 32)) 46) + pN (cutB (negS (cutA s 32)) 46))) hx hq)
        have HNT := Lib.hid (fun hx ht => pq_t (s := s) (z := (10 * pN (cutA (negS (cutA s 32)) 46) + pN (cutB (negS (cutA s 32)) 46))) hx ht)
        clear hk
        try clear hext
        clear hneg
        generalize pqU s = us at *
        generalize cutB s 32 = sb at *
        generalize cutA s 32 = sa at *
        go_enter Tryd.func28, Tryd.ntmps28
        go_wp2_with fail
        refine (HS1.out _).mono ?_
        rintro e w1 ⟨v1, rfl, ho1, b1⟩
        have HB1 := Lib.hid b1
        clear b1
        obtain ⟨g1, cap1, rfl, hg1, c0, c1⟩ := own_two ho1 HP.out
        rw [← EA.out] at c0
        rw [← EB.out] at c1
        clear ho1
        have C0 := Lib.hid c0
        have HG1 := Lib.hid hg1
        go_wp2_with fail
        refine (HW.out _).mono ?_
        rintro e w2 ⟨rfl, b2⟩
        have HB2 := Lib.hid (below_then HB1.out b2)
        have d0 : w2.cell? ⟨g1, 0, none⟩ = some (.string sa) := (b2.cell HG1.out).trans C0.out
        clear b2 c0 c1 hg1
        go_wp2_with fail
        refine (HS2.out _).mono ?_
        rintro e w3 ⟨v2, rfl, ho2, b3⟩
        have HB3 := Lib.hid (below_then HB2.out b3)
        clear b3 d0
        obtain ⟨g2, cap2, rfl, hg2, c2, c3⟩ := own_two ho2 HD.out
        clear ho2
        rw [← EC.out] at c2
        rw [← ED.out] at c3
        have C3 := Lib.hid c3
        have HG2 := Lib.hid hg2
        generalize pN (cutA (negS sa) 46) = n1 at *
        generalize pN (cutB (negS sa) 46) = n2 at *
        generalize pB (cutA (negS sa) 46) = k1 at *
        generalize pB (cutB (negS sa) 46) = k2 at *
        go_wp2_with fail
        refine (HR1.out _).mono ?_
        rintro e w4 ⟨rfl, dr4⟩
        have e3 : w4.cell? ⟨g2, 1, none⟩ = some (.string (cutB (negS sa) 46)) := ((dr4.below _).cell HG2.out).trans C3.out
        have HB4 := Lib.hid (HB3.out.trans (dr4.below _))
        clear dr4 c2 c3 hg2
        go_wp2_with fail
        refine (HR2.out _).mono ?_
        rintro e w5 ⟨rfl, dr5⟩
        have HB5 := Lib.hid (HB4.out.trans (dr5.below _))
        clear dr5 e3
        go_wp2_with fail
        refine (HQ.out _ _).mono ?_
        rintro e w6 ⟨rfl, b6⟩
        have HB6 := Lib.hid (below_then HB5.out b6)
        clear b6
        clear HR1 HR2 HQ
        generalize (10 * n1 + n2) = z at *
        cases hq : qtB z us with
        | false =>
          rw [qtT_no hq]
          have R := Lib.hid (show pqV s = pqNo by
            cases k1
            · exact HK1.out rfl
            · cases k2
              · exact HK2.out rfl
              · exact HNQ.out (HX.out rfl rfl) hq)
          clear HK1 HK2 HX HY HNQ HNT hq
          cases k1 <;> cases k2
          all_goals
            go_wp2
            go_ret3
            exact ⟨by rw [R.out]; rfl, HB6.out⟩
        | true =>
          rw [qtT_yes hq]
          by_cases ht : qS z us = s
          · rw [ht]
            have heq : (s.toList == s.toList) = true := by simp
            have R := Lib.hid (show pqV s = if (k1 && k2) = true then .tuple #[.int .i64 z, .int .i64 us, .bool true] else pqNo by
              cases k1
              · exact HK1.out rfl
              · cases k2
                · exact HK2.out rfl
                · exact HY.out rfl rfl (HX.out rfl rfl) hq ht)
            clear HK1 HK2 HX HY HNQ HNT hq ht
            cases k1 <;> cases k2
            all_goals
              go_wp2
              go_ret3
              exact ⟨by rw [R.out]; rfl, HB6.out⟩
          · have heq : ((qS z us).toList == s.toList) = false := by
              rw [beq_eq_false_iff_ne, Lib.toList_data, Lib.toList_data]
              exact fun e => ht (ByteArray.ext (Array.ext' e))
            have R := Lib.hid (show pqV s = pqNo by
              cases k1
              · exact HK1.out rfl
              · cases k2
                · exact HK2.out rfl
                · exact HNT.out (HX.out rfl rfl) ht)
            clear HK1 HK2 HX HY HNQ HNT hq ht
            generalize qS z us = qs at *
            cases k1 <;> cases k2
            all_goals
              go_wp2
              go_ret3
              exact ⟨by rw [R.out]; rfl, HB6.out⟩
    · by_cases hd : (splitL (negS (cutA s 32)).data.toList 46).length ≠ 2
      · have R := Lib.hid (pq_digits hd)
        have hpos := splitL_pos (negS (cutA s 32)).data.toList 46
        clear HQ
        try clear hext
        clear hneg
        generalize splitL (negS (cutA s 32)).data.toList 46 = D at *
        generalize pqU s = us at *
        generalize cutB s 32 = sb at *
        generalize cutA s 32 = sa at *
        go_enter Tryd.func28, Tryd.ntmps28
        go_wp2_with fail
        refine (HS1.out _).mono ?_
        rintro e w1 ⟨v1, rfl, ho1, b1⟩
        have HB1 := Lib.hid b1
        clear b1
        obtain ⟨g1, cap1, rfl, hg1, c0, c1⟩ := own_two ho1 HP.out
        rw [← EA.out] at c0
        rw [← EB.out] at c1
        clear ho1
        have C0 := Lib.hid c0
        have HG1 := Lib.hid hg1
        go_wp2_with fail
        refine (HW.out _).mono ?_
        rintro e w2 ⟨rfl, b2⟩
        have HB2 := Lib.hid (below_then HB1.out b2)
        have d0 : w2.cell? ⟨g1, 0, none⟩ = some (.string sa) := (b2.cell HG1.out).trans C0.out
        clear b2 c0 c1 hg1
        go_wp2_with fail
        refine (HS2.out _).mono ?_
        rintro e w3 ⟨v2, rfl, ho2, b3⟩
        have HB3 := Lib.hid (below_then HB2.out b3)
        clear b3 d0
        obtain ⟨cap2, g2, rfl, _, _, _⟩ := Row.of_own ho2 hpos
        have hdd : ((D.length : Int) == 2) = false := by simpa using fun h : (D.length : Int) = 2 => hd (by omega)
        clear ho2
        generalize isWord sb = kw at *
        cases kw
        all_goals
          go_wp2
          go_ret3
          exact ⟨by rw [R.out]; rfl, HB3.out⟩
      obtain ⟨d, f, hD⟩ := two_of (Decidable.not_not.1 hd)
      obtain ⟨hsl, hd46, _⟩ := two_split (b := 46) hD
      have eC := cutA_at hsl hd46
      have eD := cutB_at hsl hd46
      have EC := Lib.hid eC
      have ED := Lib.hid eD
      have HD := Lib.hid hD
      clear hsl hd46 hd eC eD hD
      cases hk : isWord (cutB s 32) with
      | false =>
        have R := Lib.hid (pq_word hk)
        rw [hk] at HW
        clear HQ hk
        try clear hext
        clear hneg
        generalize pqU s = us at *
        generalize cutB s 32 = sb at *
        generalize cutA s 32 = sa at *
        go_enter Tryd.func28, Tryd.ntmps28
        go_wp2_with fail
        refine (HS1.out _).mono ?_
        rintro e w1 ⟨v1, rfl, ho1, b1⟩
        have HB1 := Lib.hid b1
        clear b1
        obtain ⟨g1, cap1, rfl, hg1, c0, c1⟩ := own_two ho1 HP.out
        rw [← EA.out] at c0
        rw [← EB.out] at c1
        clear ho1
        have C0 := Lib.hid c0
        have HG1 := Lib.hid hg1
        go_wp2_with fail
        refine (HW.out _).mono ?_
        rintro e w2 ⟨rfl, b2⟩
        have HB2 := Lib.hid (below_then HB1.out b2)
        have d0 : w2.cell? ⟨g1, 0, none⟩ = some (.string sa) := (b2.cell HG1.out).trans C0.out
        clear b2 c0 c1 hg1
        go_wp2_with fail
        refine (HS2.out _).mono ?_
        rintro e w3 ⟨v2, rfl, ho2, b3⟩
        have HB3 := Lib.hid (below_then HB2.out b3)
        clear b3 d0
        obtain ⟨g2, cap2, rfl, hg2, c2, c3⟩ := own_two ho2 HD.out
        clear ho2
        go_wp2
        go_ret3
        exact ⟨by rw [R.out]; rfl, HB3.out⟩
      | true =>
        rw [hk] at HW
        have z5 := cutA_size (negS (cutA s 32)) 46
        have z6 := cutB_size (negS (cutA s 32)) 46
        have HR1 := Lib.hid (fun W => read_any (cutA (negS (cutA s 32)) 46) W (by omega))
        have HR2 := Lib.hid (fun W => read_any (cutB (negS (cutA s 32)) 46) W (by omega))
        have q1 := pN_bd (cutA (negS (cutA s 32)) 46)
        have q2 := pN_bd (cutB (negS (cutA s 32)) 46)
        have HK1 := Lib.hid (pq_k1 (s := s))
        have HK2 := Lib.hid (pq_k2 (s := s))
        have HX := Lib.hid (fun h1 h2 => pq_z (s := s) (z := (10 * pN (cutA (negS (cutA s 32)) 46) + pN (cutB (negS (cutA s 32)) 46))) h1 h2 (by unfold tnZ; rw [hneg]; simp))
        have HY := Lib.hid (fun h1 h2 hx hq ht => pq_yes (s := s) (z := (10 * pN (cutA (negS (cutA s 32)) 46) + pN (cutB (negS (cutA s 32)) 46))) hk h1 h2 hx hq ht)
        have HNQ := Lib.hid (fun hx hq => pq_q (s := s) (z := (10 * pN (cutA (negS (cutA s 32)) 46) + pN (cutB (negS (cutA s 32)) 46))) hx hq)
        have HNT := Lib.hid (fun hx ht => pq_t (s := s) (z := (10 * pN (cutA (negS (cutA s 32)) 46) + pN (cutB (negS (cutA s 32)) 46))) hx ht)
        clear hk
        try clear hext
        clear hneg
        generalize pqU s = us at *
        generalize cutB s 32 = sb at *
        generalize cutA s 32 = sa at *
        go_enter Tryd.func28, Tryd.ntmps28
        go_wp2_with fail
        refine (HS1.out _).mono ?_
        rintro e w1 ⟨v1, rfl, ho1, b1⟩
        have HB1 := Lib.hid b1
        clear b1
        obtain ⟨g1, cap1, rfl, hg1, c0, c1⟩ := own_two ho1 HP.out
        rw [← EA.out] at c0
        rw [← EB.out] at c1
        clear ho1
        have C0 := Lib.hid c0
        have HG1 := Lib.hid hg1
        go_wp2_with fail
        refine (HW.out _).mono ?_
        rintro e w2 ⟨rfl, b2⟩
        have HB2 := Lib.hid (below_then HB1.out b2)
        have d0 : w2.cell? ⟨g1, 0, none⟩ = some (.string sa) := (b2.cell HG1.out).trans C0.out
        clear b2 c0 c1 hg1
        go_wp2_with fail
        refine (HS2.out _).mono ?_
        rintro e w3 ⟨v2, rfl, ho2, b3⟩
        have HB3 := Lib.hid (below_then HB2.out b3)
        clear b3 d0
        obtain ⟨g2, cap2, rfl, hg2, c2, c3⟩ := own_two ho2 HD.out
        clear ho2
        rw [← EC.out] at c2
        rw [← ED.out] at c3
        have C3 := Lib.hid c3
        have HG2 := Lib.hid hg2
        generalize pN (cutA (negS sa) 46) = n1 at *
        generalize pN (cutB (negS sa) 46) = n2 at *
        generalize pB (cutA (negS sa) 46) = k1 at *
        generalize pB (cutB (negS sa) 46) = k2 at *
        go_wp2_with fail
        refine (HR1.out _).mono ?_
        rintro e w4 ⟨rfl, dr4⟩
        have e3 : w4.cell? ⟨g2, 1, none⟩ = some (.string (cutB (negS sa) 46)) := ((dr4.below _).cell HG2.out).trans C3.out
        have HB4 := Lib.hid (HB3.out.trans (dr4.below _))
        clear dr4 c2 c3 hg2
        go_wp2_with fail
        refine (HR2.out _).mono ?_
        rintro e w5 ⟨rfl, dr5⟩
        have HB5 := Lib.hid (HB4.out.trans (dr5.below _))
        clear dr5 e3
        go_wp2_with fail
        refine (HQ.out _ _).mono ?_
        rintro e w6 ⟨rfl, b6⟩
        have HB6 := Lib.hid (below_then HB5.out b6)
        clear b6
        clear HR1 HR2 HQ
        generalize (10 * n1 + n2) = z at *
        cases hq : qtB z us with
        | false =>
          rw [qtT_no hq]
          have R := Lib.hid (show pqV s = pqNo by
            cases k1
            · exact HK1.out rfl
            · cases k2
              · exact HK2.out rfl
              · exact HNQ.out (HX.out rfl rfl) hq)
          clear HK1 HK2 HX HY HNQ HNT hq
          cases k1 <;> cases k2
          all_goals
            go_wp2
            go_ret3
            exact ⟨by rw [R.out]; rfl, HB6.out⟩
        | true =>
          rw [qtT_yes hq]
          by_cases ht : qS z us = s
          · rw [ht]
            have heq : (s.toList == s.toList) = true := by simp
            have R := Lib.hid (show pqV s = if (k1 && k2) = true then .tuple #[.int .i64 z, .int .i64 us, .bool true] else pqNo by
              cases k1
              · exact HK1.out rfl
              · cases k2
                · exact HK2.out rfl
                · exact HY.out rfl rfl (HX.out rfl rfl) hq ht)
            clear HK1 HK2 HX HY HNQ HNT hq ht
            cases k1 <;> cases k2
            all_goals
              go_wp2
              go_ret3
              exact ⟨by rw [R.out]; rfl, HB6.out⟩
          · have heq : ((qS z us).toList == s.toList) = false := by
              rw [beq_eq_false_iff_ne, Lib.toList_data, Lib.toList_data]
              exact fun e => ht (ByteArray.ext (Array.ext' e))
            have R := Lib.hid (show pqV s = pqNo by
              cases k1
              · exact HK1.out rfl
              · cases k2
                · exact HK2.out rfl
                · exact HNT.out (HX.out rfl rfl) ht)
            clear HK1 HK2 HX HY HNQ HNT hq ht
            generalize qS z us = qs at *
            cases k1 <;> cases k2
            all_goals
              go_wp2
              go_ret3
              exact ⟨by rw [R.out]; rfl, HB6.out⟩
end Go.Proofs.YtnomcnlmlignbaaDoor
