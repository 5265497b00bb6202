/- GrowRegion of the model; l1Has, l8Beside. -/
import Derived.Test.YtgfgimpglaepaaaRgnVal
import Derived.Test.YtgfgimpglaepaaaSvRet
namespace Go.Proofs.Ytgfgimpglaepaaa
open Go.RowKit
set_option linter.unusedVariables false
set_option linter.unusedSimpArgs false
theorem mem_take {l : List Int} {k : Nat} {n : Int} (h : k < l.length) : (n ∈ l.take (k + 1)) ↔ (n ∈ l.take k ∨ n = l[k]) := by
  rw [List.take_succ_eq_append_getElem h, List.mem_append, List.mem_singleton]
set_option maxHeartbeats 1000000 in
theorem has_is (a : Option Addr) (l : List Int) (c B : Nat) (n : Int) (v : Bool) (w : World) (hl : Ints .i64 w B a l) (hn : l.length ≤ 1048576) (h : decide (n ∈ l) = v) :
    Calls Try.prog 65 #[.slice a l.length c, .int .i64 n] w fun e w' => e = .returned (.bool v) ∧ w = w' := by
  have HL := Lib.hid hl
  have HV := Lib.hid h
  clear hl h
  go_enter Try.func65, Try.ntmps65
  go_wp2
  go_loop [5] (fun i => ∃ k : Nat, k ≤ l.length ∧ i = .int .i64 k ∧ ¬ n ∈ l.take k) (fun i => l.length - (intOf i).toNat)
  case atStart => exact ⟨0, Nat.zero_le _, rfl, by simp⟩
  case round =>
    obtain ⟨k, hk, rfl, hno⟩ := hrel
    have HN := Lib.hid hno
    clear hno
    by_cases hlt : k < l.length
    · obtain ⟨b, o, rfl, hb, hc⟩ := HL.out.at_ hlt
      have hi : (k : Int) < (l.length : Int) := by omega
      have hi0 : (0 : Int) ≤ (k : Int) := by omega
      have HM := Lib.hid (mem_take (n := n) hlt)
      have HIN := Lib.hid (fun (e : l[k] = n) => (show n ∈ l from e ▸ List.getElem_mem hlt))
      obtain ⟨x, hx⟩ : ∃ x, l[k] = x := ⟨_, rfl⟩
      rw [hx] at hc HM HIN
      clear hx
      by_cases he : x = n
      · obtain rfl : v = true := by rw [← HV.out]; exact decide_eq_true (HIN.out he)
        subst he
        have e1 : (x == x) = true := by simp
        clear HM HIN HN HV
        go_wp2
        go_ret
        exact ⟨rfl, rfl⟩
      · have e1 : (x == n) = false := by rw [beq_eq_false_iff_ne]; exact he
        have HE := Lib.hid he
        clear he
        go_wp2
        go_round
        case rel => exact ⟨k + 1, by omega, by go_num, fun h => by rcases HM.out.1 h with h | h; exact HN.out h; exact HE.out h.symm⟩
        case measure => simp [intOf]; omega
    · obtain rfl : v = false := by
        rw [← HV.out]
        have := HN.out
        rw [List.take_of_length_le (by omega)] at this
        exact decide_eq_false this
      go_wp2
      go_ret
      exact ⟨rfl, rfl⟩
theorem sq_bd (x : Int) (h : -64 ≤ x ∧ x ≤ 64) : 0 ≤ x * x ∧ x * x ≤ 4096 := by
  rcases Int.lt_or_le x 0 with h1 | h1
  · have h2 := Int.mul_nonneg (a := -x) (b := -x) (by omega) (by omega)
    have h3 := Int.mul_le_mul (a := -x) (b := -x) (c := 64) (d := 64) (by omega) (by omega) (by omega) (by omega)
    rw [Int.neg_mul_neg] at h2 h3; omega
  · have h2 := Int.mul_nonneg h1 h1
    have h3 := Int.mul_le_mul (a := x) (b := x) (c := 64) (d := 64) (by omega) (by omega) (by omega) (by omega)
    omega
theorem beq_eq_decide (a b : Int) : (a == b) = decide (a = b) := by
  by_cases h : a = b
  · subst h; simp
  · rw [beq_eq_false_iff_ne.2 h, decide_eq_false h]
set_option maxHeartbeats 1000000 in
theorem beside_is (wd a b : Int) (v : Bool) (w : World) (h1 : 1 ≤ wd) (h2 : wd ≤ 8) (ha : 0 ≤ a ∧ a ≤ 64) (hb : 0 ≤ b ∧ b ≤ 64) (h : besB wd a b = v) :
    Calls Try.prog 66 #[.int .i64 wd, .int .i64 a, .int .i64 b] w (Quiet (.bool v) w) := by
  have hne : ¬ wd = 0 := by omega
  have HV := Lib.hid h
  have a1 := Int.emod_nonneg a (b := wd) (by omega)
  have a2 := Int.emod_lt_of_pos a (b := wd) (by omega)
  have a3 := Int.ediv_nonneg (a := a) (b := wd) (by omega) (by omega)
  have a4 := Int.ediv_le_self (a := a) wd (by omega)
  have b1 := Int.emod_nonneg b (b := wd) (by omega)
  have b2 := Int.emod_lt_of_pos b (b := wd) (by omega)
  have b3 := Int.ediv_nonneg (a := b) (b := wd) (by omega) (by omega)
  have b4 := Int.ediv_le_self (a := b) wd (by omega)
  unfold besB at HV
  clear h
  go_enter Try.func66, Try.ntmps66
  go_wp2
  go_quiet (fail)
  go_wp2
  go_ret
  refine ⟨?_, ⟨_, rfl⟩⟩
  rw [← HV.out]
  obtain ⟨X, hX⟩ : ∃ X, a % wd - b % wd = X := ⟨_, rfl⟩
  obtain ⟨Y, hY⟩ : ∃ Y, a / wd - b / wd = Y := ⟨_, rfl⟩
  rw [hX, hY]
  have x1 := sq_bd X (by omega)
  have x2 := sq_bd Y (by omega)
  rw [IntWalk.wrap64_in (X * X) (by omega), IntWalk.wrap64_in (Y * Y) (by omega), IntWalk.wrap64_in (X * X + Y * Y) (by omega)]
  rw [beq_eq_decide]
  rfl
/-- whether a cell belongs to the grown region, asked at the first m cells -/
def nearS (wd : Int) (l : List Int) (i : Int) (m : Nat) : Bool := decide (i ∈ l) || (l.take m).any fun k => besB wd i k
theorem nearS_zero (wd : Int) (l : List Int) (i : Int) : nearS wd l i 0 = decide (i ∈ l) := by simp [nearS]
theorem nearS_all (wd : Int) (l : List Int) (i : Int) : nearS wd l i l.length = nearB wd l i := by simp [nearS, nearB]
theorem nearS_step (wd : Int) (l : List Int) (i : Int) (m : Nat) (h : m < l.length) : nearS wd l i (m + 1) = (nearS wd l i m || besB wd i l[m]) := by
  unfold nearS; rw [List.take_succ_eq_append_getElem h, List.any_append, Bool.or_assoc]; simp
set_option maxRecDepth 100000 in
set_option maxHeartbeats 4000000 in
theorem specGrow_any (wd hg : Int) (a : Option Addr) (l : List Int) (c : Nat) (w : World) (hl : Ints .i64 w w.heap.size a l) (hn : l.length ≤ 1048576) :
    Calls Try.prog 21 #[.int .i64 wd, .int .i64 hg, .slice a l.length c] w (SvRet (growR wd hg l) (regB wd hg l) w) := by
  obtain ⟨i0, hi0', hz0, hz1, hz2⟩ := info_parts infoInt
  have HL := Lib.hid hl
  cases hr : regB wd hg l with
  | false =>
    rw [growR_no hr]
    have C := Lib.hid (fun W h => specRegion_is wd hg a l c w.heap.size false W h hn hr)
    clear hl hr
    go_enter Try.func21, Try.ntmps21
    go_wp2_with fail
    refine (C.out _ (HL.out.below (below_all _ _) (Nat.le_refl _))).mono ?_
    rintro e w1 ⟨rfl, d1⟩
    have B1 := Lib.hid (below_then (below_all _ _) (d1.below _))
    clear d1
    go_wp2
    go_ret2
    exact ⟨_, _, rfl, OwnI.none_, B1.out⟩
  | true =>
    rw [growR_yes hr]
    have C := Lib.hid (fun W h => specRegion_is wd hg a l c w.heap.size true W h hn hr)
    have hp := prod_bd (reg_shape hr)
    have hs := shapeB_iff.1 (reg_shape hr)
    have HBD := Lib.hid (reg_bd hr)
    have hll := reg_len hr
    obtain ⟨p, hpp⟩ : ∃ p : Nat, (wd * hg).toNat = p := ⟨_, rfl⟩
    have hpi : wd * hg = (p : Int) := by omega
    rw [hpp]
    rw [hpi] at hp HBD
    have HP := Lib.hid hpi
    clear hl hr hpp
    go_enter Try.func21, Try.ntmps21
    go_wp2_with fail
    refine (C.out _ (HL.out.below (below_all _ _) (Nat.le_refl _))).mono ?_
    rintro e w1 ⟨rfl, d1⟩
    have B1 := Lib.hid (below_then (below_all _ _) (d1.below _))
    have O1 := (World.ownsRow_made (base := w.heap.size) (e := 3) (size := 1) w #[] 0 (Nat.le_refl _) (by unfold maxLen; omega) rfl)
    have O1' := Lib.hid (own_keeps O1 (d1.below _))
    clear d1 O1
    go_wp2
    go_loopw [8, 9] (fun q i wr => ∃ k : Nat, k ≤ p ∧ i = .int .i64 k ∧ wr.ownsRow w.heap.size 3 1 q (growP wd l k).length (iv (growP wd l k)) ∧ Below w.heap.size w wr ∧ w.heap.size < wr.heap.size) (fun _ i _ => p - (intOf i).toNat)
    case atStart => exact ⟨0, Nat.zero_le _, rfl, O1'.out, B1.out, by have := B1.out.size; have := (O1'.out.lt w.heap.size rfl).2; omega⟩
    case round =>
      obtain ⟨k, hk, rfl, hown, hB, hz⟩ := hrel
      have HO := Lib.hid hown
      have HB := Lib.hid hB
      clear hown hB
      have hmul := HP.out
      by_cases hlt : k < p
      · have hi : (k : Int) < (p : Int) := by omega
        have hi0 : (0 : Int) ≤ (k : Int) := by omega
        have HH := Lib.hid (fun W v h hv => has_is a l c w.heap.size (k : Int) v W h hn hv)
        have HNS := Lib.hid (nearS_step wd l (k : Int))
        have HN0 := Lib.hid (nearS_zero wd l (k : Int))
        have HNA := Lib.hid (nearS_all wd l (k : Int))
        have HGY := Lib.hid (fun h => growP_yes (wd := wd) (l := l) (k := k) h)
        have HGN := Lib.hid (fun h => growP_no (wd := wd) (l := l) (k := k) h)
        have hlen := growP_len wd l k
        have HIL := Lib.hid (fun W (h : Below w.heap.size w W) => HL.out.below h (Nat.le_refl _))
        clear hmul
        have hmul := HP.out
        go_wp2_with fail
        refine (HH.out _ _ (HIL.out _ HB.out) rfl).mono ?_
        rintro e w2 ⟨rfl, rfl⟩
        rw [← HN0.out]
        go_wp2
        go_loopw [10, 11] (fun q i w3 => ∃ m : Nat, m ≤ l.length ∧ i = .int .i64 m ∧ q = .bool (nearS wd l (k : Int) m) ∧ Drew wr w3) (fun _ i _ => l.length - (intOf i).toNat)
        case atStart => exact ⟨0, Nat.zero_le _, rfl, rfl, Drew.refl _⟩
        case round =>
          obtain ⟨m, hm, rfl, rfl, hd⟩ := hrel
          have HD := Lib.hid hd
          clear hd
          by_cases hlt2 : m < l.length
          · obtain ⟨b, o, rfl, hb, hc⟩ := (HIL.out _ (HB.out.trans (HD.out.below _))).at_ hlt2
            have hj : (m : Int) < (l.length : Int) := by omega
            have hj0 : (0 : Int) ≤ (m : Int) := by omega
            have hz := HBD.out _ (List.getElem_mem hlt2)
            have HST := Lib.hid (HNS.out m hlt2)
            obtain ⟨z, hzz⟩ : ∃ z, l[m] = z := ⟨_, rfl⟩
            rw [hzz] at hc hz HST
            clear hzz
            cases hv : nearS wd l (k : Int) m with
            | true =>
              rw [hv] at HST
              clear hv
              go_wp2
              go_roundw
              case rel => exact ⟨m + 1, by omega, by go_num, by rw [HST.out]; rfl, HD.out⟩
              case measure => simp [intOf]; omega
            | false =>
              rw [hv] at HST
              clear hv
              have HBS := Lib.hid (fun W v h => beside_is wd (k : Int) z v W (by omega) (by omega) (by omega) (by omega) h)
              go_wp2_with fail
              refine (HBS.out _ _ rfl).mono ?_
              rintro e w4 ⟨rfl, d4⟩
              have HD4 := Lib.hid (HD.out.trans d4)
              clear d4
              go_wp2
              go_roundw
              case rel => exact ⟨m + 1, by omega, by go_num, by rw [HST.out]; simp, HD4.out⟩
              case measure => simp [intOf]; omega
          · obtain rfl : m = l.length := by omega
            have HO3 := Lib.hid (own_keeps HO.out (HD.out.below _))
            have HB3 := Lib.hid (HB.out.trans (HD.out.below _))
            have hz3 : w.heap.size < wr.heap.size := by have := HD.out.size; omega
            rw [HNA.out]
            cases hv : nearB wd l (k : Int) with
            | true =>
              have HE := Lib.hid (HGY.out hv)
              clear hv
              go_wp2_with (at_builtin; refine wpList_append_own _ rfl _ _ 24 rfl w.heap.size 3 i0 (.int .i64 0) 1 8 Try.underlying24 hi0' hz0 hz1 hz2 rfl (by decide) _ (growP wd l k).length (iv (growP wd l k)) rfl (HO3.out.alloc _) ⟨wr.heap.size, 0, none⟩ 1 1 [.int .i64 (k : Int)] rfl rfl (cell_one_new _ _ _) (by simp [Value.oneCell']) (by unfold maxLen; omega) (by omega) (by have := HB3.out.size; simp; omega) ?_; intro v' w9 hown9 hgrow9 _; have HO9 := Lib.hid hown9; have HG9 := Lib.hid hgrow9; clear hown9 hgrow9)
              go_roundw
              case rel => exact ⟨k + 1, by omega, by go_num, by rw [HE.out, iv_snoc, List.length_append]; exact HO9.out, (HB3.out.alloc HB3.out.size _).grown HG9.out (by have := HB3.out.size; simp; omega) (fun j hj => (HO3.out.lt j hj).1), by have := HG9.out.size; simp at this; omega⟩
              case measure => simp [intOf]; omega
            | false =>
              have HE := Lib.hid (HGN.out hv)
              clear hv
              go_wp2
              go_roundw
              case rel => exact ⟨k + 1, by omega, by go_num, by rw [HE.out]; exact HO3.out, HB3.out, by omega⟩
              case measure => simp [intOf]; omega
      · obtain rfl : k = p := by omega
        obtain ⟨a', c', rfl, ho⟩ := ownI_of HO.out rfl
        have HOO := Lib.hid ho
        clear ho HO
        go_wp2
        go_ret2
        exact ⟨a', c', rfl, HOO.out, HB.out⟩
end Go.Proofs.Ytgfgimpglaepaaa
