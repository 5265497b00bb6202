/- LoopArea of the model. -/
import Derived.Test.YtgfgimpglaepaaaArea
namespace Go.Proofs.Ytgfgimpglaepaaa
open Go.RowKit
set_option linter.unusedVariables false
set_option linter.unusedSimpArgs false
/-- the point behind place k -/
def nxP (p : List Pt) (k : Nat) : Pt := gP p (if k + 1 = p.length then 0 else k + 1)
theorem twS_nx (p : List Pt) (k : Nat) : twS p (k + 1) = twS p k + ((gP p k).1 * (nxP p k).2 - (nxP p k).1 * (gP p k).2) := rfl
theorem stS_nx (p : List Pt) (k : Nat) : stS p k = (corB (gP p k) && diB (gP p k) (nxP p k)) := rfl
/-- the place behind place k -/
def nxI (n k : Nat) : Nat := if k + 1 = n then 0 else k + 1
theorem nxP_is (p : List Pt) (k : Nat) : nxP p k = gP p (nxI p.length k) := rfl
theorem nxI_lt {n k : Nat} (h : k < n) : nxI n k < n := by unfold nxI; split <;> omega
theorem nxI_mod {n k : Nat} (h : k < n) : ((k : Int) + 1).tmod (n : Int) = (nxI n k : Int) := by
  rw [Int.tmod_eq_emod_of_nonneg (by omega)]
  unfold nxI
  split
  · rename_i e; rw [show (k : Int) + 1 = (n : Int) by omega, Int.emod_self]; rfl
  · rw [Int.emod_eq_of_lt (by omega) (by omega)]; omega
theorem nxI_mod2 {n k : Nat} (h : k < n) : ((k : Int) + 1) % (n : Int) = (nxI n k : Int) := by
  rw [← nxI_mod h, Int.tmod_eq_emod_of_nonneg (by omega)]
set_option maxRecDepth 100000 in
set_option maxHeartbeats 4000000 in
theorem l8Area_any (a : Option Addr) (p : List Pt) (c : Nat) (w : World) (hl : Pts w w.heap.size a p) (hv : lpB p = true) :
    Calls Try.prog 77 #[.slice a p.length c] w fun e w' => e = .returned (.int .i64 ((twS p p.length).tdiv 2)) ∧ Below w.heap.size w w' := by
  have hb := (lp_iff.1 hv).1
  have HC := Lib.hid (fun k (hk : k < p.length) => corB_iff.1 (lp_cor hv hk))
  have HBD := Lib.hid (fun k hk => twS_bd hv k hk)
  have HL := Lib.hid hl
  have hpl : p.length ≤ 100 := hb.2
  clear hl hv
  go_enter Try.func77, Try.ntmps77
  go_wp2
  go_loopw [3, 4] (fun q i wr => ∃ k : Nat, k ≤ p.length ∧ i = .int .i64 k ∧ q = .int .i64 (twS p k) ∧ Below w.heap.size w wr) (fun _ i _ => p.length - (intOf i).toNat)
  case atStart => exact ⟨0, Nat.zero_le _, rfl, rfl, Below.refl _ _⟩
  case round =>
    obtain ⟨k, hk, rfl, rfl, hB⟩ := hrel
    have HB := Lib.hid hB
    have hbs := hB.size
    by_cases hlt : k < p.length
    · have hm := nxI_lt hlt
      have HP := HL.out.below hB (Nat.le_refl _)
      obtain ⟨b, o, rfl, hbl, d0, d1⟩ := HP.at_ hlt
      obtain ⟨b', o', e', _, d2, d3⟩ := HP.at_ hm
      have e2 := Option.some.inj e'
      injection e2 with e3 e4
      subst e3 e4
      have hcur := HC.out k hlt
      have hnxt := HC.out (nxI p.length k) hm
      have htw := HBD.out k hk
      have hsu := twS_nx p k
      rw [← gP_get hlt] at d0 d1
      rw [← gP_get hm] at d2 d3
      rw [nxP_is] at hsu
      have ht := nxI_mod hlt
      have ht2 := nxI_mod2 hlt
      clear e' HP hB
      obtain ⟨m, hmm⟩ : ∃ m, nxI p.length k = m := ⟨_, rfl⟩
      rw [hmm] at hm hnxt hsu d2 d3 ht ht2
      clear hmm
      generalize gP p m = D at *
      generalize gP p k = C at *
      obtain ⟨X, Y⟩ := C
      obtain ⟨X', Y'⟩ := D
      simp only at d0 d1 d2 d3 hcur hnxt hsu
      have hm1 := mul_bd hcur.1 hnxt.2
      have hm2 := mul_bd hnxt.1 hcur.2
      obtain ⟨m1, hm1'⟩ : ∃ m, X * Y' = m := ⟨_, rfl⟩
      obtain ⟨m2, hm2'⟩ : ∃ m, X' * Y = m := ⟨_, rfl⟩
      rw [hm1'] at hm1 hsu
      rw [hm2'] at hm2 hsu
      obtain ⟨t, htt⟩ : ∃ t, twS p k = t := ⟨_, rfl⟩
      rw [htt] at htw hsu ⊢
      have HSU := Lib.hid hsu
      have M1 := Lib.hid hm1'
      have M2 := Lib.hid hm2'
      clear hsu htt hm1' hm2'
      have hi : (k : Int) < (p.length : Int) := by omega
      have hi0 : (0 : Int) ≤ (k : Int) := by omega
      have hj : (m : Int) < (p.length : Int) := by omega
      have hj0 : (0 : Int) ≤ (m : Int) := by omega
      have hw1 : IntKind.i64.wrap ((k : Int) + 1) = (k : Int) + 1 := IntWalk.i64_in _ (by omega)
      have hw2 : IntKind.i64.wrap (m : Int) = (m : Int) := IntWalk.i64_in _ (by omega)
      have hp0 : ¬ p = [] := by intro e; rw [e] at hlt; simp at hlt
      have hp1 : ((p.length : Int) == 0) = false := beq_eq_false_iff_ne.2 (by omega)
      have hbw : b < wr.heap.size := by omega
      have hbn : ¬ b = wr.heap.size := by omega
      go_wp2
      go_region_held3 (fun w' => w'.cell? ⟨b, o + k * 2, none⟩ = some (.int .i64 X) ∧ w'.cell? ⟨b, o + k * 2 + 1, none⟩ = some (.int .i64 Y) ∧ w'.cell? ⟨b, o + m * 2, none⟩ = some (.int .i64 X') ∧ w'.cell? ⟨b, o + m * 2 + 1, none⟩ = some (.int .i64 Y')) (go_keep) (fail)
      all_goals
        clear hw1 hw2 ht ht2 d0 d1 d2 d3
        have q1 := M1.out
        have q2 := M2.out
        go_wp2
        go_roundw
        case rel => exact ⟨k + 1, by omega, by go_num, by rw [HSU.out]; first | go_num | (congr 1; omega), (((HB.out.alloc HB.out.size _).alloc (by simp; omega) _).drew)⟩
        case measure => simp [intOf]; omega
    · obtain rfl : k = p.length := by omega
      have htw := HBD.out p.length (Nat.le_refl _)
      obtain ⟨t, ht⟩ : ∃ t, twS p p.length = t := ⟨_, rfl⟩
      rw [ht] at htw
      have HT := Lib.hid ht
      rw [ht]
      clear ht hB
      go_wp2
      go_ret
      exact ⟨by rw [HT.out]; rfl, HB.out⟩
set_option maxRecDepth 100000 in
set_option maxHeartbeats 4000000 in
theorem specArea_any (a : Option Addr) (p : List Pt) (c : Nat) (w : World) (hl : Pts w w.heap.size a p) (hn : p.length ≤ 1048576) :
    Calls Try.prog 32 #[.slice a p.length c] w (ArPost p w) := by
  by_cases hl4 : 4 ≤ p.length ∧ p.length ≤ 100
  · have HL := Lib.hid hl
    have C := Lib.hid (fun W => l1In_is (p.length : Int) 4 100 true W (by simp; omega))
    have HNO := Lib.hid (fun k (hk : k < p.length) h W => ar_no (w := w) (w' := W) (lp_noS hk h))
    have HY := Lib.hid (fun (h : ∀ k, k < p.length → stS p k = true) => lp_iff.2 ⟨hl4, (st_all p).2 h⟩)
    clear hl
    go_enter Try.func32, Try.ntmps32
    go_wp2_with fail
    refine (C.out _).mono ?_
    rintro e w1 ⟨rfl, rfl⟩
    go_wp2
    go_loopw [5] (fun i wr => ∃ k : Nat, k ≤ p.length ∧ i = .int .i64 k ∧ Below w.heap.size w wr ∧ ∀ j, j < k → stS p j = true) (fun i _ => p.length - (intOf i).toNat)
    case atStart => exact ⟨0, Nat.zero_le _, rfl, Below.refl _ _, fun _ h => by omega⟩
    case round =>
      obtain ⟨k, hk, rfl, hB, hall⟩ := hrel
      have HB := Lib.hid hB
      have HA := Lib.hid hall
      have hbs := hB.size
      clear hall
      by_cases hlt : k < p.length
      · have hm := nxI_lt hlt
        have HP := HL.out.below hB (Nat.le_refl _)
        obtain ⟨b, o, rfl, hbl, d0, d1⟩ := HP.at_ hlt
        obtain ⟨b', o', e', _, d2, d3⟩ := HP.at_ hm
        have e2 := Option.some.inj e'
        injection e2 with e3 e4
        subst e3 e4
        have hst := stS_nx p k
        have HNK := Lib.hid (HNO.out k hlt)
        rw [← gP_get hlt] at d0 d1
        rw [← gP_get hm] at d2 d3
        rw [nxP_is] at hst
        have ht := nxI_mod hlt
        have ht2 := nxI_mod2 hlt
        clear e' HP hB
        obtain ⟨m, hmm⟩ : ∃ m, nxI p.length k = m := ⟨_, rfl⟩
        rw [hmm] at hm hst d2 d3 ht ht2
        clear hmm
        generalize gP p m = D at *
        generalize gP p k = C at *
        obtain ⟨X, Y⟩ := C
        obtain ⟨X', Y'⟩ := D
        simp only at d0 d1 d2 d3
        have HST := Lib.hid hst
        clear hst
        have hi : (k : Int) < (p.length : Int) := by omega
        have hi0 : (0 : Int) ≤ (k : Int) := by omega
        have hj : (m : Int) < (p.length : Int) := by omega
        have hj0 : (0 : Int) ≤ (m : Int) := by omega
        have hw1 : IntKind.i64.wrap ((k : Int) + 1) = (k : Int) + 1 := IntWalk.i64_in _ (by omega)
        have hw2 : IntKind.i64.wrap (m : Int) = (m : Int) := IntWalk.i64_in _ (by omega)
        have hp0 : ¬ p = [] := by intro e; rw [e] at hlt; simp at hlt
        have hp1 : ((p.length : Int) == 0) = false := beq_eq_false_iff_ne.2 (by omega)
        have hbw : b < wr.heap.size := by omega
        have hbn : ¬ b = wr.heap.size := by omega
        have HC1 := Lib.hid (fun v W h => l1In_is X 0 8 v W h)
        have HC2 := Lib.hid (fun v W h => l1In_is Y 0 8 v W h)
        have HB2 := Lib.hid (fun o1 o2 => ((HB.out.alloc HB.out.size o1).alloc (by simp; omega) o2).drew)
        have HCB : Hid (corB (X, Y) = ((decide (0 ≤ X) && decide (X ≤ 8)) && (decide (0 ≤ Y) && decide (Y ≤ 8)))) := Lib.hid rfl
        have HDB : Hid (diB (X, Y) (X', Y') = ((X == X') != (Y == Y'))) := Lib.hid rfl
        rw [HCB.out, HDB.out] at HST
        clear HCB HDB
        go_wp2
        go_region_held3 (fun w' => w'.cell? ⟨b, o + k * 2, none⟩ = some (.int .i64 X) ∧ w'.cell? ⟨b, o + k * 2 + 1, none⟩ = some (.int .i64 Y) ∧ w'.cell? ⟨b, o + m * 2, none⟩ = some (.int .i64 X') ∧ w'.cell? ⟨b, o + m * 2 + 1, none⟩ = some (.int .i64 Y')) (go_keep) (fail)
        all_goals
          clear hw1 hw2 ht ht2 d0 d1 d2 d3
          go_wp2_with fail
          cases hx : (decide (0 ≤ X) && decide (X ≤ 8)) with
          | false =>
            have HF := Lib.hid (HNK.out (by rw [HST.out, hx]; rfl))
            refine (HC1.out false _ hx).mono ?_
            rintro e w3 ⟨rfl, rfl⟩
            clear hx
            go_wp2
            go_ret2
            exact HF.out _ (HB2.out _ _)
          | true =>
            refine (HC1.out true _ hx).mono ?_
            rintro e w3 ⟨rfl, rfl⟩
            rw [hx] at HST
            clear hx
            go_wp2_with fail
            cases hy : (decide (0 ≤ Y) && decide (Y ≤ 8)) with
            | false =>
              have HF := Lib.hid (HNK.out (by rw [HST.out, hy]; rfl))
              refine (HC2.out false _ hy).mono ?_
              rintro e w3 ⟨rfl, rfl⟩
              clear hy
              go_wp2
              go_ret2
              exact HF.out _ (HB2.out _ _)
            | true =>
              refine (HC2.out true _ hy).mono ?_
              rintro e w3 ⟨rfl, rfl⟩
              rw [hy] at HST
              clear hy
              by_cases hX : X = X'
              rotate_left
              · have e1 : (X == X') = false := beq_eq_false_iff_ne.2 hX
                rw [e1] at HST
                clear hX
                by_cases hY : Y = Y'
                rotate_left
                · have e2 : (Y == Y') = false := beq_eq_false_iff_ne.2 hY
                  rw [e2] at HST
                  clear hY
                  have HF := Lib.hid (HNK.out (by rw [HST.out]; rfl))
                  go_wp2
                  go_ret2
                  exact HF.out _ (HB2.out _ _)
                · subst hY
                  rw [show (Y == Y) = true by simp] at HST
                  go_wp2
                  go_roundw
                  case rel =>
                    refine ⟨k + 1, by omega, by go_num, HB2.out _ _, fun j hj => ?_⟩
                    rcases Nat.lt_or_ge j k with h1 | h1
                    · exact HA.out j h1
                    · obtain rfl : j = k := by omega
                      rw [HST.out]; rfl
                  case measure => simp [intOf]; omega
              · subst hX
                rw [show (X == X) = true by simp] at HST
                by_cases hY : Y = Y'
                rotate_left
                · have e2 : (Y == Y') = false := beq_eq_false_iff_ne.2 hY
                  rw [e2] at HST
                  clear hY
                  go_wp2
                  go_roundw
                  case rel =>
                    refine ⟨k + 1, by omega, by go_num, HB2.out _ _, fun j hj => ?_⟩
                    rcases Nat.lt_or_ge j k with h1 | h1
                    · exact HA.out j h1
                    · obtain rfl : j = k := by omega
                      rw [HST.out]; rfl
                  case measure => simp [intOf]; omega
                · subst hY
                  rw [show (Y == Y) = true by simp] at HST
                  have HF := Lib.hid (HNK.out (by rw [HST.out]; rfl))
                  go_wp2
                  go_ret2
                  exact HF.out _ (HB2.out _ _)
      · obtain rfl : k = p.length := by omega
        have hv := HY.out (fun j hj => HA.out j hj)
        have hva := areaV_yes hv
        rw [tw_all p (by omega)] at hva
        have HAR := Lib.hid (fun W h => l8Area_any a p c W h hv)
        have HVV := Lib.hid (And.intro hv hva)
        clear hv hva hB
        go_wp2_with fail
        refine (HAR.out _ ((HL.out.below HB.out (Nat.le_refl _)).more HB.out.size)).mono ?_
        rintro e w3 ⟨rfl, b3⟩
        have B3 := Lib.hid (below_then HB.out b3)
        clear b3
        go_wp2
        go_ret2
        unfold ArPost
        rw [HVV.out.1, HVV.out.2]
        exact ⟨rfl, B3.out⟩
  · have HV := Lib.hid (fun W => ar_no (w := w) (w' := W) (lp_noL (p := p) (show p.length < 4 ∨ 100 < p.length by omega)))
    have C := Lib.hid (fun W => l1In_is (p.length : Int) 4 100 false W (by rw [Bool.and_eq_false_iff]; rcases (by omega : p.length < 4 ∨ 100 < p.length) with h | h; (left; simp; omega); (right; simp; omega)))
    clear hl hl4
    go_enter Try.func32, Try.ntmps32
    go_wp2_with fail
    refine (C.out _).mono ?_
    rintro e w1 ⟨rfl, rfl⟩
    go_wp2
    go_ret2
    exact HV.out _ (Below.refl _ _)
end Go.Proofs.Ytgfgimpglaepaaa
