/- SplitValue, the model's and the program's, at every argument. -/
import Derived.Test.YtccplndimdmjpaaDoorSpImpl2
import Derived.Test.YtccplndimdmjpaaDoorSpSpec
namespace Go.Proofs.YtccplndimdmjpaaDoor
open Go.RowKit
set_option linter.unusedVariables false
set_option linter.unusedSimpArgs false
theorem implSplit_any (v : Int) (a : Option Addr) (ws : List Int) (c : Nat) (w : World) (hl : Ints .i64 w w.heap.size a ws) (hn : ws.length ≤ 1048576) (ht : BlockIs w 0 deBruijn64tabCells.toArray) :
    Calls Tryd.prog 8 #[.int .i64 v, .slice a ws.length c] w (SvRet (spR v ws) (spB v ws) w) := by
  cases h : spB v ws with
  | false => rw [spR_no h]; exact implSplit_no v a ws c w hl hn h
  | true => rw [spR_yes h]; exact implSplit_yes v a ws c w hl h ht
set_option maxRecDepth 100000 in
set_option maxHeartbeats 4000000 in
theorem specSplit_any (v : Int) (a : Option Addr) (ws : List Int) (c : Nat) (w : World) (hl : Ints .i64 w w.heap.size a ws) (hn : ws.length ≤ 1048576) :
    Calls Tryd.prog 6 #[.int .i64 v, .slice a ws.length c] w (SvRet (spR v ws) (spB v ws) w) := by
  have HL := Lib.hid hl
  cases hv : (decide (-9000 ≤ v) && decide (v ≤ 9000)) with
  | false =>
    have hb : spB v ws = false := by unfold spB vB; rw [hv]; rfl
    rw [spR_no hb, hb]
    have C1 := Lib.hid (fun W => l1In_is v (-9000) 9000 false W hv)
    clear hv hb hl
    go_enter Tryd.func6, Tryd.ntmps6
    go_wp2_with fail
    refine (C1.out _).mono ?_
    rintro e w1 ⟨rfl, rfl⟩
    go_wp2
    refine bodyPost_ret (v := .tuple #[.slice (some ⟨w.heap.size, 0, none⟩) 0 0, .bool false]) (by simp [results, Tryd.results6, go_sem]) rfl ⟨_, _, rfl, OwnI.none_, below_all _ _⟩
  | true =>
    have C1 := Lib.hid (fun W => l1In_is v (-9000) 9000 true W hv)
    cases hz : (decide (1 ≤ (ws.length : Int)) && decide ((ws.length : Int) ≤ 64)) with
    | false =>
      have hb : spB v ws = false := spB_not (fun h9 => by simp at hz; omega)
      rw [spR_no hb, hb]
      have C2 := Lib.hid (fun W => l1In_is (ws.length : Int) 1 64 false W hz)
      clear hv hb hl hz
      go_enter Tryd.func6, Tryd.ntmps6
      go_wp2_with fail
      refine (C1.out _).mono ?_
      rintro e w1 ⟨rfl, rfl⟩
      go_wp2_with fail
      refine (C2.out _).mono ?_
      rintro e w1 ⟨rfl, rfl⟩
      go_wp2
      refine bodyPost_ret (v := .tuple #[.slice (some ⟨w.heap.size, 0, none⟩) 0 0, .bool false]) (by simp [results, Tryd.results6, go_sem]) rfl ⟨_, _, rfl, OwnI.none_, below_all _ _⟩
    | true =>
      have C2 := Lib.hid (fun W => l1In_is (ws.length : Int) 1 64 true W hz)
      simp only [Bool.and_eq_true, decide_eq_true_eq] at hv hz
      obtain ⟨v1, v2⟩ := hv
      obtain ⟨n1, n2⟩ := hz
      obtain ⟨b0, hb0⟩ : ∃ b, spB v ws = b := ⟨_, rfl⟩
      obtain ⟨r0, hr0⟩ : ∃ b, spR v ws = b := ⟨_, rfl⟩
      rw [hb0, hr0]
      have HB0 := Lib.hid hb0
      have HR0 := Lib.hid hr0
      clear hb0 hr0
      have hnone : spB v ws = false → b0 = false ∧ r0 = [] := fun h => ⟨by rw [← HB0.out]; exact h, by rw [← HR0.out]; exact spR_no h⟩
      have HNONE := Lib.hid hnone
      clear hnone hl
      go_enter Tryd.func6, Tryd.ntmps6
      go_wp2_with fail
      refine (C1.out _).mono ?_
      rintro e w1 ⟨rfl, rfl⟩
      go_wp2_with fail
      refine (C2.out _).mono ?_
      rintro e w1 ⟨rfl, rfl⟩
      go_wp2
      go_loop [6, 7] (fun s i => ∃ k : Nat, k ≤ ws.length ∧ i = .int .i64 k ∧ s = .int .i64 (tot (ws.take k)) ∧ ∀ j (h : j < ws.length), j < k → 0 ≤ ws[j] ∧ ws[j] ≤ 64) (fun _ i => ws.length - (intOf i).toNat)
      case atStart => exact ⟨0, Nat.zero_le _, rfl, rfl, fun _ _ h => by omega⟩
      case round =>
        obtain ⟨k, hk, rfl, rfl, hall⟩ := hrel
        have hbd : 0 ≤ tot (ws.take k) ∧ tot (ws.take k) ≤ 4096 := by
          have h1 := tot_pos_bd (ws := ws.take k) (fun x hx => by
            obtain ⟨j, hj, rfl⟩ := List.getElem_of_mem hx
            rw [List.length_take] at hj
            rw [List.getElem_take]
            exact hall j (by omega) (by omega))
          rw [List.length_take] at h1
          omega
        have HA := Lib.hid hall
        clear hall
        by_cases hlt : k < ws.length
        · obtain ⟨b, o, rfl, hb, hc⟩ := HL.out.at_ hlt
          have hi : (k : Int) < (ws.length : Int) := by omega
          have hi0 : (0 : Int) ≤ (k : Int) := by omega
          cases hz : (decide (0 ≤ ws[k]) && decide (ws[k] ≤ 64)) with
          | true =>
            have C3 := Lib.hid (fun W => l1In_is ws[k] 0 64 true W hz)
            simp only [Bool.and_eq_true, decide_eq_true_eq] at hz
            have HS := Lib.hid (show tot (ws.take (k + 1)) = tot (ws.take k) + ws[k] by rw [snoc_takeI ws k hlt, tot_snocI])
            have HE := Lib.hid (show ∀ j (h : j < ws.length), j < k + 1 → 0 ≤ ws[j] ∧ ws[j] ≤ 64 from fun j hj h9 => by
              rcases Nat.lt_or_ge j k with h1 | h1
              · exact HA.out j hj h1
              · obtain rfl : j = k := by omega
                exact hz)
            obtain ⟨h1, h2⟩ := hz
            generalize ws[k] = x at *
            generalize tot (ws.take k) = t at *
            go_wp2_with (go_at_call 30; refine (C3.out _).mono ?_; rintro e w8 ⟨rfl, rfl⟩)
            go_round
            case rel => exact ⟨k + 1, by omega, by go_num, by rw [HS.out], HE.out⟩
            case measure => simp [intOf]; omega
          | false =>
            have C3 := Lib.hid (fun W => l1In_is ws[k] 0 64 false W hz)
            have hno : spB v ws = false := spB_not (fun h9 => by
              have := h9.2.2.1 _ (List.getElem_mem hlt)
              simp at hz; omega)
            obtain ⟨rfl, rfl⟩ := HNONE.out hno
            clear hno hz
            generalize ws[k] = x at *
            go_wp2_with (go_at_call 30; refine (C3.out _).mono ?_; rintro e w8 ⟨rfl, rfl⟩)
            refine bodyPost_ret (v := .tuple #[.slice (some ⟨w.heap.size, 0, none⟩) 0 0, .bool false]) (by simp [results, Tryd.results6, go_sem]) rfl ⟨_, _, rfl, OwnI.none_, below_all _ _⟩
        · obtain rfl : k = ws.length := by omega
          have hall := HA.out
          have E3 := Lib.hid (show tot (ws.take ws.length) = tot ws by rw [List.take_length])
          rw [E3.out] at hbd ⊢
          by_cases hp : tot ws = 0
          · have hno : spB v ws = false := spB_not (fun h9 => by omega)
            obtain ⟨rfl, rfl⟩ := HNONE.out hno
            have e1 : (tot ws == 0) = true := by simp [hp]
            clear hno hp hall HA
            generalize tot ws = t at *
            go_wp2
            refine bodyPost_ret (v := .tuple #[.slice (some ⟨w.heap.size, 0, none⟩) 0 0, .bool false]) (by simp [results, Tryd.results6, go_sem]) rfl ⟨_, _, rfl, OwnI.none_, below_all _ _⟩
          · have hyes : spB v ws = true := spB_iff.2 ⟨⟨v1, v2⟩, ⟨by omega, by omega⟩, fun x hx => by obtain ⟨j, hj, rfl⟩ := List.getElem_of_mem hx; exact hall j hj hj, by omega⟩
            have e1 : (tot ws == 0) = false := by simp [hp]
            obtain rfl : b0 = true := by rw [← HB0.out]; exact hyes
            have HRR := Lib.hid (show splitD v (tot ws) ws = r0 by rw [← HR0.out]; exact (spR_yes hyes).symm)
            have C4 := Lib.hid (fun W B h hB => l7Split_any v a ws c B W h hB hyes)
            rw [HRR.out] at C4
            clear hyes hp hall HA HNONE
            generalize tot ws = t at *
            go_wp2_with fail
            refine (C4.out _ _ HL.out (Nat.le_refl _)).mono ?_
            rintro e w2 ⟨a2, c2, rfl, o2, b2⟩
            have HO := Lib.hid o2
            have HBB := Lib.hid b2
            clear o2 b2
            go_wp2
            refine bodyPost_ret (v := .tuple #[.slice a2 r0.length c2, .bool true]) (by simp [results, Tryd.results6, go_sem]) rfl ⟨_, _, rfl, HO.out, HBB.out⟩
end Go.Proofs.YtccplndimdmjpaaDoor
