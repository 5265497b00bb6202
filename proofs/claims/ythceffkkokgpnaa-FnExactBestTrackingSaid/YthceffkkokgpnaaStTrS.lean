/- Trackings: the model's l12Tracking. -/
import Derived.Test.YthceffkkokgpnaaStSp
import Derived.Test.YthceffkkokgpnaaStTr
import Derived.Test.YthceffkkokgpnaaGrowS
import Derived.Test.YthceffkkokgpnaaDrew
import Derived.BigQuiet
namespace Go.Proofs.Ythceffkkokgpnaa
open Go.RowKit
set_option linter.unusedVariables false
set_option linter.unusedSimpArgs false
theorem quietMoreT {P : Program} {f : FuncId} {args : Array Value} {w : World} {a n : Nat} {v : Value} (h : ∀ W : World, Calls P f args W fun e w' => e = .returned v ∧ W = w') :
    Calls P f args (w.drewN (a + n)) fun e w'' => e = .returned v ∧ ∃ m, w'' = w.drewN (a + m) := (h _).mono fun _ _ h9 => ⟨h9.1, n, h9.2.symm⟩
set_option maxRecDepth 100000 in
set_option maxHeartbeats 8000000 in
theorem specTr_any (aa : Option Addr) (la : List StT) (ca : Nat) (ab : Option Addr) (lb : List StT) (cb : Nat) (at_ : Option Addr) (t : List Int) (ct : Nat) (v : Bool) (w : World) (h1 : Sts w w.heap.size aa la) (h2 : Sts w w.heap.size ab lb) (h3 : Ints .i64 w w.heap.size at_ t) (n1 : la.length ≤ 1048576) (n2 : lb.length ≤ 1048576) (n3 : t.length ≤ 1048576) (hc : t.length ≤ ct) (h : trB la lb t = v) :
    Calls Try.prog 75 #[.slice aa la.length ca, .slice ab lb.length cb, .slice at_ t.length ct] w fun e w' => e = .returned (.bool v) ∧ Below w.heap.size w w' := by
  have HA := Lib.hid (fun u W (h : Sts W W.heap.size aa la) (hu : stsB la = u) => specList_any aa la ca u W h n1 hu)
  have HB := Lib.hid (fun u W (h : Sts W W.heap.size ab lb) (hu : stsB lb = u) => specList_any ab lb cb u W h n2 hu)
  have H1 := Lib.hid h1
  have H2 := Lib.hid h2
  have H3 := Lib.hid h3
  have HV := Lib.hid h
  have HCP := Lib.hid hc
  clear h1 h2 h3 h hc
  cases ha : stsB la with
  | false =>
    obtain rfl : v = false := by rw [← HV.out]; exact tr_no_a ha
    have HA1 := Lib.hid (fun W h => HA.out false W h ha)
    clear HA ha
    go_enter Try.func75, Try.ntmps75
    go_wp2_with (go_at_call 92; (with_reducible refine (HA1.out _ H1.out).mono ?_); rintro e w1 ⟨rfl, b1⟩; have B1 := Lib.hid b1; clear b1)
    go_ret
    exact ⟨rfl, B1.out⟩
  | true =>
    have HA1 := Lib.hid (fun W h => HA.out true W h ha)
    have HAA := Lib.hid ha
    clear HA ha
    cases hb : stsB lb with
    | false =>
      obtain rfl : v = false := by rw [← HV.out]; exact tr_no_b hb
      have HB1 := Lib.hid (fun W h => HB.out false W h hb)
      clear HB hb
      go_enter Try.func75, Try.ntmps75
      go_wp2_with fail
      refine (HA1.out _ H1.out).mono ?_
      rintro e w1 ⟨rfl, b1⟩
      have B1 := Lib.hid b1
      have H21 := Lib.hid (sts_below H2.out b1)
      clear b1
      go_wp2_with fail
      refine (HB1.out _ H21.out).mono ?_
      rintro e w2 ⟨rfl, b2⟩
      have B2 := Lib.hid (below_then B1.out b2)
      clear b2
      go_wp2
      go_ret
      exact ⟨rfl, B2.out⟩
    | true =>
      have HB1 := Lib.hid (fun W h => HB.out true W h hb)
      have HBB := Lib.hid hb
      clear HB hb
      by_cases hlen : (t.length : Int) = (la.length : Int)
      · have HV2 := Lib.hid (show trsB lb.length t = v from by rw [← HV.out]; exact (tr_same HAA.out HBB.out hlen).symm)
        have nlen : ((t.length : Int) != (la.length : Int)) = false := by simp [hlen]
        have hlb := sts_len HBB.out
        have hlt5 : t.length ≤ 5 := by have := sts_len HAA.out; omega
        clear hlen
        go_enter Try.func75, Try.ntmps75
        go_wp2_with fail
        refine (HA1.out _ H1.out).mono ?_
        rintro e w1 ⟨rfl, b1⟩
        have B1 := Lib.hid b1
        have H21 := Lib.hid (sts_below H2.out b1)
        clear b1
        go_wp2_with fail
        refine (HB1.out _ H21.out).mono ?_
        rintro e w2 ⟨rfl, b2⟩
        have B2 := Lib.hid (below_then B1.out b2)
        clear b2
        go_wp2
        clear nlen
        have hwb := IntWalk.i64_in ((lb.length : Int) - 1) (by omega)
        go_loopw [7] (fun i wr => ∃ k : Nat, k ≤ t.length ∧ i = .int .i64 k ∧ (∀ j, j < k → okJ lb.length t j = true) ∧ Below w.heap.size w wr) (fun i _ => t.length - (intOf i).toNat)
        case atStart => exact ⟨0, Nat.zero_le _, rfl, by intro j h; omega, B2.out⟩
        case round =>
          obtain ⟨k, hk, rfl, hno, hB⟩ := hrel
          have HN := Lib.hid hno
          have HBR := Lib.hid hB
          clear hno
          by_cases hlt : k < t.length
          · obtain ⟨b, o, rfl, hb9, hc9⟩ := (H3.out.below hB (Nat.le_refl _)).at_ hlt
            have hi : (k : Int) < (t.length : Int) := by omega
            have hi0 : (0 : Int) ≤ (k : Int) := by omega
            have hcap : (k : Int) ≤ (ct : Int) := by have := HCP.out; omega
            have htl : (t.take k).length = k := by rw [List.length_take]; omega
            have HTK := Lib.hid (ints_take H3.out k)
            have HF := Lib.hid (fun u (hu : decide (t[k] ∈ t.take k) = u) W (G : Below w.heap.size w W) => has_is (some ⟨b, o, none⟩) (t.take k) ct w.heap.size t[k] u W (HTK.out.below G (Nat.le_refl _)) (by omega) hu)
            rw [htl] at HF
            have HOK := Lib.hid (okJ_at (n := lb.length) hlt)
            have HBAD := Lib.hid (fun h => trs_bad (n := lb.length) hlt h)
            have HNX := Lib.hid (fun (hx : okJ lb.length t k = true) j (hj : j < k + 1) => show okJ lb.length t j = true by
              rcases Nat.lt_or_ge j k with h1 | h1
              · exact HN.out j h1
              · obtain rfl : j = k := by omega
                exact hx)
            have HIN := Lib.hid (fun u (hu : (decide (-1 ≤ t[k]) && decide (t[k] ≤ (lb.length : Int) - 1)) = u) W => l1In_is t[k] (-1) ((lb.length : Int) - 1) u W hu)
            generalize t[k] = z at *
            generalize t.take k = q at *
            clear htl hB
            have hQN := fun n => (show ∀ m, Below w.heap.size w (wr.drewN m) from fun m => below_drewN HBR.out m) n
            clear hQN
            by_cases hz : -1 ≤ z ∧ z < (lb.length : Int)
            · have HIN1 := Lib.hid (HIN.out true (by rw [decide_eq_true hz.1, decide_eq_true (by omega)]; rfl))
              have HOK2 := Lib.hid (show okJ lb.length t k = feB q z by rw [HOK.out, decide_eq_true hz.1, decide_eq_true hz.2]; rfl)
              by_cases hz0 : 0 ≤ z
              · obtain ⟨u, hu⟩ : ∃ u, decide (z ∈ q) = u := ⟨_, rfl⟩
                have HF1 := Lib.hid (fun W G => HF.out u hu W G)
                have HFE := Lib.hid (show feB q z = !u by unfold feB; rw [decide_eq_false (show ¬ z = -1 by omega), hu]; rfl)
                clear hu HF HIN HOK hz
                have HFN := Lib.hid (fun n => HF1.out (wr.drewN n) (below_drewN HBR.out n))
                cases u with
                | true =>
                  obtain rfl : v = false := by rw [← HV2.out]; exact HBAD.out (HOK2.out.trans HFE.out)
                  go_wp2_with fail
                  go_quiet (first | (go_at_call 101; first | exact Calls.quiet_of_same (quietSame (HIN1.out _)) | exact quietMoreT HIN1.out) | (go_at_call 129; first | exact Calls.quiet_of_same (quietSame (HF1.out _ HBR.out)) | exact (HFN.out _).mono fun _ _ h9 => ⟨h9.1, _, h9.2.symm⟩))
                  go_wp2
                  go_ret
                  exact ⟨rfl, below_drewN HBR.out _⟩
                | false =>
                  have HNX1 := Lib.hid (HNX.out (HOK2.out.trans HFE.out))
                  go_wp2_with fail
                  go_quiet (first | (go_at_call 101; first | exact Calls.quiet_of_same (quietSame (HIN1.out _)) | exact quietMoreT HIN1.out) | (go_at_call 129; first | exact Calls.quiet_of_same (quietSame (HF1.out _ HBR.out)) | exact (HFN.out _).mono fun _ _ h9 => ⟨h9.1, _, h9.2.symm⟩))
                  go_wp2
                  go_roundw
                  case rel => exact ⟨k + 1, by omega, by go_num, HNX1.out, below_drewN HBR.out _⟩
                  case measure => simp [intOf]; omega
              · obtain rfl : z = -1 := by omega
                have HNX1 := Lib.hid (HNX.out (HOK2.out.trans (feB_none q)))
                clear HF HIN HOK hz hz0
                go_wp2_with fail
                go_quiet ((go_at_call 101; first | exact Calls.quiet_of_same (quietSame (HIN1.out _)) | exact quietMoreT HIN1.out))
                go_wp2
                go_roundw
                case rel => exact ⟨k + 1, by omega, by go_num, HNX1.out, below_drewN HBR.out _⟩
                case measure => simp [intOf]; omega
            · have HIN1 := Lib.hid (HIN.out false (by
                by_cases h1 : -1 ≤ z
                · rw [decide_eq_false (p := z ≤ (lb.length : Int) - 1) (by omega), Bool.and_false]
                · rw [decide_eq_false h1]; rfl))
              obtain rfl : v = false := by
                rw [← HV2.out]
                refine HBAD.out ?_
                rw [HOK.out]
                by_cases h1 : -1 ≤ z
                · rw [decide_eq_false (p := z < (lb.length : Int)) (by omega), Bool.and_false]; rfl
                · rw [decide_eq_false h1]; rfl
              clear HF HIN HOK hz
              go_wp2_with fail
              go_quiet ((go_at_call 101; first | exact Calls.quiet_of_same (quietSame (HIN1.out _)) | exact quietMoreT HIN1.out))
              go_wp2
              go_ret
              exact ⟨rfl, below_drewN HBR.out _⟩
          · obtain rfl : k = t.length := by omega
            obtain rfl : v = true := by rw [← HV2.out]; exact trs_all (fun j hj => HN.out j hj)
            clear hB
            go_wp2
            go_ret
            exact ⟨rfl, HBR.out⟩
      · obtain rfl : v = false := by rw [← HV.out]; exact tr_no_len hlen
        have nlen : ((t.length : Int) != (la.length : Int)) = true := by simp [hlen]
        clear hlen
        go_enter Try.func75, Try.ntmps75
        go_wp2_with fail
        refine (HA1.out _ H1.out).mono ?_
        rintro e w1 ⟨rfl, b1⟩
        have B1 := Lib.hid b1
        have H21 := Lib.hid (sts_below H2.out b1)
        clear b1
        go_wp2_with fail
        refine (HB1.out _ H21.out).mono ?_
        rintro e w2 ⟨rfl, b2⟩
        have B2 := Lib.hid (below_then B1.out b2)
        clear b2
        go_wp2
        go_ret
        exact ⟨rfl, B2.out⟩
end Go.Proofs.Ythceffkkokgpnaa
