/- Trackings: the program's isFree and isTracking. -/
import Derived.Test.YthceffkkokgpnaaStIs
import Derived.Test.YthceffkkokgpnaaDrew
namespace Go.Proofs.Ythceffkkokgpnaa
open Go.RowKit
set_option linter.unusedVariables false
set_option linter.unusedSimpArgs false
theorem take_mem {l : List Int} {k : Nat} {n : Int} (h : k < l.length) : (n ∈ l.take (k + 1)) ↔ (n ∈ l.take k ∨ n = l[k]) := by
  rw [List.take_succ_eq_append_getElem h, List.mem_append, List.mem_singleton]
theorem ints_take {k : IntKind} {w : World} {B : Nat} {a : Option Addr} {l : List Int} (h : Ints k w B a l) (n : Nat) : Ints k w B a (l.take n) := by
  rcases h with rfl | ⟨b, o, e, hb, hc⟩
  · exact .inl (by simp)
  · exact .inr ⟨b, o, e, hb, fun j hj => by rw [List.length_take] at hj; rw [List.getElem_take]; exact hc j (by omega)⟩
set_option maxHeartbeats 1000000 in
theorem indexI_is (a : Option Addr) (l : List Int) (c B : Nat) (x : Int) (w : World) (hl : Ints .i64 w B a l) (hn : l.length ≤ 1048576) :
    Calls Try.prog 165 #[.slice a l.length c, .int .i64 x] w fun e w' => (∃ i : Int, e = .returned (.int .i64 i) ∧ (0 ≤ i ↔ x ∈ l)) ∧ w = w' := by
  have HL := Lib.hid hl
  clear hl
  go_enter Try.func165, Try.ntmps165
  go_wp2
  go_loop [8] (fun i => ∃ k : Nat, k ≤ l.length ∧ i = .int .i64 k ∧ ¬ x ∈ l.take k) (fun i => l.length - (intOf i).toNat)
  case atStart => exact ⟨0, Nat.zero_le _, rfl, by simp⟩
  case round =>
    obtain ⟨k, hk, rfl, hno⟩ := hrel
    have HN := Lib.hid hno
    clear hno
    by_cases hlt : k < l.length
    · obtain ⟨b, o, rfl, hb, hc⟩ := HL.out.at_ hlt
      have hi : (k : Int) < (l.length : Int) := by omega
      have hi0 : (0 : Int) ≤ (k : Int) := by omega
      have HM := Lib.hid (take_mem (n := x) hlt)
      have HIN := Lib.hid (fun (e : x = l[k]) => (show x ∈ l from e ▸ List.getElem_mem hlt))
      obtain ⟨z, hz⟩ : ∃ z, l[k] = z := ⟨_, rfl⟩
      rw [hz] at hc HM HIN
      clear hz
      by_cases he : x = z
      · have HT := Lib.hid (HIN.out he)
        subst he
        go_wp2
        go_ret
        exact ⟨⟨_, rfl, fun _ => HT.out, fun _ => hi0⟩, rfl⟩
      · have hne : (x == z) = false := by rw [beq_eq_false_iff_ne]; exact he
        have HT := Lib.hid (show ¬ x ∈ l.take (k + 1) from fun h => (HM.out.1 h).elim HN.out he)
        clear he
        go_wp2
        go_round
        case rel => exact ⟨k + 1, by omega, by go_num, HT.out⟩
        case measure => simp [intOf]; omega
    · obtain rfl : k = l.length := by omega
      rw [List.take_length] at HN
      go_wp2
      go_ret
      exact ⟨⟨_, rfl, fun h => absurd h (by omega), fun h => absurd h HN.out⟩, rfl⟩
set_option maxHeartbeats 1000000 in
theorem containsI_is (a : Option Addr) (l : List Int) (c B : Nat) (x : Int) (w : World) (hl : Ints .i64 w B a l) (hn : l.length ≤ 1048576) :
    Calls Try.prog 131 #[.slice a l.length c, .int .i64 x] w fun e w' => e = .returned (.bool (decide (x ∈ l))) ∧ w = w' := by
  have HC := Lib.hid (fun W h => indexI_is a l c B x W h hn)
  have HL := Lib.hid hl
  clear hl
  go_enter Try.func131, Try.ntmps131
  go_wp2_with fail
  refine (HC.out _ HL.out).mono ?_
  rintro e w1 ⟨⟨i, rfl, hi⟩, rfl⟩
  have HI := Lib.hid hi
  clear hi
  go_wp2
  go_ret
  exact ⟨by rw [show decide (x ∈ l) = decide (0 ≤ i) from decide_eq_decide.2 HI.out.symm]; rfl, rfl⟩
set_option maxHeartbeats 1000000 in
theorem isFree_is (a : Option Addr) (l : List Int) (c B : Nat) (x : Int) (v : Bool) (w : World) (hl : Ints .i64 w B a l) (hn : l.length ≤ 1048576) (h : feB l x = v) :
    Calls Try.prog 82 #[.slice a l.length c, .int .i64 x] w fun e w' => e = .returned (.bool v) ∧ w = w' := by
  have HC := Lib.hid (fun W h => containsI_is a l c B x W h hn)
  have HL := Lib.hid hl
  clear hl
  by_cases hx : x = -1
  · subst hx
    obtain rfl : v = true := by rw [← h]; exact feB_none l
    clear h
    go_enter Try.func82, Try.ntmps82
    go_wp2
    go_ret
    exact ⟨rfl, rfl⟩
  · have hne : (x == -1) = false := by rw [beq_eq_false_iff_ne]; exact hx
    have hv : (!decide (x ∈ l)) = v := by rw [← h]; unfold feB; rw [decide_eq_false hx]; rfl
    clear h hx
    generalize decide (x ∈ l) = u at *
    subst hv
    cases u
    all_goals
      go_enter Try.func82, Try.ntmps82
      go_wp2_with (go_at_call 131; (with_reducible refine (HC.out _ HL.out).mono ?_); rintro e w1 ⟨rfl, rfl⟩)
      go_ret
      exact ⟨rfl, rfl⟩
set_option maxRecDepth 100000 in
set_option maxHeartbeats 8000000 in
theorem isTr_any (aa : Option Addr) (la : List StT) (ca : Nat) (ab : Option Addr) (lb : List StT) (cb : Nat) (at_ : Option Addr) (t : List Int) (ct : Nat) (v : Bool) (w : World) (h1 : Sts w w.heap.size aa la) (h2 : Sts w w.heap.size ab lb) (h3 : Ints .i64 w w.heap.size at_ t) (n1 : la.length ≤ 1048576) (n2 : lb.length ≤ 1048576) (n3 : t.length ≤ 1048576) (hc : t.length ≤ ct) (h : trB la lb t = v) :
    Calls Try.prog 78 #[.slice aa la.length ca, .slice ab lb.length cb, .slice at_ t.length ct] w fun e w' => e = .returned (.bool v) ∧ Below w.heap.size w w' := by
  have HA := Lib.hid (fun u W (h : Sts W W.heap.size aa la) (hu : stsB la = u) => isList_any aa la ca u W h n1 hu)
  have HB := Lib.hid (fun u W (h : Sts W W.heap.size ab lb) (hu : stsB lb = u) => isList_any ab lb cb u W h n2 hu)
  have H1 := Lib.hid h1
  have H2 := Lib.hid h2
  have H3 := Lib.hid h3
  have HV := Lib.hid h
  have HCP := Lib.hid hc
  clear h1 h2 h3 h hc
  cases ha : stsB la with
  | false =>
    obtain rfl : v = false := by rw [← HV.out]; exact tr_no_a ha
    have HA1 := Lib.hid (fun W h => HA.out false W h ha)
    clear HA ha
    go_enter Try.func78, Try.ntmps78
    go_wp2_with (go_at_call 130; (with_reducible refine (HA1.out _ H1.out).mono ?_); rintro e w1 ⟨rfl, b1⟩; have B1 := Lib.hid b1; clear b1)
    go_ret
    exact ⟨rfl, B1.out⟩
  | true =>
    have HA1 := Lib.hid (fun W h => HA.out true W h ha)
    have HAA := Lib.hid ha
    clear HA ha
    cases hb : stsB lb with
    | false =>
      obtain rfl : v = false := by rw [← HV.out]; exact tr_no_b hb
      have HB1 := Lib.hid (fun W h => HB.out false W h hb)
      clear HB hb
      go_enter Try.func78, Try.ntmps78
      go_wp2_with fail
      refine (HA1.out _ H1.out).mono ?_
      rintro e w1 ⟨rfl, b1⟩
      have B1 := Lib.hid b1
      have H21 := Lib.hid (sts_below H2.out b1)
      clear b1
      go_wp2_with fail
      refine (HB1.out _ H21.out).mono ?_
      rintro e w2 ⟨rfl, b2⟩
      have B2 := Lib.hid (below_then B1.out b2)
      clear b2
      go_wp2
      go_ret
      exact ⟨rfl, B2.out⟩
    | true =>
      have HB1 := Lib.hid (fun W h => HB.out true W h hb)
      have HBB := Lib.hid hb
      clear HB hb
      by_cases hlen : (t.length : Int) = (la.length : Int)
      · have HV2 := Lib.hid (show trsB lb.length t = v from by rw [← HV.out]; exact (tr_same HAA.out HBB.out hlen).symm)
        have nlen : ((t.length : Int) != (la.length : Int)) = false := by simp [hlen]
        have hlb := sts_len HBB.out
        have hlt5 : t.length ≤ 5 := by have := sts_len HAA.out; omega
        clear hlen
        go_enter Try.func78, Try.ntmps78
        go_wp2_with fail
        refine (HA1.out _ H1.out).mono ?_
        rintro e w1 ⟨rfl, b1⟩
        have B1 := Lib.hid b1
        have H21 := Lib.hid (sts_below H2.out b1)
        clear b1
        go_wp2_with fail
        refine (HB1.out _ H21.out).mono ?_
        rintro e w2 ⟨rfl, b2⟩
        have B2 := Lib.hid (below_then B1.out b2)
        clear b2
        have H32 := Lib.hid (H3.out.below B2.out (Nat.le_refl _))
        go_wp2
        clear nlen
        go_loopw [26] (fun i wr => ∃ k : Nat, k ≤ t.length ∧ i = .int .i64 k ∧ (∀ j, j < k → okJ lb.length t j = true) ∧ w2 = wr) (fun i _ => t.length - (intOf i).toNat)
        case atStart => exact ⟨0, Nat.zero_le _, rfl, by intro j h; omega, rfl⟩
        case round =>
          obtain ⟨k, hk, rfl, hno, rfl⟩ := hrel
          have HN := Lib.hid hno
          clear hno
          by_cases hlt : k < t.length
          · obtain ⟨b, o, rfl, hb9, hc9⟩ := H32.out.at_ hlt
            have hi : (k : Int) < (t.length : Int) := by omega
            have hi0 : (0 : Int) ≤ (k : Int) := by omega
            have hcap : (k : Int) ≤ (ct : Int) := by have := HCP.out; omega
            have htl : (t.take k).length = k := by rw [List.length_take]; omega
            have HTK := Lib.hid (ints_take H32.out k)
            have HF := Lib.hid (fun u (hu : feB (t.take k) t[k] = u) W (h : Ints .i64 W w.heap.size (some ⟨b, o, none⟩) (t.take k)) => isFree_is (some ⟨b, o, none⟩) (t.take k) ct w.heap.size t[k] u W h (by omega) hu)
            rw [htl] at HF
            have HOK := Lib.hid (okJ_at (n := lb.length) hlt)
            have HBAD := Lib.hid (fun h => trs_bad (n := lb.length) hlt h)
            have HNX := Lib.hid (fun (hx : okJ lb.length t k = true) j (hj : j < k + 1) => show okJ lb.length t j = true by
              rcases Nat.lt_or_ge j k with h1 | h1
              · exact HN.out j h1
              · obtain rfl : j = k := by omega
                exact hx)
            generalize t[k] = z at *
            generalize t.take k = q at *
            clear htl
            by_cases hz1 : -1 ≤ z
            · by_cases hz2 : z < (lb.length : Int)
              · obtain ⟨u, hu⟩ : ∃ u, feB q z = u := ⟨_, rfl⟩
                have HF1 := Lib.hid (fun W h => HF.out u hu W h)
                rw [hu, decide_eq_true hz1, decide_eq_true hz2] at HOK
                clear hu HF
                cases u with
                | false =>
                  obtain rfl : v = false := by rw [← HV2.out]; exact HBAD.out HOK.out
                  go_wp2_with (go_at_call 82; (with_reducible refine (HF1.out _ HTK.out).mono ?_); rintro e w3 ⟨rfl, rfl⟩)
                  go_ret
                  exact ⟨rfl, B2.out⟩
                | true =>
                  have HNX1 := Lib.hid (HNX.out HOK.out)
                  go_wp2_with (go_at_call 82; (with_reducible refine (HF1.out _ HTK.out).mono ?_); rintro e w3 ⟨rfl, rfl⟩)
                  go_roundw
                  case rel => exact ⟨k + 1, by omega, by go_num, HNX1.out, (by first | rfl | trivial)⟩
                  case measure => simp [intOf]; omega
              · obtain rfl : v = false := by rw [← HV2.out]; exact HBAD.out (by rw [HOK.out, decide_eq_false hz2, Bool.and_false]; rfl)
                go_wp2
                go_ret
                exact ⟨rfl, B2.out⟩
            · obtain rfl : v = false := by rw [← HV2.out]; exact HBAD.out (by rw [HOK.out, decide_eq_false hz1]; rfl)
              go_wp2
              go_ret
              exact ⟨rfl, B2.out⟩
          · obtain rfl : k = t.length := by omega
            obtain rfl : v = true := by rw [← HV2.out]; exact trs_all (fun j hj => HN.out j hj)
            go_wp2
            go_ret
            exact ⟨rfl, B2.out⟩
      · obtain rfl : v = false := by rw [← HV.out]; exact tr_no_len hlen
        have nlen : ((t.length : Int) != (la.length : Int)) = true := by simp [hlen]
        clear hlen
        go_enter Try.func78, Try.ntmps78
        go_wp2_with fail
        refine (HA1.out _ H1.out).mono ?_
        rintro e w1 ⟨rfl, b1⟩
        have B1 := Lib.hid b1
        have H21 := Lib.hid (sts_below H2.out b1)
        clear b1
        go_wp2_with fail
        refine (HB1.out _ H21.out).mono ?_
        rintro e w2 ⟨rfl, b2⟩
        have B2 := Lib.hid (below_then B1.out b2)
        clear b2
        go_wp2
        go_ret
        exact ⟨rfl, B2.out⟩
end Go.Proofs.Ythceffkkokgpnaa
