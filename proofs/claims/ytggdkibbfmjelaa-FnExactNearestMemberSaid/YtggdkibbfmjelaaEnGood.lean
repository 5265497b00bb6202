/- Whether a list of fields is an ensemble: the model's and the program's answers are enB. -/
import Derived.Test.YtggdkibbfmjelaaEnMath
import Derived.Test.YtggdkibbfmjelaaShape
import Derived.Test.YtggdkibbfmjelaaFldsLaw
import Derived.BigQuiet
namespace Go.Proofs.Ytggdkibbfmjelaa
open Go.RowKit
set_option linter.unusedVariables false
set_option linter.unusedSimpArgs false
theorem en_bad {es : List FE} {k : Nat} (hk : k < es.length) (h0 : 0 < es.length) (h : ¬ (goodB es[k].wd es[k].hg es[k].l = true ∧ es[k].wd = es[0].wd ∧ es[k].hg = es[0].hg)) : enB (plains es) = false := by
  refine enB_bad (j := k) (by rw [plains_len]; exact hk) ?_
  rw [plains_get es k _ hk]
  cases hm : mateB (plains es) (es[k].wd, es[k].hg, es[k].l) with
  | false => rfl
  | true =>
    obtain ⟨h1, h2, h3⟩ := mateB_iff.1 hm
    unfold hdW at h2
    unfold hdH at h3
    rw [plains_head es h0] at h2 h3
    exact absurd ⟨h1, h2, h3⟩ h
theorem en_yes {es : List FE} (hn : 1 ≤ es.length ∧ es.length ≤ 8) (h0 : 0 < es.length) (h : ∀ k (hk : k < es.length), goodB es[k].wd es[k].hg es[k].l = true ∧ es[k].wd = es[0].wd ∧ es[k].hg = es[0].hg) : enB (plains es) = true := by
  refine enB_iff.2 ⟨by rw [plains_len]; exact hn, fun f hf => ?_⟩
  obtain ⟨k, hk, rfl⟩ := List.getElem_of_mem hf
  have hk2 : k < es.length := by rwa [plains_len] at hk
  rw [plains_get es k hk hk2]
  obtain ⟨h1, h2, h3⟩ := h k hk2
  refine mateB_iff.2 ⟨h1, ?_, ?_⟩
  · unfold hdW; rw [plains_head es h0]; exact h2
  · unfold hdH; rw [plains_head es h0]; exact h3
set_option maxRecDepth 100000 in
set_option maxHeartbeats 8000000 in
theorem specEn_is (a : Option Addr) (es : List FE) (c : Nat) (v : Bool) (w : World) (hl : Flds w w.heap.size a es) (hn : es.length ≤ 1048576) (hs : ∀ e ∈ es, e.l.length ≤ 1048576) (hv : enB (plains es) = v) :
    Calls Try.prog 84 #[.slice a es.length c] w fun e w' => e = .returned (.bool v) ∧ Below w.heap.size w w' := by
  by_cases hsz : 1 ≤ es.length ∧ es.length ≤ 8
  · have C1 := Lib.hid (fun W => l1In_is (es.length : Int) 1 8 true W (by simp; omega))
    have HL := Lib.hid hl
    have HS := Lib.hid hs
    have HV := Lib.hid hv
    have h0 : 0 < es.length := by omega
    have HN := Lib.hid hsz
    have hn8 : es.length ≤ 8 := hsz.2
    clear hl hs hv hsz
    go_enter Try.func84, Try.ntmps84
    go_wp2_with (go_at_call 76; refine (C1.out _).mono ?_; rintro e w1 ⟨rfl, rfl⟩)
    go_loopw [3] (fun i wr => ∃ k : Nat, k ≤ es.length ∧ i = .int .i64 k ∧ Below w.heap.size w wr ∧ ∀ j (h : j < es.length), j < k → goodB es[j].wd es[j].hg es[j].l = true ∧ es[j].wd = (es[0]'h0).wd ∧ es[j].hg = (es[0]'h0).hg) (fun i _ => es.length - (intOf i).toNat)
    case atStart => exact ⟨0, Nat.zero_le _, rfl, Below.refl _ _, fun j hj h => by omega⟩
    case round =>
      obtain ⟨k, hk, rfl, hB, hall⟩ := hrel
      have HA := Lib.hid hall
      have HB := Lib.hid hB
      clear hall
      by_cases hlt : k < es.length
      · obtain ⟨b, o, rfl, hb, q0, q1, q2, q3⟩ := (HL.out.below hB (Nat.le_refl _)).at_ hlt
        obtain ⟨b', o', e', hb', d0, d1, d2, _⟩ := (HL.out.below hB (Nat.le_refl _)).at_ h0
        injection e' with e'
        injection e' with e1 e2
        subst e1 e2
        simp only [Nat.zero_mul, Nat.add_zero] at d0 d1
        clear d2
        have hgW : b < wr.heap.size := Nat.lt_of_lt_of_le hb hB.size
        have HI := Lib.hid (q3.more hB.size)
        have hcl := HS.out _ (List.getElem_mem hlt)
        clear q3 hB
        have hi : (k : Int) < (es.length : Int) := by omega
        have hi0 : (0 : Int) ≤ (k : Int) := by omega
        have h00 : (0 : Int) < (es.length : Int) := by omega
        have p0 := later_cell q0 hgW
        have p1 := later_cell q1 hgW
        have p2 := later_cell q2 hgW
        have p3 := later_cell d0 hgW
        have p4 := later_cell d1 hgW
        clear q0 q1 q2 d0 d1
        have HBAD := Lib.hid (fun h => en_bad hlt h0 h)
        have HNX := Lib.hid (fun (hx : goodB es[k].wd es[k].hg es[k].l = true ∧ es[k].wd = (es[0]'h0).wd ∧ es[k].hg = (es[0]'h0).hg) j (h : j < es.length) (hj : j < k + 1) => show goodB es[j].wd es[j].hg es[j].l = true ∧ es[j].wd = (es[0]'h0).wd ∧ es[j].hg = (es[0]'h0).hg by
          rcases Nat.lt_or_ge j k with h1 | h1
          · exact HA.out j h h1
          · obtain rfl : j = k := by omega
            exact hx)
        have HC := Lib.hid (fun v W h hv => specGood_is (es[k]'hlt).wd (es[k]'hlt).hg (es[k]'hlt).ad (es[k]'hlt).l (es[k]'hlt).c W.heap.size v W h (Nat.le_refl _) hcl hv)
        clear hcl
        have hx0 : es[k].l.length = es[k].l.length := rfl
        generalize es[k].wd = x0 at *
        generalize es[k].hg = x1 at *
        generalize es[k].ad = x2 at *
        generalize es[k].c = x3 at *
        generalize es[k].l = x4 at *
        generalize (es[0]'h0).wd = y0 at *
        generalize (es[0]'h0).hg = y1 at *
        generalize x4.length = n at *
        clear hx0
        go_wp2_with fail
        cases hgd : goodB x0 x1 x4 with
        | false =>
          obtain rfl : v = false := by rw [← HV.out]; exact HBAD.out (fun h => by rw [hgd] at h; cases h.1)
          have HD := Lib.hid (fun W h => HC.out false W h hgd)
          clear hgd
          refine wp_region_later (by kernel_rfl) (by kernel_rfl) ?_
          repeat (go_big_quiet_step ((go_at_call 57; exact calls_later (HD.out _ (ints_below HI.out (Later.below _))))))
          refine wpQuiet_nil ?_
          intro _ hw'
          obtain ⟨pq, hw''⟩ := hw'
          subst hw''
          have B1 := Lib.hid (HB.out.trans (pq.below.mono HB.out.size))
          clear p0 p1 p2 p3 p4
          go_wp2
          go_ret
          exact ⟨rfl, B1.out⟩
        | true =>
          by_cases hw0 : x0 = y0
          · have n0 : (x0 != y0) = false := by simp [hw0]
            by_cases hh0 : x1 = y1
            · have n1 : (x1 != y1) = false := by simp [hh0]
              have HX := Lib.hid (And.intro hgd (And.intro hw0 hh0))
              clear hw0 hh0
              have HD := Lib.hid (fun W h => HC.out true W h hgd)
              clear hgd
              refine wp_region_later (by kernel_rfl) (by kernel_rfl) ?_
              repeat (go_big_quiet_step ((go_at_call 57; exact calls_later (HD.out _ (ints_below HI.out (Later.below _))))))
              refine wpQuiet_nil ?_
              intro _ hw'
              obtain ⟨pq, hw''⟩ := hw'
              subst hw''
              have B1 := Lib.hid (HB.out.trans (pq.below.mono HB.out.size))
              clear p0 p1 p2 p3 p4
              go_wp2
              go_roundw
              case rel => exact ⟨k + 1, by omega, by go_num, B1.out, HNX.out HX.out⟩
              case measure => simp [intOf]; omega
            · have n1 : (x1 != y1) = true := by simp [hh0]
              obtain rfl : v = false := by rw [← HV.out]; exact HBAD.out (fun h => hh0 h.2.2)
              clear hw0 hh0
              have HD := Lib.hid (fun W h => HC.out true W h hgd)
              clear hgd
              refine wp_region_later (by kernel_rfl) (by kernel_rfl) ?_
              repeat (go_big_quiet_step ((go_at_call 57; exact calls_later (HD.out _ (ints_below HI.out (Later.below _))))))
              refine wpQuiet_nil ?_
              intro _ hw'
              obtain ⟨pq, hw''⟩ := hw'
              subst hw''
              have B1 := Lib.hid (HB.out.trans (pq.below.mono HB.out.size))
              clear p0 p1 p2 p3 p4
              go_wp2
              go_ret
              exact ⟨rfl, B1.out⟩
          · have n0 : (x0 != y0) = true := by simp [hw0]
            obtain rfl : v = false := by rw [← HV.out]; exact HBAD.out (fun h => hw0 h.2.1)
            clear hw0
            have HD := Lib.hid (fun W h => HC.out true W h hgd)
            clear hgd
            refine wp_region_later (by kernel_rfl) (by kernel_rfl) ?_
            repeat (go_big_quiet_step ((go_at_call 57; exact calls_later (HD.out _ (ints_below HI.out (Later.below _))))))
            refine wpQuiet_nil ?_
            intro _ hw'
            obtain ⟨pq, hw''⟩ := hw'
            subst hw''
            have B1 := Lib.hid (HB.out.trans (pq.below.mono HB.out.size))
            clear p0 p1 p2 p3 p4
            go_wp2
            go_ret
            exact ⟨rfl, B1.out⟩
      · obtain rfl : k = es.length := by omega
        obtain rfl : v = true := by rw [← HV.out]; exact en_yes HN.out h0 (fun j hj => HA.out j hj hj)
        go_wp2
        go_ret
        exact ⟨rfl, HB.out⟩
  · obtain rfl : v = false := by rw [← hv]; exact enB_size (by rw [plains_len]; exact hsz)
    have C1 := Lib.hid (fun W => l1In_is (es.length : Int) 1 8 false W (by rw [← Bool.decide_and]; exact decide_eq_false (by omega)))
    clear hl hs hv hsz
    go_enter Try.func84, Try.ntmps84
    go_wp2_with (go_at_call 76; refine (C1.out _).mono ?_; rintro e w1 ⟨rfl, rfl⟩)
    go_ret
    exact ⟨rfl, Below.refl _ _⟩
/-- a row of fields, as haveOneShape's contract reads it -/
theorem fldRow_of {w : World} {g : Nat} {es : List FE} (h : Flds w w.heap.size (some ⟨g, 0, none⟩) es) (h0 : 0 < es.length) (hs : ∀ e ∈ es, e.l.length ≤ 1048576) : FldRow w g es.length (fun j => (es.getD j zeroF).wd) (fun j => (es.getD j zeroF).hg) (fun j => (es.getD j zeroF).ad) (fun j => (es.getD j zeroF).l) (fun j => (es.getD j zeroF).c) := by
  have hg : g < w.heap.size := by
    obtain ⟨b, o, e, hb, _⟩ := h.at_ h0
    injection e with e
    injection e with e1 e2
    subst e1
    exact hb
  refine ⟨hg, fun j hj => ?_⟩
  obtain ⟨b, o, e, hb, q0, q1, q2, q3⟩ := h.at_ hj
  injection e with e
  injection e with e1 e2
  subst e1 e2
  simp only [Nat.zero_add] at q0 q1 q2
  have e : es.getD j zeroF = es[j] := by simp [List.getD, hj]
  simp only [e]
  exact ⟨q0, q1, q2, q3, hs _ (List.getElem_mem hj)⟩
theorem en_one {es : List FE} (hn : 1 ≤ es.length ∧ es.length ≤ 8) : oneB (fun j => (es.getD j zeroF).wd) (fun j => (es.getD j zeroF).hg) (fun j => (es.getD j zeroF).l) es.length = enB (plains es) := by
  have h0 : 0 < es.length := by omega
  have e : ∀ j (hj : j < es.length), es.getD j zeroF = es[j] := fun j hj => by simp [List.getD, hj]
  have key : ∀ j (hj : j < es.length), likeB (fun j => (es.getD j zeroF).wd) (fun j => (es.getD j zeroF).hg) (fun j => (es.getD j zeroF).l) j = true ↔ goodB es[j].wd es[j].hg es[j].l = true ∧ es[j].wd = (es[0]'h0).wd ∧ es[j].hg = (es[0]'h0).hg := by
    intro j hj
    unfold likeB
    simp only [e j hj, e 0 h0]
    simp
  cases h : enB (plains es) with
  | true =>
    obtain ⟨W, H, hok, _, _⟩ := okE_of h
    refine oneB_iff.2 fun j hj => (key j hj).2 ?_
    obtain ⟨a1, a2, _, a3⟩ := hok.e j hj
    obtain ⟨b1, b2, _, _⟩ := hok.e 0 h0
    rw [a1, a2, b1, b2]
    exact ⟨a3, rfl, rfl⟩
  | false =>
    cases h1 : oneB (fun j => (es.getD j zeroF).wd) (fun j => (es.getD j zeroF).hg) (fun j => (es.getD j zeroF).l) es.length with
    | false => rfl
    | true =>
      have := en_yes hn h0 (fun k hk => (key k hk).1 (oneB_iff.1 h1 k hk))
      rw [h] at this
      cases this
set_option maxHeartbeats 1000000 in
theorem implEn_is (g : Nat) (es : List FE) (c : Nat) (v : Bool) (w : World) (hl : Flds w w.heap.size (some ⟨g, 0, none⟩) es) (hn : es.length ≤ 1048576) (hs : ∀ e ∈ es, e.l.length ≤ 1048576) (hv : enB (plains es) = v) :
    Calls Try.prog 86 #[.slice (some ⟨g, 0, none⟩) es.length c] w fun e w' => e = .returned (.bool v) ∧ Below w.heap.size w w' := by
  by_cases hsz : 1 ≤ es.length ∧ es.length ≤ 8
  · have h0 : 0 < es.length := by omega
    have HC := Lib.hid (oneShape_is g es.length c _ _ _ _ _ v w (fldRow_of hl h0 hs) h0 hn (by rw [en_one hsz]; exact hv))
    have h1 : (1 : Int) ≤ (es.length : Int) := by omega
    have h8 : (es.length : Int) ≤ 8 := by omega
    clear hl hs hv
    generalize es.length = n at *
    go_enter Try.func86, Try.ntmps86
    go_wp2_with (go_at_call 69; refine HC.out.mono ?_; rintro e w1 ⟨rfl, b1⟩; have HB := Lib.hid b1; clear b1)
    go_ret
    exact ⟨rfl, HB.out⟩
  · obtain rfl : v = false := by rw [← hv]; exact enB_size (by rw [plains_len]; exact hsz)
    clear hl hs hv
    generalize es.length = n at *
    by_cases h1 : 1 ≤ n
    · have h8 : ¬ n ≤ 8 := by omega
      go_enter Try.func86, Try.ntmps86
      go_wp2
      go_ret
      exact ⟨rfl, Below.refl _ _⟩
    · obtain rfl : n = 0 := by omega
      go_enter Try.func86, Try.ntmps86
      go_wp2
      go_ret
      exact ⟨rfl, Below.refl _ _⟩
end Go.Proofs.Ytggdkibbfmjelaa
