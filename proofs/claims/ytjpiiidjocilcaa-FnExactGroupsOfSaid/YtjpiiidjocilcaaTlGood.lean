/- Validity of a tally: the model's answer is tlB. -/
import Derived.Test.YtjpiiidjocilcaaTlLaw
import Derived.Test.YtjpiiidjocilcaaGood
import Derived.Test.YtjpiiidjocilcaaLate
import Derived.BigQuiet
namespace Go.Proofs.Ytjpiiidjocilcaa
open Go.RowKit
set_option linter.unusedVariables false
set_option linter.unusedSimpArgs false
/-- the number of cases and hits of a class -/
def caseB (c h : Int) : Bool := (decide (0 ≤ c) && decide (c ≤ 1000)) && (decide (0 ≤ h) && decide (h ≤ c))
/-- a valid tally -/
def tlB (l r : List Int) : Bool := decide (l.length = 11) && (decide (r.length = 11) && (List.range 11).all fun i => caseB (l.getD i 0) (r.getD i 0))
theorem getD_at (l : List Int) {k : Nat} (h : k < l.length) : l.getD k 0 = l[k] := by rw [List.getD_eq_getElem?_getD, List.getElem?_eq_getElem h]; rfl
theorem tl_short {l r : List Int} (h : l.length ≠ 11) : tlB l r = false := by unfold tlB; simp [h]
theorem tl_short2 {l r : List Int} (h : r.length ≠ 11) : tlB l r = false := by unfold tlB; simp [h]
theorem tl_len {l r : List Int} (h : tlB l r = true) : l.length = 11 ∧ r.length = 11 := by
  unfold tlB at h
  rw [Bool.and_eq_true, Bool.and_eq_true] at h
  exact ⟨of_decide_eq_true h.1, of_decide_eq_true h.2.1⟩
theorem tl_at {l r : List Int} (h : tlB l r = true) {k : Nat} (hk : k < l.length) (hk2 : k < r.length) : caseB l[k] r[k] = true := by
  have hl := (tl_len h).1
  unfold tlB at h
  rw [Bool.and_eq_true, Bool.and_eq_true, List.all_eq_true] at h
  have := h.2.2 k (List.mem_range.2 (by omega))
  rwa [getD_at l hk, getD_at r hk2] at this
theorem tl_bad {l r : List Int} {k : Nat} (hk : k < l.length) (hk2 : k < r.length) (h : caseB l[k] r[k] = false) : tlB l r = false := by
  cases e : tlB l r with
  | false => rfl
  | true => rw [tl_at e hk hk2] at h; cases h
theorem tl_all {l r : List Int} (h1 : l.length = 11) (h2 : r.length = 11) (h : ∀ j (x : j < l.length) (y : j < r.length), caseB l[j] r[j] = true) : tlB l r = true := by
  unfold tlB
  rw [Bool.and_eq_true, Bool.and_eq_true, List.all_eq_true]
  refine ⟨decide_eq_true h1, decide_eq_true h2, fun k hk => ?_⟩
  have hk := List.mem_range.1 hk
  rw [getD_at l (by omega), getD_at r (by omega)]
  exact h k (by omega) (by omega)

set_option maxHeartbeats 4000000 in
theorem specTl_is (a b : Option Addr) (l r : List Int) (c d : Nat) (v : Bool) (w : World) (hl : Ints .i64 w w.heap.size a l) (hr : Ints .i64 w w.heap.size b r) (h : tlB l r = v) :
    Calls Try.prog 54 #[.agg #[.slice a l.length c, .slice b r.length d]] w fun e w' => e = .returned (.bool v) ∧ Below w.heap.size w w' := by
  have HV := Lib.hid h
  clear h
  by_cases h1 : l.length = 11
  · by_cases h2 : r.length = 11
    · have n1 : ((l.length : Int) != 11) = false := by simp [h1]
      have n2 : ((r.length : Int) != 11) = false := by simp [h2]
      have HL := Lib.hid (ints_alloc hl (.cells #[.slice a l.length c, .slice b r.length d] 27))
      have HR := Lib.hid (ints_alloc hr (.cells #[.slice a l.length c, .slice b r.length d] 27))
      have H1 := Lib.hid h1
      have H2 := Lib.hid h2
      clear h1 h2 hl hr
      go_enter Try.func54, Try.ntmps54
      go_wp2
      clear n1 n2
      go_loopw [3] (fun i wr => ∃ k : Nat, k ≤ l.length ∧ i = .int .i64 k ∧ Below (w.alloc (.cells #[.slice a l.length c, .slice b r.length d] 27)).heap.size (w.alloc (.cells #[.slice a l.length c, .slice b r.length d] 27)) wr ∧ ∀ j (x : j < l.length) (y : j < r.length), j < k → caseB l[j] r[j] = true) (fun i _ => l.length - (intOf i).toNat)
      case atStart => exact ⟨0, Nat.zero_le _, rfl, Below.refl _ _, fun _ _ _ h => by omega⟩
      case round =>
        obtain ⟨k, hk, rfl, hB, hall⟩ := hrel
        have HB := Lib.hid hB
        have HA := Lib.hid hall
        have hs := hB.size
        simp at hs
        have c0 : wr.cell? ⟨w.heap.size, 0, none⟩ = some (.slice a l.length c) := (hB.cell (p := ⟨w.heap.size, 0, none⟩) (by simp)).trans (by simp [go_sem])
        have c1 : wr.cell? ⟨w.heap.size, 1, none⟩ = some (.slice b r.length d) := (hB.cell (p := ⟨w.heap.size, 1, none⟩) (by simp)).trans (by simp [go_sem])
        by_cases hlt : k < l.length
        · have hlt2 : k < r.length := by rw [H2.out, ← H1.out]; exact hlt
          obtain ⟨b1, o1, rfl, hb1, hc1⟩ := (HL.out.below hB (Nat.le_refl _)).at_ hlt
          obtain ⟨b2, o2, rfl, hb2, hc2⟩ := (HR.out.below hB (Nat.le_refl _)).at_ hlt2
          simp at hb1 hb2
          have h11 : l.length ≤ 11 := Nat.le_of_eq H1.out
          have hi : (k : Int) < (l.length : Int) := by omega
          have hi0 : (0 : Int) ≤ (k : Int) := by omega
          have hi2 : (k : Int) < (r.length : Int) := by omega
          have p0 := later_cell c0 (by omega)
          have p1 := later_cell c1 (by omega)
          have p2 := later_cell hc1 (by omega)
          have p3 := later_cell hc2 (by omega)
          have HBAD := Lib.hid (fun h => tl_bad hlt hlt2 h)
          have HNX := Lib.hid (fun (hx : caseB l[k] r[k] = true) j (x : j < l.length) (y : j < r.length) (hj : j < k + 1) => show caseB l[j] r[j] = true by
            rcases Nat.lt_or_ge j k with h1 | h1
            · exact HA.out j x y h1
            · obtain rfl : j = k := by omega
              exact hx)
          clear hB hall hc1 hc2
          generalize l[k] = x at *
          generalize r[k] = y at *
          go_wp2_with fail
          clear c0 c1
          cases hx : (decide (0 ≤ x) && decide (x ≤ 1000)) with
          | false =>
            obtain rfl : v = false := by rw [← HV.out]; exact HBAD.out (by unfold caseB; rw [hx]; rfl)
            have C1 := Lib.hid (fun W => l1In_is x 0 1000 false W hx)
            have C2 := C1
            clear hx
            refine wp_region_later (by kernel_rfl) (by kernel_rfl) ?_
            repeat (go_big_quiet_step ((go_at_call 84; first | (with_reducible exact calls_later_same (C1.out _)) | (with_reducible exact calls_later_same (C2.out _)))))
            refine wpQuiet_nil ?_
            intro _ hw'
            obtain ⟨pq, hw''⟩ := hw'
            subst hw''
            have B1 := Lib.hid (HB.out.trans (pq.below.mono HB.out.size))
            clear p0 p1 p2 p3
            go_wp2
            go_ret
            exact ⟨rfl, (below_all _ _).trans (B1.out.mono (by simp))⟩
          | true =>
            have C1 := Lib.hid (fun W => l1In_is x 0 1000 true W hx)
            cases hy : (decide (0 ≤ y) && decide (y ≤ x)) with
            | false =>
              obtain rfl : v = false := by rw [← HV.out]; exact HBAD.out (by unfold caseB; rw [hx, hy]; rfl)
              have C2 := Lib.hid (fun W => l1In_is y 0 x false W hy)
              clear hx hy
              refine wp_region_later (by kernel_rfl) (by kernel_rfl) ?_
              repeat (go_big_quiet_step ((go_at_call 84; first | (with_reducible exact calls_later_same (C1.out _)) | (with_reducible exact calls_later_same (C2.out _)))))
              refine wpQuiet_nil ?_
              intro _ hw'
              obtain ⟨pq, hw''⟩ := hw'
              subst hw''
              have B1 := Lib.hid (HB.out.trans (pq.below.mono HB.out.size))
              clear p0 p1 p2 p3
              go_wp2
              go_ret
              exact ⟨rfl, (below_all _ _).trans (B1.out.mono (by simp))⟩
            | true =>
              have HY := Lib.hid (show caseB x y = true by unfold caseB; rw [hx, hy]; rfl)
              have C2 := Lib.hid (fun W => l1In_is y 0 x true W hy)
              clear hx hy
              refine wp_region_later (by kernel_rfl) (by kernel_rfl) ?_
              repeat (go_big_quiet_step ((go_at_call 84; first | (with_reducible exact calls_later_same (C1.out _)) | (with_reducible exact calls_later_same (C2.out _)))))
              refine wpQuiet_nil ?_
              intro _ hw'
              obtain ⟨pq, hw''⟩ := hw'
              subst hw''
              have B1 := Lib.hid (HB.out.trans (pq.below.mono HB.out.size))
              clear p0 p1 p2 p3
              go_wp2
              go_roundw
              case rel => exact ⟨k + 1, by omega, by go_num, B1.out, HNX.out HY.out⟩
              case measure => simp [intOf]; omega
        · obtain rfl : k = l.length := by omega
          obtain rfl : v = true := by rw [← HV.out]; exact tl_all H1.out H2.out (fun j x y => HA.out j x y x)
          clear hall
          have B1 := Lib.hid hB
          clear hB
          go_wp2
          go_ret
          exact ⟨rfl, (below_all _ _).trans (B1.out.mono (by simp))⟩
    · obtain rfl : v = false := by rw [← HV.out]; exact tl_short2 h2
      have n1 : ((l.length : Int) != 11) = false := by simp [h1]
      have n2 : ((r.length : Int) != 11) = true := by simp; omega
      clear h1 h2
      go_enter Try.func54, Try.ntmps54
      go_wp2
      go_ret
      exact ⟨rfl, below_all _ _⟩
  · obtain rfl : v = false := by rw [← HV.out]; exact tl_short h1
    have n1 : ((l.length : Int) != 11) = true := by simp; omega
    clear h1
    go_enter Try.func54, Try.ntmps54
    go_wp2
    go_ret
    exact ⟨rfl, below_all _ _⟩
end Go.Proofs.Ytjpiiidjocilcaa
