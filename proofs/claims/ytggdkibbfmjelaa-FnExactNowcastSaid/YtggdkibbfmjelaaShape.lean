/- haveOneShape: all fields of a row valid and of the first one's shape. -/
import Derived.Test.YtggdkibbfmjelaaAlgMath
import Derived.Test.YtggdkibbfmjelaaFr
import Derived.Test.YtggdkibbfmjelaaLater
namespace Go.Proofs.Ytggdkibbfmjelaa
open Go.RowKit
set_option linter.unusedVariables false
set_option linter.unusedSimpArgs false
/-- field j is valid and has the first one's shape -/
def likeB (wd hg : Nat → Int) (ls : Nat → List Int) (j : Nat) : Bool := goodB (wd j) (hg j) (ls j) && (decide (wd j = wd 0) && decide (hg j = hg 0))
def oneB (wd hg : Nat → Int) (ls : Nat → List Int) (n : Nat) : Bool := (List.range n).all (likeB wd hg ls)
theorem oneB_iff {wd hg : Nat → Int} {ls : Nat → List Int} {n : Nat} : oneB wd hg ls n = true ↔ ∀ j, j < n → likeB wd hg ls j = true := by unfold oneB; simp
theorem oneB_no {wd hg : Nat → Int} {ls : Nat → List Int} {n k : Nat} (hk : k < n) (h : likeB wd hg ls k = false) : oneB wd hg ls n = false := by
  cases h1 : oneB wd hg ls n with
  | false => rfl
  | true => have := oneB_iff.1 h1 k hk; rw [h] at this; cases this
/-- the row of fields at block g -/
def FldRow (w : World) (g n : Nat) (wd hg : Nat → Int) (ad : Nat → Option Addr) (ls : Nat → List Int) (cs : Nat → Nat) : Prop :=
  g < w.heap.size ∧ ∀ j, j < n → w.cell? ⟨g, j * 3, none⟩ = some (.int .i64 (wd j)) ∧ w.cell? ⟨g, j * 3 + 1, none⟩ = some (.int .i64 (hg j)) ∧ w.cell? ⟨g, j * 3 + 2, none⟩ = some (.slice (ad j) (ls j).length (cs j)) ∧ Ints .i64 w w.heap.size (ad j) (ls j) ∧ (ls j).length ≤ 1048576
theorem FldRow.below {w w' : World} {g n : Nat} {wd hg : Nat → Int} {ad : Nat → Option Addr} {ls : Nat → List Int} {cs : Nat → Nat} (h : FldRow w g n wd hg ad ls cs) (b : Below w.heap.size w w') : FldRow w' g n wd hg ad ls cs := by
  obtain ⟨h1, h2⟩ := h
  refine ⟨Nat.lt_of_lt_of_le h1 b.size, fun j hj => ?_⟩
  obtain ⟨k0, k1, k2, k3, k4⟩ := h2 j hj
  exact ⟨(b.cell (p := ⟨g, _, none⟩) h1).trans k0, (b.cell (p := ⟨g, _, none⟩) h1).trans k1, (b.cell (p := ⟨g, _, none⟩) h1).trans k2, ints_below k3 b, k4⟩
set_option maxRecDepth 100000 in
set_option maxHeartbeats 8000000 in
theorem oneShape_is (g n cap : Nat) (wd hg : Nat → Int) (ad : Nat → Option Addr) (ls : Nat → List Int) (cs : Nat → Nat) (v : Bool) (w : World) (hF : FldRow w g n wd hg ad ls cs) (h0 : 0 < n) (hn : n ≤ 1048576) (h : oneB wd hg ls n = v) :
    Calls Try.prog 69 #[.slice (some ⟨g, 0, none⟩) n cap] w fun e w' => e = .returned (.bool v) ∧ Below w.heap.size w w' := by
  have HF := Lib.hid hF
  have HV := Lib.hid h
  clear hF h
  go_enter Try.func69, Try.ntmps69
  go_wp2
  go_loopw [7] (fun i wr => ∃ k : Nat, k ≤ n ∧ i = .int .i64 k ∧ Below w.heap.size w wr ∧ ∀ j, j < k → likeB wd hg ls j = true) (fun i _ => n - (intOf i).toNat)
  case atStart => exact ⟨0, Nat.zero_le _, rfl, Below.refl _ _, fun j hj => by omega⟩
  case round =>
    obtain ⟨k, hk, rfl, hB, hall⟩ := hrel
    have HB := Lib.hid hB
    have HA := Lib.hid hall
    clear hB hall
    by_cases hlt : k < n
    · obtain ⟨hg1, hr⟩ := HF.out.below HB.out
      obtain ⟨c0, c1, c2, ci, cl⟩ := hr k hlt
      obtain ⟨d0, d1, d2, -, -⟩ := hr 0 h0
      have HI := Lib.hid ci
      clear hr ci d2
      simp only [Nat.zero_mul, Nat.zero_add] at d0 d1
      have hi : (k : Int) < (n : Int) := by omega
      have hi0 : (0 : Int) ≤ (k : Int) := by omega
      have hX := Box.new wr 34 (.int .i64 (wd k)) (.int .i64 (hg k)) (.slice (ad k) (ls k).length (cs k))
      have hI := ints_alloc HI.out (.cells #[.int .i64 (wd k), .int .i64 (hg k), .slice (ad k) (ls k).length (cs k)] 34)
      have hBW := HB.out.alloc HB.out.size (.cells #[.int .i64 (wd k), .int .i64 (hg k), .slice (ad k) (ls k).length (cs k)] 34)
      have hd0 := (Below.refl wr.heap.size wr).alloc (Nat.le_refl _) (.cells #[.int .i64 (wd k), .int .i64 (hg k), .slice (ad k) (ls k).length (cs k)] 34)
      go_wp2
      clear c0 c1 c2
      obtain ⟨W, hW⟩ : ∃ W, wr.alloc (.cells #[.int .i64 (wd k), .int .i64 (hg k), .slice (ad k) (ls k).length (cs k)] 34) = W := ⟨_, rfl⟩
      rw [hW] at hX hI hBW hd0 ⊢
      have e0 : W.cell? ⟨g, 0, none⟩ = some (.int .i64 (wd 0)) := (hd0.cell (p := ⟨g, 0, none⟩) hg1).trans d0
      have e1 : W.cell? ⟨g, 1, none⟩ = some (.int .i64 (hg 0)) := (hd0.cell (p := ⟨g, 1, none⟩) hg1).trans d1
      have hgW : g < W.heap.size := Nat.lt_of_lt_of_le hg1 hd0.size
      have HX := Lib.hid hX
      have HI2 := Lib.hid hI
      have HBW := Lib.hid hBW
      have HE := Lib.hid (And.intro e0 e1)
      obtain ⟨p0, p1, p2⟩ := box_later hX
      have p3 := later_cell e0 hgW
      have p4 := later_cell e1 hgW
      clear hW hX hI hBW hd0 d0 d1 HI e0 e1 HE HX
      cases hgd : goodB (wd k) (hg k) (ls k) with
      | false =>
        obtain rfl : v = false := by rw [← HV.out]; exact oneB_no hlt (by unfold likeB; rw [hgd]; rfl)
        have HC := Lib.hid (fun W h => implGood_is (wd k) (hg k) (ad k) (ls k) (cs k) _ false W h (Nat.le_refl _) cl hgd)
        clear hgd
        refine wp_region_later (by kernel_rfl) (by kernel_rfl) ?_
        repeat (go_big_quiet_step ((go_at_call 60; exact calls_later (HC.out _ (ints_below HI2.out (Later.below _))))))
        refine wpQuiet_nil ?_
        intro _ hw'
        obtain ⟨pq, hw''⟩ := hw'
        subst hw''
        have B1 := Lib.hid (HBW.out.trans (pq.below.mono HBW.out.size))
        clear p0 p1 p2 p3 p4
        go_wp2
        go_ret
        exact ⟨rfl, B1.out⟩
      | true =>
        have HC := Lib.hid (fun W h => implGood_is (wd k) (hg k) (ad k) (ls k) (cs k) _ true W h (Nat.le_refl _) cl hgd)
        by_cases hw0 : wd k = wd 0
        · have n0 : (wd k != wd 0) = false := by simp [hw0]
          by_cases hh0 : hg k = hg 0
          · have n1 : (hg k != hg 0) = false := by simp [hh0]
            have HL := Lib.hid (show likeB wd hg ls k = true by unfold likeB; rw [hgd, decide_eq_true hw0, decide_eq_true hh0]; rfl)
            clear hgd hw0 hh0
            refine wp_region_later (by kernel_rfl) (by kernel_rfl) ?_
            repeat (go_big_quiet_step ((go_at_call 60; exact calls_later (HC.out _ (ints_below HI2.out (Later.below _))))))
            refine wpQuiet_nil ?_
            intro _ hw'
            obtain ⟨pq, hw''⟩ := hw'
            subst hw''
            have B1 := Lib.hid (HBW.out.trans (pq.below.mono HBW.out.size))
            clear p0 p1 p2 p3 p4
            go_wp2
            go_roundw
            case rel => exact ⟨k + 1, by omega, by go_num, B1.out, fun j hj => by
              rcases Nat.lt_or_ge j k with h1 | h1
              · exact HA.out j h1
              · obtain rfl : j = k := by omega
                exact HL.out⟩
            case measure => simp [intOf]; omega
          · have n1 : (hg k != hg 0) = true := by simp [hh0]
            obtain rfl : v = false := by rw [← HV.out]; exact oneB_no hlt (by unfold likeB; rw [decide_eq_false hh0]; simp)
            clear hgd hw0 hh0
            refine wp_region_later (by kernel_rfl) (by kernel_rfl) ?_
            repeat (go_big_quiet_step ((go_at_call 60; exact calls_later (HC.out _ (ints_below HI2.out (Later.below _))))))
            refine wpQuiet_nil ?_
            intro _ hw'
            obtain ⟨pq, hw''⟩ := hw'
            subst hw''
            have B1 := Lib.hid (HBW.out.trans (pq.below.mono HBW.out.size))
            clear p0 p1 p2 p3 p4
            go_wp2
            go_ret
            exact ⟨rfl, B1.out⟩
        · have n0 : (wd k != wd 0) = true := by simp [hw0]
          obtain rfl : v = false := by rw [← HV.out]; exact oneB_no hlt (by unfold likeB; rw [decide_eq_false hw0]; simp)
          clear hgd hw0
          refine wp_region_later (by kernel_rfl) (by kernel_rfl) ?_
          repeat (go_big_quiet_step ((go_at_call 60; exact calls_later (HC.out _ (ints_below HI2.out (Later.below _))))))
          refine wpQuiet_nil ?_
          intro _ hw'
          obtain ⟨pq, hw''⟩ := hw'
          subst hw''
          have B1 := Lib.hid (HBW.out.trans (pq.below.mono HBW.out.size))
          clear p0 p1 p2 p3 p4
          go_wp2
          go_ret
          exact ⟨rfl, B1.out⟩
    · obtain rfl : k = n := by omega
      obtain rfl : v = true := by rw [← HV.out]; exact oneB_iff.2 (fun j hj => HA.out j hj)
      go_wp2
      go_ret
      exact ⟨rfl, HB.out⟩
end Go.Proofs.Ytggdkibbfmjelaa
