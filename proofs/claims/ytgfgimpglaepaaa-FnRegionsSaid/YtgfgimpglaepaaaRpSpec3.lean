/- The model's RegionParts. -/
import Derived.Test.YtgfgimpglaepaaaRpSpec2
namespace Go.Proofs.Ytgfgimpglaepaaa
open Go.RowKit
set_option linter.unusedVariables false
set_option linter.unusedSimpArgs false
theorem parts_small {wd hg : Int} {l : List Int} : (∀ r ∈ partsR wd hg l, r.length ≤ 1048576) ∧ (partsR wd hg l).length ≤ 1048576 ∧ (partsR wd hg l).flatten.length ≤ 1048575 := by
  cases hr : regB wd hg l with
  | false => rw [partsR_no hr]; simp
  | true =>
    rw [partsR_yes hr]
    have hl := reg_len hr
    have hp := parts_len (wd := wd) (l := l) l.length
    have hrow : ∀ r ∈ partsP wd l l.length, r.length ≤ 64 := fun r hr' => by
      obtain ⟨f, rfl⟩ := parts_each l.length r hr'
      exact Nat.le_trans (List.length_filter_le _ _) hl
    have hfl : ∀ (R : List (List Int)), (∀ r ∈ R, r.length ≤ 64) → R.flatten.length ≤ 64 * R.length := by
      intro R
      induction R with
      | nil => intro _; simp
      | cons r R ih =>
        intro h
        have h1 := h r (by simp)
        have h2 := ih fun x hx => h x (by simp [hx])
        simp only [List.flatten_cons, List.length_append, List.length_cons]
        omega
    have := hfl _ hrow
    exact ⟨fun r h => by have := hrow r h; omega, by omega, by omega⟩
theorem parts_pos {wd hg : Int} {l : List Int} : ∀ r ∈ partsR wd hg l, 0 < r.length := by
  cases hr : regB wd hg l with
  | false => rw [partsR_no hr]; simp
  | true =>
    rw [partsR_yes hr]
    have key : ∀ k, k ≤ l.length → ∀ r ∈ partsP wd l k, 0 < r.length := by
      intro k
      induction k with
      | zero => intro _ r h; cases h
      | succ k ih =>
        intro hk r h
        rw [partsP] at h
        split at h
        · exact ih (by omega) r h
        · rcases List.mem_append.1 h with h | h
          · exact ih (by omega) r h
          · rw [List.mem_singleton] at h
            subst h
            have e : l.getD k 0 = l[k]'(by omega) := by simp [show k < l.length by omega]
            rw [e]
            exact List.length_pos_of_mem (mem_comp.2 (.here (List.getElem_mem (by omega))))
    exact key _ (Nat.le_refl _)
set_option maxRecDepth 100000 in
set_option maxHeartbeats 2000000 in
theorem specParts_any (wd hg : Int) (a : Option Addr) (l : List Int) (c : Nat) (w : World) (hl : Ints .i64 w w.heap.size a l) (hn : l.length ≤ 1048576) :
    Calls Try.prog 16 #[.int .i64 wd, .int .i64 hg, .slice a l.length c] w (TabPost (partsR wd hg l) (regB wd hg l) w) := by
  have HL := Lib.hid hl
  cases hr : regB wd hg l with
  | false =>
    rw [partsR_no hr]
    have C := Lib.hid (fun W h => specRegion_is wd hg a l c w.heap.size false W h hn hr)
    clear hl hr
    go_enter Try.func16, Try.ntmps16
    go_wp2_with fail
    refine (C.out _ HL.out).mono ?_
    rintro e w1 ⟨rfl, d1⟩
    have B1 := Lib.hid (d1.below w.heap.size)
    clear d1
    go_wp2
    go_ret2
    exact ⟨_, _, [], rfl, ⟨Tb.nil, .inl rfl⟩, B1.out.alloc B1.out.size _⟩
  | true =>
    rw [partsR_yes hr]
    have C := Lib.hid (fun W h => specRegion_is wd hg a l c w.heap.size true W h hn hr)
    have C2 := Lib.hid (fun W h => l8Parts_any wd hg a l c W h hr)
    clear hl hr
    go_enter Try.func16, Try.ntmps16
    go_wp2_with fail
    refine (C.out _ HL.out).mono ?_
    rintro e w1 ⟨rfl, d1⟩
    have B1 := Lib.hid (d1.below w.heap.size)
    have hL1 := Lib.hid (ints_below HL.out (d1.below _))
    clear d1
    go_wp2_with fail
    refine (C2.out _ hL1.out).mono ?_
    rintro e w2 ⟨a2, c2, E2, rfl, ht, b2⟩
    have HT := Lib.hid (ht.more B1.out.size (Nat.le_refl _))
    have B2 := Lib.hid (below_then B1.out b2)
    clear ht b2
    go_wp2
    go_ret2
    exact ⟨a2, c2, E2, rfl, HT.out, B2.out⟩
end Go.Proofs.Ytgfgimpglaepaaa
