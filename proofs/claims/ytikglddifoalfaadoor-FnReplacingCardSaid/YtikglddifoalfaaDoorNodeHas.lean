/- slices.Index and slices.Contains over nodes. -/
import Derived.Test.YtikglddifoalfaaDoorNodeLaw
import Derived.Deep.QuietTactic
import Derived.BigQuiet
import Derived.WalkKit
namespace Go.Proofs.YtikglddifoalfaaDoor
open Go.RowKit
set_option linter.unusedVariables false
set_option linter.unusedSimpArgs false
def hasN (l : List Nd) (x y : Int) : Bool := l.any fun p => p.1 == x && p.2 == y
theorem hasN_at {l : List Nd} {x y : Int} {k : Nat} (h : k < l.length) (e1 : l[k].1 = x) (e2 : l[k].2 = y) : hasN l x y = true := by
  unfold hasN
  rw [List.any_eq_true]
  exact ⟨l[k], List.getElem_mem h, by simp [e1, e2]⟩
theorem hasN_no {l : List Nd} {x y : Int} (h : ∀ k (hk : k < l.length), ¬ (l[k].1 = x ∧ l[k].2 = y)) : hasN l x y = false := by
  unfold hasN
  rw [List.any_eq_false]
  intro p hp
  obtain ⟨k, hk, rfl⟩ := List.getElem_of_mem hp
  have := h k hk
  simpa using this
set_option maxHeartbeats 1000000 in
theorem nodeIndex_any (a : Option Addr) (l : List Nd) (c : Nat) (x y : Int) (w : World) (hl : Nds w w.heap.size a l) (hn : l.length ≤ 1048576) :
    Calls Tryd.prog 42 #[.slice a l.length c, .agg #[.int .i64 x, .int .i64 y]] w fun e w' => (∃ i : Int, e = .returned (.int .i64 i) ∧ decide (0 ≤ i) = hasN l x y) ∧ Below w.heap.size w w' := by
  have HL := Lib.hid (nds_alloc hl (.cells #[.int .i64 x, .int .i64 y] 49))
  have HB := Lib.hid (below_all w (.cells #[.int .i64 x, .int .i64 y] 49))
  have x0 : (w.alloc (.cells #[.int .i64 x, .int .i64 y] 49)).cell? ⟨w.heap.size, 0, none⟩ = some (.int .i64 x) := by unfold World.cell?; rw [heap_alloc_new]; rfl
  have x1 : (w.alloc (.cells #[.int .i64 x, .int .i64 y] 49)).cell? ⟨w.heap.size, 1, none⟩ = some (.int .i64 y) := by unfold World.cell?; rw [heap_alloc_new]; rfl
  have HX := Lib.hid (And.intro x0 x1)
  clear hl x0 x1
  obtain ⟨g, hg⟩ : ∃ q, w.heap.size = q := ⟨_, rfl⟩
  obtain ⟨W, hW⟩ : ∃ W, w.alloc (.cells #[.int .i64 x, .int .i64 y] 49) = W := ⟨_, rfl⟩
  rw [hW] at HL HB HX
  go_enter Tryd.func42, Tryd.ntmps42
  go_wp2
  rw [hg] at HX
  go_loopw [8] (fun i wr => ∃ k : Nat, k ≤ l.length ∧ i = .int .i64 k ∧ (∀ j (hj : j < l.length), j < k → ¬ (l[j].1 = x ∧ l[j].2 = y)) ∧ Drew W wr) (fun i _ => l.length - (intOf i).toNat)
  case atStart => exact ⟨0, Nat.zero_le _, rfl, by intro j _ h; omega, Drew.refl _⟩
  case round =>
    obtain ⟨k, hk, rfl, hno, hw⟩ := hrel
    have HW := Lib.hid hw
    have HNO := Lib.hid hno
    have b0 := (hw.cell ⟨g, 0, none⟩).trans HX.out.1
    have b1 := (hw.cell ⟨g, 1, none⟩).trans HX.out.2
    clear hw hno HX
    by_cases hlt : k < l.length
    · obtain ⟨b, o, rfl, hb, c0, c1⟩ := (HL.out.drew HW.out).at_ hlt
      have hi : (k : Int) < (l.length : Int) := by omega
      have hi0 : (0 : Int) ≤ (k : Int) := by omega
      obtain ⟨z0, hz0⟩ : ∃ z, l[k].1 = z := ⟨_, rfl⟩
      obtain ⟨z1, hz1⟩ : ∃ z, l[k].2 = z := ⟨_, rfl⟩
      rw [hz0] at c0
      rw [hz1] at c1
      have HZ := Lib.hid (And.intro hz0 hz1)
      clear hz0 hz1
      by_cases he : z0 = x ∧ z1 = y
      · obtain ⟨rfl, rfl⟩ := he
        have HIN := Lib.hid (hasN_at hlt HZ.out.1 HZ.out.2)
        go_wp2_with fail
        go_quiet (fail)
        go_wp2
        go_ret
        exact ⟨⟨_, rfl, by rw [HIN.out]; simp⟩, HB.out.trans ((HW.out.more _).below _)⟩
      · have HE := Lib.hid (show ∀ j (hj : j < l.length), j < k + 1 → ¬ (l[j].1 = x ∧ l[j].2 = y) from by
          intro j hj hjk
          by_cases hjk2 : j < k
          · exact HNO.out j hj hjk2
          · obtain rfl : j = k := by omega
            rw [HZ.out.1, HZ.out.2]
            exact he)
        by_cases h1 : x = z0
        · subst h1
          have e2 : (y == z1) = false := by
            rw [beq_eq_false_iff_ne]
            intro h
            exact he ⟨rfl, h.symm⟩
          clear he
          go_wp2_with fail
          go_quiet (fail)
          go_wp2
          go_roundw
          case rel => exact ⟨k + 1, by omega, by go_num, HE.out, HW.out.more _⟩
          case measure => simp [intOf]; omega
        · have e1 : (x == z0) = false := by rw [beq_eq_false_iff_ne]; exact h1
          clear he h1
          go_wp2_with fail
          go_quiet (fail)
          go_wp2
          go_roundw
          case rel => exact ⟨k + 1, by omega, by go_num, HE.out, HW.out.more _⟩
          case measure => simp [intOf]; omega
    · obtain rfl : k = l.length := by omega
      have HF := Lib.hid (hasN_no fun j hj => HNO.out j hj hj)
      go_wp2
      go_ret
      exact ⟨⟨_, rfl, by rw [HF.out]; rfl⟩, HB.out.trans (HW.out.below _)⟩
end Go.Proofs.YtikglddifoalfaaDoor
