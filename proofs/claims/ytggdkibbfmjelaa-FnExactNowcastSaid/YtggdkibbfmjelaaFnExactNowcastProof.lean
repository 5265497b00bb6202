/- FnExactNowcast: for every input the law's call returns true, and each argument reads afterwards as it read before; no condition. -/
import Derived.Test.YtggdkibbfmjelaaRows
import Derived.Test.YtggdkibbfmjelaaNcAll
import Derived.WalkKit
import Derived.ProofKit
import Derived.OpenShut
import Derived.ShutString
import Derived.SliceStrings
import Derived.ChangeOld
import Derived.Below
import Derived.Lib.SmallJoins
namespace Go.Proofs.Ytggdkibbfmjelaa.fnExactNowcast
open Go.ChangeShapes Go.WideShapes Go.ChangeAt Go.RowKit
open Go.ChangeMaps (open_string shut_string)
set_option linter.unusedVariables false

theorem own : ownKnob Try.prog.godebug = none := by kernel_rfl
theorem laidOut : laidOutB Try.prog = true := by kernel_rfl

set_option maxRecDepth 100000 in
theorem lifted (os : Os) (started : os.Started) (H : Type) (enc : TypeId × Value → H) :
    ReturnsInHanded {} Try.checked os 9 .any (Rows.fnExactNowcastSpec.pre6 enc Try.prog Try.f9 Rows.fnExactNowcastRow.domain false) (Rows.fnExactNowcastSpec.post enc Try.prog Try.f9 false true false false) := by
  refine returnsInHanded_of_change (C := Try.checked) own started (by kernel_rfl) Try.func9
    (ChangeSpec.witness6 (enc := enc) (C := Try.checked) false ⟨#[], #[.agg #[.int .i64 0, .int .i64 0, .slice none 0 0], .agg #[.int .i64 0, .int .i64 0, .slice none 0 0], .int .i64 0], []⟩ 8 (by kernel_rfl) (by kernel_rfl) (by kernel_rfl) (by kernel_rfl)) ?_
  intro W base args ds gs before hval0 hW hcnd _
  have hval : ∀ (j : Nat) t v, Try.f9.params[j]? = some t → args[j]? = some v → Value.okWide Try.prog W .any base t v := hval0
  have hW' := hW
  obtain ⟨p, q, hA0, hV, rfl, hfz, hnd⟩ := hW
  have hA : DataW.TrodAll enc Try.prog W 0 (fun _ => true) true Try.f9.params.toList args.toList ds p := hA0
  rw [Try.params9] at hA hval
  obtain ⟨v0, vs0, d0, ds0, p0, q0, hargs, rfl, rfl, h0, r0'⟩ := trodAll_cons hA
  obtain ⟨v1, vs1, d1, ds1, p1, q1, rfl, rfl, rfl, h1, r1'⟩ := trodAll_cons r0'
  obtain ⟨v2, vs2, d2, ds2, p2, q2, rfl, rfl, rfl, h2, r2'⟩ := trodAll_cons r1'
  obtain ⟨rfl, rfl, rfl⟩ := trodAll_nil r2'
  obtain rfl : args = #[v0, v1, v2] := by cases args; simp_all
  obtain ⟨rfl, rfl⟩ := trodVars_none hV
  have k0 := h0
  have lt0 : ∀ x ∈ p0, x.block < W.heap.size := by obtain ⟨m, hm⟩ := k0; exact DataW.trod_lt m _ _ _ hm
  obtain ⟨x0_0, x0_1, x0_2, y0_0, y0_1, y0_2, n0_, rfl, rfl, rfl, t0_0, t0_1, t0_2⟩ := Joins.open_agg3 Try.underlying32 (by kernel_rfl) (by kernel_rfl) (hval 0 32 v0 rfl rfl) h0
  obtain ⟨wd0, ea0, _, wwd0⟩ := DataW.trod_int Try.underlying3 t0_0
  obtain ⟨hg0, eb0, _, whg0⟩ := DataW.trod_int Try.underlying3 t0_1
  simp only [List.cons.injEq, and_true] at ea0 eb0
  subst ea0 eb0
  obtain ⟨a0, n0, c0, l0, ev0, e0, r0, b0, m0⟩ : ∃ a n c, ∃ l : List Int, x0_2 = .slice a n c ∧ l.length = n ∧ Ints .i64 W W.heap.size a l ∧ (∀ z ∈ l, -9223372036854775808 ≤ z ∧ z ≤ 9223372036854775807) ∧ l.length ≤ maxLen := by
    rcases open_ints Try.underlying30 Try.underlying3 (by kernel_rfl) t0_2 with ⟨hcs, _⟩ | ⟨x, n, c, zs, hcs, _, hl, hm, hz, _, hcell, hwz⟩
    · simp only [List.cons.injEq, and_true] at hcs
      exact ⟨none, 0, 0, [], hcs, rfl, .inl rfl, fun _ h => by simp at h, by simp⟩
    · simp only [List.cons.injEq, and_true] at hcs
      have hz' : zs.length = c := by simpa using hz
      exact ⟨some x, n, c, zs.take n, hcs, by rw [List.length_take]; omega, ints_of (by omega) hcell, fun z h => bounds_i64 (hwz z (List.mem_of_mem_take h)), by rw [List.length_take]; omega⟩
  subst ev0 e0
  have iwd0 : -9223372036854775808 ≤ wd0 ∧ wd0 ≤ 9223372036854775807 := bounds_i64 wwd0
  have ihg0 : -9223372036854775808 ≤ hg0 ∧ hg0 ≤ 9223372036854775807 := bounds_i64 whg0
  have k1 := h1
  have lt1 : ∀ x ∈ p1, x.block < W.heap.size := by obtain ⟨m, hm⟩ := k1; exact DataW.trod_lt m _ _ _ hm
  obtain ⟨x1_0, x1_1, x1_2, y1_0, y1_1, y1_2, n1_, rfl, rfl, rfl, t1_0, t1_1, t1_2⟩ := Joins.open_agg3 Try.underlying32 (by kernel_rfl) (by kernel_rfl) (hval 1 32 v1 rfl rfl) h1
  obtain ⟨wd1, ea1, _, wwd1⟩ := DataW.trod_int Try.underlying3 t1_0
  obtain ⟨hg1, eb1, _, whg1⟩ := DataW.trod_int Try.underlying3 t1_1
  simp only [List.cons.injEq, and_true] at ea1 eb1
  subst ea1 eb1
  obtain ⟨a1, n1, c1, l1, ev1, e1, r1, b1, m1⟩ : ∃ a n c, ∃ l : List Int, x1_2 = .slice a n c ∧ l.length = n ∧ Ints .i64 W W.heap.size a l ∧ (∀ z ∈ l, -9223372036854775808 ≤ z ∧ z ≤ 9223372036854775807) ∧ l.length ≤ maxLen := by
    rcases open_ints Try.underlying30 Try.underlying3 (by kernel_rfl) t1_2 with ⟨hcs, _⟩ | ⟨x, n, c, zs, hcs, _, hl, hm, hz, _, hcell, hwz⟩
    · simp only [List.cons.injEq, and_true] at hcs
      exact ⟨none, 0, 0, [], hcs, rfl, .inl rfl, fun _ h => by simp at h, by simp⟩
    · simp only [List.cons.injEq, and_true] at hcs
      have hz' : zs.length = c := by simpa using hz
      exact ⟨some x, n, c, zs.take n, hcs, by rw [List.length_take]; omega, ints_of (by omega) hcell, fun z h => bounds_i64 (hwz z (List.mem_of_mem_take h)), by rw [List.length_take]; omega⟩
  subst ev1 e1
  have iwd1 : -9223372036854775808 ≤ wd1 ∧ wd1 ≤ 9223372036854775807 := bounds_i64 wwd1
  have ihg1 : -9223372036854775808 ≤ hg1 ∧ hg1 ≤ 9223372036854775807 := bounds_i64 whg1
  obtain ⟨a2, rfl, rfl, rfl, w2⟩ := open_int Try.underlying3 (hval 2 3 v2 rfl rfl) h2
  clear hA0 hval0
  refine (walk_NcLaw wd0 hg0 a0 l0 c0 wd1 hg1 a1 l1 c1 a2 W r0 m0 r1 m1).mono fun e W' ⟨he, bel⟩ => ?_
  subst he
  exact ⟨_, rfl, _, _, _, [], _, [], hW', trodAll_mk1 (shut_bool Try.underlying4 _), (trodAll_cons_mk (Below.trod laidOut (by kernel_rfl) (of_decide_eq_true (by kernel_rfl)) k0 bel lt0) (trodAll_cons_mk (Below.trod laidOut (by kernel_rfl) (of_decide_eq_true (by kernel_rfl)) k1 bel lt1) (trodAll_cons_mk (shut_int Try.underlying3 w2) trodAll_mk0))), rfl, bel.frame _, fun h => by cases h⟩

theorem over : Rows.fnExactNowcastRow.holds Try.pinned (OpenSpec.ofChange Rows.fnExactNowcastSpec) :=
  OpenClaim.holds_of_wide 9 Try.f9 rfl rfl rfl rfl rfl rfl rfl ⟨rfl, rfl, rfl, rfl, rfl⟩ rfl rfl rfl rfl rfl (by kernel_rfl) Try.func9 (by kernel_rfl)
    (of_decide_eq_true (by kernel_rfl)) (by unfold Func.isWrapper; first | (rw [if_pos (by decide +kernel)]; kernel_rfl) | (rw [if_neg (by decide +kernel)]; exact ⟨rfl, rfl⟩))
    (fun os started H enc _ => lifted os started H enc)

theorem proved : Rows.FnExactNowcastSaid := over
end Go.Proofs.Ytggdkibbfmjelaa.fnExactNowcast
