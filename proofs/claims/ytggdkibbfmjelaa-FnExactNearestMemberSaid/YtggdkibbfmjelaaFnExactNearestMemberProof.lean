/- FnExactNearestMember: for every input the law's call returns true, and each argument reads afterwards as it read before; no condition. -/
import Derived.Test.YtggdkibbfmjelaaRows
import Derived.Test.YtggdkibbfmjelaaNrLaw
import Derived.WalkKit
import Derived.ProofKit
import Derived.OpenShut
import Derived.ShutString
import Derived.SliceStrings
import Derived.ChangeOld
import Derived.Below
import Derived.Lib.SmallJoins
import Derived.Test.YtggdkibbfmjelaaFldsOpen
namespace Go.Proofs.Ytggdkibbfmjelaa.fnExactNearestMember
open Go.ChangeShapes Go.WideShapes Go.ChangeAt Go.RowKit
open Go.ChangeMaps (open_string shut_string)
set_option linter.unusedVariables false

theorem own : ownKnob Try.prog.godebug = none := by kernel_rfl
theorem laidOut : laidOutB Try.prog = true := by kernel_rfl

set_option maxRecDepth 100000 in
theorem lifted (os : Os) (started : os.Started) (H : Type) (enc : TypeId × Value → H) :
    ReturnsInHanded {} Try.checked os 12 .any (Rows.fnExactNearestMemberSpec.pre6 enc Try.prog Try.f12 Rows.fnExactNearestMemberRow.domain false) (Rows.fnExactNearestMemberSpec.post enc Try.prog Try.f12 false true false false) := by
  refine returnsInHanded_of_change (C := Try.checked) own started (by kernel_rfl) Try.func12
    (ChangeSpec.witness6 (enc := enc) (C := Try.checked) false ⟨#[], #[.slice none 0 0, .agg #[.int .i64 0, .int .i64 0, .slice none 0 0]], []⟩ 8 (by kernel_rfl) (by kernel_rfl) (by kernel_rfl) (by kernel_rfl)) ?_
  intro W base args ds gs before hval0 hW hcnd _
  have hval : ∀ (j : Nat) t v, Try.f12.params[j]? = some t → args[j]? = some v → Value.okWide Try.prog W .any base t v := hval0
  have hW' := hW
  obtain ⟨p, q, hA0, hV, rfl, hfz, hnd⟩ := hW
  have hA : DataW.TrodAll enc Try.prog W 0 (fun _ => true) true Try.f12.params.toList args.toList ds p := hA0
  rw [Try.params12] at hA hval
  obtain ⟨v0, vs0, d0, ds0, p0, q0, hargs, rfl, rfl, h0, r0'⟩ := trodAll_cons hA
  obtain ⟨v1, vs1, d1, ds1, p1, q1, rfl, rfl, rfl, h1, r1'⟩ := trodAll_cons r0'
  obtain ⟨rfl, rfl, rfl⟩ := trodAll_nil r1'
  obtain rfl : args = #[v0, v1] := by cases args; simp_all
  obtain ⟨rfl, rfl⟩ := trodVars_none hV
  obtain ⟨a0, n0, c0, rfl⟩ := okWide_slice Try.underlying70 (hval 0 70 v0 rfl rfl)
  have k0 := h0
  have lt0 : ∀ x ∈ p0, x.block < W.heap.size := by obtain ⟨m, hm⟩ := k0; exact DataW.trod_lt m _ _ _ hm
  obtain ⟨es0, e0, r0, m0, s0⟩ : ∃ l : List FE, l.length = n0 ∧ Flds W W.heap.size a0 l ∧ l.length ≤ maxLen ∧ ∀ e ∈ l, e.l.length ≤ maxLen := by
    obtain ⟨fuel, hf⟩ := h0
    rcases open_threes Try.underlying70 Try.underlying32 (by kernel_rfl) rfl rfl rfl (by kernel_rfl) (by kernel_rfl) (by kernel_rfl) hf with hcs | ⟨x, n, c, q, hcs, hl, hm, hcell⟩
    · simp [Value.cells] at hcs
      obtain ⟨rfl, rfl, rfl⟩ := hcs
      exact ⟨[], rfl, .inl rfl, by simp, fun e h => by simp at h⟩
    · simp [Value.cells] at hcs
      obtain ⟨rfl, rfl, rfl⟩ := hcs
      obtain ⟨l, h1, h2, h3⟩ := flds_of (W := W) (x := x) (len := n0) (fun i hi => by
        obtain ⟨v0, v1, v2, y0, y1, y2, c0, c1, c2, t0, t1, t2⟩ := hcell i hi
        obtain ⟨z0, e0, _, _⟩ := DataW.trod_int Try.underlying3 t0
        obtain ⟨z1, e1, _, _⟩ := DataW.trod_int Try.underlying3 t1
        simp only [List.cons.injEq, and_true] at e0 e1
        obtain ⟨av, nv, cv, lv, ev, en, rr, mm⟩ : ∃ a n c, ∃ l : List Int, v2 = .slice a n c ∧ l.length = n ∧ Ints .i64 W W.heap.size a l ∧ l.length ≤ maxLen := by
          rcases open_ints Try.underlying30 Try.underlying3 (by kernel_rfl) t2 with ⟨hcs, _⟩ | ⟨x, n, c, zs, hcs, _, hl, hm, hz, _, hcell, hwz⟩
          · simp only [List.cons.injEq, and_true] at hcs
            exact ⟨none, 0, 0, [], hcs, rfl, .inl rfl, by simp⟩
          · simp only [List.cons.injEq, and_true] at hcs
            have hz' : zs.length = c := by simpa using hz
            exact ⟨some x, n, c, zs.take n, hcs, by rw [List.length_take]; omega, ints_of (by omega) hcell, by rw [List.length_take]; omega⟩
        subst ev en
        exact ⟨⟨z0, z1, av, lv, cv, 0⟩, by rw [c0, e0], by rw [c1, e1], by rw [c2], rr, mm⟩)
      exact ⟨l, h1, h2, by rw [h1]; omega, h3⟩
  subst e0
  have k1 := h1
  have lt1 : ∀ x ∈ p1, x.block < W.heap.size := by obtain ⟨m, hm⟩ := k1; exact DataW.trod_lt m _ _ _ hm
  obtain ⟨x1_0, x1_1, x1_2, y1_0, y1_1, y1_2, n1_, rfl, rfl, rfl, t1_0, t1_1, t1_2⟩ := Joins.open_agg3 Try.underlying32 (by kernel_rfl) (by kernel_rfl) (hval 1 32 v1 rfl rfl) h1
  obtain ⟨wd1, ea1, _, wwd1⟩ := DataW.trod_int Try.underlying3 t1_0
  obtain ⟨hg1, eb1, _, whg1⟩ := DataW.trod_int Try.underlying3 t1_1
  simp only [List.cons.injEq, and_true] at ea1 eb1
  subst ea1 eb1
  obtain ⟨a1, n1, c1, l1, ev1, e1, r1, b1, m1⟩ : ∃ a n c, ∃ l : List Int, x1_2 = .slice a n c ∧ l.length = n ∧ Ints .i64 W W.heap.size a l ∧ (∀ z ∈ l, -9223372036854775808 ≤ z ∧ z ≤ 9223372036854775807) ∧ l.length ≤ maxLen := by
    rcases open_ints Try.underlying30 Try.underlying3 (by kernel_rfl) t1_2 with ⟨hcs, _⟩ | ⟨x, n, c, zs, hcs, _, hl, hm, hz, _, hcell, hwz⟩
    · simp only [List.cons.injEq, and_true] at hcs
      exact ⟨none, 0, 0, [], hcs, rfl, .inl rfl, fun _ h => by simp at h, by simp⟩
    · simp only [List.cons.injEq, and_true] at hcs
      have hz' : zs.length = c := by simpa using hz
      exact ⟨some x, n, c, zs.take n, hcs, by rw [List.length_take]; omega, ints_of (by omega) hcell, fun z h => bounds_i64 (hwz z (List.mem_of_mem_take h)), by rw [List.length_take]; omega⟩
  subst ev1 e1
  have iwd1 : -9223372036854775808 ≤ wd1 ∧ wd1 ≤ 9223372036854775807 := bounds_i64 wwd1
  have ihg1 : -9223372036854775808 ≤ hg1 ∧ hg1 ≤ 9223372036854775807 := bounds_i64 whg1
  clear hA0 hval0
  refine (walk_NrLaw a0 es0 c0 wd1 hg1 a1 l1 c1 W r0 m0 s0 r1 m1).mono fun e W' ⟨he, bel⟩ => ?_
  subst he
  exact ⟨_, rfl, _, _, _, [], _, [], hW', trodAll_mk1 (shut_bool Try.underlying4 _), (trodAll_cons_mk (Below.trod laidOut (by kernel_rfl) (of_decide_eq_true (by kernel_rfl)) k0 bel lt0) (trodAll_cons_mk (Below.trod laidOut (by kernel_rfl) (of_decide_eq_true (by kernel_rfl)) k1 bel lt1) trodAll_mk0)), rfl, bel.frame _, fun h => by cases h⟩

theorem over : Rows.fnExactNearestMemberRow.holds Try.pinned (OpenSpec.ofChange Rows.fnExactNearestMemberSpec) :=
  OpenClaim.holds_of_wide 12 Try.f12 rfl rfl rfl rfl rfl rfl rfl ⟨rfl, rfl, rfl, rfl, rfl⟩ rfl rfl rfl rfl rfl (by kernel_rfl) Try.func12 (by kernel_rfl)
    (of_decide_eq_true (by kernel_rfl)) (by unfold Func.isWrapper; first | (rw [if_pos (by decide +kernel)]; kernel_rfl) | (rw [if_neg (by decide +kernel)]; exact ⟨rfl, rfl⟩))
    (fun os started H enc _ => lifted os started H enc)

theorem proved : Rows.FnExactNearestMemberSaid := over
end Go.Proofs.Ytggdkibbfmjelaa.fnExactNearestMember
