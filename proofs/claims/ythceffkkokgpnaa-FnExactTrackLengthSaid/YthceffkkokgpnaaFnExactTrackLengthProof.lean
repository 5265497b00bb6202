/- FnExactTrackLength: for every input the law's call returns true, and each argument reads afterwards as it read before; no condition. -/
import Derived.Test.YthceffkkokgpnaaRows
import Derived.Test.YthceffkkokgpnaaTlAll
import Derived.Test.YthceffkkokgpnaaLssOpen
import Derived.WalkKit
import Derived.ProofKit
import Derived.OpenShut
import Derived.ShutString
import Derived.SliceStrings
import Derived.ChangeOld
import Derived.Below
import Derived.Lib.SmallJoins
import Derived.Test.YthceffkkokgpnaaStsOpen
import Derived.Test.YthceffkkokgpnaaLssOpen
namespace Go.Proofs.Ythceffkkokgpnaa.fnExactTrackLength
open Go.ChangeShapes Go.WideShapes Go.ChangeAt Go.RowKit
open Go.ChangeMaps (open_string shut_string)
set_option linter.unusedVariables false

theorem own : ownKnob Try.prog.godebug = none := by kernel_rfl
theorem laidOut : laidOutB Try.prog = true := by kernel_rfl

set_option maxRecDepth 100000 in
theorem lifted (os : Os) (started : os.Started) (H : Type) (enc : TypeId × Value → H) :
    ReturnsInHanded {} Try.checked os 10 .any (Rows.fnExactTrackLengthSpec.pre6 enc Try.prog Try.f10 Rows.fnExactTrackLengthRow.domain false) (Rows.fnExactTrackLengthSpec.post enc Try.prog Try.f10 false true false false) := by
  refine returnsInHanded_of_change (C := Try.checked) own started (by kernel_rfl) Try.func10
    (ChangeSpec.witness6 (enc := enc) (C := Try.checked) false ⟨#[], #[.slice none 0 0, .int .i64 0, .int .i64 0, .int .i64 0], []⟩ 8 (by kernel_rfl) (by kernel_rfl) (by kernel_rfl) (by kernel_rfl)) ?_
  intro W base args ds gs before hval0 hW hcnd _
  have hval : ∀ (j : Nat) t v, Try.f10.params[j]? = some t → args[j]? = some v → Value.okWide Try.prog W .any base t v := hval0
  have hW' := hW
  obtain ⟨p, q, hA0, hV, rfl, hfz, hnd⟩ := hW
  have hA : DataW.TrodAll enc Try.prog W 0 (fun _ => true) true Try.f10.params.toList args.toList ds p := hA0
  rw [Try.params10] at hA hval
  obtain ⟨v0, vs0, d0, ds0, p0, q0, hargs, rfl, rfl, h0, r0'⟩ := trodAll_cons hA
  obtain ⟨v1, vs1, d1, ds1, p1, q1, rfl, rfl, rfl, h1, r1'⟩ := trodAll_cons r0'
  obtain ⟨v2, vs2, d2, ds2, p2, q2, rfl, rfl, rfl, h2, r2'⟩ := trodAll_cons r1'
  obtain ⟨v3, vs3, d3, ds3, p3, q3, rfl, rfl, rfl, h3, r3'⟩ := trodAll_cons r2'
  obtain ⟨rfl, rfl, rfl⟩ := trodAll_nil r3'
  obtain rfl : args = #[v0, v1, v2, v3] := by cases args; simp_all
  obtain ⟨rfl, rfl⟩ := trodVars_none hV
  obtain ⟨a0, n0, c0, rfl⟩ := okWide_slice Try.underlying62 (hval 0 62 v0 rfl rfl)
  have k0 := h0
  have lt0 : ∀ x ∈ p0, x.block < W.heap.size := by obtain ⟨m, hm⟩ := k0; exact DataW.trod_lt m _ _ _ hm
  obtain ⟨es0, e0, r0, m0, s0⟩ : ∃ l : List LE, l.length = n0 ∧ Lss W W.heap.size a0 l ∧ l.length ≤ maxLen ∧ ∀ e ∈ l, e.l.length ≤ maxLen := by
    obtain ⟨fuel, hf⟩ := h0
    rcases open_rows Try.underlying62 (by kernel_rfl) hf with hcs | ⟨x, n, c, q, hcs, hl, hm, hcell⟩
    · simp [Value.cells] at hcs
      obtain ⟨rfl, rfl, rfl⟩ := hcs
      exact ⟨[], rfl, .inl rfl, by simp, fun e h => by simp at h⟩
    · simp [Value.cells] at hcs
      obtain ⟨rfl, rfl, rfl⟩ := hcs
      obtain ⟨l, h1, h2, h3⟩ := lss_of (W := W) (x := x) (len := n0) (fun i hi => by
        obtain ⟨v, y, c0, t0⟩ := hcell i hi
        obtain ⟨av, nv, cv, lv, ev, en, rr, mm⟩ : ∃ a n c, ∃ l : List StT, v = .slice a n c ∧ l.length = n ∧ Sts W W.heap.size a l ∧ l.length ≤ maxLen := by
          rcases open_fours Try.underlying29 Try.underlying23 (by kernel_rfl) rfl rfl rfl rfl (by kernel_rfl) (by kernel_rfl) (by kernel_rfl) (by kernel_rfl) t0 with hcs | ⟨x, n, c, q, hcs, hl, hm, hcell⟩
          · simp only [List.cons.injEq, and_true] at hcs
            exact ⟨none, 0, 0, [], hcs, rfl, .inl rfl, by simp⟩
          · simp only [List.cons.injEq, and_true] at hcs
            obtain ⟨l, h1, h2⟩ := sts_of (W := W) (x := x) (len := n) (fun i hi => by
              obtain ⟨v0, v1, v2, v3, y0, y1, y2, y3, c0, c1, c2, c3, t0, t1, t2, t3⟩ := hcell i hi
              obtain ⟨z0, e0, _, _⟩ := DataW.trod_int Try.underlying3 t0
              obtain ⟨z1, e1, _, _⟩ := DataW.trod_int Try.underlying3 t1
              obtain ⟨z2, e2, _, _⟩ := DataW.trod_int Try.underlying3 t2
              obtain ⟨z3, e3, _, _⟩ := DataW.trod_int Try.underlying3 t3
              simp only [List.cons.injEq, and_true] at e0 e1 e2 e3
              exact ⟨(z0, z1, z2, z3), by rw [c0, e0], by rw [c1, e1], by rw [c2, e2], by rw [c3, e3]⟩)
            exact ⟨some x, n, c, l, hcs, h1, h2, by rw [h1]; omega⟩
        subst ev en
        exact ⟨⟨av, lv, cv⟩, by rw [c0], rr, mm⟩)
      exact ⟨l, h1, h2, by rw [h1]; omega, h3⟩
  subst e0
  obtain ⟨a1, rfl, rfl, rfl, w1⟩ := open_int Try.underlying3 (hval 1 3 v1 rfl rfl) h1
  obtain ⟨a2, rfl, rfl, rfl, w2⟩ := open_int Try.underlying3 (hval 2 3 v2 rfl rfl) h2
  obtain ⟨a3, rfl, rfl, rfl, w3⟩ := open_int Try.underlying3 (hval 3 3 v3 rfl rfl) h3
  clear hA0 hval0
  refine (walk_TlLw a0 es0 c0 a1 a2 a3 W r0 m0 s0).mono fun e W' ⟨he, bel⟩ => ?_
  subst he
  exact ⟨_, rfl, _, _, _, [], _, [], hW', trodAll_mk1 (shut_bool Try.underlying4 _), (trodAll_cons_mk (Below.trod laidOut (by kernel_rfl) (of_decide_eq_true (by kernel_rfl)) k0 bel lt0) (trodAll_cons_mk (shut_int Try.underlying3 w1) (trodAll_cons_mk (shut_int Try.underlying3 w2) (trodAll_cons_mk (shut_int Try.underlying3 w3) trodAll_mk0)))), rfl, bel.frame _, fun h => by cases h⟩

theorem over : Rows.fnExactTrackLengthRow.holds Try.pinned (OpenSpec.ofChange Rows.fnExactTrackLengthSpec) :=
  OpenClaim.holds_of_wide 10 Try.f10 rfl rfl rfl rfl rfl rfl rfl ⟨rfl, rfl, rfl, rfl, rfl⟩ rfl rfl rfl rfl rfl (by kernel_rfl) Try.func10 (by kernel_rfl)
    (of_decide_eq_true (by kernel_rfl)) (by unfold Func.isWrapper; first | (rw [if_pos (by decide +kernel)]; kernel_rfl) | (rw [if_neg (by decide +kernel)]; exact ⟨rfl, rfl⟩))
    (fun os started H enc _ => lifted os started H enc)

theorem proved : Rows.FnExactTrackLengthSaid := over
end Go.Proofs.Ythceffkkokgpnaa.fnExactTrackLength
