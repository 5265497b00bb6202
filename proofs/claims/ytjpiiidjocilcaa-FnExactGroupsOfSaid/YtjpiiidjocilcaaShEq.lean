/- Two Shares by '=='. -/
import Derived.Test.YtjpiiidjocilcaaCalC
import Derived.Laws.StructEq
namespace Go.Proofs.Ytjpiiidjocilcaa
open Go.RowKit
set_option linter.unusedVariables false
set_option linter.unusedSimpArgs false
theorem und_share : Try.prog.underlying 38 = some (.struct (Try.prog.fieldsOf 38)) := by kernel_rfl
theorem held_share : Try.prog.stoodInHeld 38 = false := by kernel_rfl
theorem und_int : Try.prog.underlying 3 = some (.int .i64) := by kernel_rfl
theorem fld_share : (Try.prog.fieldsOf 38).toList.map (fun f => (f.type, f.offset, f.name == "_")) = [(3, 0, false), (3, 1, false)] := by kernel_rfl
theorem eql_share (a1 a2 b1 b2 : Int) (W : World) : (binOp .eql 38 (.agg #[.int .i64 a1, .int .i64 a2]) (.agg #[.int .i64 b1, .int .i64 b2])).run Try.prog W = .ok (.bool (a1 == b1 && a2 == b2)) W := by
  rw [run_eql_struct, show (10000 : Nat) = 9999 + 1 from rfl, run_equalIn_agg _ _ _ _ _ und_share held_share]
  obtain ⟨m, hm⟩ : ∃ m, m = (9999 : Nat) := ⟨_, rfl⟩
  rw [← hm]
  obtain ⟨d, rfl⟩ : ∃ d, m = d + 1 := ⟨m - 1, by omega⟩
  clear hm
  have h := fld_share
  generalize (Try.prog.fieldsOf 38).toList = fs at *
  have hl : fs.length = 2 := by have := congrArg List.length h; simpa using this
  obtain ⟨f, g, rfl⟩ : ∃ f g, fs = [f, g] := by
    cases fs with
    | nil => simp at hl
    | cons f fs =>
      cases fs with
      | nil => simp at hl
      | cons g fs =>
        cases fs with
        | nil => exact ⟨f, g, rfl⟩
        | cons x y => simp at hl
  simp only [List.map_cons, List.map_nil, List.cons.injEq, Prod.mk.injEq, beq_eq_false_iff_ne, and_true] at h
  obtain ⟨⟨h1, h2, h3⟩, h4, h5, h6⟩ := h
  have p1 : ∀ (x y : Int) (W : World), (Go.part 3 #[.int .i64 x, .int .i64 y] 0).run Try.prog W = .ok (.int .i64 x) W := by intro _ _ _; kernel_rfl
  have p2 : ∀ (x y : Int) (W : World), (Go.part 3 #[.int .i64 x, .int .i64 y] 1).run Try.prog W = .ok (.int .i64 y) W := by intro _ _ _; kernel_rfl
  have p3 : ∀ (x y : Int) (W : World), (Op.equalIn (d + 1) 3 (.int .i64 x) (.int .i64 y)).run Try.prog W = .ok (x == y) W := by
    intro x y W
    have h9 := run_equalIn_int (P := Try.prog) W d 3 .i64 .i64 x y und_int
    exact h9
  simp only [Op.eqFields, h1, h2, h4, h5, ne_eq, h3, h6, not_false_eq_true, if_true]
  simp only [Sem.run_bind, p1, p2, Result.andThen_ok, p3]
  cases h : (a1 == b1) <;> cases h' : (a2 == b2) <;> simp [p2, p3, h, h']
end Go.Proofs.Ytjpiiidjocilcaa
