/- The laws' helpers on slices of points: szPointS, toPointS, eqPointS. -/
import Derived.Test.YthceffkkokgpnaaPts
import Derived.Test.YthceffkkokgpnaaBox
import Derived.Laws.MakeOwn
import Derived.StillTailTactics
namespace Go.Proofs.Ythceffkkokgpnaa
open Go.RowKit
set_option linter.unusedVariables false
set_option linter.unusedSimpArgs false
theorem pv_set (l : List Pt) : ∀ (k : Nat) (x y : Int), k < l.length → ((pv l).set (k * 2) (.int .i64 x)).set (k * 2 + 1) (.int .i64 y) = pv (l.set k (x, y)) := by
  induction l with
  | nil => intro k x y h; simp at h
  | cons p r ih =>
    intro k x y h
    cases k with
    | zero => rfl
    | succ k =>
      have e : (k + 1) * 2 = k * 2 + 1 + 1 := by omega
      rw [pv_cons, e]
      show Value.int .i64 p.1 :: Value.int .i64 p.2 :: ((pv r).set (k * 2) (.int .i64 x)).set (k * 2 + 1) (.int .i64 y) = _
      rw [ih k x y (by simpa using h)]
      rfl
theorem pv_zero (n : Nat) : pv (List.replicate n ((0, 0) : Pt)) = List.replicate (n * 2) (.int .i64 0) := by
  induction n with
  | zero => rfl
  | succ n ih =>
    rw [List.replicate_succ, pv_cons, ih, show (n + 1) * 2 = n * 2 + 1 + 1 by omega, List.replicate_succ, List.replicate_succ]
/-- the first k points copied, the others nothing -/
def mixP (l : List Pt) (k : Nat) : List Pt := l.take k ++ List.replicate (l.length - k) (0, 0)
theorem mixP_zero (l : List Pt) : mixP l 0 = List.replicate l.length (0, 0) := by simp [mixP]
theorem mixP_len (l : List Pt) (k : Nat) (h : k ≤ l.length) : (mixP l k).length = l.length := by simp [mixP]; omega
theorem mixP_all (l : List Pt) : mixP l l.length = l := by simp [mixP]
theorem mixP_step (l : List Pt) (k : Nat) (h : k < l.length) : (mixP l k).set k l[k] = mixP l (k + 1) := by
  unfold mixP
  rw [List.set_append_right _ _ (by simp; omega), List.length_take, Nat.min_eq_left (by omega), Nat.sub_self, show l.length - k = (l.length - (k + 1)) + 1 by omega, List.replicate_succ, List.set_cons_zero, takeP_snoc l k h, List.append_assoc]
  rfl
theorem infoPoint : (Try.prog.info? 152).map (fun i => (i.zero, i.size, i.bytes)) = some (some (.agg #[.int .i64 0, .int .i64 0]), 2, 16) := by kernel_rfl
theorem run_make_points (n : Nat) (h : n ≤ 1048576) (W : World) :
    (Instr.makeSlice 179 (.int .i64 (n : Int)) (.int .i64 (n : Int))).run Try.prog W = .ok (.slice (some ⟨W.heap.size, 0, none⟩) n n) (W.alloc (.cells (madeCells #[.int .i64 0, .int .i64 0] (n * 2)) 152)) := by
  obtain ⟨i, hi, hzz⟩ := Option.map_eq_some_iff.1 infoPoint
  simp only [Prod.mk.injEq] at hzz
  obtain ⟨hz, hs, hb⟩ := hzz
  have hr := run_make (P := Try.prog) W 179 152 i (.agg #[.int .i64 0, .int .i64 0]) Try.underlying179 hi hz .i64 .i64 n n (by omega) (Int.le_refl _) (by rw [hb]; omega) (by omega)
  simp only [Int.toNat_natCast, hs] at hr
  exact hr
theorem row_made_points (n : Nat) (W : World) : Row (W.alloc (.cells (madeCells #[.int .i64 0, .int .i64 0] (n * 2)) 152)) W.heap.size 152 (pv (List.replicate n ((0, 0) : Pt))) := by
  refine ⟨_, heap_alloc_new W _, fun k hk => ?_⟩
  rw [pv_length, List.length_replicate] at hk
  have e : (pv (List.replicate n ((0, 0) : Pt)))[k]? = some (.int .i64 0) := by rw [pv_zero]; simp [hk]
  rw [← List.getElem?_eq_getElem, e]
  have hm : k % 2 = 0 ∨ k % 2 = 1 := by omega
  rcases hm with hm | hm <;> simp [madeCells, hk, hm]

end Go.Proofs.Ythceffkkokgpnaa
