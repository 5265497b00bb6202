/- The laws' helpers on Motion. -/
import Derived.Test.YthceffkkokgpnaaMos
import Derived.Test.YthceffkkokgpnaaBox
import Derived.Laws.MakeOwn
import Derived.StillTailTactics
namespace Go.Proofs.Ythceffkkokgpnaa
open Go.RowKit
set_option linter.unusedVariables false
set_option linter.unusedSimpArgs false
theorem mov_set (l : List MoT) : ∀ (k : Nat) (x0 x1 : Int), k < l.length → ((mov l).set (k * 2) (.int .i64 x0)).set (k * 2 + 1) (.int .i64 x1) = mov (l.set k (x0, x1)) := by
  induction l with
  | nil => intro k x0 x1 h; simp at h
  | cons q r ih =>
    intro k x0 x1 h
    cases k with
    | zero => rfl
    | succ k =>
      have e : (k + 1) * 2 = k * 2 + 1 + 1 := by omega
      rw [mov_cons, e]
      show Value.int .i64 q.1 :: Value.int .i64 q.2 :: ((mov r).set (k * 2) (.int .i64 x0)).set (k * 2 + 1) (.int .i64 x1) = _
      rw [ih k x0 x1 (by simpa using h)]
      rfl
theorem mov_zero (n : Nat) : mov (List.replicate n ((0, 0) : MoT)) = List.replicate (n * 2) (.int .i64 0) := by
  induction n with
  | zero => rfl
  | succ n ih =>
    rw [List.replicate_succ, mov_cons, ih, show (n + 1) * 2 = n * 2 + 1 + 1 by omega, List.replicate_succ, List.replicate_succ]
/-- the first k copied, the others nothing -/
def mixMo (l : List MoT) (k : Nat) : List MoT := l.take k ++ List.replicate (l.length - k) (0, 0)
theorem mixMo_zero (l : List MoT) : mixMo l 0 = List.replicate l.length (0, 0) := by simp [mixMo]
theorem mixMo_len (l : List MoT) (k : Nat) (h : k ≤ l.length) : (mixMo l k).length = l.length := by simp [mixMo]; omega
theorem mixMo_all (l : List MoT) : mixMo l l.length = l := by simp [mixMo]
theorem mixMo_step (l : List MoT) (k : Nat) (h : k < l.length) : (mixMo l k).set k l[k] = mixMo l (k + 1) := by
  unfold mixMo
  rw [List.set_append_right _ _ (by simp; omega), List.length_take, Nat.min_eq_left (by omega), Nat.sub_self, show l.length - k = (l.length - (k + 1)) + 1 by omega, List.replicate_succ, List.set_cons_zero, List.take_succ_eq_append_getElem h, List.append_assoc]
  rfl
theorem infoMo : (Try.prog.info? 83).map (fun i => (i.zero, i.size, i.bytes)) = some (some (.agg #[.int .i64 0, .int .i64 0]), 2, 16) := by kernel_rfl
theorem run_make_mo (n : Nat) (h : n ≤ 1048576) (W : World) :
    (Instr.makeSlice 79 (.int .i64 (n : Int)) (.int .i64 (n : Int))).run Try.prog W = .ok (.slice (some ⟨W.heap.size, 0, none⟩) n n) (W.alloc (.cells (madeCells #[.int .i64 0, .int .i64 0] (n * 2)) 83)) := by
  obtain ⟨i, hi, hzz⟩ := Option.map_eq_some_iff.1 infoMo
  simp only [Prod.mk.injEq] at hzz
  obtain ⟨hz, hs, hb⟩ := hzz
  have hr := run_make (P := Try.prog) W 79 83 i (.agg #[.int .i64 0, .int .i64 0]) Try.underlying79 hi hz .i64 .i64 n n (by omega) (Int.le_refl _) (by rw [hb]; omega) (by omega)
  simp only [Int.toNat_natCast, hs] at hr
  exact hr
theorem row_made_mo (n : Nat) (W : World) : Row (W.alloc (.cells (madeCells #[.int .i64 0, .int .i64 0] (n * 2)) 83)) W.heap.size 83 (mov (List.replicate n ((0, 0) : MoT))) := by
  refine ⟨_, heap_alloc_new W _, fun k hk => ?_⟩
  rw [mov_length, List.length_replicate] at hk
  have e : (mov (List.replicate n ((0, 0) : MoT)))[k]? = some (.int .i64 0) := by rw [mov_zero]; simp [hk]
  rw [← List.getElem?_eq_getElem, e]
  have hm : k % 2 = 0 ∨ k % 2 = 1 := by omega
  rcases hm with hm | hm <;> simp [madeCells, hk, hm]
/-- n structs of numbers from k on -/
def marksMo (k : Int) (n : Nat) : List MoT := (List.range n).map fun (i : Nat) => (k + 2 * (i : Int), k + 2 * (i : Int) + 1)
theorem marksMo_length (k : Int) (n : Nat) : (marksMo k n).length = n := by simp [marksMo]
theorem marksMo_get (k : Int) (n i : Nat) (h : i < (marksMo k n).length) : (marksMo k n)[i] = (k + 2 * (i : Int), k + 2 * (i : Int) + 1) := by simp [marksMo]
def partMo (k : Int) (l : List MoT) (i : Nat) : List MoT := marksMo k i ++ l.drop i
theorem partMo_zero (k : Int) (l : List MoT) : partMo k l 0 = l := by simp [partMo, marksMo]
theorem partMo_length (k : Int) (l : List MoT) (i : Nat) (h : i ≤ l.length) : (partMo k l i).length = l.length := by simp [partMo, marksMo_length]; omega
theorem partMo_all (k : Int) (l : List MoT) : partMo k l l.length = marksMo k l.length := by simp [partMo]
theorem partMo_step (k : Int) (l : List MoT) (i : Nat) (h : i < l.length) : (partMo k l i).set i (k + 2 * (i : Int), k + 2 * (i : Int) + 1) = partMo k l (i + 1) := by
  unfold partMo
  rw [List.set_append_right _ _ (by rw [marksMo_length]; omega), marksMo_length, Nat.sub_self, List.drop_eq_getElem_cons h, List.set_cons_zero]
  unfold marksMo
  rw [List.range_succ, List.map_append, List.append_assoc]
  rfl
end Go.Proofs.Ythceffkkokgpnaa
