/- The laws' helpers on slices of nodes: szNodeS, toNodeS, eqNodeS. -/
import Derived.Test.YtnomcnlmlignbaaDoorNodes
import Derived.Test.YtnomcnlmlignbaaDoorBox
import Derived.Laws.MakeOwn
import Derived.StillTailTactics
namespace Go.Proofs.YtnomcnlmlignbaaDoor
open Go.RowKit
set_option linter.unusedVariables false
set_option linter.unusedSimpArgs false
theorem nv_set (l : List Nd) : ∀ (k : Nat) (x y : Int), k < l.length → ((nv l).set (k * 2) (.int .i64 x)).set (k * 2 + 1) (.int .i64 y) = nv (l.set k (x, y)) := by
  induction l with
  | nil => intro k x y h; simp at h
  | cons p r ih =>
    intro k x y h
    cases k with
    | zero => rfl
    | succ k =>
      have e : (k + 1) * 2 = k * 2 + 1 + 1 := by omega
      rw [nv_cons, e]
      show Value.int .i64 p.1 :: Value.int .i64 p.2 :: ((nv r).set (k * 2) (.int .i64 x)).set (k * 2 + 1) (.int .i64 y) = _
      rw [ih k x y (by simpa using h)]
      rfl
theorem nv_zero (n : Nat) : nv (List.replicate n ((0, 0) : Nd)) = List.replicate (n * 2) (.int .i64 0) := by
  induction n with
  | zero => rfl
  | succ n ih =>
    rw [List.replicate_succ, nv_cons, ih, show (n + 1) * 2 = n * 2 + 1 + 1 by omega, List.replicate_succ, List.replicate_succ]
/-- the first k nodes copied, the others nothing -/
def mixN (l : List Nd) (k : Nat) : List Nd := l.take k ++ List.replicate (l.length - k) (0, 0)
theorem mixN_zero (l : List Nd) : mixN l 0 = List.replicate l.length (0, 0) := by simp [mixN]
theorem mixN_len (l : List Nd) (k : Nat) (h : k ≤ l.length) : (mixN l k).length = l.length := by simp [mixN]; omega
theorem mixN_all (l : List Nd) : mixN l l.length = l := by simp [mixN]
theorem mixN_step (l : List Nd) (k : Nat) (h : k < l.length) : (mixN l k).set k l[k] = mixN l (k + 1) := by
  unfold mixN
  rw [List.set_append_right _ _ (by simp; omega), List.length_take, Nat.min_eq_left (by omega), Nat.sub_self, show l.length - k = (l.length - (k + 1)) + 1 by omega, List.replicate_succ, List.set_cons_zero, takeN_snoc l k h, List.append_assoc]
  rfl
theorem infoNode : (Tryd.prog.info? 112).map (fun i => (i.zero, i.size, i.bytes)) = some (some (.agg #[.int .i64 0, .int .i64 0]), 2, 16) := by kernel_rfl
theorem run_make_nodes (n : Nat) (h : n ≤ 1048576) (W : World) :
    (Instr.makeSlice 54 (.int .i64 (n : Int)) (.int .i64 (n : Int))).run Tryd.prog W = .ok (.slice (some ⟨W.heap.size, 0, none⟩) n n) (W.alloc (.cells (madeCells #[.int .i64 0, .int .i64 0] (n * 2)) 112)) := by
  obtain ⟨i, hi, hzz⟩ := Option.map_eq_some_iff.1 infoNode
  simp only [Prod.mk.injEq] at hzz
  obtain ⟨hz, hs, hb⟩ := hzz
  have hr := run_make (P := Tryd.prog) W 54 112 i (.agg #[.int .i64 0, .int .i64 0]) Tryd.underlying54 hi hz .i64 .i64 n n (by omega) (Int.le_refl _) (by rw [hb]; omega) (by omega)
  simp only [Int.toNat_natCast, hs] at hr
  exact hr
theorem row_made_nodes (n : Nat) (W : World) : Row (W.alloc (.cells (madeCells #[.int .i64 0, .int .i64 0] (n * 2)) 112)) W.heap.size 112 (nv (List.replicate n ((0, 0) : Nd))) := by
  refine ⟨_, heap_alloc_new W _, fun k hk => ?_⟩
  rw [nv_length, List.length_replicate] at hk
  have e : (nv (List.replicate n ((0, 0) : Nd)))[k]? = some (.int .i64 0) := by rw [nv_zero]; simp [hk]
  rw [← List.getElem?_eq_getElem, e]
  have hm : k % 2 = 0 ∨ k % 2 = 1 := by omega
  rcases hm with hm | hm <;> simp [madeCells, hk, hm]

theorem szNodes_any (a : Option Addr) (n c : Nat) (left : Int) (w : World) (hn : n ≤ maxLen) (h0 : 0 ≤ left) (h1 : left ≤ 1048576) :
    Calls Tryd.prog 36 #[.slice a n c, .int .i64 left] w fun e w' => e = .returned (.int .i64 (if (n : Int) ≤ left then left - n else -1)) ∧ w = w' := by
  unfold maxLen at hn
  by_cases h : (n : Int) ≤ left
  · rw [if_pos h]
    go_enter Tryd.func36, Tryd.ntmps36
    go_wp2
    go_ret
    exact ⟨rfl, rfl⟩
  · rw [if_neg h]
    go_enter Tryd.func36, Tryd.ntmps36
    go_wp2
    go_ret
    exact ⟨rfl, rfl⟩

theorem toNode_is (x y : Int) (w : World) : Calls Tryd.prog 91 #[.agg #[.int .i64 x, .int .i64 y]] w fun e w' => e = .returned (.agg #[.int .i64 x, .int .i64 y]) ∧ Below w.heap.size w w' := by
  go_enter Tryd.func91, Tryd.ntmps91
  go_wp2
  refine bodyPost_ret (v := .agg #[.int .i64 x, .int .i64 y]) (by simp [results, Tryd.results91, go_sem]) rfl ⟨rfl, ?_⟩
  have b3 : ∀ o1 o2 o3, Below w.heap.size w (((w.alloc o1).alloc o2).alloc o3) := fun o1 o2 o3 => (((Below.refl _ _).alloc (Nat.le_refl _) _).alloc (by simp) _).alloc (by simp; omega) _
  repeat' first | exact b3 _ _ _ | refine Below.setCell ?_ (by simp <;> omega) _
theorem eqNode_yes (x y : Int) (w : World) : Calls Tryd.prog 94 #[.agg #[.int .i64 x, .int .i64 y], .agg #[.int .i64 x, .int .i64 y]] w fun e w' => e = .returned (.bool true) ∧ Below w.heap.size w w' := by
  go_enter Tryd.func94, Tryd.ntmps94
  go_wp2
  go_ret
  exact ⟨rfl, ((Below.refl _ _).alloc (Nat.le_refl _) _).alloc (by simp) _⟩

set_option maxHeartbeats 1000000 in
theorem toNodes_any (a : Option Addr) (l : List Nd) (c : Nat) (w : World) (hl : Nds w w.heap.size a l) (hn : l.length ≤ 1048576) :
    Calls Tryd.prog 38 #[.slice a l.length c] w fun e w' => e = .returned (.slice (some ⟨w.heap.size, 0, none⟩) l.length l.length) ∧ Row w' w.heap.size 112 (nv l) ∧ Below w.heap.size w w' ∧ w.heap.size < w'.heap.size := by
  have HL := Lib.hid hl
  clear hl
  have hmk := fun W => run_make_nodes l.length (by omega) W
  have HR0 := Lib.hid (row_made_nodes l.length w)
  go_enter Tryd.func38, Tryd.ntmps38
  go_wp2
  clear hmk
  go_loopw [4] (fun i wr => ∃ k : Nat, k ≤ l.length ∧ i = .int .i64 k ∧ Row wr w.heap.size 112 (nv (mixN l k)) ∧ Below w.heap.size w wr) (fun i _ => l.length - (intOf i).toNat)
  case atStart => exact ⟨0, Nat.zero_le _, rfl, by rw [mixN_zero]; exact HR0.out, (Below.refl _ _).alloc (Nat.le_refl _) _⟩
  case round =>
    obtain ⟨k, hk, rfl, hrow, hB⟩ := hrel
    have HR := Lib.hid hrow
    have HB := Lib.hid hB
    by_cases hlt : k < l.length
    · obtain ⟨b, o, rfl, hb, q0, q1⟩ := (HL.out.below hB (Nat.le_refl _)).at_ hlt
      have hml := mixN_len l k hk
      have hnl := nv_length (mixN l k)
      obtain ⟨u0, hu0⟩ : ∃ u, wr.cell? ⟨w.heap.size, k * 2, none⟩ = some u := ⟨_, hrow.cell (k := k * 2) (by omega)⟩
      obtain ⟨u1, hu1⟩ : ∃ u, wr.cell? ⟨w.heap.size, k * 2 + 1, none⟩ = some u := ⟨_, hrow.cell (k := k * 2 + 1) (by omega)⟩
      have f0 := hrow.frozen (k * 2)
      have f1 := hrow.frozen (k * 2 + 1)
      have hz := hrow.lt
      have HST := Lib.hid (mixN_step l k hlt)
      have HNS := Lib.hid (fun x y => nv_set (mixN l k) k x y (by omega))
      clear hrow hB hml hnl
      have hi : (k : Int) < (l.length : Int) := by omega
      have hi0 : (0 : Int) ≤ (k : Int) := by omega
      obtain ⟨x, hx⟩ : ∃ x, l[k].1 = x := ⟨_, rfl⟩
      obtain ⟨y, hy⟩ : ∃ y, l[k].2 = y := ⟨_, rfl⟩
      rw [hx] at q0
      rw [hy] at q1
      have HXY := Lib.hid (show l[k] = (x, y) by rw [← hx, ← hy])
      clear hx hy
      go_wp2_with fail
      refine (toNode_is x y wr).mono ?_
      rintro e w1 ⟨rfl, b1⟩
      have hu0' : w1.cell? ⟨w.heap.size, k * 2, none⟩ = some u0 := (b1.cell (p := ⟨w.heap.size, k * 2, none⟩) hz).trans hu0
      have hu1' : w1.cell? ⟨w.heap.size, k * 2 + 1, none⟩ = some u1 := (b1.cell (p := ⟨w.heap.size, k * 2 + 1, none⟩) hz).trans hu1
      have f0' : w1.frozen? ⟨w.heap.size, k * 2, none⟩ = false := (b1.frozen (p := ⟨w.heap.size, k * 2, none⟩) hz).trans f0
      have f1' : w1.frozen? ⟨w.heap.size, k * 2 + 1, none⟩ = false := (b1.frozen (p := ⟨w.heap.size, k * 2 + 1, none⟩) hz).trans f1
      have HR1 := Lib.hid (HR.out.of_block (b1.block w.heap.size hz))
      have HB1 := Lib.hid (HB.out.trans (b1.mono HB.out.size))
      clear hu0 hu1 f0 f1 b1 q0 q1
      go_wp2
      go_roundw
      case rel =>
        refine ⟨k + 1, by omega, by go_num, ?_, (HB1.out.setCell (p := ⟨w.heap.size, k * 2, none⟩) (Nat.le_refl _) _).setCell (p := ⟨w.heap.size, k * 2 + 1, none⟩) (Nat.le_refl _) _⟩
        have h := (HR1.out.set (k * 2) (.int .i64 x)).set (k * 2 + 1) (.int .i64 y)
        rw [HNS.out, ← HXY.out, HST.out] at h
        exact h
      case measure => simp [intOf]; omega
    · obtain rfl : k = l.length := by omega
      rw [mixN_all] at HR
      have hz := hrow.lt
      clear hrow hB
      go_wp2
      go_ret
      exact ⟨rfl, HR.out, HB.out, hz⟩
set_option maxRecDepth 100000 in
set_option maxHeartbeats 1000000 in
theorem eqNodes_yes (a a' : Option Addr) (l : List Nd) (c c' : Nat) (w : World) (hl : Nds w w.heap.size a l) (hl' : Nds w w.heap.size a' l) (hn : l.length ≤ 1048576) :
    Calls Tryd.prog 40 #[.slice a l.length c, .slice a' l.length c'] w fun e w' => e = .returned (.bool true) ∧ Below w.heap.size w w' := by
  have HL := Lib.hid hl
  have HL' := Lib.hid hl'
  clear hl hl'
  go_enter Tryd.func40, Tryd.ntmps40
  go_wp2
  go_loopw [5] (fun i wr => ∃ k : Nat, k ≤ l.length ∧ i = .int .i64 k ∧ Below w.heap.size w wr) (fun i _ => l.length - (intOf i).toNat)
  case atStart => exact ⟨0, Nat.zero_le _, rfl, Below.refl _ _⟩
  case round =>
    obtain ⟨k, hk, rfl, hB⟩ := hrel
    have HB := Lib.hid hB
    by_cases hlt : k < l.length
    · obtain ⟨b, o, rfl, hb, q0, q1⟩ := (HL.out.below hB (Nat.le_refl _)).at_ hlt
      obtain ⟨b', o', rfl, hb', p0, p1⟩ := (HL'.out.below hB (Nat.le_refl _)).at_ hlt
      clear hB
      have hi : (k : Int) < (l.length : Int) := by omega
      have hi0 : (0 : Int) ≤ (k : Int) := by omega
      generalize l[k].1 = x at *
      generalize l[k].2 = y at *
      go_wp2_with fail
      go_still_tail 8, (by kernel_rfl)
      change wpList _ _ _ _ _ wr.drew
      have HB1 := Lib.hid (HB.out.drew)
      generalize wr.drew = w2 at *
      go_wp2_with fail
      refine (eqNode_yes x y w2).mono ?_
      rintro e w3 ⟨rfl, b3⟩
      have HB3 := Lib.hid (HB1.out.trans (b3.mono HB1.out.size))
      clear b3
      go_wp2
      go_roundw
      case rel => exact ⟨k + 1, by omega, by go_num, HB3.out⟩
      case measure => simp [intOf]; omega
    · have hge : (l.length : Int) ≤ (k : Int) := by omega
      go_wp2
      go_ret
      exact ⟨rfl, HB.out⟩
end Go.Proofs.YtnomcnlmlignbaaDoor
