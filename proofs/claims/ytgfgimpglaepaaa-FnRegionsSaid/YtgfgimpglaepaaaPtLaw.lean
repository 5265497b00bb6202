/- The laws' helpers on slices of points: szPointS, toPointS, eqPointS. -/
import Derived.Test.YtgfgimpglaepaaaPts
import Derived.Test.YtgfgimpglaepaaaBox
import Derived.Laws.MakeOwn
import Derived.StillTailTactics
namespace Go.Proofs.Ytgfgimpglaepaaa
open Go.RowKit
set_option linter.unusedVariables false
set_option linter.unusedSimpArgs false
theorem pv_set (l : List Pt) : ∀ (k : Nat) (x y : Int), k < l.length → ((pv l).set (k * 2) (.int .i64 x)).set (k * 2 + 1) (.int .i64 y) = pv (l.set k (x, y)) := by
  induction l with
  | nil => intro k x y h; simp at h
  | cons p r ih =>
    intro k x y h
    cases k with
    | zero => rfl
    | succ k =>
      have e : (k + 1) * 2 = k * 2 + 1 + 1 := by omega
      rw [pv_cons, e]
      show Value.int .i64 p.1 :: Value.int .i64 p.2 :: ((pv r).set (k * 2) (.int .i64 x)).set (k * 2 + 1) (.int .i64 y) = _
      rw [ih k x y (by simpa using h)]
      rfl
theorem pv_zero (n : Nat) : pv (List.replicate n ((0, 0) : Pt)) = List.replicate (n * 2) (.int .i64 0) := by
  induction n with
  | zero => rfl
  | succ n ih =>
    rw [List.replicate_succ, pv_cons, ih, show (n + 1) * 2 = n * 2 + 1 + 1 by omega, List.replicate_succ, List.replicate_succ]
/-- the first k points copied, the others nothing -/
def mixP (l : List Pt) (k : Nat) : List Pt := l.take k ++ List.replicate (l.length - k) (0, 0)
theorem mixP_zero (l : List Pt) : mixP l 0 = List.replicate l.length (0, 0) := by simp [mixP]
theorem mixP_len (l : List Pt) (k : Nat) (h : k ≤ l.length) : (mixP l k).length = l.length := by simp [mixP]; omega
theorem mixP_all (l : List Pt) : mixP l l.length = l := by simp [mixP]
theorem mixP_step (l : List Pt) (k : Nat) (h : k < l.length) : (mixP l k).set k l[k] = mixP l (k + 1) := by
  unfold mixP
  rw [List.set_append_right _ _ (by simp; omega), List.length_take, Nat.min_eq_left (by omega), Nat.sub_self, show l.length - k = (l.length - (k + 1)) + 1 by omega, List.replicate_succ, List.set_cons_zero, takeP_snoc l k h, List.append_assoc]
  rfl
theorem infoPoint : (Try.prog.info? 48).map (fun i => (i.zero, i.size, i.bytes)) = some (some (.agg #[.int .i64 0, .int .i64 0]), 2, 16) := by kernel_rfl
theorem run_make_points (n : Nat) (h : n ≤ 1048576) (W : World) :
    (Instr.makeSlice 46 (.int .i64 (n : Int)) (.int .i64 (n : Int))).run Try.prog W = .ok (.slice (some ⟨W.heap.size, 0, none⟩) n n) (W.alloc (.cells (madeCells #[.int .i64 0, .int .i64 0] (n * 2)) 48)) := by
  obtain ⟨i, hi, hzz⟩ := Option.map_eq_some_iff.1 infoPoint
  simp only [Prod.mk.injEq] at hzz
  obtain ⟨hz, hs, hb⟩ := hzz
  have hr := run_make (P := Try.prog) W 46 48 i (.agg #[.int .i64 0, .int .i64 0]) Try.underlying46 hi hz .i64 .i64 n n (by omega) (Int.le_refl _) (by rw [hb]; omega) (by omega)
  simp only [Int.toNat_natCast, hs] at hr
  exact hr
theorem row_made_points (n : Nat) (W : World) : Row (W.alloc (.cells (madeCells #[.int .i64 0, .int .i64 0] (n * 2)) 48)) W.heap.size 48 (pv (List.replicate n ((0, 0) : Pt))) := by
  refine ⟨_, heap_alloc_new W _, fun k hk => ?_⟩
  rw [pv_length, List.length_replicate] at hk
  have e : (pv (List.replicate n ((0, 0) : Pt)))[k]? = some (.int .i64 0) := by rw [pv_zero]; simp [hk]
  rw [← List.getElem?_eq_getElem, e]
  have hm : k % 2 = 0 ∨ k % 2 = 1 := by omega
  rcases hm with hm | hm <;> simp [madeCells, hk, hm]

theorem szPoints_any (a : Option Addr) (n c : Nat) (left : Int) (w : World) (hn : n ≤ maxLen) (h0 : 0 ≤ left) (h1 : left ≤ 1048576) :
    Calls Try.prog 48 #[.slice a n c, .int .i64 left] w fun e w' => e = .returned (.int .i64 (if (n : Int) ≤ left then left - n else -1)) ∧ w = w' := by
  unfold maxLen at hn
  by_cases h : (n : Int) ≤ left
  · rw [if_pos h]
    go_enter Try.func48, Try.ntmps48
    go_wp2
    go_ret
    exact ⟨rfl, rfl⟩
  · rw [if_neg h]
    go_enter Try.func48, Try.ntmps48
    go_wp2
    go_ret
    exact ⟨rfl, rfl⟩

theorem toPoint_is (x y : Int) (w : World) : Calls Try.prog 83 #[.agg #[.int .i64 x, .int .i64 y]] w fun e w' => e = .returned (.agg #[.int .i64 x, .int .i64 y]) ∧ Below w.heap.size w w' := by
  go_enter Try.func83, Try.ntmps83
  go_wp2
  refine bodyPost_ret (v := .agg #[.int .i64 x, .int .i64 y]) (by simp [results, Try.results83, go_sem]) rfl ⟨rfl, ?_⟩
  have b3 : ∀ o1 o2 o3, Below w.heap.size w (((w.alloc o1).alloc o2).alloc o3) := fun o1 o2 o3 => (((Below.refl _ _).alloc (Nat.le_refl _) _).alloc (by simp) _).alloc (by simp; omega) _
  repeat' first | exact b3 _ _ _ | refine Below.setCell ?_ (by simp <;> omega) _
theorem eqPoint_yes (x y : Int) (w : World) : Calls Try.prog 84 #[.agg #[.int .i64 x, .int .i64 y], .agg #[.int .i64 x, .int .i64 y]] w fun e w' => e = .returned (.bool true) ∧ Below w.heap.size w w' := by
  go_enter Try.func84, Try.ntmps84
  go_wp2
  go_ret
  exact ⟨rfl, ((Below.refl _ _).alloc (Nat.le_refl _) _).alloc (by simp) _⟩

set_option maxHeartbeats 1000000 in
theorem toPoints_any (a : Option Addr) (l : List Pt) (c : Nat) (w : World) (hl : Pts w w.heap.size a l) (hn : l.length ≤ 1048576) :
    Calls Try.prog 49 #[.slice a l.length c] w fun e w' => e = .returned (.slice (some ⟨w.heap.size, 0, none⟩) l.length l.length) ∧ Row w' w.heap.size 48 (pv l) ∧ Below w.heap.size w w' ∧ w.heap.size < w'.heap.size := by
  have HL := Lib.hid hl
  clear hl
  have hmk := fun W => run_make_points l.length (by omega) W
  have HR0 := Lib.hid (row_made_points l.length w)
  go_enter Try.func49, Try.ntmps49
  go_wp2
  clear hmk
  go_loopw [4] (fun i wr => ∃ k : Nat, k ≤ l.length ∧ i = .int .i64 k ∧ Row wr w.heap.size 48 (pv (mixP l k)) ∧ Below w.heap.size w wr) (fun i _ => l.length - (intOf i).toNat)
  case atStart => exact ⟨0, Nat.zero_le _, rfl, by rw [mixP_zero]; exact HR0.out, (Below.refl _ _).alloc (Nat.le_refl _) _⟩
  case round =>
    obtain ⟨k, hk, rfl, hrow, hB⟩ := hrel
    have HR := Lib.hid hrow
    have HB := Lib.hid hB
    by_cases hlt : k < l.length
    · obtain ⟨b, o, rfl, hb, q0, q1⟩ := (HL.out.below hB (Nat.le_refl _)).at_ hlt
      have hml := mixP_len l k hk
      have hnl := pv_length (mixP l k)
      obtain ⟨u0, hu0⟩ : ∃ u, wr.cell? ⟨w.heap.size, k * 2, none⟩ = some u := ⟨_, hrow.cell (k := k * 2) (by omega)⟩
      obtain ⟨u1, hu1⟩ : ∃ u, wr.cell? ⟨w.heap.size, k * 2 + 1, none⟩ = some u := ⟨_, hrow.cell (k := k * 2 + 1) (by omega)⟩
      have f0 := hrow.frozen (k * 2)
      have f1 := hrow.frozen (k * 2 + 1)
      have hz := hrow.lt
      have HST := Lib.hid (mixP_step l k hlt)
      have HNS := Lib.hid (fun x y => pv_set (mixP l k) k x y (by omega))
      clear hrow hB hml hnl
      have hi : (k : Int) < (l.length : Int) := by omega
      have hi0 : (0 : Int) ≤ (k : Int) := by omega
      obtain ⟨x, hx⟩ : ∃ x, l[k].1 = x := ⟨_, rfl⟩
      obtain ⟨y, hy⟩ : ∃ y, l[k].2 = y := ⟨_, rfl⟩
      rw [hx] at q0
      rw [hy] at q1
      have HXY := Lib.hid (show l[k] = (x, y) by rw [← hx, ← hy])
      clear hx hy
      go_wp2_with fail
      refine (toPoint_is x y wr).mono ?_
      rintro e w1 ⟨rfl, b1⟩
      have hu0' : w1.cell? ⟨w.heap.size, k * 2, none⟩ = some u0 := (b1.cell (p := ⟨w.heap.size, k * 2, none⟩) hz).trans hu0
      have hu1' : w1.cell? ⟨w.heap.size, k * 2 + 1, none⟩ = some u1 := (b1.cell (p := ⟨w.heap.size, k * 2 + 1, none⟩) hz).trans hu1
      have f0' : w1.frozen? ⟨w.heap.size, k * 2, none⟩ = false := (b1.frozen (p := ⟨w.heap.size, k * 2, none⟩) hz).trans f0
      have f1' : w1.frozen? ⟨w.heap.size, k * 2 + 1, none⟩ = false := (b1.frozen (p := ⟨w.heap.size, k * 2 + 1, none⟩) hz).trans f1
      have HR1 := Lib.hid (HR.out.of_block (b1.block w.heap.size hz))
      have HB1 := Lib.hid (HB.out.trans (b1.mono HB.out.size))
      clear hu0 hu1 f0 f1 b1 q0 q1
      go_wp2
      go_roundw
      case rel =>
        refine ⟨k + 1, by omega, by go_num, ?_, (HB1.out.setCell (p := ⟨w.heap.size, k * 2, none⟩) (Nat.le_refl _) _).setCell (p := ⟨w.heap.size, k * 2 + 1, none⟩) (Nat.le_refl _) _⟩
        have h := (HR1.out.set (k * 2) (.int .i64 x)).set (k * 2 + 1) (.int .i64 y)
        rw [HNS.out, ← HXY.out, HST.out] at h
        exact h
      case measure => simp [intOf]; omega
    · obtain rfl : k = l.length := by omega
      rw [mixP_all] at HR
      have hz := hrow.lt
      clear hrow hB
      go_wp2
      go_ret
      exact ⟨rfl, HR.out, HB.out, hz⟩
set_option maxRecDepth 100000 in
set_option maxHeartbeats 1000000 in
theorem eqPoints_yes (a a' : Option Addr) (l : List Pt) (c c' : Nat) (w : World) (hl : Pts w w.heap.size a l) (hl' : Pts w w.heap.size a' l) (hn : l.length ≤ 1048576) :
    Calls Try.prog 50 #[.slice a l.length c, .slice a' l.length c'] w fun e w' => e = .returned (.bool true) ∧ Below w.heap.size w w' := by
  have HL := Lib.hid hl
  have HL' := Lib.hid hl'
  clear hl hl'
  go_enter Try.func50, Try.ntmps50
  go_wp2
  go_loopw [5] (fun i wr => ∃ k : Nat, k ≤ l.length ∧ i = .int .i64 k ∧ Below w.heap.size w wr) (fun i _ => l.length - (intOf i).toNat)
  case atStart => exact ⟨0, Nat.zero_le _, rfl, Below.refl _ _⟩
  case round =>
    obtain ⟨k, hk, rfl, hB⟩ := hrel
    have HB := Lib.hid hB
    by_cases hlt : k < l.length
    · obtain ⟨b, o, rfl, hb, q0, q1⟩ := (HL.out.below hB (Nat.le_refl _)).at_ hlt
      obtain ⟨b', o', rfl, hb', p0, p1⟩ := (HL'.out.below hB (Nat.le_refl _)).at_ hlt
      clear hB
      have hi : (k : Int) < (l.length : Int) := by omega
      have hi0 : (0 : Int) ≤ (k : Int) := by omega
      generalize l[k].1 = x at *
      generalize l[k].2 = y at *
      go_wp2_with fail
      go_still_tail 8, (by kernel_rfl)
      change wpList _ _ _ _ _ wr.drew
      have HB1 := Lib.hid (HB.out.drew)
      generalize wr.drew = w2 at *
      go_wp2_with fail
      refine (eqPoint_yes x y w2).mono ?_
      rintro e w3 ⟨rfl, b3⟩
      have HB3 := Lib.hid (HB1.out.trans (b3.mono HB1.out.size))
      clear b3
      go_wp2
      go_roundw
      case rel => exact ⟨k + 1, by omega, by go_num, HB3.out⟩
      case measure => simp [intOf]; omega
    · have hge : (l.length : Int) ≤ (k : Int) := by omega
      go_wp2
      go_ret
      exact ⟨rfl, HB.out⟩
end Go.Proofs.Ytgfgimpglaepaaa
