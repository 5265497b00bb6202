/- BeaufortOf, the model's and the program's, and the walk of FnExactBeaufortOf. -/
import Derived.Test.YtnafnkilmiebiaaDoorWarm
namespace Go.Proofs.YtnafnkilmiebiaaDoor
open Go.RowKit
set_option linter.unusedVariables false
set_option linter.unusedSimpArgs false
def speedL : List Int := [0, 3, 16, 34, 55, 80, 108, 139, 172, 208, 245, 285, 327]
def forceSpeedsCells : List Value := speedL.map (.int .i64)
/-- the table of forces lies in its variable -/
def FTab (w : World) : Prop := BlockIs w 1 forceSpeedsCells.toArray
theorem FTab.below {w w' : World} (h : FTab w) (hb : Below w.heap.size w w') : FTab w' := BlockIs.below h hb
/-- the force of a speed in parts, by the first k speeds -/
def forceZ (p : Int) : Nat → Int
  | 0 => 0
  | k + 1 => if 900 * speedL.getD k 0 ≤ p then k else forceZ p k
theorem force_bd (p : Int) (k : Nat) : 0 ≤ forceZ p k ∧ forceZ p k ≤ k := by
  induction k with
  | zero => exact ⟨Int.le_refl _, Int.le_refl _⟩
  | succ k ih => unfold forceZ; split <;> omega
theorem force_yes {p : Int} {k : Nat} (h : 900 * speedL.getD k 0 ≤ p) : forceZ p (k + 1) = k := if_pos h
theorem force_no {p : Int} {k : Nat} (h : ¬ 900 * speedL.getD k 0 ≤ p) : forceZ p (k + 1) = forceZ p k := if_neg h
def bfB (x u : Int) : Bool := qpB 2 x u && decide (0 ≤ x)
def bfN (x u : Int) : Int := if bfB x u = true then forceZ (x * partZ u + zeroZ u) 13 else 0
def bfT (x u : Int) : Value := .tuple #[.int .i64 (bfN x u), .bool (bfB x u)]
theorem bfT_no {x u : Int} (h : bfB x u = false) : bfT x u = .tuple #[.int .i64 0, .bool false] := by unfold bfT bfN; rw [h]; rfl
theorem bfT_yes {x u : Int} (h : bfB x u = true) : bfT x u = .tuple #[.int .i64 (forceZ (x * partZ u + zeroZ u) 13), .bool true] := by unfold bfT bfN; rw [h]; rfl
theorem unit_fast {u : Int} (h : unitB u = true) (hk : kindZ u = 2) : u = 4 ∨ u = 5 ∨ u = 6 := by
  rcases unit_cases h with rfl | rfl | rfl | rfl | rfl | rfl | rfl | rfl <;> first | omega | (exact absurd hk (by decide))

set_option maxRecDepth 100000 in
set_option maxHeartbeats 4000000 in
theorem implBF_any (x u : Int) (w : World) (hu : UTab w) (hf : FTab w) :
    Calls Tryd.prog 19 #[.int .i64 x, .int .i64 u] w fun e w' => e = .returned (bfT x u) ∧ Below w.heap.size w w' := by
  have H1 := Lib.hid (parts_any 2 x u w hu)
  clear hu
  cases hq : qpB 2 x u with
  | false =>
    have R := Lib.hid (bfT_no (x := x) (u := u) (by unfold bfB; rw [hq]; rfl))
    rw [hq] at H1
    clear hq
    generalize qpN 2 x u = n1 at *
    go_enter Tryd.func19, Tryd.ntmps19
    go_wp2_with fail
    refine H1.out.mono ?_
    rintro e w1 ⟨rfl, q1⟩
    have HB1 := Lib.hid q1
    clear q1
    go_wp2
    go_ret2
    exact ⟨by rw [R.out]; rfl, HB1.out⟩
  | true =>
    have hn : qpN 2 x u = x * partZ u + zeroZ u := if_pos hq
    obtain ⟨h1, h2, h3⟩ := qp_out hq
    obtain ⟨p1, p2, p3, p4, p5, p6⟩ := part_bd h1 h3
    have hz : zeroZ u = 0 := by rcases unit_fast h1 h2 with rfl | rfl | rfl <;> rfl
    rw [hn, hq] at H1
    by_cases hx : 0 ≤ x
    · have hp0 : 0 ≤ x * partZ u + zeroZ u := by rcases unit_fast h1 h2 with rfl | rfl | rfl <;> simp [partZ, zeroZ] <;> omega
      have R := Lib.hid (bfT_yes (x := x) (u := u) (by unfold bfB; rw [hq]; simp [hx]))
      have hp9 : x * partZ u + zeroZ u ≤ 100000000 := by omega
      clear hq hn h1 h2 h3 p1 p2 p3 p4 p5 p6 hz
      generalize x * partZ u + zeroZ u = p at *
      have HF := Lib.hid hf
      clear hf
      go_enter Tryd.func19, Tryd.ntmps19
      go_wp2_with fail
      refine H1.out.mono ?_
      rintro e w1 ⟨rfl, q1⟩
      have HB1 := Lib.hid q1
      obtain ⟨t0, hb0⟩ := HF.out.below q1
      clear q1
      go_wp2_with (refine wpList_load_row rfl 60 (.global 1) rfl 1 rfl t0 forceSpeedsCells.toArray (0, 0) _ hb0 Tryd.underlying60 rfl (by kernel_rfl) ?_)
      go_loop [8, 24] (fun f i => ∃ k : Nat, k ≤ 13 ∧ i = .int .i64 k ∧ f = .int .i64 (forceZ p k)) (fun _ i => 13 - (intOf i).toNat)
      case atStart => exact ⟨0, Nat.zero_le _, rfl, rfl⟩
      case round =>
        obtain ⟨k, hk, rfl, rfl⟩ := hrel
        have h9 : k = 0 ∨ k = 1 ∨ k = 2 ∨ k = 3 ∨ k = 4 ∨ k = 5 ∨ k = 6 ∨ k = 7 ∨ k = 8 ∨ k = 9 ∨ k = 10 ∨ k = 11 ∨ k = 12 ∨ k = 13 := by omega
        rcases h9 with rfl | rfl | rfl | rfl | rfl | rfl | rfl | rfl | rfl | rfl | rfl | rfl | rfl | rfl
        · have HI : ∀ W : World, (Instr.index 60 (.agg forceSpeedsCells.toArray) (.int .i64 0)).run Tryd.prog W = .ok (.int .i64 0) W := fun _ => by kernel_rfl
          by_cases h : (0 : Int) ≤ p
          · have HF2 := Lib.hid (force_yes (p := p) (k := 0) h)
            go_wp2
            go_round
            case rel => exact ⟨1, by omega, rfl, by rw [HF2.out] <;> rfl⟩
            case measure => decide
          · have HF2 := Lib.hid (force_no (p := p) (k := 0) h)
            go_wp2
            go_round
            case rel => exact ⟨1, by omega, rfl, by rw [HF2.out] <;> rfl⟩
            case measure => decide
        · have HI : ∀ W : World, (Instr.index 60 (.agg forceSpeedsCells.toArray) (.int .i64 1)).run Tryd.prog W = .ok (.int .i64 3) W := fun _ => by kernel_rfl
          by_cases h : (2700 : Int) ≤ p
          · have HF2 := Lib.hid (force_yes (p := p) (k := 1) h)
            go_wp2
            go_round
            case rel => exact ⟨2, by omega, rfl, by rw [HF2.out] <;> rfl⟩
            case measure => decide
          · have HF2 := Lib.hid (force_no (p := p) (k := 1) h)
            go_wp2
            go_round
            case rel => exact ⟨2, by omega, rfl, by rw [HF2.out] <;> rfl⟩
            case measure => decide
        · have HI : ∀ W : World, (Instr.index 60 (.agg forceSpeedsCells.toArray) (.int .i64 2)).run Tryd.prog W = .ok (.int .i64 16) W := fun _ => by kernel_rfl
          by_cases h : (14400 : Int) ≤ p
          · have HF2 := Lib.hid (force_yes (p := p) (k := 2) h)
            go_wp2
            go_round
            case rel => exact ⟨3, by omega, rfl, by rw [HF2.out] <;> rfl⟩
            case measure => decide
          · have HF2 := Lib.hid (force_no (p := p) (k := 2) h)
            go_wp2
            go_round
            case rel => exact ⟨3, by omega, rfl, by rw [HF2.out] <;> rfl⟩
            case measure => decide
        · have HI : ∀ W : World, (Instr.index 60 (.agg forceSpeedsCells.toArray) (.int .i64 3)).run Tryd.prog W = .ok (.int .i64 34) W := fun _ => by kernel_rfl
          by_cases h : (30600 : Int) ≤ p
          · have HF2 := Lib.hid (force_yes (p := p) (k := 3) h)
            go_wp2
            go_round
            case rel => exact ⟨4, by omega, rfl, by rw [HF2.out] <;> rfl⟩
            case measure => decide
          · have HF2 := Lib.hid (force_no (p := p) (k := 3) h)
            go_wp2
            go_round
            case rel => exact ⟨4, by omega, rfl, by rw [HF2.out] <;> rfl⟩
            case measure => decide
        · have HI : ∀ W : World, (Instr.index 60 (.agg forceSpeedsCells.toArray) (.int .i64 4)).run Tryd.prog W = .ok (.int .i64 55) W := fun _ => by kernel_rfl
          by_cases h : (49500 : Int) ≤ p
          · have HF2 := Lib.hid (force_yes (p := p) (k := 4) h)
            go_wp2
            go_round
            case rel => exact ⟨5, by omega, rfl, by rw [HF2.out] <;> rfl⟩
            case measure => decide
          · have HF2 := Lib.hid (force_no (p := p) (k := 4) h)
            go_wp2
            go_round
            case rel => exact ⟨5, by omega, rfl, by rw [HF2.out] <;> rfl⟩
            case measure => decide
        · have HI : ∀ W : World, (Instr.index 60 (.agg forceSpeedsCells.toArray) (.int .i64 5)).run Tryd.prog W = .ok (.int .i64 80) W := fun _ => by kernel_rfl
          by_cases h : (72000 : Int) ≤ p
          · have HF2 := Lib.hid (force_yes (p := p) (k := 5) h)
            go_wp2
            go_round
            case rel => exact ⟨6, by omega, rfl, by rw [HF2.out] <;> rfl⟩
            case measure => decide
          · have HF2 := Lib.hid (force_no (p := p) (k := 5) h)
            go_wp2
            go_round
            case rel => exact ⟨6, by omega, rfl, by rw [HF2.out] <;> rfl⟩
            case measure => decide
        · have HI : ∀ W : World, (Instr.index 60 (.agg forceSpeedsCells.toArray) (.int .i64 6)).run Tryd.prog W = .ok (.int .i64 108) W := fun _ => by kernel_rfl
          by_cases h : (97200 : Int) ≤ p
          · have HF2 := Lib.hid (force_yes (p := p) (k := 6) h)
            go_wp2
            go_round
            case rel => exact ⟨7, by omega, rfl, by rw [HF2.out] <;> rfl⟩
            case measure => decide
          · have HF2 := Lib.hid (force_no (p := p) (k := 6) h)
            go_wp2
            go_round
            case rel => exact ⟨7, by omega, rfl, by rw [HF2.out] <;> rfl⟩
            case measure => decide
        · have HI : ∀ W : World, (Instr.index 60 (.agg forceSpeedsCells.toArray) (.int .i64 7)).run Tryd.prog W = .ok (.int .i64 139) W := fun _ => by kernel_rfl
          by_cases h : (125100 : Int) ≤ p
          · have HF2 := Lib.hid (force_yes (p := p) (k := 7) h)
            go_wp2
            go_round
            case rel => exact ⟨8, by omega, rfl, by rw [HF2.out] <;> rfl⟩
            case measure => decide
          · have HF2 := Lib.hid (force_no (p := p) (k := 7) h)
            go_wp2
            go_round
            case rel => exact ⟨8, by omega, rfl, by rw [HF2.out] <;> rfl⟩
            case measure => decide
        · have HI : ∀ W : World, (Instr.index 60 (.agg forceSpeedsCells.toArray) (.int .i64 8)).run Tryd.prog W = .ok (.int .i64 172) W := fun _ => by kernel_rfl
          by_cases h : (154800 : Int) ≤ p
          · have HF2 := Lib.hid (force_yes (p := p) (k := 8) h)
            go_wp2
            go_round
            case rel => exact ⟨9, by omega, rfl, by rw [HF2.out] <;> rfl⟩
            case measure => decide
          · have HF2 := Lib.hid (force_no (p := p) (k := 8) h)
            go_wp2
            go_round
            case rel => exact ⟨9, by omega, rfl, by rw [HF2.out] <;> rfl⟩
            case measure => decide
        · have HI : ∀ W : World, (Instr.index 60 (.agg forceSpeedsCells.toArray) (.int .i64 9)).run Tryd.prog W = .ok (.int .i64 208) W := fun _ => by kernel_rfl
          by_cases h : (187200 : Int) ≤ p
          · have HF2 := Lib.hid (force_yes (p := p) (k := 9) h)
            go_wp2
            go_round
            case rel => exact ⟨10, by omega, rfl, by rw [HF2.out] <;> rfl⟩
            case measure => decide
          · have HF2 := Lib.hid (force_no (p := p) (k := 9) h)
            go_wp2
            go_round
            case rel => exact ⟨10, by omega, rfl, by rw [HF2.out] <;> rfl⟩
            case measure => decide
        · have HI : ∀ W : World, (Instr.index 60 (.agg forceSpeedsCells.toArray) (.int .i64 10)).run Tryd.prog W = .ok (.int .i64 245) W := fun _ => by kernel_rfl
          by_cases h : (220500 : Int) ≤ p
          · have HF2 := Lib.hid (force_yes (p := p) (k := 10) h)
            go_wp2
            go_round
            case rel => exact ⟨11, by omega, rfl, by rw [HF2.out] <;> rfl⟩
            case measure => decide
          · have HF2 := Lib.hid (force_no (p := p) (k := 10) h)
            go_wp2
            go_round
            case rel => exact ⟨11, by omega, rfl, by rw [HF2.out] <;> rfl⟩
            case measure => decide
        · have HI : ∀ W : World, (Instr.index 60 (.agg forceSpeedsCells.toArray) (.int .i64 11)).run Tryd.prog W = .ok (.int .i64 285) W := fun _ => by kernel_rfl
          by_cases h : (256500 : Int) ≤ p
          · have HF2 := Lib.hid (force_yes (p := p) (k := 11) h)
            go_wp2
            go_round
            case rel => exact ⟨12, by omega, rfl, by rw [HF2.out] <;> rfl⟩
            case measure => decide
          · have HF2 := Lib.hid (force_no (p := p) (k := 11) h)
            go_wp2
            go_round
            case rel => exact ⟨12, by omega, rfl, by rw [HF2.out] <;> rfl⟩
            case measure => decide
        · have HI : ∀ W : World, (Instr.index 60 (.agg forceSpeedsCells.toArray) (.int .i64 12)).run Tryd.prog W = .ok (.int .i64 327) W := fun _ => by kernel_rfl
          by_cases h : (294300 : Int) ≤ p
          · have HF2 := Lib.hid (force_yes (p := p) (k := 12) h)
            go_wp2
            go_round
            case rel => exact ⟨13, by omega, rfl, by rw [HF2.out] <;> rfl⟩
            case measure => decide
          · have HF2 := Lib.hid (force_no (p := p) (k := 12) h)
            go_wp2
            go_round
            case rel => exact ⟨13, by omega, rfl, by rw [HF2.out] <;> rfl⟩
            case measure => decide
        · go_wp2
          go_ret2
          exact ⟨by rw [R.out]; rfl, HB1.out⟩
    · have R := Lib.hid (bfT_no (x := x) (u := u) (by unfold bfB; rw [decide_eq_false hx]; simp))
      have hp0 : x * partZ u + zeroZ u < 0 := by rcases unit_fast h1 h2 with rfl | rfl | rfl <;> simp [partZ, zeroZ] <;> omega
      clear hq hn h1 h2 h3 p1 p2 p3 p4 p5 p6 hz hf
      generalize x * partZ u + zeroZ u = p at *
      go_enter Tryd.func19, Tryd.ntmps19
      go_wp2_with fail
      refine H1.out.mono ?_
      rintro e w1 ⟨rfl, q1⟩
      have HB1 := Lib.hid q1
      clear q1
      go_wp2
      go_ret2
      exact ⟨by rw [R.out]; rfl, HB1.out⟩

set_option maxRecDepth 100000 in
set_option maxHeartbeats 4000000 in
theorem specBF_any (x u : Int) (w : World) :
    Calls Tryd.prog 18 #[.int .i64 x, .int .i64 u] w fun e w' => e = .returned (bfT x u) ∧ Below w.heap.size w w' := by
  cases hx : decide (0 ≤ x ∧ x ≤ 99999) with
  | false =>
    have C1 := Lib.hid (fun W => in_at x 0 99999 false W hx)
    have R := Lib.hid (bfT_no (x := x) (u := u) (by
      have h9 := of_decide_eq_false hx
      unfold bfB
      by_cases h0 : 0 ≤ x
      · rw [qp_no2 (by unfold tenB; exact decide_eq_false (by omega))]; rfl
      · rw [decide_eq_false h0]; simp))
    clear hx
    go_enter Tryd.func18, Tryd.ntmps18
    go_wp2_with fail
    refine (C1.out _).mono ?_
    rintro e w1 ⟨rfl, rfl⟩
    go_wp2
    go_ret2
    exact ⟨by rw [R.out]; rfl, Below.refl _ _⟩
  | true =>
  have C1 := Lib.hid (fun W => in_at x 0 99999 true W hx)
  cases hu : unitB u with
  | false =>
    have C2 := Lib.hid (fun W => specUnit_is u false W hu)
    have R := Lib.hid (bfT_no (x := x) (u := u) (by unfold bfB; rw [qp_no1 hu]; rfl))
    clear hx hu
    go_enter Tryd.func18, Tryd.ntmps18
    go_wp2_with fail
    refine (C1.out _).mono ?_
    rintro e w1 ⟨rfl, rfl⟩
    go_wp2_with fail
    refine (C2.out _).mono ?_
    rintro e w1 ⟨rfl, rfl⟩
    go_wp2
    go_ret2
    exact ⟨by rw [R.out]; rfl, Below.refl _ _⟩
  | true =>
  have C2 := Lib.hid (fun W => specUnit_is u true W hu)
  have K1 := Lib.hid (fun W => specKind_any u W)
  by_cases hk : kindZ u = 2
  · have hx9 := of_decide_eq_true hx
    have hten : tenB x = true := ten_iff.2 (by omega)
    have R := Lib.hid (bfT_yes (x := x) (u := u) (by unfold bfB; rw [qp_yes hu hk hten]; simp [hx9.1]))
    rw [hk] at K1
    have B1 := Lib.hid (fun W => basic_any x u W hu (by omega) (by omega))
    have hbd : 0 ≤ basN x u ∧ basN x u ≤ 200000000 ∧ 1 ≤ basD u ∧ basD u ≤ 3600 := by
      rcases unit_fast hu hk with rfl | rfl | rfl <;> simp [basN, basD] <;> omega
    have HE := Lib.hid (fun (s : Int) => show (s * basD u ≤ basN x u) ↔ (900 * s ≤ x * partZ u + zeroZ u) by
      rcases unit_fast hu hk with rfl | rfl | rfl <;> simp [basN, basD, partZ, zeroZ] <;> omega)
    clear hx hu hk hten hx9
    generalize x * partZ u + zeroZ u = p at *
    generalize basN x u = nb at *
    generalize basD u = db at *
    go_enter Tryd.func18, Tryd.ntmps18
    go_wp2_with fail
    refine (C1.out _).mono ?_
    rintro e w1 ⟨rfl, rfl⟩
    go_wp2_with fail
    refine (C2.out _).mono ?_
    rintro e w1 ⟨rfl, rfl⟩
    go_wp2_with fail
    refine (K1.out _).mono ?_
    rintro e w1 ⟨rfl, rfl⟩
    go_wp2_with fail
    refine (B1.out _).mono ?_
    rintro e w1 ⟨rfl, rfl⟩
    go_wp2
    have HB1 := Lib.hid (below_all w (.cells forceSpeedsCells.toArray 3))
    have hcells : ∀ (j : Nat) (v : Int), speedL[j]? = some v → (w.alloc (.cells forceSpeedsCells.toArray 3)).cell? ⟨w.heap.size, j, none⟩ = some (.int .i64 v) := fun j v h => by
      rw [World.cell?_alloc_new]; simp [forceSpeedsCells, h]
    have HC := Lib.hid hcells
    clear hcells
    change Code.wp _ _ _ _ (w.alloc (.cells forceSpeedsCells.toArray 3))
    generalize w.alloc (.cells forceSpeedsCells.toArray 3) = w9 at *
    go_loop [9, 10] (fun f i => ∃ k : Nat, k ≤ 13 ∧ i = .int .i64 k ∧ f = .int .i64 (forceZ p k)) (fun _ i => 13 - (intOf i).toNat)
    case atStart => exact ⟨0, Nat.zero_le _, rfl, rfl⟩
    case round =>
      obtain ⟨k, hk, rfl, rfl⟩ := hrel
      have h9 : k = 0 ∨ k = 1 ∨ k = 2 ∨ k = 3 ∨ k = 4 ∨ k = 5 ∨ k = 6 ∨ k = 7 ∨ k = 8 ∨ k = 9 ∨ k = 10 ∨ k = 11 ∨ k = 12 ∨ k = 13 := by omega
      rcases h9 with rfl | rfl | rfl | rfl | rfl | rfl | rfl | rfl | rfl | rfl | rfl | rfl | rfl | rfl
      · have c1 := HC.out 0 0 rfl
        by_cases h : (0 : Int) * db ≤ nb
        · have HF2 := Lib.hid (force_yes (p := p) (k := 0) ((HE.out 0).1 h))
          go_wp2
          go_round
          case rel => exact ⟨1, by omega, rfl, by rw [HF2.out] <;> rfl⟩
          case measure => decide
        · have HF2 := Lib.hid (force_no (p := p) (k := 0) (fun e => h ((HE.out 0).2 e)))
          go_wp2
          go_round
          case rel => exact ⟨1, by omega, rfl, by rw [HF2.out] <;> rfl⟩
          case measure => decide
      · have c1 := HC.out 1 3 rfl
        by_cases h : (3 : Int) * db ≤ nb
        · have HF2 := Lib.hid (force_yes (p := p) (k := 1) ((HE.out 3).1 h))
          go_wp2
          go_round
          case rel => exact ⟨2, by omega, rfl, by rw [HF2.out] <;> rfl⟩
          case measure => decide
        · have HF2 := Lib.hid (force_no (p := p) (k := 1) (fun e => h ((HE.out 3).2 e)))
          go_wp2
          go_round
          case rel => exact ⟨2, by omega, rfl, by rw [HF2.out] <;> rfl⟩
          case measure => decide
      · have c1 := HC.out 2 16 rfl
        by_cases h : (16 : Int) * db ≤ nb
        · have HF2 := Lib.hid (force_yes (p := p) (k := 2) ((HE.out 16).1 h))
          go_wp2
          go_round
          case rel => exact ⟨3, by omega, rfl, by rw [HF2.out] <;> rfl⟩
          case measure => decide
        · have HF2 := Lib.hid (force_no (p := p) (k := 2) (fun e => h ((HE.out 16).2 e)))
          go_wp2
          go_round
          case rel => exact ⟨3, by omega, rfl, by rw [HF2.out] <;> rfl⟩
          case measure => decide
      · have c1 := HC.out 3 34 rfl
        by_cases h : (34 : Int) * db ≤ nb
        · have HF2 := Lib.hid (force_yes (p := p) (k := 3) ((HE.out 34).1 h))
          go_wp2
          go_round
          case rel => exact ⟨4, by omega, rfl, by rw [HF2.out] <;> rfl⟩
          case measure => decide
        · have HF2 := Lib.hid (force_no (p := p) (k := 3) (fun e => h ((HE.out 34).2 e)))
          go_wp2
          go_round
          case rel => exact ⟨4, by omega, rfl, by rw [HF2.out] <;> rfl⟩
          case measure => decide
      · have c1 := HC.out 4 55 rfl
        by_cases h : (55 : Int) * db ≤ nb
        · have HF2 := Lib.hid (force_yes (p := p) (k := 4) ((HE.out 55).1 h))
          go_wp2
          go_round
          case rel => exact ⟨5, by omega, rfl, by rw [HF2.out] <;> rfl⟩
          case measure => decide
        · have HF2 := Lib.hid (force_no (p := p) (k := 4) (fun e => h ((HE.out 55).2 e)))
          go_wp2
          go_round
          case rel => exact ⟨5, by omega, rfl, by rw [HF2.out] <;> rfl⟩
          case measure => decide
      · have c1 := HC.out 5 80 rfl
        by_cases h : (80 : Int) * db ≤ nb
        · have HF2 := Lib.hid (force_yes (p := p) (k := 5) ((HE.out 80).1 h))
          go_wp2
          go_round
          case rel => exact ⟨6, by omega, rfl, by rw [HF2.out] <;> rfl⟩
          case measure => decide
        · have HF2 := Lib.hid (force_no (p := p) (k := 5) (fun e => h ((HE.out 80).2 e)))
          go_wp2
          go_round
          case rel => exact ⟨6, by omega, rfl, by rw [HF2.out] <;> rfl⟩
          case measure => decide
      · have c1 := HC.out 6 108 rfl
        by_cases h : (108 : Int) * db ≤ nb
        · have HF2 := Lib.hid (force_yes (p := p) (k := 6) ((HE.out 108).1 h))
          go_wp2
          go_round
          case rel => exact ⟨7, by omega, rfl, by rw [HF2.out] <;> rfl⟩
          case measure => decide
        · have HF2 := Lib.hid (force_no (p := p) (k := 6) (fun e => h ((HE.out 108).2 e)))
          go_wp2
          go_round
          case rel => exact ⟨7, by omega, rfl, by rw [HF2.out] <;> rfl⟩
          case measure => decide
      · have c1 := HC.out 7 139 rfl
        by_cases h : (139 : Int) * db ≤ nb
        · have HF2 := Lib.hid (force_yes (p := p) (k := 7) ((HE.out 139).1 h))
          go_wp2
          go_round
          case rel => exact ⟨8, by omega, rfl, by rw [HF2.out] <;> rfl⟩
          case measure => decide
        · have HF2 := Lib.hid (force_no (p := p) (k := 7) (fun e => h ((HE.out 139).2 e)))
          go_wp2
          go_round
          case rel => exact ⟨8, by omega, rfl, by rw [HF2.out] <;> rfl⟩
          case measure => decide
      · have c1 := HC.out 8 172 rfl
        by_cases h : (172 : Int) * db ≤ nb
        · have HF2 := Lib.hid (force_yes (p := p) (k := 8) ((HE.out 172).1 h))
          go_wp2
          go_round
          case rel => exact ⟨9, by omega, rfl, by rw [HF2.out] <;> rfl⟩
          case measure => decide
        · have HF2 := Lib.hid (force_no (p := p) (k := 8) (fun e => h ((HE.out 172).2 e)))
          go_wp2
          go_round
          case rel => exact ⟨9, by omega, rfl, by rw [HF2.out] <;> rfl⟩
          case measure => decide
      · have c1 := HC.out 9 208 rfl
        by_cases h : (208 : Int) * db ≤ nb
        · have HF2 := Lib.hid (force_yes (p := p) (k := 9) ((HE.out 208).1 h))
          go_wp2
          go_round
          case rel => exact ⟨10, by omega, rfl, by rw [HF2.out] <;> rfl⟩
          case measure => decide
        · have HF2 := Lib.hid (force_no (p := p) (k := 9) (fun e => h ((HE.out 208).2 e)))
          go_wp2
          go_round
          case rel => exact ⟨10, by omega, rfl, by rw [HF2.out] <;> rfl⟩
          case measure => decide
      · have c1 := HC.out 10 245 rfl
        by_cases h : (245 : Int) * db ≤ nb
        · have HF2 := Lib.hid (force_yes (p := p) (k := 10) ((HE.out 245).1 h))
          go_wp2
          go_round
          case rel => exact ⟨11, by omega, rfl, by rw [HF2.out] <;> rfl⟩
          case measure => decide
        · have HF2 := Lib.hid (force_no (p := p) (k := 10) (fun e => h ((HE.out 245).2 e)))
          go_wp2
          go_round
          case rel => exact ⟨11, by omega, rfl, by rw [HF2.out] <;> rfl⟩
          case measure => decide
      · have c1 := HC.out 11 285 rfl
        by_cases h : (285 : Int) * db ≤ nb
        · have HF2 := Lib.hid (force_yes (p := p) (k := 11) ((HE.out 285).1 h))
          go_wp2
          go_round
          case rel => exact ⟨12, by omega, rfl, by rw [HF2.out] <;> rfl⟩
          case measure => decide
        · have HF2 := Lib.hid (force_no (p := p) (k := 11) (fun e => h ((HE.out 285).2 e)))
          go_wp2
          go_round
          case rel => exact ⟨12, by omega, rfl, by rw [HF2.out] <;> rfl⟩
          case measure => decide
      · have c1 := HC.out 12 327 rfl
        by_cases h : (327 : Int) * db ≤ nb
        · have HF2 := Lib.hid (force_yes (p := p) (k := 12) ((HE.out 327).1 h))
          go_wp2
          go_round
          case rel => exact ⟨13, by omega, rfl, by rw [HF2.out] <;> rfl⟩
          case measure => decide
        · have HF2 := Lib.hid (force_no (p := p) (k := 12) (fun e => h ((HE.out 327).2 e)))
          go_wp2
          go_round
          case rel => exact ⟨13, by omega, rfl, by rw [HF2.out] <;> rfl⟩
          case measure => decide
      · go_wp2
        go_ret2
        exact ⟨by rw [R.out]; rfl, HB1.out⟩
  · have R := Lib.hid (bfT_no (x := x) (u := u) (by unfold bfB; rw [qp_no3 hk]; rfl))
    have hne : (kindZ u - 1 != 1) = true := by simp; omega
    clear hx hu hk
    generalize kindZ u = ku at *
    go_enter Tryd.func18, Tryd.ntmps18
    go_wp2_with fail
    refine (C1.out _).mono ?_
    rintro e w1 ⟨rfl, rfl⟩
    go_wp2_with fail
    refine (C2.out _).mono ?_
    rintro e w1 ⟨rfl, rfl⟩
    go_wp2_with fail
    refine (K1.out _).mono ?_
    rintro e w1 ⟨rfl, rfl⟩
    go_wp2
    go_ret2
    exact ⟨by rw [R.out]; rfl, Below.refl _ _⟩

set_option maxHeartbeats 1000000 in
theorem walk_BeaufortOf (x u : Int) (w : World) (hu : UTab w) (hf : FTab w) :
    Calls Tryd.prog 7 #[.int .i64 x, .int .i64 u] w fun e w' => e = .returned (.bool true) ∧ Below w.heap.size w w' := by
  have H1 := Lib.hid (specBF_any x u w)
  have H2 := Lib.hid (fun W (h : Below w.heap.size w W) => implBF_any x u W (hu.below h) (hf.below h))
  clear hu hf
  unfold bfT at H1 H2
  generalize bfN x u = n at *
  generalize bfB x u = k at *
  go_enter Tryd.func7, Tryd.ntmps7
  go_wp2_with fail
  refine H1.out.mono ?_
  rintro e w1 ⟨rfl, b1⟩
  have HB1 := Lib.hid b1
  clear b1
  go_wp2_with fail
  refine (H2.out _ HB1.out).mono ?_
  rintro e w2 ⟨rfl, b2⟩
  have HB2 := Lib.hid (below_then HB1.out b2)
  clear b2
  go_wp2
  go_ret
  exact ⟨rfl, HB2.out⟩
end Go.Proofs.YtnafnkilmiebiaaDoor
