/- l5Number, l5Folded: what a node of the model's list becomes. -/
import Derived.Test.YtikglddifoalfaaDoorFoldMath
import Derived.Test.YtikglddifoalfaaDoorArity
import Derived.Test.YtikglddifoalfaaDoorChk
import Derived.Deep.RegionHeld3
import Derived.Deep.QuietTactic
import Derived.BigQuiet
import Derived.IntWalk
namespace Go.Proofs.YtikglddifoalfaaDoor
open Go.RowKit
set_option linter.unusedVariables false
set_option linter.unusedSimpArgs false
theorem lastN_take {l : List Nd} {i j : Nat} (hi : i ≤ l.length) (h1 : 1 ≤ j) (h2 : j ≤ i) : lastN (l.take i) j = l[i - j]'(by omega) := by
  unfold lastN
  rw [List.length_take, Nat.min_eq_left hi, List.getD_eq_getElem?_getD, List.getElem?_take, if_pos (by omega), List.getElem?_eq_getElem (by omega), Option.getD_some]
def foldW (f : List Nd) (p : Nd) : Int × Int := match foldV f p with
  | some (n, m) => (n, (m : Int) + 1)
  | none => (0, 0)
theorem l5Number_is (x y : Int) (w : World) : Calls Tryd.prog 43 #[.agg #[.int .i64 x, .int .i64 y]] w fun e w' => e = .returned (.bool (x == 2)) ∧ Below w.heap.size w w' := by
  go_enter Tryd.func43, Tryd.ntmps43
  go_wp2
  go_ret
  exact ⟨rfl, below_allN _ _⟩
/-- what l5Folded knows of a later world -/
structure Fo (w : World) (a : Option Addr) (l : List Nd) (k v : Int) (w' : World) : Prop where
  b : Below w.heap.size w w'
  n : Nds w' w'.heap.size a l
  x : BoxC w' w.heap.size 49 #[.int .i64 k, .int .i64 v]
theorem Fo.step {w w1 w2 : World} {a : Option Addr} {l : List Nd} {k v : Int} (h : Fo w a l k v w1) (b : Below w1.heap.size w1 w2) : Fo w a l k v w2 := ⟨below_thenN h.b b, nds_below h.n b, h.x.below b⟩
theorem Fo.new {w : World} {a : Option Addr} {l : List Nd} {k v : Int} (h : Nds w w.heap.size a l) : Fo w a l k v (w.alloc (.cells #[.int .i64 k, .int .i64 v] 49)) := ⟨below_allN _ _, nds_alloc h _, BoxC.new _ _ _⟩
set_option maxRecDepth 100000 in
set_option maxHeartbeats 8000000 in
/-- a node 'above' -/
theorem folded_above (a : Option Addr) (l : List Nd) (c i j : Nat) (v : Int) (w : World) (hl : Nds w w.heap.size a l) (hn : l.length ≤ 1048576) (hi : i < l.length) (hg : l[i] = (7, v)) (hj : i = j + 1) :
    Calls Tryd.prog 32 #[.slice a l.length c, .int .i64 (i : Int)] w fun e w' => e = .returned (.tuple #[.int .i64 (foldW (l.take i) (7, v)).1, .int .i64 (foldW (l.take i) (7, v)).2]) ∧ Below w.heap.size w w' := by
  have hjl : j < l.length := by omega
  have E0 := Lib.hid (Fo.new (k := 7) (v := v) hl)
  obtain ⟨b, o, rfl, hb, q0, q1⟩ := hl.at_ hi
  obtain ⟨b', o', e', _, p0, p1⟩ := hl.at_ hjl
  injection e' with e'
  injection e' with eb eo
  subst eb eo
  rw [hg] at q0 q1
  simp only at q0 q1
  have i1 : (i : Int) < (l.length : Int) := by omega
  have i0 : (0 : Int) ≤ (i : Int) := by omega
  have ej : (i : Int) - 1 = (j : Int) := by omega
  have j1 : (j : Int) < (l.length : Int) := by omega
  have j0 : (0 : Int) ≤ (j : Int) := by omega
  have P0 := (E0.out.b.cell (p := ⟨b, o + j * 2, none⟩) hb).trans p0
  have P1 := (E0.out.b.cell (p := ⟨b, o + j * 2 + 1, none⟩) hb).trans p1
  have x0 := E0.out.x.cell 0
  have x1 := E0.out.x.cell 1
  simp at x0 x1
  have hla := lastN_take (l := l) (i := i) (j := 1) (by omega) (by omega) (by omega)
  have hlj : l[i - 1]'(by omega) = l[j] := by congr 1; omega
  rw [hlj] at hla
  have hbl : b < (w.alloc (.cells #[.int .i64 7, .int .i64 v] 49)).heap.size := by simp; omega
  have hW : foldW (l.take i) (7, v) = if l[j].1 = 2 then (if v < l[j].2 then (1, 2) else (0, 2)) else (0, 0) := by
    unfold foldW foldV
    rw [if_pos rfl, hla]
    have hle : 1 ≤ (l.take i).length := by rw [List.length_take]; omega
    by_cases h2 : l[j].1 = 2
    · rw [if_pos ⟨hle, h2⟩, if_pos h2]
      split
      · rename_i heq
        injection heq with heq
        injection heq with e1 e2
        subst e1 e2
        split <;> rfl
      · rename_i heq; cases heq
    · rw [if_neg (fun h => h2 h.2), if_neg h2]
  have HWW := Lib.hid hW
  have HC := Lib.hid (fun W => specArity_any 7 v W)
  have har : ¬ arI 7 v = 2 := by
    rw [arity_7 _ rfl]; split <;> omega
  generalize l[j].1 = y at *
  generalize l[j].2 = z at *
  clear hla hlj hg hl hW p0 p1 hj
  by_cases hy : y = 2
  · subst hy
    rw [if_pos rfl] at HWW
    have HN := Lib.hid (fun W => l5Number_is 2 z W)
    by_cases hz : v < z
    · rw [if_pos hz] at HWW
      go_enter Tryd.func32, Tryd.ntmps32
      go_wp2_with fail
      refine (HN.out _).mono ?_
      rintro e w1 ⟨rfl, b1⟩
      have Q1 := (b1.cell (p := ⟨b, o + j * 2 + 1, none⟩) hbl).trans P1
      have E1 := Lib.hid (E0.out.step b1)
      have y1 := E1.out.x.cell 1
      simp at y1
      clear b1 E0 x0 x1 P0 P1
      go_wp2_with fail
      first | go_region | go_quiet (fail) | skip
      all_goals
        go_wp2
        go_ret2
        exact ⟨by rw [HWW.out]; rfl, (E1.out.b.drew)⟩
    · rw [if_neg hz] at HWW
      go_enter Tryd.func32, Tryd.ntmps32
      go_wp2_with fail
      refine (HN.out _).mono ?_
      rintro e w1 ⟨rfl, b1⟩
      have Q1 := (b1.cell (p := ⟨b, o + j * 2 + 1, none⟩) hbl).trans P1
      have E1 := Lib.hid (E0.out.step b1)
      have y1 := E1.out.x.cell 1
      simp at y1
      clear b1 E0 x0 x1 P0 P1
      go_wp2_with fail
      first | go_region | go_quiet (fail) | skip
      all_goals
        go_wp2
        go_ret2
        exact ⟨by rw [HWW.out]; rfl, (E1.out.b.drew)⟩
  · rw [if_neg hy] at HWW
    have hyb : (y == 2) = false := by simp [hy]
    have harb : (arI 7 v == 2) = false := by simp [har]
    have HN := Lib.hid (fun W => l5Number_is y z W)
    clear har
    go_enter Tryd.func32, Tryd.ntmps32
    go_wp2_with fail
    refine (HN.out _).mono ?_
    rintro e w1 ⟨rfl, b1⟩
    have E1 := Lib.hid (E0.out.step b1)
    have y0 := E1.out.x.cell 0
    have y1 := E1.out.x.cell 1
    simp at y0 y1
    clear b1 E0 x0 x1 P0 P1
    go_wp2_with fail
    refine (HC.out _).mono ?_
    rintro e w2 ⟨rfl, b2⟩
    have B2 := Lib.hid (below_thenN E1.out.b b2)
    clear b2 E1 y0 y1
    go_wp2
    go_ret2
    exact ⟨by rw [HWW.out]; rfl, B2.out⟩
set_option maxRecDepth 100000 in
set_option maxHeartbeats 8000000 in
/-- a node without arguments -/
theorem folded_leaf (a : Option Addr) (l : List Nd) (c i : Nat) (k v : Int) (w : World) (hl : Nds w w.heap.size a l) (hn : l.length ≤ 1048576) (hi : i < l.length) (hg : l[i] = (k, v)) (h7 : ¬ k = 7) (ha : ¬ arity k v = some 2) :
    Calls Tryd.prog 32 #[.slice a l.length c, .int .i64 (i : Int)] w fun e w' => e = .returned (.tuple #[.int .i64 (foldW (l.take i) (k, v)).1, .int .i64 (foldW (l.take i) (k, v)).2]) ∧ Below w.heap.size w w' := by
  have E0 := Lib.hid (Fo.new (k := k) (v := v) hl)
  obtain ⟨b, o, rfl, hb, q0, q1⟩ := hl.at_ hi
  rw [hg] at q0 q1
  simp only at q0 q1
  have i1 : (i : Int) < (l.length : Int) := by omega
  have i0 : (0 : Int) ≤ (i : Int) := by omega
  have x0 := E0.out.x.cell 0
  have x1 := E0.out.x.cell 1
  simp at x0 x1
  have HWW : Hid (foldW (l.take i) (k, v) = (0, 0)) := Lib.hid (by
    unfold foldW foldV
    rw [if_neg h7, if_neg (fun h => ha h.1)])
  have HC := Lib.hid (fun W => specArity_any k v W)
  have har : ¬ arI k v = 2 := by
    intro e
    apply ha
    unfold arI at e
    split at e
    · rename_i x hx; rw [hx]; congr 1; omega
    · omega
  have harb : (arI k v == 2) = false := by simp [har]
  have hkb : (k == 7) = false := by simp [h7]
  clear hl hg har ha
  go_enter Tryd.func32, Tryd.ntmps32
  go_wp2_with fail
  refine (HC.out _).mono ?_
  rintro e w2 ⟨rfl, b2⟩
  have B2 := Lib.hid (below_thenN E0.out.b b2)
  clear b2 E0 x0 x1
  go_wp2
  go_ret2
  exact ⟨by rw [HWW.out]; rfl, B2.out⟩
set_option maxRecDepth 100000 in
set_option maxHeartbeats 8000000 in
/-- a node with two arguments -/
theorem folded_two (a : Option Addr) (l : List Nd) (c i j : Nat) (k v : Int) (w : World) (hl : Nds w w.heap.size a l) (hn : l.length ≤ 1048576) (hi : i < l.length) (hg : l[i] = (k, v)) (ha : arity k v = some 2) (hj : i = j + 2)
    (hv : ∀ q ∈ l, q.1 = 2 → 0 ≤ q.2 ∧ q.2 ≤ 9000) :
    Calls Tryd.prog 32 #[.slice a l.length c, .int .i64 (i : Int)] w fun e w' => e = .returned (.tuple #[.int .i64 (foldW (l.take i) (k, v)).1, .int .i64 (foldW (l.take i) (k, v)).2]) ∧ Below w.heap.size w w' := by
  obtain ⟨k3, k6, rfl⟩ := arity2 ha
  have hj1 : j + 1 < l.length := by omega
  have hj0 : j < l.length := by omega
  have E0 := Lib.hid (Fo.new (k := k) (v := 0) hl)
  obtain ⟨b, o, rfl, hb, q0, q1⟩ := hl.at_ hi
  obtain ⟨b', o', e', _, p0, p1⟩ := hl.at_ hj1
  injection e' with e'
  injection e' with eb eo
  subst eb eo
  obtain ⟨b', o', e', _, r0, r1⟩ := hl.at_ hj0
  injection e' with e'
  injection e' with eb eo
  subst eb eo
  rw [hg] at q0 q1
  simp only at q0 q1
  have i1 : (i : Int) < (l.length : Int) := by omega
  have i0 : (0 : Int) ≤ (i : Int) := by omega
  obtain ⟨s, hs⟩ : ∃ s, j + 1 = s := ⟨_, rfl⟩
  have ej : (i : Int) - 1 = (s : Int) := by omega
  have ej2 : (i : Int) - 2 = (j : Int) := by omega
  have s1 : (s : Int) < (l.length : Int) := by omega
  have s0 : (0 : Int) ≤ (s : Int) := by omega
  have j1 : (j : Int) < (l.length : Int) := by omega
  have j0 : (0 : Int) ≤ (j : Int) := by omega
  have hsl : s < l.length := by omega
  have hla := lastN_take (l := l) (i := i) (j := 1) (by omega) (by omega) (by omega)
  have hlb := lastN_take (l := l) (i := i) (j := 2) (by omega) (by omega) (by omega)
  have e1 : l[i - 1]'(by omega) = l[j + 1] := by congr 1; omega
  have e2 : l[i - 2]'(by omega) = l[j] := by congr 1; omega
  rw [e1] at hla
  rw [e2] at hlb
  have hva := hv _ (List.getElem_mem hj1)
  have hvb := hv _ (List.getElem_mem hj0)
  have hle : 2 ≤ (l.take i).length := by rw [List.length_take]; omega
  have hW : foldV (l.take i) (k, 0) = if l[j + 1].1 = 2 ∧ l[j].1 = 2 ∧ 0 ≤ opF (k - 3 + 1) l[j].2 l[j + 1].2 ∧ opF (k - 3 + 1) l[j].2 l[j + 1].2 ≤ 9000 then some (opF (k - 3 + 1) l[j].2 l[j + 1].2, 2) else none := by
    unfold foldV
    rw [if_neg (by show ¬ k = 7; omega), hla, hlb, show (k, (0 : Int)).1 - 2 = k - 3 + 1 by show k - 2 = _; omega]
    by_cases hc : l[j + 1].1 = 2 ∧ l[j].1 = 2 ∧ 0 ≤ opF (k - 3 + 1) l[j].2 l[j + 1].2 ∧ opF (k - 3 + 1) l[j].2 l[j + 1].2 ≤ 9000
    · rw [if_pos ⟨ha, hle, hc⟩, if_pos hc]
    · rw [if_neg (fun h => hc h.2.2), if_neg hc]
  have HWW := Lib.hid hW
  rw [show (j + 1) * 2 = s * 2 by rw [hs]] at p0 p1
  generalize l[j + 1].1 = y at *
  generalize l[j + 1].2 = z at *
  generalize l[j].1 = y' at *
  generalize l[j].2 = z' at *
  have P0 := (E0.out.b.cell (p := ⟨b, o + s * 2, none⟩) hb).trans p0
  have P1 := (E0.out.b.cell (p := ⟨b, o + s * 2 + 1, none⟩) hb).trans p1
  have R0 := (E0.out.b.cell (p := ⟨b, o + j * 2, none⟩) hb).trans r0
  have R1 := (E0.out.b.cell (p := ⟨b, o + j * 2 + 1, none⟩) hb).trans r1
  have hb9 := Nat.lt_of_lt_of_le hb E0.out.b.size
  have x0 := E0.out.x.cell 0
  have x1 := E0.out.x.cell 1
  simp at x0 x1
  have HC := Lib.hid (fun W => specArity_any k 0 W)
  rw [arI_some ha] at HC
  have hkb : (k == 7) = false := by simp; omega
  have HN := Lib.hid (fun W => l5Number_is y z W)
  have HN' := Lib.hid (fun W => l5Number_is y' z' W)
  have hop : opB (k - 3 + 1) = true := by unfold opB; simp; omega
  have k39 : 3 ≤ k ∧ k ≤ 9 := by omega
  clear hla hlb e1 e2 hg hl hW p0 p1 r0 r1 ha hs hle hj hv
  go_enter Tryd.func32, Tryd.ntmps32
  go_wp2_with fail
  refine (HC.out _).mono ?_
  rintro e w1 ⟨rfl, b1⟩
  have E1 := Lib.hid (E0.out.step b1)
  have P01 := (b1.cell (p := ⟨b, o + s * 2, none⟩) hb9).trans P0
  have P11 := (b1.cell (p := ⟨b, o + s * 2 + 1, none⟩) hb9).trans P1
  have R01 := (b1.cell (p := ⟨b, o + j * 2, none⟩) hb9).trans R0
  have R11 := (b1.cell (p := ⟨b, o + j * 2 + 1, none⟩) hb9).trans R1
  have hb1 := Nat.lt_of_lt_of_le hb9 b1.size
  clear b1 E0 x0 x1 P0 P1 R0 R1
  go_wp2_with fail
  refine (HN.out _).mono ?_
  rintro e w2 ⟨rfl, b2⟩
  have E2 := Lib.hid (E1.out.step b2)
  have P02 := (b2.cell (p := ⟨b, o + s * 2, none⟩) hb1).trans P01
  have P12 := (b2.cell (p := ⟨b, o + s * 2 + 1, none⟩) hb1).trans P11
  have R02 := (b2.cell (p := ⟨b, o + j * 2, none⟩) hb1).trans R01
  have R12 := (b2.cell (p := ⟨b, o + j * 2 + 1, none⟩) hb1).trans R11
  have hb2 := Nat.lt_of_lt_of_le hb1 b2.size
  clear b2 E1 P01 P11 R01 R11
  by_cases hy : y = 2
  · subst hy
    go_wp2_with fail
    refine (HN'.out _).mono ?_
    rintro e w3 ⟨rfl, b3⟩
    have E3 := Lib.hid (E2.out.step b3)
    have P03 := (b3.cell (p := ⟨b, o + s * 2, none⟩) hb2).trans P02
    have P13 := (b3.cell (p := ⟨b, o + s * 2 + 1, none⟩) hb2).trans P12
    have R03 := (b3.cell (p := ⟨b, o + j * 2, none⟩) hb2).trans R02
    have R13 := (b3.cell (p := ⟨b, o + j * 2 + 1, none⟩) hb2).trans R12
    have hb3 := Nat.lt_of_lt_of_le hb2 b3.size
    have x0 := E3.out.x.cell 0
    have x1 := E3.out.x.cell 1
    simp at x0 x1
    clear b3 E2 P02 P12 R02 R12
    by_cases hy' : y' = 2
    · subst hy'
      obtain ⟨z0, z9⟩ := hva (by simp)
      obtain ⟨z0', z9'⟩ := hvb (by simp)
      have HO := Lib.hid (fun W => l4Op_is (k - 3 + 1) z' z W hop (cellB_iff.2 (.inr ⟨by omega, z9'⟩)) (cellB_iff.2 (.inr ⟨by omega, z9⟩)))
      have hnb : -20000 ≤ opF (k - 3 + 1) z' z ∧ opF (k - 3 + 1) z' z ≤ 20000 := by unfold opF; repeat' split; all_goals omega
      generalize opF (k - 3 + 1) z' z = n at *
      have bd : Below w3.heap.size w3 w3.drew := ⟨rfl, rfl, rfl, Nat.le_refl _, fun _ _ => rfl⟩
      have E3D := Lib.hid (E3.out.step bd)
      have w1 : IntKind.i64.wrap (j : Int) = (j : Int) := IntWalk.i64_in _ (by omega)
      have w2 : IntKind.i64.wrap (s : Int) = (s : Int) := IntWalk.i64_in _ (by omega)
      have w3 : IntKind.i64.wrap (k - 3) = k - 3 := IntWalk.i64_in _ (by omega)
      have w4 : IntKind.i64.wrap (k - 3 + 1) = k - 3 + 1 := IntWalk.i64_in _ (by omega)
      clear bd hop
      go_wp2_with fail
      go_region_held3 (fun w' => w'.cell? ⟨b, o + s * 2 + 1, none⟩ = some (.int .i64 z) ∧ w'.cell? ⟨b, o + j * 2 + 1, none⟩ = some (.int .i64 z') ∧ w'.cell? ⟨w.heap.size, 0, none⟩ = some (.int .i64 k))
        (first | exact ⟨P13, R13, x0⟩ | go_keep)
        (first | (go_at_call 44; refine (HO.out _).mono ?_; rintro e w4 ⟨rfl, rfl⟩))
      all_goals
        rename_i hHeld
        clear hHeld
        obtain ⟨vb, hvb⟩ : ∃ vb, (decide (0 ≤ n) && decide (n ≤ 9000)) = vb := ⟨_, rfl⟩
        have HIN := Lib.hid (fun W => l1In_is n 0 9000 vb W hvb)
        cases vb with
        | true =>
          simp only [Bool.and_eq_true, decide_eq_true_eq] at hvb
          have HWF : Hid (foldW (List.take i l) (k, 0) = (n, 3)) := Lib.hid (by unfold foldW; rw [HWW.out, if_pos (by simpa using hvb)]; rfl)
          clear hvb
          go_wp2_with (first | (go_at_call 27; (with_reducible refine (HIN.out _).mono ?_); rintro e w8 ⟨rfl, rfl⟩) | fail)
          go_ret2
          exact ⟨by rw [HWF.out]; rfl, E3D.out.b⟩
        | false =>
          have HWF : Hid (foldW (List.take i l) (k, 0) = (0, 0)) := Lib.hid (by
            unfold foldW
            rw [HWW.out, if_neg]
            rintro ⟨_, _, h1, h2⟩
            rw [decide_eq_true h1, decide_eq_true h2] at hvb
            cases hvb)
          clear hvb
          go_wp2_with (first | (go_at_call 27; (with_reducible refine (HIN.out _).mono ?_); rintro e w8 ⟨rfl, rfl⟩) | fail)
          go_ret2
          exact ⟨by rw [HWF.out]; rfl, E3D.out.b⟩
    · have hyb : (y' == 2) = false := by simp [hy']
      have HWF : Hid (foldW (List.take i l) (k, 0) = (0, 0)) := Lib.hid (by unfold foldW; rw [HWW.out, if_neg (fun h => hy' h.2.1)])
      go_wp2
      go_ret2
      exact ⟨by rw [HWF.out]; rfl, E3.out.b⟩
  · have hyb : (y == 2) = false := by simp [hy]
    have HWF : Hid (foldW (List.take i l) (k, 0) = (0, 0)) := Lib.hid (by unfold foldW; rw [HWW.out, if_neg (fun h => hy h.1)])
    go_wp2
    go_ret2
    exact ⟨by rw [HWF.out]; rfl, E2.out.b⟩
end Go.Proofs.YtikglddifoalfaaDoor
