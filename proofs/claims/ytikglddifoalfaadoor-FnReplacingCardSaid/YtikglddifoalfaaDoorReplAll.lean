/- A region that draws its order, reads, and calls what may make memory: walked once, in the class of the worlds in which all that lay lies unturned. The model's comparison of shapes; its least and greatest of two. Rules handed over as function values: what is asked of one; the closures of the field algebra. The model's l4Checked, l4Op, l4Floor. l5Number, l5Folded: what a node of the model's list becomes. Rows of nodes that are marked, and held against the marks. Plain mathematics of ReplaceField; rows of nodes of the call's own. Rows of fields in memory, each field with its cells. The laws' helpers on lists of fields: szFieldS, toFieldS, eqFieldS, markFieldS, heldFieldS. A law's answer: a field in a box of the law's own, its box and cells between two bounds. The model's FoldNumbers. The program's ReplaceField. The model's draw of an expression. The model's draw of a list of nodes that may be no expression; the draw of FnReplacing. Depth, the model's and the program's. What replacing does to the fields used and to the depth, as plain mathematics. vNodes, vHas. The model's ReplaceField. Depth, the program's; the walk of FnExactDepth. The walk of FnReplacing. -/
import Derived.Test.YtikglddifoalfaaDoorFr
import Derived.Deep.QuietTactic
import Derived.BigQuiet
import Derived.Test.YtikglddifoalfaaDoorAlgMath
import Derived.Test.YtikglddifoalfaaDoorMake
import Derived.Shelf.Abstract
import Derived.IntWalk
import Derived.Test.YtikglddifoalfaaDoorFoldMath
import Derived.Test.YtikglddifoalfaaDoorArity
import Derived.Deep.RegionHeld3
import Derived.Test.YtikglddifoalfaaDoorNodeLaw
import Derived.Test.YtikglddifoalfaaDoorFieldLaw
import Derived.Test.YtikglddifoalfaaDoorBox
import Derived.Laws.MakeOwn
import Derived.StillTailTactics
import Derived.OwnWalk
import Derived.Maps.AppendAt
import Derived.Deep.AppendLies
import Derived.Test.YtikglddifoalfaaDoorExprLaw
import Derived.Test.YtikglddifoalfaaDoorFld
import Derived.Test.YtikglddifoalfaaDoorAmong
import Derived.Test.YtikglddifoalfaaDoorUsedSpec
import Derived.Test.YtikglddifoalfaaDoorUsedImpl
namespace Go.Proofs.YtikglddifoalfaaDoor
open Go.RowKit
set_option linter.unusedVariables false
/-- a world in which all that lay in w lies unturned -/
structure Later (w : World) where
  world : World
  below : Below w.heap.size w world
instance later_some (w : World) : Nonempty (Later w) := ⟨⟨w, Below.refl _ _⟩⟩
theorem wp_region_later {P : Program} {id : Nat} {Q : Exit → Act → World → Prop} {a : Act} {w : World} {l : List Oper} (hm : P.follows .mixedOrders = true) (hB : Region.lexB .any l.toArray = true)
    (h : wpQuiet P l.toArray (fun w' => ∃ p : Later w, w' = p.world) (fun a' => ∀ w', (∃ p : Later w, w' = p.world) → Q .normal a' w') l a) : (Code.region id l.toArray true).wp P Q a w :=
  wp_region_quiet (C := fun w' => ∃ p : Later w, w' = p.world) hm hB ⟨⟨{ w with drawn := w.drawn + 1 }, ⟨rfl, rfl, rfl, Nat.le_refl _, fun _ _ => rfl⟩⟩, rfl⟩ (by simpa using h)
theorem later_cell {w : World} {b o : Nat} {v : Value} (h : w.cell? ⟨b, o, none⟩ = some v) (hb : b < w.heap.size) (p : Later w) : p.world.cell? ⟨b, o, none⟩ = some v := (p.below.cell (p := ⟨b, o, none⟩) hb).trans h
theorem calls_later {P : Program} {f : FuncId} {args : Array Value} {w : World} {p : Later w} {v : Value}
    (h : Calls P f args p.world fun e w' => e = .returned v ∧ Below p.world.heap.size p.world w') : Calls P f args p.world fun e w'' => e = .returned v ∧ ∃ q : Later w, w'' = q.world :=
  h.mono fun _ w'' ⟨he, hb⟩ => ⟨he, ⟨w'', below_then p.below hb⟩, rfl⟩
theorem calls_later_same {P : Program} {f : FuncId} {args : Array Value} {w : World} {p : Later w} {v : Value}
    (h : Calls P f args p.world fun e w' => e = .returned v ∧ p.world = w') : Calls P f args p.world fun e w'' => e = .returned v ∧ ∃ q : Later w, w'' = q.world :=
  h.mono fun _ w'' ⟨he, hb⟩ => ⟨he, p, hb.symm⟩
theorem box_later {w : World} {b : Nat} {t : TypeId} {v0 v1 v2 : Value} (h : Box w b t v0 v1 v2) : (∀ p : Later w, p.world.cell? ⟨b, 0, none⟩ = some v0) ∧ (∀ p : Later w, p.world.cell? ⟨b, 1, none⟩ = some v1) ∧ (∀ p : Later w, p.world.cell? ⟨b, 2, none⟩ = some v2) :=
  ⟨fun p => (h.below p.below).cells.1, fun p => (h.below p.below).cells.2.1, fun p => (h.below p.below).cells.2.2⟩
end Go.Proofs.YtikglddifoalfaaDoor
namespace Go.Proofs.YtikglddifoalfaaDoor
open Go.RowKit
set_option linter.unusedVariables false
set_option linter.unusedSimpArgs false
theorem l1Least_is (x y : Int) (w : World) : Calls Tryd.prog 48 #[.int .i64 x, .int .i64 y] w fun e w' => e = .returned (.int .i64 (min x y)) ∧ w = w' := by
  by_cases h : x < y
  · have e : min x y = x := by omega
    rw [e]
    clear e
    go_enter Tryd.func48, Tryd.ntmps48
    go_wp2
    go_ret
    exact ⟨rfl, rfl⟩
  · have e : min x y = y := by omega
    rw [e]
    clear e
    go_enter Tryd.func48, Tryd.ntmps48
    go_wp2
    go_ret
    exact ⟨rfl, rfl⟩
theorem l1Most_is (x y : Int) (w : World) : Calls Tryd.prog 40 #[.int .i64 x, .int .i64 y] w fun e w' => e = .returned (.int .i64 (max x y)) ∧ w = w' := by
  by_cases h : y < x
  · have e : max x y = x := by omega
    rw [e]
    clear e
    go_enter Tryd.func40, Tryd.ntmps40
    go_wp2
    go_ret
    exact ⟨rfl, rfl⟩
  · have e : max x y = y := by omega
    rw [e]
    clear e
    go_enter Tryd.func40, Tryd.ntmps40
    go_wp2
    go_ret
    exact ⟨rfl, rfl⟩
end Go.Proofs.YtikglddifoalfaaDoor
namespace Go.Proofs.YtikglddifoalfaaDoor
open Go.RowKit
set_option linter.unusedVariables false
set_option linter.unusedSimpArgs false
/-- a call of function value g is a call of the function -/
def Entered (g : Nat) : Prop := ∀ (args : Array Value) (w : World), (callFunc g args).run Tryd.prog w = .ok (.enter g args) w
/-- at two cells it hands back r of them, whatever was made since -/
def RuleAt (g : Nat) (lb : Array Value) (r : Int → Int → Int) (w : World) : Prop :=
  ∀ (W : World) (x y : Int), cellB x = true → cellB y = true → Below w.heap.size w W → Calls Tryd.prog g (#[.int .i64 x, .int .i64 y] ++ lb) W fun e w' => e = .returned (.int .i64 (r x y)) ∧ Below W.heap.size W w'
theorem RuleAt.later {g : Nat} {lb : Array Value} {r : Int → Int → Int} {w W : World} (h : RuleAt g lb r w) (hb : Below w.heap.size w W) : RuleAt g lb r W :=
  fun W' x y hx hy hb' => h W' x y hx hy (below_then hb hb')
theorem RuleAt.congr {g : Nat} {lb : Array Value} {r s : Int → Int → Int} {w : World} (h : RuleAt g lb r w) (e : ∀ x y, cellB x = true → cellB y = true → r x y = s x y) : RuleAt g lb s w :=
  fun W x y hx hy hb => by rw [← e x y hx hy]; exact h W x y hx hy hb
theorem cell_bd {x : Int} (h : cellB x = true) : -9999 ≤ x ∧ x ≤ 9000 := by rcases cellB_iff.1 h with h | h <;> omega
/-- a rule of two values that looks at nothing in memory -/
theorem rule_of {g : Nat} {r : Int → Int → Int} {w : World} (h : ∀ (W : World) (x y : Int), cellB x = true → cellB y = true → Calls Tryd.prog g #[.int .i64 x, .int .i64 y] W fun e w' => e = .returned (.int .i64 (r x y)) ∧ W = w') : RuleAt g #[] r w :=
  fun W x y hx hy _ => by
    have h1 := h W x y hx hy
    rw [show (#[.int .i64 x, .int .i64 y] ++ #[] : Array Value) = #[.int .i64 x, .int .i64 y] from rfl]
    exact h1.mono fun e w' ⟨h2, h3⟩ => ⟨h2, by subst h3; exact Below.refl _ _⟩
theorem add_rule (w : World) : RuleAt 67 #[] (opF 1) w := rule_of fun W x y hx hy => by
  have h1 := cell_bd hx
  have h2 := cell_bd hy
  have e : opF 1 x y = x + y := rfl
  rw [e]
  clear hx hy e
  obtain ⟨a1, a2⟩ := h1
  obtain ⟨b1, b2⟩ := h2
  go_enter Tryd.func67, Tryd.ntmps67
  go_wp2
  go_ret
  exact ⟨rfl, rfl⟩
theorem sub_rule (w : World) : RuleAt 68 #[] (opF 2) w := rule_of fun W x y hx hy => by
  have h1 := cell_bd hx
  have h2 := cell_bd hy
  have e : opF 2 x y = x - y := rfl
  rw [e]
  clear hx hy e
  obtain ⟨a1, a2⟩ := h1
  obtain ⟨b1, b2⟩ := h2
  go_enter Tryd.func68, Tryd.ntmps68
  go_wp2
  go_ret
  exact ⟨rfl, rfl⟩
theorem least_rule (w : World) : RuleAt 69 #[] (opF 3) w := rule_of fun W x y hx hy => by
  have e : opF 3 x y = min x y := rfl
  rw [e]
  clear hx hy e
  by_cases h : x ≤ y
  · have e : min x y = x := by omega
    rw [e]
    clear e
    go_enter Tryd.func69, Tryd.ntmps69
    go_wp2
    all_goals go_ret
    all_goals first | exact ⟨rfl, rfl⟩ | exact ⟨ret_int (by omega), rfl⟩
  · have e : min x y = y := by omega
    rw [e]
    clear e
    go_enter Tryd.func69, Tryd.ntmps69
    go_wp2
    all_goals go_ret
    all_goals first | exact ⟨rfl, rfl⟩ | exact ⟨ret_int (by omega), rfl⟩
theorem most_rule (w : World) : RuleAt 70 #[] (opF 4) w := rule_of fun W x y hx hy => by
  have e : opF 4 x y = max x y := rfl
  rw [e]
  clear hx hy e
  by_cases h : x ≤ y
  · have e : max x y = y := by omega
    rw [e]
    clear e
    go_enter Tryd.func70, Tryd.ntmps70
    go_wp2
    all_goals go_ret
    all_goals first | exact ⟨rfl, rfl⟩ | exact ⟨ret_int (by omega), rfl⟩
  · have e : max x y = x := by omega
    rw [e]
    clear e
    go_enter Tryd.func70, Tryd.ntmps70
    go_wp2
    all_goals go_ret
    all_goals first | exact ⟨rfl, rfl⟩ | exact ⟨ret_int (by omega), rfl⟩
end Go.Proofs.YtikglddifoalfaaDoor
namespace Go.Proofs.YtikglddifoalfaaDoor
open Go.RowKit
set_option linter.unusedVariables false
set_option linter.unusedSimpArgs false
theorem floor_up {x y : Int} (hy : 0 < y) : -((-x + y - 1) / y) = x / y := by
  have h1 := Int.emod_add_mul_ediv x y
  have h2 := Int.emod_nonneg x (by omega : y ≠ 0)
  have h3 := Int.emod_lt_of_pos x hy
  have h4 : -x + y - 1 = (y - 1 - x % y) + (-(x / y)) * y := by rw [Int.neg_mul, Int.mul_comm (x / y)]; omega
  rw [h4, Int.add_mul_ediv_right _ _ (by omega), Int.ediv_eq_zero_of_lt (by omega) (by omega)]
  omega
set_option maxHeartbeats 1000000 in
theorem l4Op_is (op x y : Int) (w : World) (ho : opB op = true) (hx : cellB x = true) (hy : cellB y = true) :
    Calls Tryd.prog 44 #[.int .i64 op, .int .i64 x, .int .i64 y] w fun e w' => e = .returned (.int .i64 (opF op x y)) ∧ w = w' := by
  obtain ⟨x1, x2⟩ := cell_bd hx
  obtain ⟨y1, y2⟩ := cell_bd hy
  unfold opB at ho
  simp only [Bool.and_eq_true, decide_eq_true_eq] at ho
  obtain ⟨o1, o2⟩ := ho
  clear hx hy
  have HM1 := Lib.hid (fun W => l1Least_is x y W)
  have HM2 := Lib.hid (fun W => l1Most_is x y W)
  rcases (by omega : op = 1 ∨ op = 2 ∨ op = 3 ∨ op = 4) with rfl | rfl | rfl | rfl
  · rw [show opF 1 x y = x + y from rfl]
    go_enter Tryd.func44, Tryd.ntmps44
    go_wp2
    go_ret
    exact ⟨rfl, rfl⟩
  · rw [show opF 2 x y = x - y from rfl]
    go_enter Tryd.func44, Tryd.ntmps44
    go_wp2
    go_ret
    exact ⟨rfl, rfl⟩
  · rw [show opF 3 x y = min x y from rfl]
    go_enter Tryd.func44, Tryd.ntmps44
    go_wp2_with (go_at_call 48; refine (HM1.out _).mono ?_; rintro e w1 ⟨rfl, rfl⟩)
    go_ret
    exact ⟨rfl, rfl⟩
  · rw [show opF 4 x y = max x y from rfl]
    go_enter Tryd.func44, Tryd.ntmps44
    go_wp2_with (go_at_call 40; refine (HM2.out _).mono ?_; rintro e w1 ⟨rfl, rfl⟩)
    go_ret
    exact ⟨rfl, rfl⟩
end Go.Proofs.YtikglddifoalfaaDoor
namespace Go.Proofs.YtikglddifoalfaaDoor
open Go.RowKit
set_option linter.unusedVariables false
set_option linter.unusedSimpArgs false
theorem lastN_take {l : List Nd} {i j : Nat} (hi : i ≤ l.length) (h1 : 1 ≤ j) (h2 : j ≤ i) : lastN (l.take i) j = l[i - j]'(by omega) := by
  unfold lastN
  rw [List.length_take, Nat.min_eq_left hi, List.getD_eq_getElem?_getD, List.getElem?_take, if_pos (by omega), List.getElem?_eq_getElem (by omega), Option.getD_some]
def foldW (f : List Nd) (p : Nd) : Int × Int := match foldV f p with
  | some (n, m) => (n, (m : Int) + 1)
  | none => (0, 0)
theorem l5Number_is (x y : Int) (w : World) : Calls Tryd.prog 43 #[.agg #[.int .i64 x, .int .i64 y]] w fun e w' => e = .returned (.bool (x == 2)) ∧ Below w.heap.size w w' := by
  go_enter Tryd.func43, Tryd.ntmps43
  go_wp2
  go_ret
  exact ⟨rfl, below_allN _ _⟩
/-- what l5Folded knows of a later world -/
structure Fo (w : World) (a : Option Addr) (l : List Nd) (k v : Int) (w' : World) : Prop where
  b : Below w.heap.size w w'
  n : Nds w' w'.heap.size a l
  x : BoxC w' w.heap.size 49 #[.int .i64 k, .int .i64 v]
theorem Fo.step {w w1 w2 : World} {a : Option Addr} {l : List Nd} {k v : Int} (h : Fo w a l k v w1) (b : Below w1.heap.size w1 w2) : Fo w a l k v w2 := ⟨below_thenN h.b b, nds_below h.n b, h.x.below b⟩
theorem Fo.new {w : World} {a : Option Addr} {l : List Nd} {k v : Int} (h : Nds w w.heap.size a l) : Fo w a l k v (w.alloc (.cells #[.int .i64 k, .int .i64 v] 49)) := ⟨below_allN _ _, nds_alloc h _, BoxC.new _ _ _⟩
set_option maxRecDepth 100000 in
set_option maxHeartbeats 8000000 in
/-- a node 'above' -/
theorem folded_above (a : Option Addr) (l : List Nd) (c i j : Nat) (v : Int) (w : World) (hl : Nds w w.heap.size a l) (hn : l.length ≤ 1048576) (hi : i < l.length) (hg : l[i] = (7, v)) (hj : i = j + 1) :
    Calls Tryd.prog 32 #[.slice a l.length c, .int .i64 (i : Int)] w fun e w' => e = .returned (.tuple #[.int .i64 (foldW (l.take i) (7, v)).1, .int .i64 (foldW (l.take i) (7, v)).2]) ∧ Below w.heap.size w w' := by
  have hjl : j < l.length := by omega
  have E0 := Lib.hid (Fo.new (k := 7) (v := v) hl)
  obtain ⟨b, o, rfl, hb, q0, q1⟩ := hl.at_ hi
  obtain ⟨b', o', e', _, p0, p1⟩ := hl.at_ hjl
  injection e' with e'
  injection e' with eb eo
  subst eb eo
  rw [hg] at q0 q1
  simp only at q0 q1
  have i1 : (i : Int) < (l.length : Int) := by omega
  have i0 : (0 : Int) ≤ (i : Int) := by omega
  have ej : (i : Int) - 1 = (j : Int) := by omega
  have j1 : (j : Int) < (l.length : Int) := by omega
  have j0 : (0 : Int) ≤ (j : Int) := by omega
  have P0 := (E0.out.b.cell (p := ⟨b, o + j * 2, none⟩) hb).trans p0
  have P1 := (E0.out.b.cell (p := ⟨b, o + j * 2 + 1, none⟩) hb).trans p1
  have x0 := E0.out.x.cell 0
  have x1 := E0.out.x.cell 1
  simp at x0 x1
  have hla := lastN_take (l := l) (i := i) (j := 1) (by omega) (by omega) (by omega)
  have hlj : l[i - 1]'(by omega) = l[j] := by congr 1; omega
  rw [hlj] at hla
  have hbl : b < (w.alloc (.cells #[.int .i64 7, .int .i64 v] 49)).heap.size := by simp; omega
  have hW : foldW (l.take i) (7, v) = if l[j].1 = 2 then (if v < l[j].2 then (1, 2) else (0, 2)) else (0, 0) := by
    unfold foldW foldV
    rw [if_pos rfl, hla]
    have hle : 1 ≤ (l.take i).length := by rw [List.length_take]; omega
    by_cases h2 : l[j].1 = 2
    · rw [if_pos ⟨hle, h2⟩, if_pos h2]
      split
      · rename_i heq
        injection heq with heq
        injection heq with e1 e2
        subst e1 e2
        split <;> rfl
      · rename_i heq; cases heq
    · rw [if_neg (fun h => h2 h.2), if_neg h2]
  have HWW := Lib.hid hW
  have HC := Lib.hid (fun W => specArity_any 7 v W)
  have har : ¬ arI 7 v = 2 := by
    rw [arity_7 _ rfl]; split <;> omega
  generalize l[j].1 = y at *
  generalize l[j].2 = z at *
  clear hla hlj hg hl hW p0 p1 hj
  by_cases hy : y = 2
  · subst hy
    rw [if_pos rfl] at HWW
    have HN := Lib.hid (fun W => l5Number_is 2 z W)
    by_cases hz : v < z
    · rw [if_pos hz] at HWW
      go_enter Tryd.func32, Tryd.ntmps32
      go_wp2_with fail
      refine (HN.out _).mono ?_
      rintro e w1 ⟨rfl, b1⟩
      have Q1 := (b1.cell (p := ⟨b, o + j * 2 + 1, none⟩) hbl).trans P1
      have E1 := Lib.hid (E0.out.step b1)
      have y1 := E1.out.x.cell 1
      simp at y1
      clear b1 E0 x0 x1 P0 P1
      go_wp2_with fail
      first | go_region | go_quiet (fail) | skip
      all_goals
        go_wp2
        go_ret2
        exact ⟨by rw [HWW.out]; rfl, (E1.out.b.drew)⟩
    · rw [if_neg hz] at HWW
      go_enter Tryd.func32, Tryd.ntmps32
      go_wp2_with fail
      refine (HN.out _).mono ?_
      rintro e w1 ⟨rfl, b1⟩
      have Q1 := (b1.cell (p := ⟨b, o + j * 2 + 1, none⟩) hbl).trans P1
      have E1 := Lib.hid (E0.out.step b1)
      have y1 := E1.out.x.cell 1
      simp at y1
      clear b1 E0 x0 x1 P0 P1
      go_wp2_with fail
      first | go_region | go_quiet (fail) | skip
      all_goals
        go_wp2
        go_ret2
        exact ⟨by rw [HWW.out]; rfl, (E1.out.b.drew)⟩
  · rw [if_neg hy] at HWW
    have hyb : (y == 2) = false := by simp [hy]
    have harb : (arI 7 v == 2) = false := by simp [har]
    have HN := Lib.hid (fun W => l5Number_is y z W)
    clear har
    go_enter Tryd.func32, Tryd.ntmps32
    go_wp2_with fail
    refine (HN.out _).mono ?_
    rintro e w1 ⟨rfl, b1⟩
    have E1 := Lib.hid (E0.out.step b1)
    have y0 := E1.out.x.cell 0
    have y1 := E1.out.x.cell 1
    simp at y0 y1
    clear b1 E0 x0 x1 P0 P1
    go_wp2_with fail
    refine (HC.out _).mono ?_
    rintro e w2 ⟨rfl, b2⟩
    have B2 := Lib.hid (below_thenN E1.out.b b2)
    clear b2 E1 y0 y1
    go_wp2
    go_ret2
    exact ⟨by rw [HWW.out]; rfl, B2.out⟩
set_option maxRecDepth 100000 in
set_option maxHeartbeats 8000000 in
/-- a node without arguments -/
theorem folded_leaf (a : Option Addr) (l : List Nd) (c i : Nat) (k v : Int) (w : World) (hl : Nds w w.heap.size a l) (hn : l.length ≤ 1048576) (hi : i < l.length) (hg : l[i] = (k, v)) (h7 : ¬ k = 7) (ha : ¬ arity k v = some 2) :
    Calls Tryd.prog 32 #[.slice a l.length c, .int .i64 (i : Int)] w fun e w' => e = .returned (.tuple #[.int .i64 (foldW (l.take i) (k, v)).1, .int .i64 (foldW (l.take i) (k, v)).2]) ∧ Below w.heap.size w w' := by
  have E0 := Lib.hid (Fo.new (k := k) (v := v) hl)
  obtain ⟨b, o, rfl, hb, q0, q1⟩ := hl.at_ hi
  rw [hg] at q0 q1
  simp only at q0 q1
  have i1 : (i : Int) < (l.length : Int) := by omega
  have i0 : (0 : Int) ≤ (i : Int) := by omega
  have x0 := E0.out.x.cell 0
  have x1 := E0.out.x.cell 1
  simp at x0 x1
  have HWW : Hid (foldW (l.take i) (k, v) = (0, 0)) := Lib.hid (by
    unfold foldW foldV
    rw [if_neg h7, if_neg (fun h => ha h.1)])
  have HC := Lib.hid (fun W => specArity_any k v W)
  have har : ¬ arI k v = 2 := by
    intro e
    apply ha
    unfold arI at e
    split at e
    · rename_i x hx; rw [hx]; congr 1; omega
    · omega
  have harb : (arI k v == 2) = false := by simp [har]
  have hkb : (k == 7) = false := by simp [h7]
  clear hl hg har ha
  go_enter Tryd.func32, Tryd.ntmps32
  go_wp2_with fail
  refine (HC.out _).mono ?_
  rintro e w2 ⟨rfl, b2⟩
  have B2 := Lib.hid (below_thenN E0.out.b b2)
  clear b2 E0 x0 x1
  go_wp2
  go_ret2
  exact ⟨by rw [HWW.out]; rfl, B2.out⟩
set_option maxRecDepth 100000 in
set_option maxHeartbeats 8000000 in
/-- a node with two arguments -/
theorem folded_two (a : Option Addr) (l : List Nd) (c i j : Nat) (k v : Int) (w : World) (hl : Nds w w.heap.size a l) (hn : l.length ≤ 1048576) (hi : i < l.length) (hg : l[i] = (k, v)) (ha : arity k v = some 2) (hj : i = j + 2)
    (hv : ∀ q ∈ l, q.1 = 2 → 0 ≤ q.2 ∧ q.2 ≤ 9000) :
    Calls Tryd.prog 32 #[.slice a l.length c, .int .i64 (i : Int)] w fun e w' => e = .returned (.tuple #[.int .i64 (foldW (l.take i) (k, v)).1, .int .i64 (foldW (l.take i) (k, v)).2]) ∧ Below w.heap.size w w' := by
  obtain ⟨k3, k6, rfl⟩ := arity2 ha
  have hj1 : j + 1 < l.length := by omega
  have hj0 : j < l.length := by omega
  have E0 := Lib.hid (Fo.new (k := k) (v := 0) hl)
  obtain ⟨b, o, rfl, hb, q0, q1⟩ := hl.at_ hi
  obtain ⟨b', o', e', _, p0, p1⟩ := hl.at_ hj1
  injection e' with e'
  injection e' with eb eo
  subst eb eo
  obtain ⟨b', o', e', _, r0, r1⟩ := hl.at_ hj0
  injection e' with e'
  injection e' with eb eo
  subst eb eo
  rw [hg] at q0 q1
  simp only at q0 q1
  have i1 : (i : Int) < (l.length : Int) := by omega
  have i0 : (0 : Int) ≤ (i : Int) := by omega
  obtain ⟨s, hs⟩ : ∃ s, j + 1 = s := ⟨_, rfl⟩
  have ej : (i : Int) - 1 = (s : Int) := by omega
  have ej2 : (i : Int) - 2 = (j : Int) := by omega
  have s1 : (s : Int) < (l.length : Int) := by omega
  have s0 : (0 : Int) ≤ (s : Int) := by omega
  have j1 : (j : Int) < (l.length : Int) := by omega
  have j0 : (0 : Int) ≤ (j : Int) := by omega
  have hsl : s < l.length := by omega
  have hla := lastN_take (l := l) (i := i) (j := 1) (by omega) (by omega) (by omega)
  have hlb := lastN_take (l := l) (i := i) (j := 2) (by omega) (by omega) (by omega)
  have e1 : l[i - 1]'(by omega) = l[j + 1] := by congr 1; omega
  have e2 : l[i - 2]'(by omega) = l[j] := by congr 1; omega
  rw [e1] at hla
  rw [e2] at hlb
  have hva := hv _ (List.getElem_mem hj1)
  have hvb := hv _ (List.getElem_mem hj0)
  have hle : 2 ≤ (l.take i).length := by rw [List.length_take]; omega
  have hW : foldV (l.take i) (k, 0) = if l[j + 1].1 = 2 ∧ l[j].1 = 2 ∧ 0 ≤ opF (k - 3 + 1) l[j].2 l[j + 1].2 ∧ opF (k - 3 + 1) l[j].2 l[j + 1].2 ≤ 9000 then some (opF (k - 3 + 1) l[j].2 l[j + 1].2, 2) else none := by
    unfold foldV
    rw [if_neg (by show ¬ k = 7; omega), hla, hlb, show (k, (0 : Int)).1 - 2 = k - 3 + 1 by show k - 2 = _; omega]
    by_cases hc : l[j + 1].1 = 2 ∧ l[j].1 = 2 ∧ 0 ≤ opF (k - 3 + 1) l[j].2 l[j + 1].2 ∧ opF (k - 3 + 1) l[j].2 l[j + 1].2 ≤ 9000
    · rw [if_pos ⟨ha, hle, hc⟩, if_pos hc]
    · rw [if_neg (fun h => hc h.2.2), if_neg hc]
  have HWW := Lib.hid hW
  rw [show (j + 1) * 2 = s * 2 by rw [hs]] at p0 p1
  generalize l[j + 1].1 = y at *
  generalize l[j + 1].2 = z at *
  generalize l[j].1 = y' at *
  generalize l[j].2 = z' at *
  have P0 := (E0.out.b.cell (p := ⟨b, o + s * 2, none⟩) hb).trans p0
  have P1 := (E0.out.b.cell (p := ⟨b, o + s * 2 + 1, none⟩) hb).trans p1
  have R0 := (E0.out.b.cell (p := ⟨b, o + j * 2, none⟩) hb).trans r0
  have R1 := (E0.out.b.cell (p := ⟨b, o + j * 2 + 1, none⟩) hb).trans r1
  have hb9 := Nat.lt_of_lt_of_le hb E0.out.b.size
  have x0 := E0.out.x.cell 0
  have x1 := E0.out.x.cell 1
  simp at x0 x1
  have HC := Lib.hid (fun W => specArity_any k 0 W)
  rw [arI_some ha] at HC
  have hkb : (k == 7) = false := by simp; omega
  have HN := Lib.hid (fun W => l5Number_is y z W)
  have HN' := Lib.hid (fun W => l5Number_is y' z' W)
  have hop : opB (k - 3 + 1) = true := by unfold opB; simp; omega
  have k39 : 3 ≤ k ∧ k ≤ 9 := by omega
  clear hla hlb e1 e2 hg hl hW p0 p1 r0 r1 ha hs hle hj hv
  go_enter Tryd.func32, Tryd.ntmps32
  go_wp2_with fail
  refine (HC.out _).mono ?_
  rintro e w1 ⟨rfl, b1⟩
  have E1 := Lib.hid (E0.out.step b1)
  have P01 := (b1.cell (p := ⟨b, o + s * 2, none⟩) hb9).trans P0
  have P11 := (b1.cell (p := ⟨b, o + s * 2 + 1, none⟩) hb9).trans P1
  have R01 := (b1.cell (p := ⟨b, o + j * 2, none⟩) hb9).trans R0
  have R11 := (b1.cell (p := ⟨b, o + j * 2 + 1, none⟩) hb9).trans R1
  have hb1 := Nat.lt_of_lt_of_le hb9 b1.size
  clear b1 E0 x0 x1 P0 P1 R0 R1
  go_wp2_with fail
  refine (HN.out _).mono ?_
  rintro e w2 ⟨rfl, b2⟩
  have E2 := Lib.hid (E1.out.step b2)
  have P02 := (b2.cell (p := ⟨b, o + s * 2, none⟩) hb1).trans P01
  have P12 := (b2.cell (p := ⟨b, o + s * 2 + 1, none⟩) hb1).trans P11
  have R02 := (b2.cell (p := ⟨b, o + j * 2, none⟩) hb1).trans R01
  have R12 := (b2.cell (p := ⟨b, o + j * 2 + 1, none⟩) hb1).trans R11
  have hb2 := Nat.lt_of_lt_of_le hb1 b2.size
  clear b2 E1 P01 P11 R01 R11
  by_cases hy : y = 2
  · subst hy
    go_wp2_with fail
    refine (HN'.out _).mono ?_
    rintro e w3 ⟨rfl, b3⟩
    have E3 := Lib.hid (E2.out.step b3)
    have P03 := (b3.cell (p := ⟨b, o + s * 2, none⟩) hb2).trans P02
    have P13 := (b3.cell (p := ⟨b, o + s * 2 + 1, none⟩) hb2).trans P12
    have R03 := (b3.cell (p := ⟨b, o + j * 2, none⟩) hb2).trans R02
    have R13 := (b3.cell (p := ⟨b, o + j * 2 + 1, none⟩) hb2).trans R12
    have hb3 := Nat.lt_of_lt_of_le hb2 b3.size
    have x0 := E3.out.x.cell 0
    have x1 := E3.out.x.cell 1
    simp at x0 x1
    clear b3 E2 P02 P12 R02 R12
    by_cases hy' : y' = 2
    · subst hy'
      obtain ⟨z0, z9⟩ := hva (by simp)
      obtain ⟨z0', z9'⟩ := hvb (by simp)
      have HO := Lib.hid (fun W => l4Op_is (k - 3 + 1) z' z W hop (cellB_iff.2 (.inr ⟨by omega, z9'⟩)) (cellB_iff.2 (.inr ⟨by omega, z9⟩)))
      have hnb : -20000 ≤ opF (k - 3 + 1) z' z ∧ opF (k - 3 + 1) z' z ≤ 20000 := by unfold opF; repeat' split; all_goals omega
      generalize opF (k - 3 + 1) z' z = n at *
      have bd : Below w3.heap.size w3 w3.drew := ⟨rfl, rfl, rfl, Nat.le_refl _, fun _ _ => rfl⟩
      have E3D := Lib.hid (E3.out.step bd)
      have w1 : IntKind.i64.wrap (j : Int) = (j : Int) := IntWalk.i64_in _ (by omega)
      have w2 : IntKind.i64.wrap (s : Int) = (s : Int) := IntWalk.i64_in _ (by omega)
      have w3 : IntKind.i64.wrap (k - 3) = k - 3 := IntWalk.i64_in _ (by omega)
      have w4 : IntKind.i64.wrap (k - 3 + 1) = k - 3 + 1 := IntWalk.i64_in _ (by omega)
      clear bd hop
      go_wp2_with fail
      go_region_held3 (fun w' => w'.cell? ⟨b, o + s * 2 + 1, none⟩ = some (.int .i64 z) ∧ w'.cell? ⟨b, o + j * 2 + 1, none⟩ = some (.int .i64 z') ∧ w'.cell? ⟨w.heap.size, 0, none⟩ = some (.int .i64 k))
        (first | exact ⟨P13, R13, x0⟩ | go_keep)
        (first | (go_at_call 44; refine (HO.out _).mono ?_; rintro e w4 ⟨rfl, rfl⟩))
      all_goals
        rename_i hHeld
        clear hHeld
        obtain ⟨vb, hvb⟩ : ∃ vb, (decide (0 ≤ n) && decide (n ≤ 9000)) = vb := ⟨_, rfl⟩
        have HIN := Lib.hid (fun W => l1In_is n 0 9000 vb W hvb)
        cases vb with
        | true =>
          simp only [Bool.and_eq_true, decide_eq_true_eq] at hvb
          have HWF : Hid (foldW (List.take i l) (k, 0) = (n, 3)) := Lib.hid (by unfold foldW; rw [HWW.out, if_pos (by simpa using hvb)]; rfl)
          clear hvb
          go_wp2_with (first | (go_at_call 27; (with_reducible refine (HIN.out _).mono ?_); rintro e w8 ⟨rfl, rfl⟩) | fail)
          go_ret2
          exact ⟨by rw [HWF.out]; rfl, E3D.out.b⟩
        | false =>
          have HWF : Hid (foldW (List.take i l) (k, 0) = (0, 0)) := Lib.hid (by
            unfold foldW
            rw [HWW.out, if_neg]
            rintro ⟨_, _, h1, h2⟩
            rw [decide_eq_true h1, decide_eq_true h2] at hvb
            cases hvb)
          clear hvb
          go_wp2_with (first | (go_at_call 27; (with_reducible refine (HIN.out _).mono ?_); rintro e w8 ⟨rfl, rfl⟩) | fail)
          go_ret2
          exact ⟨by rw [HWF.out]; rfl, E3D.out.b⟩
    · have hyb : (y' == 2) = false := by simp [hy']
      have HWF : Hid (foldW (List.take i l) (k, 0) = (0, 0)) := Lib.hid (by unfold foldW; rw [HWW.out, if_neg (fun h => hy' h.2.1)])
      go_wp2
      go_ret2
      exact ⟨by rw [HWF.out]; rfl, E3.out.b⟩
  · have hyb : (y == 2) = false := by simp [hy]
    have HWF : Hid (foldW (List.take i l) (k, 0) = (0, 0)) := Lib.hid (by unfold foldW; rw [HWW.out, if_neg (fun h => hy h.1)])
    go_wp2
    go_ret2
    exact ⟨by rw [HWF.out]; rfl, E2.out.b⟩
end Go.Proofs.YtikglddifoalfaaDoor
namespace Go.Proofs.YtikglddifoalfaaDoor
open Go.RowKit
set_option linter.unusedVariables false
set_option linter.unusedSimpArgs false
/-- the slice at a is the row of block g, from its beginning, and holds l -/
def AtN (w : World) (a : Option Addr) (g : Nat) (l : List Nd) : Prop := l = [] ∨ (a = some ⟨g, 0, none⟩ ∧ Row w g 49 (nv l))
/-- .. and the block is not below B -/
def OwnN (w : World) (B : Nat) (a : Option Addr) (l : List Nd) : Prop := ∃ g, B ≤ g ∧ AtN w a g l
section
variable {w w' : World} {a : Option Addr} {g B : Nat} {l : List Nd}
theorem AtN.keep (h : AtN w a g l) (e : g < w.heap.size → w'.heap[g]? = w.heap[g]?) : AtN w' a g l := by
  rcases h with rfl | ⟨h1, h2⟩
  · exact .inl rfl
  · exact .inr ⟨h1, h2.of_block (e h2.lt)⟩
theorem AtN.below (h : AtN w a g l) (hb : Below w.heap.size w w') : AtN w' a g l := h.keep fun hg => hb.block g hg
theorem AtN.drew (h : AtN w a g l) (d : Drew w w') : AtN w' a g l := h.below (d.below _)
theorem AtN.only {g' : Nat} (h : AtN w a g l) (o : Only g' w w') (hne : g ≠ g') : AtN w' a g l := h.keep fun hg => o.1.block g hg (by intro e; injection e with e; exact hne e)
theorem AtN.nds (h : AtN w a g l) : Nds w w.heap.size a l := by
  rcases h with rfl | ⟨rfl, h2⟩
  · exact .inl rfl
  · exact Nds.of_row h2
theorem OwnN.below (h : OwnN w B a l) (hb : Below w.heap.size w w') : OwnN w' B a l := by obtain ⟨g, h1, h2⟩ := h; exact ⟨g, h1, h2.below hb⟩
theorem OwnN.more {C : Nat} (h : OwnN w B a l) (hc : C ≤ B) : OwnN w C a l := by obtain ⟨g, h1, h2⟩ := h; exact ⟨g, by omega, h2⟩
theorem OwnN.only {g' : Nat} (h : OwnN w B a l) (o : Only g' w w') (hne : g' < B) : OwnN w' B a l := by obtain ⟨g, h1, h2⟩ := h; exact ⟨g, h1, h2.only o (by omega)⟩
theorem OwnN.nds (h : OwnN w B a l) : Nds w w.heap.size a l := by obtain ⟨g, h1, h2⟩ := h; exact h2.nds
theorem OwnN.none_ : OwnN w B a [] := ⟨B, Nat.le_refl _, .inl rfl⟩
end
/-- n nodes of numbers from k on, two a node -/
def marksN (k : Int) (n : Nat) : List Nd := (List.range n).map fun (i : Nat) => (k + 2 * (i : Int), k + 2 * (i : Int) + 1)
theorem marksN_length (k : Int) (n : Nat) : (marksN k n).length = n := by simp [marksN]
theorem marksN_get (k : Int) (n i : Nat) (h : i < (marksN k n).length) : (marksN k n)[i] = (k + 2 * (i : Int), k + 2 * (i : Int) + 1) := by simp [marksN]
def partN (k : Int) (l : List Nd) (i : Nat) : List Nd := marksN k i ++ l.drop i
theorem partN_zero (k : Int) (l : List Nd) : partN k l 0 = l := by simp [partN, marksN]
theorem partN_length (k : Int) (l : List Nd) (i : Nat) (h : i ≤ l.length) : (partN k l i).length = l.length := by simp [partN, marksN_length]; omega
theorem partN_all (k : Int) (l : List Nd) : partN k l l.length = marksN k l.length := by simp [partN]
theorem partN_step (k : Int) (l : List Nd) (i : Nat) (h : i < l.length) : (partN k l i).set i (k + 2 * (i : Int), k + 2 * (i : Int) + 1) = partN k l (i + 1) := by
  unfold partN
  rw [List.set_append_right _ _ (by rw [marksN_length]; omega), marksN_length, Nat.sub_self, List.drop_eq_getElem_cons h, List.set_cons_zero]
  unfold marksN
  rw [List.range_succ, List.map_append, List.append_assoc]
  rfl
set_option maxHeartbeats 1000000 in
theorem markNodes_any (a : Option Addr) (l : List Nd) (c g : Nat) (k0 : Int) (w : World) (hl : AtN w a g l) (hn : l.length ≤ 1048576) (h0 : 0 ≤ k0) (h1 : k0 ≤ 4194304) :
    Calls Tryd.prog 19 #[.slice a l.length c, .int .i64 k0] w fun e w' => e = .returned (.int .i64 (k0 + 2 * (l.length : Int))) ∧ AtN w' a g (marksN k0 l.length) ∧ Only g w w' := by
  have HL := Lib.hid hl
  clear hl
  go_enter Tryd.func19, Tryd.ntmps19
  go_wp2
  go_loopw [1, 5] (fun q i wr => ∃ k : Nat, k ≤ l.length ∧ i = .int .i64 k ∧ q = .int .i64 (k0 + 2 * (k : Int)) ∧ AtN wr a g (partN k0 l k) ∧ Only g w wr) (fun _ i _ => l.length - (intOf i).toNat)
  case atStart => exact ⟨0, Nat.zero_le _, rfl, by simp, by rw [partN_zero]; exact HL.out, Only.refl g w⟩
  case round =>
    obtain ⟨k, hk, rfl, rfl, hat, ho⟩ := hrel
    have hpl := partN_length k0 l k hk
    by_cases hlt : k < l.length
    · rcases hat with hat | ⟨rfl, hrow⟩
      · rw [hat] at hpl; simp at hpl; omega
      · have hnl := nv_length (partN k0 l k)
        obtain ⟨z0, hc0⟩ : ∃ z, wr.cell? ⟨g, k * 2, none⟩ = some z := ⟨_, hrow.cell (k := k * 2) (by omega)⟩
        obtain ⟨z1, hc1⟩ : ∃ z, wr.cell? ⟨g, k * 2 + 1, none⟩ = some z := ⟨_, hrow.cell (k := k * 2 + 1) (by omega)⟩
        have hf0 := hrow.frozen (k * 2)
        have hf1 := hrow.frozen (k * 2 + 1)
        have HR := Lib.hid ((hrow.set (k * 2) (.int .i64 (k0 + 2 * (k : Int)))).set (k * 2 + 1) (.int .i64 (k0 + 2 * (k : Int) + 1)))
        have HNS := Lib.hid (nv_set (partN k0 l k) k (k0 + 2 * (k : Int)) (k0 + 2 * (k : Int) + 1) (by omega))
        have HO := Lib.hid ho
        have HS := Lib.hid (partN_step k0 l k hlt)
        have hi : (k : Int) < (l.length : Int) := by omega
        have hi0 : (0 : Int) ≤ (k : Int) := by omega
        obtain ⟨m, hm⟩ : ∃ m, k0 + 2 * (k : Int) = m := ⟨_, rfl⟩
        have hmb : 0 ≤ m ∧ m ≤ 8388608 := by omega
        rw [hm] at HR HNS HS
        have s1 : wrap64 (m + 1) = m + 1 := IntWalk.wrap64_in _ (by omega)
        have HM := Lib.hid hm
        clear hpl hrow ho HL hnl
        rw [hm]
        obtain ⟨m1, hm1⟩ : ∃ q, m + 1 = q := ⟨_, rfl⟩
        rw [hm1] at s1 HR HNS HS
        have s2 : wrap64 (m1 + 1) = m1 + 1 := IntWalk.wrap64_in _ (by omega)
        have HM1 := Lib.hid hm1
        clear hm hm1
        go_wp2
        go_roundw
        case rel => exact ⟨k + 1, by omega, by go_num, by have := HM.out; have := HM1.out; rw [Value.int.injEq]; exact ⟨rfl, by omega⟩, .inr ⟨rfl, by have := HR.out; rw [HNS.out, HS.out, ← HM1.out] at this; exact this⟩, (HO.out.setCell (k * 2) _).setCell (k * 2 + 1) _⟩
        case measure => simp [intOf]; omega
    · obtain rfl : k = l.length := by omega
      have HP := Lib.hid (partN_all k0 l)
      clear hpl HL
      go_wp2
      go_ret
      exact ⟨rfl, by rw [← HP.out]; exact hat, ho⟩
set_option maxHeartbeats 1000000 in
theorem heldNodes_any (a : Option Addr) (n c : Nat) (k0 : Int) (w : World) (hl : Nds w w.heap.size a (marksN k0 n)) (hn : n ≤ 1048576) (h0 : 0 ≤ k0) (h1 : k0 ≤ 4194304) :
    Calls Tryd.prog 20 #[.slice a n c, .int .i64 k0] w fun e w' => e = .returned (.int .i64 (k0 + 2 * (n : Int))) ∧ w = w' := by
  have HL := Lib.hid hl
  clear hl
  go_enter Tryd.func20, Tryd.ntmps20
  go_wp2
  go_loop [1, 5] (fun q i => ∃ k : Nat, k ≤ n ∧ i = .int .i64 k ∧ q = .int .i64 (k0 + 2 * (k : Int))) (fun _ i => n - (intOf i).toNat)
  case atStart => exact ⟨0, Nat.zero_le _, rfl, by simp⟩
  case round =>
    obtain ⟨k, hk, rfl, rfl⟩ := hrel
    by_cases hlt : k < n
    · obtain ⟨b, o, rfl, hb, c0, c1⟩ := HL.out.at_ (j := k) (by rw [marksN_length]; exact hlt)
      rw [marksN_get] at c0 c1
      simp only at c0 c1
      obtain ⟨m, hm⟩ : ∃ m, k0 + 2 * (k : Int) = m := ⟨_, rfl⟩
      have hmb : 0 ≤ m ∧ m ≤ 8388608 := by omega
      have s1 : wrap64 (m + 1) = m + 1 := IntWalk.wrap64_in _ (by omega)
      have s2 : wrap64 (m + 1 + 1) = m + 1 + 1 := IntWalk.wrap64_in _ (by omega)
      have hi : (k : Int) < (n : Int) := by omega
      have hi0 : (0 : Int) ≤ (k : Int) := by omega
      rw [hm] at c0 c1
      rw [hm]
      have HM := Lib.hid hm
      clear hm
      go_wp2
      go_round
      case rel => exact ⟨k + 1, by omega, by go_num, by have := HM.out; rw [Value.int.injEq]; exact ⟨rfl, by omega⟩⟩
      case measure => simp [intOf]; omega
    · obtain rfl : k = n := by omega
      go_wp2
      go_ret
      exact ⟨rfl, rfl⟩
end Go.Proofs.YtikglddifoalfaaDoor
namespace Go.Proofs.YtikglddifoalfaaDoor
open Go.RowKit
set_option linter.unusedVariables false
set_option linter.unusedSimpArgs false
def oneR (p : Nd) (f : Int) (b : List Nd) : List Nd := if p.1 = 1 ∧ p.2 = f then b else [p]
def replR (l : List Nd) (f : Int) (b : List Nd) : List Nd := l.flatMap fun p => oneR p f b
theorem oneR_yes {p : Nd} {f : Int} {b : List Nd} (h1 : p.1 = 1) (h2 : p.2 = f) : oneR p f b = b := if_pos ⟨h1, h2⟩
theorem oneR_no {p : Nd} {f : Int} {b : List Nd} (h : ¬ (p.1 = 1 ∧ p.2 = f)) : oneR p f b = [p] := if_neg h
theorem replR_step {l : List Nd} {f : Int} {b : List Nd} {k : Nat} (h : k < l.length) : replR (l.take (k + 1)) f b = replR (l.take k) f b ++ oneR l[k] f b := by
  unfold replR
  rw [takeN_snoc l k h, List.flatMap_append]
  simp
theorem replR_zero (l : List Nd) (f : Int) (b : List Nd) : replR (l.take 0) f b = [] := by simp [replR]
theorem replR_le {f : Int} {b : List Nd} (hb : b.length ≤ 15) (l : List Nd) : (replR l f b).length ≤ 15 * l.length := by
  induction l with
  | nil => simp [replR]
  | cons p r ih =>
    unfold replR at *
    rw [List.flatMap_cons, List.length_append, List.length_cons]
    have : (oneR p f b).length ≤ 15 := by
      unfold oneR
      split
      · exact hb
      · simp
    omega
theorem opens_shift (l : List Nd) : ∀ n m d, opens l n = some m → opens l (n + d) = some (m + d) := by
  induction l with
  | nil => intro n m d h; injection h with h; subst h; rfl
  | cons p r ih =>
    intro n m d h
    unfold opens at h ⊢
    cases ha : arity p.1 p.2 with
    | none => rw [ha] at h; cases h
    | some a =>
      rw [ha] at h
      simp only at h ⊢
      by_cases hn : a ≤ n
      · rw [if_pos hn] at h
        rw [if_pos (by omega), show n + d - a + 1 = (n - a + 1) + d by omega]
        exact ih _ _ d h
      · rw [if_neg hn] at h; cases h
theorem opens_repl {f : Int} {b : List Nd} (h0 : 0 ≤ f) (h3 : f ≤ 3) (hb : opens b 0 = some 1) (l : List Nd) : ∀ n, opens (replR l f b) n = opens l n := by
  induction l with
  | nil => intro n; rfl
  | cons p r ih =>
    intro n
    show opens (oneR p f b ++ replR r f b) n = _
    rw [opens_append]
    by_cases h : p.1 = 1 ∧ p.2 = f
    · rw [oneR_yes h.1 h.2]
      have e := opens_shift b 0 1 n hb
      rw [Nat.zero_add] at e
      rw [e]
      show opens (replR r f b) (1 + n) = _
      rw [ih]
      have ha : arity p.1 p.2 = some 0 := by rw [h.1, h.2]; unfold arity; rw [if_pos rfl, if_pos ⟨h0, h3⟩]
      conv => rhs; unfold opens
      rw [ha]
      simp only [Nat.zero_le, if_true, Nat.sub_zero]
      rw [Nat.add_comm]
    · rw [oneR_no h]
      rw [show opens (p :: r) n = (opens [p] n).bind (opens r) from opens_append [p] r n]
      congr 1
      funext m
      exact ih m
/-- what ReplaceField answers -/
def inF (f : Int) : Bool := decide (0 ≤ f) && decide (f ≤ 3)
def replB (l : List Nd) (f : Int) (b : List Nd) : Bool := exprB l && exprB b && inF f && decide ((replR l f b).length ≤ 15)
def replL (l : List Nd) (f : Int) (b : List Nd) : List Nd := if replB l f b = true then replR l f b else []
theorem repl_no {l : List Nd} {f : Int} {b : List Nd} (h : replB l f b = false) : replL l f b = [] := if_neg (by rw [h]; simp)
theorem repl_expr {l : List Nd} {f : Int} {b : List Nd} (h1 : exprB l = true) (h2 : exprB b = true) (h3 : inF f = true) : exprB (replR l f b) = decide ((replR l f b).length ≤ 15) ∧ replB l f b = decide ((replR l f b).length ≤ 15) ∧ l.length ≤ 15 ∧ b.length ≤ 15 := by
  have k : replB l f b = decide ((replR l f b).length ≤ 15) := by unfold replB; rw [h1, h2, h3]; rfl
  refine ⟨?_, k, ?_, ?_⟩
  · unfold inF at h3
    unfold exprB at h1 h2 ⊢
    simp only [Bool.and_eq_true, decide_eq_true_eq] at h1 h2 h3
    rw [opens_repl h3.1 h3.2 h2.2, h1.2]
    simp
  · unfold exprB at h1; simp only [Bool.and_eq_true, decide_eq_true_eq] at h1; exact h1.1
  · unfold exprB at h2; simp only [Bool.and_eq_true, decide_eq_true_eq] at h2; exact h2.1
theorem repl_both {l : List Nd} {f : Int} {b : List Nd} (h : replB l f b = decide ((replR l f b).length ≤ 15)) : ((replR l f b).length ≤ 15 → replB l f b = true ∧ replL l f b = replR l f b) ∧ (¬ (replR l f b).length ≤ 15 → replB l f b = false ∧ replL l f b = []) := by
  constructor
  · intro k
    have e : replB l f b = true := by rw [h, decide_eq_true k]
    exact ⟨e, if_pos e⟩
  · intro k
    have e : replB l f b = false := by rw [h, decide_eq_false k]
    exact ⟨e, repl_no e⟩
/-! rows of nodes of the call's own -/
theorem ownN_of {w : World} {B n : Nat} {v : Value} {l : List Nd} (h : w.ownsRow B 49 2 v n (nv l)) (hn : n = l.length) : ∃ a c, v = .slice a l.length c ∧ OwnN w B a l := by
  subst hn
  obtain ⟨h1, ⟨h2, h3⟩ | ⟨g, cap, cur, h2, hb, hh, hc, _, hcs, hx⟩⟩ := h
  · refine ⟨none, 0, by rw [h2, h3], ?_⟩
    have : l = [] := List.eq_nil_of_length_eq_zero h3
    subst this
    exact OwnN.none_
  · subst h2
    refine ⟨_, _, rfl, g, hb, .inr ⟨rfl, cur, hh, fun k hk => ?_⟩⟩
    have hk' := hk
    rw [nv_length] at hk'
    have e : (nv l)[k]? = cur[k]? := by
      rw [← hx, List.getElem?_take, if_pos hk']
      simp
    rw [← e]
    exact List.getElem?_eq_getElem hk
theorem own2_keeps {w w' : World} {base e size n : Nat} {v : Value} {xs : List Value} (h : w.ownsRow base e size v n xs) (hb : Below w.heap.size w w') : w'.ownsRow base e size v n xs :=
  h.kept (row := none) ⟨hb.os, hb.tape, hb.output, hb.size, fun i hi _ => hb.block i hi⟩ (by cases h1 : v.ownBlock with | none => exact .inl rfl | some k => exact .inr (by simp))
/-- the cells of nodes that stand somewhere -/
theorem nds_news {w : World} {B blk o : Nat} {l : List Nd} (h : Nds w B (some ⟨blk, o, none⟩) l) : ∀ (j : Nat) (u : Value), (nv l)[j]? = some u → w.cell? ((⟨blk, o, none⟩ : Addr).add j) = some u := by
  intro j u hu
  have hadd : (⟨blk, o, none⟩ : Addr).add j = ⟨blk, o + j, none⟩ := by unfold Addr.add; split <;> simp_all
  rw [hadd]
  have hj : j < (nv l).length := (List.getElem?_eq_some_iff.1 hu).1
  rw [nv_length] at hj
  have hk : j / 2 < l.length := by omega
  obtain ⟨b', o', e, _, c0, c1⟩ := h.at_ hk
  injection e with e
  injection e with e1 e2
  subst e1 e2
  obtain ⟨g0, g1⟩ := nv_get l (j / 2) hk
  rcases Nat.mod_two_eq_zero_or_one j with hm | hm
  · have ej : j / 2 * 2 = j := by omega
    rw [ej] at c0 g0
    rw [c0, ← hu, g0]
  · have ej : j / 2 * 2 + 1 = j := by omega
    rw [ej] at g1
    rw [Nat.add_assoc, ej] at c1
    rw [c1, ← hu, g1]
theorem expr_ne {l : List Nd} (h : exprB l = true) : l ≠ [] := by rintro rfl; revert h; decide
/-- what the call returns -/
def RPost (l : List Nd) (f : Int) (b : List Nd) (w : World) (e : Ending) (w' : World) : Prop :=
  ∃ a c, e = .returned (.tuple #[.slice a (replL l f b).length c, .bool (replB l f b)]) ∧ OwnN w' w.heap.size a (replL l f b) ∧ Below w.heap.size w w'
end Go.Proofs.YtikglddifoalfaaDoor
namespace Go.Proofs.YtikglddifoalfaaDoor
open Go.RowKit
set_option linter.unusedVariables false
set_option linter.unusedSimpArgs false
/-- a field in memory: its sizes, its cells' slice, what that reads, and the block where it lies if it is of the call's own -/
structure FE where
  wd : Int
  hg : Int
  ad : Option Addr
  l : List Int
  c : Nat
  g : Nat
def FE.flat (e : FE) : List Value := [.int .i64 e.wd, .int .i64 e.hg, .slice e.ad e.l.length e.c]
def FE.plain (e : FE) : Int × Int × List Int := (e.wd, e.hg, e.l)
def fvs (es : List FE) : List Value := es.flatMap FE.flat
theorem fvs_cons (e : FE) (es : List FE) : fvs (e :: es) = .int .i64 e.wd :: .int .i64 e.hg :: .slice e.ad e.l.length e.c :: fvs es := rfl
theorem fvs_append (l r : List FE) : fvs (l ++ r) = fvs l ++ fvs r := by unfold fvs; rw [List.flatMap_append]
theorem fvs_length (l : List FE) : (fvs l).length = l.length * 3 := by
  induction l with
  | nil => rfl
  | cons p r ih => rw [fvs_cons]; simp [ih]; omega
theorem fvs_get (l : List FE) : ∀ (k : Nat) (h : k < l.length), (fvs l)[k * 3]? = some (.int .i64 l[k].wd) ∧ (fvs l)[k * 3 + 1]? = some (.int .i64 l[k].hg) ∧ (fvs l)[k * 3 + 2]? = some (.slice l[k].ad l[k].l.length l[k].c) := by
  induction l with
  | nil => intro k h; simp at h
  | cons p r ih =>
    intro k h
    rw [fvs_cons]
    cases k with
    | zero => exact ⟨rfl, rfl, rfl⟩
    | succ k =>
      have h1 := ih k (by simpa using h)
      have e : (k + 1) * 3 = k * 3 + 1 + 1 + 1 := by omega
      rw [e]
      exact ⟨by simpa using h1.1, by simpa using h1.2.1, by simpa using h1.2.2⟩
theorem fvs_one (l : List FE) : ∀ u ∈ fvs l, u.oneCell' = true := by
  intro u hu
  unfold fvs at hu
  rw [List.mem_flatMap] at hu
  obtain ⟨p, _, hp⟩ := hu
  simp [FE.flat] at hp
  rcases hp with rfl | rfl | rfl <;> rfl
theorem fvs_set (l : List FE) : ∀ (k : Nat) (e : FE), k < l.length → (((fvs l).set (k * 3) (.int .i64 e.wd)).set (k * 3 + 1) (.int .i64 e.hg)).set (k * 3 + 2) (.slice e.ad e.l.length e.c) = fvs (l.set k e) := by
  induction l with
  | nil => intro k e h; simp at h
  | cons p r ih =>
    intro k e h
    cases k with
    | zero => rfl
    | succ k =>
      have e3 : (k + 1) * 3 = k * 3 + 1 + 1 + 1 := by omega
      rw [fvs_cons, e3]
      show Value.int .i64 p.wd :: Value.int .i64 p.hg :: Value.slice p.ad p.l.length p.c :: (((fvs r).set (k * 3) (.int .i64 e.wd)).set (k * 3 + 1) (.int .i64 e.hg)).set (k * 3 + 2) (.slice e.ad e.l.length e.c) = _
      rw [ih k e (by simpa using h)]
      rfl
/-- the slice's address leads to the fields es, in a block below B, and so do their cells -/
def Flds (w : World) (B : Nat) (a : Option Addr) (es : List FE) : Prop :=
  es = [] ∨ ∃ b o, a = some ⟨b, o, none⟩ ∧ b < B ∧ ∀ j (h : j < es.length), w.cell? ⟨b, o + j * 3, none⟩ = some (.int .i64 es[j].wd) ∧ w.cell? ⟨b, o + j * 3 + 1, none⟩ = some (.int .i64 es[j].hg) ∧ w.cell? ⟨b, o + j * 3 + 2, none⟩ = some (.slice es[j].ad es[j].l.length es[j].c) ∧ Ints .i64 w B es[j].ad es[j].l
section
variable {w w' : World} {B C : Nat} {a : Option Addr} {es : List FE}
theorem Flds.at_ (h : Flds w B a es) {j : Nat} (hj : j < es.length) :
    ∃ b o, a = some ⟨b, o, none⟩ ∧ b < B ∧ w.cell? ⟨b, o + j * 3, none⟩ = some (.int .i64 es[j].wd) ∧ w.cell? ⟨b, o + j * 3 + 1, none⟩ = some (.int .i64 es[j].hg) ∧ w.cell? ⟨b, o + j * 3 + 2, none⟩ = some (.slice es[j].ad es[j].l.length es[j].c) ∧ Ints .i64 w B es[j].ad es[j].l := by
  rcases h with rfl | ⟨b, o, e, hb, hc⟩
  · simp at hj
  · exact ⟨b, o, e, hb, hc j hj⟩
theorem Flds.keep (h : Flds w B a es) (hk : ∀ p : Addr, p.block < B → w'.cell? p = w.cell? p) : Flds w' B a es := by
  rcases h with rfl | ⟨b, o, e, hb, hc⟩
  · exact .inl rfl
  · refine .inr ⟨b, o, e, hb, fun j hj => ?_⟩
    obtain ⟨h1, h2, h3, h4⟩ := hc j hj
    exact ⟨(hk ⟨b, _, none⟩ hb).trans h1, (hk ⟨b, _, none⟩ hb).trans h2, (hk ⟨b, _, none⟩ hb).trans h3, h4.keep hk⟩
theorem Flds.below (h : Flds w B a es) (hb : Below C w w') (hB : B ≤ C) : Flds w' B a es := h.keep fun p hp => hb.cell (by omega)
theorem Flds.more (h : Flds w B a es) (hB : B ≤ C) : Flds w C a es := by
  rcases h with rfl | ⟨b, o, e, hb, hc⟩
  · exact .inl rfl
  · refine .inr ⟨b, o, e, by omega, fun j hj => ?_⟩
    obtain ⟨h1, h2, h3, h4⟩ := hc j hj
    exact ⟨h1, h2, h3, h4.more hB⟩
theorem Flds.drew (h : Flds w B a es) (d : Drew w w') : Flds w' B a es := h.keep fun p _ => d.cell p
theorem Flds.turn {g : Nat} (h : Flds w B a es) (o : w.grownBy w' (some g)) (hB : B ≤ g) (hw : B ≤ w.heap.size) : Flds w' B a es :=
  h.keep fun p hp => World.cell?_of_block (o.block p.block (by omega) (by intro e; injection e with e; omega))
theorem flds_below (h : Flds w w.heap.size a es) (hb : Below w.heap.size w w') : Flds w' w'.heap.size a es := (h.below hb (Nat.le_refl _)).more hb.size
theorem flds_alloc (h : Flds w w.heap.size a es) (o : Obj) : Flds (w.alloc o) (w.alloc o).heap.size a es := flds_below h ((Below.refl _ _).alloc (Nat.le_refl _) o)
end
theorem flds_at {W : World} {B b off len : Nat} (h : ∀ i, i < len → ∃ e : FE, W.cell? ⟨b, off + i * 3, none⟩ = some (.int .i64 e.wd) ∧ W.cell? ⟨b, off + i * 3 + 1, none⟩ = some (.int .i64 e.hg) ∧ W.cell? ⟨b, off + i * 3 + 2, none⟩ = some (.slice e.ad e.l.length e.c) ∧ Ints .i64 W B e.ad e.l) :
    ∃ l : List FE, l.length = len ∧ ∀ j (hj : j < l.length), W.cell? ⟨b, off + j * 3, none⟩ = some (.int .i64 l[j].wd) ∧ W.cell? ⟨b, off + j * 3 + 1, none⟩ = some (.int .i64 l[j].hg) ∧ W.cell? ⟨b, off + j * 3 + 2, none⟩ = some (.slice l[j].ad l[j].l.length l[j].c) ∧ Ints .i64 W B l[j].ad l[j].l := by
  induction len with
  | zero => exact ⟨[], rfl, fun j hj => by simp at hj⟩
  | succ n ih =>
    obtain ⟨l, h1, h2⟩ := ih (fun i hi => h i (by omega))
    obtain ⟨p, hp⟩ := h n (by omega)
    refine ⟨l ++ [p], by simp [h1], fun j hj => ?_⟩
    rw [List.length_append, List.length_singleton] at hj
    by_cases hjn : j < l.length
    · rw [List.getElem_append_left hjn]
      exact h2 j hjn
    · have : j = l.length := by omega
      subst this
      rw [List.getElem_append_right (Nat.le_refl _)]
      simp only [Nat.sub_self, List.getElem_cons_zero]
      rw [h1]
      exact hp
/-- the row of fields at block g, from its beginning -/
theorem Flds.of_row {w : World} {g B : Nat} {t : TypeId} {es : List FE} (h : Row w g t (fvs es)) (hg : g < B) (hi : ∀ e ∈ es, Ints .i64 w B e.ad e.l) : Flds w B (some ⟨g, 0, none⟩) es :=
  .inr ⟨g, 0, rfl, hg, fun j hj => by
    have hl := fvs_length es
    have h1 := h.cell (k := j * 3) (by omega)
    have h2 := h.cell (k := j * 3 + 1) (by omega)
    have h3 := h.cell (k := j * 3 + 2) (by omega)
    have e := fvs_get es j hj
    rw [List.getElem?_eq_getElem (by omega), List.getElem?_eq_getElem (by omega), List.getElem?_eq_getElem (by omega)] at e
    rw [Nat.zero_add, h1, h2, h3]
    exact ⟨e.1, e.2.1, e.2.2, hi _ (List.getElem_mem hj)⟩⟩
/-- fields whose cells are rows of their own, in blocks from B on, below U, no two in one -/
structure Fb (w : World) (B U : Nat) (es : List FE) : Prop where
  row : ∀ j (h : j < es.length), B ≤ es[j].g ∧ es[j].g < U ∧ At w es[j].ad es[j].g es[j].l
  ne : ∀ i j (hi : i < es.length) (hj : j < es.length), i ≠ j → es[i].g ≠ es[j].g
section
variable {w w' : World} {B U : Nat} {es : List FE}
theorem Fb.nil : Fb w B U [] := ⟨fun j h => by simp at h, fun i j h => by simp at h⟩
theorem Fb.keep (h : Fb w B U es) (k : ∀ g, B ≤ g → g < U → g < w.heap.size → w'.heap[g]? = w.heap[g]?) : Fb w' B U es :=
  ⟨fun j h1 => by obtain ⟨a, b, c⟩ := h.row j h1; exact ⟨a, b, c.keep fun hl => k _ a b hl⟩, h.ne⟩
theorem Fb.below {C : Nat} (h : Fb w B U es) (hb : Below C w w') (hC : U ≤ C) : Fb w' B U es := h.keep fun g _ h2 _ => hb.block g (by omega)
theorem Fb.turn {g : Nat} (h : Fb w B U es) (o : w.grownBy w' (some g)) (hg : U ≤ g) : Fb w' B U es := h.keep fun k _ h2 h3 => o.block k h3 (by intro e; injection e with e; omega)
theorem Fb.past {g : Nat} (h : Fb w B U es) (o : w.grownBy w' (some g)) (hg : g < B) : Fb w' B U es := h.keep fun k h1 _ h3 => o.block k h3 (by intro e; injection e with e; omega)
theorem Fb.more {C V : Nat} (h : Fb w B U es) (hB : C ≤ B) (hV : U ≤ V) : Fb w C V es := ⟨fun j h1 => by obtain ⟨a, b, c⟩ := h.row j h1; exact ⟨by omega, by omega, c⟩, h.ne⟩
theorem Fb.snoc {e : FE} (h : Fb w B U es) (hB : B ≤ e.g) (hU : U ≤ e.g) (hr : At w e.ad e.g e.l) : Fb w B (e.g + 1) (es ++ [e]) := by
  refine ⟨fun j h1 => ?_, fun i j hi hj hne => ?_⟩
  · rw [List.length_append, List.length_singleton] at h1
    by_cases e1 : j < es.length
    · rw [List.getElem_append_left e1]
      obtain ⟨a, b, c⟩ := h.row j e1
      exact ⟨a, by omega, c⟩
    · rw [List.getElem_append_right (by omega)]
      simp only [show j - es.length = 0 by omega, List.getElem_singleton]
      exact ⟨hB, Nat.lt_succ_self _, hr⟩
  · rw [List.length_append, List.length_singleton] at hi hj
    have get : ∀ k (hk : k < (es ++ [e]).length), k < es.length → (es ++ [e])[k].g < U := by
      intro k hk h1
      rw [List.getElem_append_left h1]
      exact (h.row k h1).2.1
    have last : ∀ k (hk : k < (es ++ [e]).length), ¬ k < es.length → (es ++ [e])[k].g = e.g := by
      intro k hk h1
      have hk2 : k < es.length + 1 := by simpa using hk
      rw [List.getElem_append_right (by omega)]
      simp only [show k - es.length = 0 by omega, List.getElem_singleton]
    by_cases e1 : i < es.length <;> by_cases e2 : j < es.length
    · rw [List.getElem_append_left e1, List.getElem_append_left e2]; exact h.ne i j e1 e2 hne
    · have := get i (by simp; omega) e1; have := last j (by simp; omega) e2; omega
    · have := get j (by simp; omega) e2; have := last i (by simp; omega) e1; omega
    · omega
theorem Fb.ints (h : Fb w B U es) {j : Nat} (h1 : j < es.length) : Ints .i64 w U es[j].ad es[j].l := by
  obtain ⟨_, h4, h5⟩ := h.row j h1
  exact h5.intsB h4
end
/-- a list of fields of the call's own: the row at block g, and the cells -/
structure OwnFs (w : World) (B U g : Nat) (es : List FE) : Prop where
  r : Row w g 80 (fvs es)
  b : B ≤ g
  u : g < U
  f : Fb w B U es
  n : ∀ j (h : j < es.length), es[j].g ≠ g
section
variable {w w' : World} {B U g : Nat} {es : List FE}
theorem OwnFs.below {C : Nat} (h : OwnFs w B U g es) (hb : Below C w w') (hC : U ≤ C) : OwnFs w' B U g es := ⟨h.r.of_block (hb.block g (by have := h.u; omega)), h.b, h.u, h.f.below hb hC, h.n⟩
theorem OwnFs.turn {k : Nat} (h : OwnFs w B U g es) (o : w.grownBy w' (some k)) (hg : U ≤ k) : OwnFs w' B U g es :=
  ⟨h.r.of_block (o.block g h.r.lt (by intro e; injection e with e; have := h.u; omega)), h.b, h.u, h.f.turn o hg, h.n⟩
theorem OwnFs.past {k : Nat} (h : OwnFs w B U g es) (o : w.grownBy w' (some k)) (hg : k < B) : OwnFs w' B U g es :=
  ⟨h.r.of_block (o.block g h.r.lt (by intro e; injection e with e; have := h.b; omega)), h.b, h.u, h.f.past o hg, h.n⟩
theorem OwnFs.drew (h : OwnFs w B U g es) (d : Drew w w') : OwnFs w' B U g es := h.below (d.below U) (Nat.le_refl _)
theorem OwnFs.more {C V : Nat} (h : OwnFs w B U g es) (hB : C ≤ B) (hV : U ≤ V) : OwnFs w C V g es := ⟨h.r, by have := h.b; omega, by have := h.u; omega, h.f.more hB hV, h.n⟩
theorem OwnFs.flds (h : OwnFs w B U g es) : Flds w U (some ⟨g, 0, none⟩) es :=
  Flds.of_row h.r h.u fun e he => by obtain ⟨j, hj, rfl⟩ := List.getElem_of_mem he; exact h.f.ints hj
end
end Go.Proofs.YtikglddifoalfaaDoor
namespace Go.Proofs.YtikglddifoalfaaDoor
open Go.RowKit
set_option linter.unusedVariables false
set_option linter.unusedSimpArgs false
def lenF (es : List FE) (k : Nat) : Nat := ((es.take k).map fun e => e.l.length).sum
def lenFs (es : List FE) : Nat := (es.map fun e => e.l.length).sum
theorem lenF_zero (es : List FE) : lenF es 0 = 0 := rfl
theorem lenF_step {es : List FE} {k : Nat} (h : k < es.length) : lenF es (k + 1) = lenF es k + es[k].l.length := by
  unfold lenF; rw [List.take_succ_eq_append_getElem h, List.map_append, List.sum_append]; simp
theorem lenF_all (es : List FE) : lenF es es.length = lenFs es := by simp [lenF, lenFs]
theorem lenF_le (es : List FE) (k : Nat) : lenF es k ≤ lenFs es := by
  unfold lenF lenFs
  conv => rhs; rw [← List.take_append_drop k es, List.map_append, List.sum_append]
  omega
/-- how many numbers stand ahead of field k when all are marked -/
def offF (es : List FE) (k : Nat) : Nat := 2 * k + lenF es k
theorem offF_step {es : List FE} {k : Nat} (h : k < es.length) : offF es (k + 1) = offF es k + 2 + es[k].l.length := by
  unfold offF; rw [lenF_step h]; omega
def szF (es : List FE) (left : Int) : Int := if ((es.length + lenFs es : Nat) : Int) ≤ left then left - ((es.length + lenFs es : Nat) : Int) else -1
theorem szF_over (es : List FE) (left : Int) (k : Nat) (h : left < (es.length : Int) + (lenF es k : Int)) : szF es left = -1 := by
  have := lenF_le es k
  exact if_neg (by omega)
theorem szF_fit (es : List FE) (left : Int) (h : (es.length : Int) + (lenFs es : Int) ≤ left) : szF es left = left - (es.length : Int) - (lenFs es : Int) := by
  unfold szF; rw [if_pos (by omega)]; omega
theorem infoField : (Tryd.prog.info? 80).map (fun i => (i.zero, i.size, i.bytes)) = some (some (.agg #[.int .i64 0, .int .i64 0, .slice none 0 0]), 3, 40) := by kernel_rfl
theorem run_make_fields (n : Nat) (h : n ≤ 1048576) (W : World) :
    (Instr.makeSlice 83 (.int .i64 (n : Int)) (.int .i64 (n : Int))).run Tryd.prog W = .ok (.slice (some ⟨W.heap.size, 0, none⟩) n n) (W.alloc (.cells (madeCells #[.int .i64 0, .int .i64 0, .slice none 0 0] (n * 3)) 80)) := by
  obtain ⟨i, hi, hzz⟩ := Option.map_eq_some_iff.1 infoField
  simp only [Prod.mk.injEq] at hzz
  obtain ⟨hz, hs, hb⟩ := hzz
  have hr := run_make (P := Tryd.prog) W 83 80 i (.agg #[.int .i64 0, .int .i64 0, .slice none 0 0]) Tryd.underlying83 hi hz .i64 .i64 n n (by omega) (Int.le_refl _) (by rw [hb]; omega) (by omega)
  simp only [Int.toNat_natCast, hs] at hr
  exact hr
def zeroF : FE := ⟨0, 0, none, [], 0, 0⟩
theorem fvs_zero (n k : Nat) (h : k < n * 3) : (fvs (List.replicate n zeroF))[k]? = (#[Value.int .i64 0, .int .i64 0, .slice none 0 0] : Array Value)[k % 3]? := by
  have hl : (k / 3) < (List.replicate n zeroF).length := by rw [List.length_replicate]; omega
  have e := fvs_get (List.replicate n zeroF) (k / 3) hl
  rw [List.getElem_replicate] at e
  have hm : k % 3 = 0 ∨ k % 3 = 1 ∨ k % 3 = 2 := by omega
  rcases hm with hm | hm | hm
  · rw [show k = k / 3 * 3 by omega, e.1]; simp; rfl
  · rw [show k = k / 3 * 3 + 1 by omega, e.2.1, show (k / 3 * 3 + 1) % 3 = 1 by omega]; rfl
  · rw [show k = k / 3 * 3 + 2 by omega, e.2.2, show (k / 3 * 3 + 2) % 3 = 2 by omega]; rfl
theorem row_made_fields (n : Nat) (W : World) : Row (W.alloc (.cells (madeCells #[.int .i64 0, .int .i64 0, .slice none 0 0] (n * 3)) 80)) W.heap.size 80 (fvs (List.replicate n zeroF)) := by
  refine ⟨_, heap_alloc_new W _, fun k hk => ?_⟩
  have hk2 := hk
  rw [fvs_length, List.length_replicate] at hk2
  have e := fvs_zero n k hk2
  rw [List.getElem?_eq_getElem hk] at e
  rw [e]
  have hm : k % 3 = 0 ∨ k % 3 = 1 ∨ k % 3 = 2 := by omega
  rcases hm with hm | hm | hm <;> simp [madeCells, hk2, hm]
/-- the first fields copied, the others nothing -/
def mixF (es : List FE) (n : Nat) : List FE := es ++ List.replicate (n - es.length) zeroF
theorem mixF_len (es : List FE) (n : Nat) (h : es.length ≤ n) : (mixF es n).length = n := by simp [mixF]; omega
theorem mixF_step (es : List FE) (n : Nat) (e : FE) (h : es.length < n) : (mixF es n).set es.length e = mixF (es ++ [e]) n := by
  unfold mixF
  rw [List.set_append_right _ _ (Nat.le_refl _), Nat.sub_self, show n - es.length = (n - (es ++ [e]).length) + 1 by simp; omega, List.replicate_succ, List.set_cons_zero, List.append_assoc]
  rfl
theorem mixF_all (es : List FE) : mixF es es.length = es := by simp [mixF]
/-- es' reads as the first fields of es -/
def LikeF (es' es : List FE) : Prop := es'.length ≤ es.length ∧ ∀ j (h : j < es'.length) (h2 : j < es.length), es'[j].wd = es[j].wd ∧ es'[j].hg = es[j].hg ∧ es'[j].l = es[j].l ∧ es'[j].l.length ≤ es'[j].c
theorem LikeF.nil (es : List FE) : LikeF [] es := ⟨Nat.zero_le _, fun j h => by simp at h⟩
theorem LikeF.snoc {es' es : List FE} (h : LikeF es' es) (hlt : es'.length < es.length) {e : FE} (h1 : e.wd = es[es'.length].wd) (h2 : e.hg = es[es'.length].hg) (h3 : e.l = es[es'.length].l) (h4 : e.l.length ≤ e.c) : LikeF (es' ++ [e]) es := by
  refine ⟨by simp; omega, fun j h5 h6 => ?_⟩
  rw [List.length_append, List.length_singleton] at h5
  by_cases e1 : j < es'.length
  · rw [List.getElem_append_left e1]; exact h.2 j e1 h6
  · obtain rfl : j = es'.length := by omega
    rw [List.getElem_append_right (Nat.le_refl _)]
    simp only [Nat.sub_self, List.getElem_cons_zero]
    exact ⟨h1, h2, h3, h4⟩
theorem LikeF.plain {es' es : List FE} (h : LikeF es' es) (hl : es'.length = es.length) : es'.map FE.plain = es.map FE.plain := by
  refine List.ext_getElem (by simp [hl]) fun j h1 h2 => ?_
  rw [List.length_map] at h1 h2
  obtain ⟨e1, e2, e3, _⟩ := h.2 j h1 h2
  rw [List.getElem_map, List.getElem_map]
  unfold FE.plain
  rw [e1, e2, e3]
def ToFsPost (es : List FE) (w : World) (e : Ending) (w' : World) : Prop :=
  ∃ es', es'.length = es.length ∧ LikeF es' es ∧ e = .returned (.slice (some ⟨w.heap.size, 0, none⟩) es.length es.length) ∧ OwnFs w' w.heap.size w'.heap.size w.heap.size es' ∧ Below w.heap.size w w'
/-- a field marked with numbers from k on -/
def FE.mark (e : FE) (k : Int) : FE := ⟨k, k + 1, e.ad, marks (k + 2) e.l.length, e.c, e.g⟩
def partF (k0 : Int) (es : List FE) (k : Nat) : List FE := es.mapIdx fun j e => if j < k then e.mark (k0 + (offF es j : Int)) else e
theorem partF_len (k0 : Int) (es : List FE) (k : Nat) : (partF k0 es k).length = es.length := by simp [partF]
theorem partF_get {k0 : Int} {es : List FE} {k j : Nat} (h : j < (partF k0 es k).length) (h2 : j < es.length) : (partF k0 es k)[j] = if j < k then es[j].mark (k0 + (offF es j : Int)) else es[j] := by
  simp [partF]
theorem partF_g {k0 : Int} {es : List FE} {k j : Nat} (h : j < (partF k0 es k).length) : (partF k0 es k)[j].g = (es[j]'(by rwa [partF_len] at h)).g := by
  rw [partF_get h (by rwa [partF_len] at h)]
  split <;> rfl
theorem partF_zero (k0 : Int) (es : List FE) : partF k0 es 0 = es := by
  refine List.ext_getElem (partF_len _ _ _) fun j h1 h2 => ?_
  rw [partF_get h1 h2, if_neg (by omega)]
theorem partF_step {k0 : Int} {es : List FE} {k : Nat} (h : k < es.length) : (partF k0 es k).set k (es[k].mark (k0 + (offF es k : Int))) = partF k0 es (k + 1) := by
  refine List.ext_getElem (by rw [List.length_set, partF_len, partF_len]) fun j h1 h2 => ?_
  have h3 : j < es.length := by rwa [partF_len] at h2
  rw [List.getElem_set]
  by_cases e : k = j
  · subst e
    rw [if_pos rfl, partF_get h2 h3, if_pos (by omega)]
  · rw [if_neg e, partF_get (by rw [partF_len]; exact h3) h3, partF_get h2 h3]
    by_cases e2 : j < k
    · rw [if_pos e2, if_pos (by omega)]
    · rw [if_neg e2, if_neg (by omega)]
theorem fvs_set2 (l : List FE) (k : Nat) (e : FE) (h : k < l.length) (h1 : e.ad = l[k].ad) (h2 : e.l.length = l[k].l.length) (h3 : e.c = l[k].c) : ((fvs l).set (k * 3) (.int .i64 e.wd)).set (k * 3 + 1) (.int .i64 e.hg) = fvs (l.set k e) := by
  rw [← fvs_set l k e h]
  have hl := fvs_length l
  have e3 := (fvs_get l k h).2.2
  refine (List.ext_getElem (by simp) fun j j1 j2 => ?_).symm
  rw [List.getElem_set]
  split
  · rename_i ej
    subst ej
    rw [List.getElem_set_ne (by omega), List.getElem_set_ne (by omega), h1, h2, h3]
    rw [List.getElem?_eq_getElem (by omega)] at e3
    injection e3 with e3
    exact e3.symm
  · rfl
theorem fld_ne_ints {w : World} {g g' : Nat} {vs us : List Value} (h : Row w g 80 vs) (h' : Row w g' 3 us) : g ≠ g' := by
  rintro rfl
  obtain ⟨c1, hc1, _⟩ := h
  obtain ⟨c2, hc2, _⟩ := h'
  rw [hc2] at hc1
  injection hc1 with hc1
  injection hc1 with _ hty
  exact absurd hty (by decide)
theorem le_lenFs {es : List FE} : ∀ e ∈ es, e.l.length ≤ lenFs es := by
  induction es with
  | nil => intro e h; simp at h
  | cons x r ih =>
    intro e h
    have h9 : lenFs (x :: r) = x.l.length + lenFs r := rfl
    rcases List.mem_cons.1 h with rfl | h
    · omega
    · have := ih e h; omega
theorem lenFs_plain {es es' : List FE} (h : es'.map FE.plain = es.map FE.plain) : lenFs es' = lenFs es := by
  have key : ∀ l : List FE, lenFs l = ((l.map FE.plain).map fun p => p.2.2.length).sum := by intro l; unfold lenFs; rw [List.map_map]; rfl
  rw [key, key, h]
theorem offF_all (es : List FE) : offF es es.length = 2 * es.length + lenFs es := by unfold offF; rw [lenF_all]
end Go.Proofs.YtikglddifoalfaaDoor
namespace Go.Proofs.YtikglddifoalfaaDoor
open Go.RowKit
set_option linter.unusedVariables false
structure Res (w : World) (lo hi b : Nat) (p q : Int) (a : Option Addr) (L : List Int) (c : Nat) : Prop where
  k : Box w b 80 (.int .i64 p) (.int .i64 q) (.slice a L.length c)
  i : ∃ g, lo ≤ g ∧ (L = [] ∨ g < hi) ∧ At w a g L
  lb : lo ≤ b
  ub : b < hi
section
variable {w w' : World} {lo hi b : Nat} {p q : Int} {a : Option Addr} {L : List Int} {c : Nat}
theorem Res.new {B : Nat} (h : OwnI w B a L) (hB : B ≤ w.heap.size) : Res (w.alloc (.cells #[.int .i64 p, .int .i64 q, .slice a L.length c] 80)) B (w.heap.size + 1) w.heap.size p q a L c := by
  obtain ⟨g, h1, h2⟩ := h
  refine ⟨Box.new _ _ _ _ _, ⟨g, h1, ?_, h2.alloc _⟩, hB, Nat.lt_succ_self _⟩
  rcases h2 with h2 | ⟨_, h2⟩
  · exact .inl h2
  · exact .inr (by have := h2.lt; omega)
theorem Res.keep (h : Res w lo hi b p q a L c) (hk : ∀ i, lo ≤ i → i < hi → i < w.heap.size → w'.heap[i]? = w.heap[i]?) : Res w' lo hi b p q a L c := by
  obtain ⟨g, h1, h2, h3⟩ := h.i
  refine ⟨(hk b h.lb h.ub h.k.lt).trans h.k, ⟨g, h1, h2, ?_⟩, h.lb, h.ub⟩
  rcases h2 with h2 | h2
  · exact .inl h2
  · exact h3.keep fun hl => hk g h1 h2 hl
theorem Res.below {C : Nat} (h : Res w lo hi b p q a L c) (hb : Below C w w') (hC : hi ≤ C) : Res w' lo hi b p q a L c := h.keep fun i _ h2 _ => hb.block i (by omega)
theorem Res.turn {g : Nat} (h : Res w lo hi b p q a L c) (o : w.grownBy w' (some g)) (hg : hi ≤ g) : Res w' lo hi b p q a L c := h.keep fun i _ h2 h3 => o.block i h3 (by intro e; injection e with e; omega)
theorem Res.past {g : Nat} (h : Res w lo hi b p q a L c) (o : w.grownBy w' (some g)) (hg : g < lo) : Res w' lo hi b p q a L c := h.keep fun i h1 _ h3 => o.block i h3 (by intro e; injection e with e; omega)
theorem Res.aside {U : Nat} (h : Res w lo hi b p q a L c) (o : ∀ i, U ≤ i → i < w.heap.size → w'.heap[i]? = w.heap[i]?) (hU : U ≤ lo) : Res w' lo hi b p q a L c := h.keep fun i h1 _ h3 => o i (by omega) h3
theorem Res.ints (h : Res w lo hi b p q a L c) : Ints .i64 w w.heap.size a L := by obtain ⟨g, _, _, h3⟩ := h.i; exact h3.ints
theorem Res.pick (h : Res w lo hi b p q a L c) (hlo : lo ≤ w.heap.size) : ∃ g, lo ≤ g ∧ g ≠ b ∧ At w a g L := by
  obtain ⟨g, h1, h2, h3⟩ := h.i
  rcases h3 with h3 | ⟨h4, h5⟩
  · exact ⟨w.heap.size, hlo, by have := h.k.lt; omega, .inl h3⟩
  · refine ⟨g, h1, ?_, .inr ⟨h4, h5⟩⟩
    rintro rfl
    obtain ⟨cur, hc, _⟩ := h5
    have hk := h.k
    unfold Box at hk
    rw [hc] at hk
    injection hk with hk
    injection hk with _ hty
    exact absurd hty (by decide)
end
/-- the answer marked -/
structure Mk (w : World) (b g : Nat) (p q : Int) (a : Option Addr) (n c : Nat) : Prop where
  k : Box w b 80 (.int .i64 p) (.int .i64 q) (.slice a n c)
  i : At w a g (marks 1 n)
theorem Mk.below {w w' : World} {b g : Nat} {p q : Int} {a : Option Addr} {n c : Nat} (h : Mk w b g p q a n c) (hb : Below w.heap.size w w') : Mk w' b g p q a n c := ⟨h.k.below hb, h.i.below hb⟩
theorem like_plain {es es' : List FE} (h1 : es'.length = es.length) (h2 : LikeF es' es) : es'.map FE.plain = es.map FE.plain := h2.plain h1
theorem below_aside {w w1 w2 : World} {B : Nat} (h : Below w.heap.size w w1) (k : Below B w1 w2) (hB : w.heap.size ≤ B) : Below w.heap.size w w2 := h.trans (k.mono hB)
theorem below_on {w w1 w2 : World} {g : Nat} (h : Below w.heap.size w w1) (o : Only g w1 w2) (hg : w.heap.size ≤ g) : Below w.heap.size w w2 := h.grown o.1 h.size (fun j e => by injection e with e; omega)
theorem below_turn' {w w1 w2 : World} {g : Nat} (h : Below w.heap.size w w1) (o : w1.grownBy w2 (some g)) (hg : w.heap.size ≤ g) : Below w.heap.size w w2 := h.grown o h.size (fun j e => by injection e with e; omega)
end Go.Proofs.YtikglddifoalfaaDoor
namespace Go.Proofs.YtikglddifoalfaaDoor
open Go.RowKit
set_option linter.unusedVariables false
set_option linter.unusedSimpArgs false
theorem Nds.take {w : World} {B : Nat} {a : Option Addr} {l : List Nd} (h : Nds w B a l) (t : Nat) : Nds w B a (l.take t) := by
  rcases h with rfl | ⟨b, o, e, hb, hc⟩
  · exact .inl (by simp)
  · exact .inr ⟨b, o, e, hb, fun j hj => by have hj2 : j < l.length := by (rw [List.length_take] at hj; omega)
                                            rw [List.getElem_take]; exact hc j hj2⟩
theorem Nds.drop {w : World} {B b o : Nat} {l : List Nd} (h : Nds w B (some ⟨b, o, none⟩) l) (u : Nat) : Nds w B (some ⟨b, o + u * 2, none⟩) (l.drop u) := by
  rcases h with rfl | ⟨b', o', e, hb, hc⟩
  · exact .inl (by simp)
  · injection e with e
    injection e with e1 e2
    subst e1 e2
    refine .inr ⟨b, o + u * 2, rfl, hb, fun j hj => ?_⟩
    have hj2 : u + j < l.length := by rw [List.length_drop] at hj; omega
    obtain ⟨h1, h2⟩ := hc (u + j) hj2
    rw [List.getElem_drop, show o + u * 2 + j * 2 = o + (u + j) * 2 by omega]
    exact ⟨h1, h2⟩
theorem own_rowc {w : World} {B n : Nat} {v : Value} {l : List Nd} (h : w.ownsRow B 49 2 v n (nv l)) (hn : 0 < n) : ∃ g cap, v = .slice (some ⟨g, 0, none⟩) n cap ∧ B ≤ g ∧ Row w g 49 (nv l) ∧ n ≤ cap ∧ cap ≤ maxLen := by
  obtain ⟨h1, ⟨h2, h3⟩ | ⟨g, cap, cur, h2, hb, hh, hc, hcm, hcs, hx⟩⟩ := h
  · omega
  · refine ⟨g, cap, h2, hb, ⟨cur, hh, fun k hk => ?_⟩, hc, by first | exact hcm | (unfold maxLen; omega)⟩
    have e : (nv l)[k]? = cur[k]? := by
      rw [← hx, List.getElem?_take]
      rw [h1] at hk
      rw [if_pos hk]
      simp
    rw [← e]
    exact List.getElem?_eq_getElem hk
theorem own_less2 {w : World} {b b' e size n : Nat} {v : Value} {xs : List Value} (h : w.ownsRow b e size v n xs) (hb : b' ≤ b) : w.ownsRow b' e size v n xs := by
  obtain ⟨h1, h2 | ⟨g, cap, cur, h2, h3, h4⟩⟩ := h
  · exact ⟨h1, .inl h2⟩
  · exact ⟨h1, .inr ⟨g, cap, cur, h2, Nat.le_trans hb h3, h4⟩⟩
theorem opens_need {L : List Nd} {m : Nat} (h : opens L 0 = some m) {i : Nat} (hi : i < L.length) : ∃ a, arity L[i].1 L[i].2 = some a ∧ a ≤ i := by
  obtain ⟨n, h1, h2⟩ := opens_take (k := i) h
  rw [List.drop_eq_getElem_cons hi] at h2
  have h3 : opens ([L[i]] ++ L.drop (i + 1)) n = some m := h2
  rw [opens_append, opens_one] at h3
  cases ha : arity L[i].1 L[i].2 with
  | none => rw [ha] at h3; cases h3
  | some a =>
    refine ⟨a, rfl, ?_⟩
    rw [ha] at h3
    have hle := opens_le _ _ _ h1
    rw [List.length_take] at hle
    by_cases hc : a ≤ n
    · omega
    · simp only [hc, if_false] at h3; cases h3
theorem opens_nums {L : List Nd} {m : Nat} (h : opens L 0 = some m) : ∀ q ∈ L, q.1 = 2 → 0 ≤ q.2 ∧ q.2 ≤ 9000 := by
  intro q hq h2
  have h9 := opens_all L 0 m h q hq
  rw [h2] at h9
  unfold arity at h9
  rw [if_neg (by omega), if_pos rfl] at h9
  by_cases hc : 0 ≤ q.2 ∧ q.2 ≤ 9000
  · exact hc
  · rw [if_neg hc] at h9; exact absurd rfl h9
theorem l5Folded_any (a : Option Addr) (l : List Nd) (c i m : Nat) (w : World) (hl : Nds w w.heap.size a l) (hn : l.length ≤ 1048576) (ho : opens l 0 = some m) (hi : i < l.length) :
    Calls Tryd.prog 32 #[.slice a l.length c, .int .i64 (i : Int)] w fun e w' => e = .returned (.tuple #[.int .i64 (foldW (l.take i) l[i]).1, .int .i64 (foldW (l.take i) l[i]).2]) ∧ Below w.heap.size w w' := by
  obtain ⟨x, hx, hle⟩ := opens_need ho hi
  have hg : l[i] = (l[i].1, l[i].2) := rfl
  rw [hg]
  generalize l[i].1 = k at *
  generalize l[i].2 = v at *
  by_cases h7 : k = 7
  · subst h7
    have : x = 1 := by
      unfold arity at hx
      rw [if_neg (by omega), if_neg (by omega), if_pos rfl] at hx
      split at hx
      · injection hx with hx; exact hx.symm
      · cases hx
    exact folded_above a l c i (i - 1) v w hl hn hi hg (by omega)
  · by_cases h2 : x = 2
    · subst h2
      exact folded_two a l c i (i - 2) k v w hl hn hi hg hx (by omega) (opens_nums ho)
    · exact folded_leaf a l c i k v w hl hn hi hg h7 (by rw [hx]; intro e; injection e with e; exact h2 e)
/-- what FoldNumbers hands back -/
def FlPost (l : List Nd) (w : World) (e : Ending) (w' : World) : Prop :=
  ∃ a c, e = .returned (.tuple #[.slice a (foldR l).length c, .bool (exprB l)]) ∧ OwnN w' w.heap.size a (foldR l) ∧ Below w.heap.size w w'
theorem own_len {w : World} {b e size n : Nat} {v : Value} {xs : List Value} (h : w.ownsRow b e size v n xs) : ∃ a c, v = .slice a n c := by
  obtain ⟨h1, ⟨h2, h3⟩ | ⟨g, cap, cur, h2, _⟩⟩ := h
  · exact ⟨none, 0, by rw [h2, h3]⟩
  · exact ⟨_, _, h2⟩
def slen : Value → Nat
  | .slice _ n _ => n
  | _ => 0
def foldF (l : List Nd) (k : Nat) : List Nd := foldL (l.take k) ++ l.drop k
theorem foldF_opens {l : List Nd} {m : Nat} (h : opens l 0 = some m) (k : Nat) (hk : k ≤ l.length) : opens (foldF l k) 0 = some m := by
  unfold foldF
  rw [opens_append, foldL_opens h k hk, ← opens_append, List.take_append_drop]; exact h
theorem foldF_zero (l : List Nd) : foldF l 0 = l := by simp [foldF, foldL]
theorem foldF_all (l : List Nd) : foldF l l.length = foldL l := by simp [foldF]
theorem foldL_unf (l : List Nd) : ∀ k, Unf (foldL (l.take k))
  | 0 => unf_nil
  | k + 1 => by
    by_cases h : k < l.length
    · rw [foldL_step h]; exact unf_step (foldL_unf l k) _
    · rw [show l.take (k + 1) = l.take k by rw [List.take_of_length_le (by omega), List.take_of_length_le (by omega)]]; exact foldL_unf l k
theorem foldF_len (l : List Nd) (k : Nat) (hk : k ≤ l.length) : (foldF l k).length ≤ l.length := by
  unfold foldF; rw [List.length_append, List.length_drop]; have := foldL_len l k; omega
/-- one step of the model's loop at place q: nothing to do, or a node is folded -/
theorem fold_round {l : List Nd} {m k q : Nat} (ho : opens l 0 = some m) (hk : k ≤ l.length) (hq : q ≤ (foldL (l.take k)).length) (hlt : q < (foldF l k).length) :
    (foldW ((foldF l k).take q) (foldF l k)[q] = (0, 0) ∧ ∃ k', k' ≤ l.length ∧ q + 1 ≤ (foldL (l.take k')).length ∧ foldF l k' = foldF l k) ∨
    ∃ (n : Int) (S t : Nat), foldW ((foldF l k).take q) (foldF l k)[q] = (n, (S : Int)) ∧ 2 ≤ S ∧ S ≤ 3 ∧ q + 1 = S + t ∧ 0 ≤ n ∧ n ≤ 9000 ∧ k + 1 ≤ l.length ∧ foldF l (k + 1) = (foldF l k).take t ++ [(2, n)] ++ (foldF l k).drop (q + 1) := by
  by_cases h : q < (foldL (l.take k)).length
  · left
    have e1 : (foldF l k)[q] = (foldL (l.take k))[q] := by simp only [foldF]; rw [List.getElem_append_left h]
    have e2 : (foldF l k).take q = (foldL (l.take k)).take q := by unfold foldF; rw [List.take_append_of_le_length (by omega)]
    refine ⟨?_, k, hk, h, rfl⟩
    rw [e1, e2]
    unfold foldW
    rw [foldL_unf l k q h]
  · have hqf : q = (foldL (l.take k)).length := by omega
    have hkl : k < l.length := by
      have h9 := hlt
      unfold foldF at h9
      rw [List.length_append, List.length_drop] at h9
      omega
    have e1 : (foldF l k)[q] = l[k] := by
      simp only [foldF]
      rw [List.getElem_append_right (by omega)]
      simp [hqf]
    have e2 : (foldF l k).take q = foldL (l.take k) := by unfold foldF; rw [List.take_append_of_le_length (by omega), hqf, List.take_length]
    rw [e1, e2]
    cases hv : foldV (foldL (l.take k)) l[k] with
    | none =>
      left
      refine ⟨by unfold foldW; rw [hv], k + 1, by omega, ?_, ?_⟩
      · rw [foldL_step hkl, foldX_none hv]; simp; omega
      · unfold foldF
        rw [foldL_step hkl, foldX_none hv, List.append_assoc]
        congr 1
        rw [List.drop_eq_getElem_cons hkl]; rfl
    | some r =>
      right
      obtain ⟨n, mm⟩ := r
      obtain ⟨f1, f2, f3, f4, f5, _⟩ := foldV_facts hv
      refine ⟨n, mm + 1, q - mm, by unfold foldW; rw [hv]; push_cast; rfl, by omega, by omega, by omega, f4, f5, by omega, ?_⟩
      unfold foldF
      rw [foldL_step hkl, foldX_some hv]
      congr 1
      · congr 1
        rw [List.take_append_of_le_length (by omega), hqf]
      · rw [hqf, List.drop_append, List.drop_of_length_le (Nat.le_succ _), List.nil_append, List.drop_drop]
        congr 1
        omega
end Go.Proofs.YtikglddifoalfaaDoor
namespace Go.Proofs.YtikglddifoalfaaDoor
open Go.RowKit
set_option linter.unusedVariables false
set_option linter.unusedSimpArgs false
theorem repl_none {l : List Nd} {f : Int} {b : List Nd} (h : inF f = false ∨ exprB l = false ∨ exprB b = false) : replB l f b = false ∧ replL l f b = [] := by
  have e : replB l f b = false := by unfold replB; rcases h with h | h | h <;> rw [h] <;> simp
  exact ⟨e, repl_no e⟩
theorem fmOk_field (f : Int) : fmOk 1 f = inF f := by
  unfold fmOk arity inF
  rw [if_pos rfl]
  by_cases h : 0 ≤ f ∧ f ≤ 3
  · rw [if_pos h, decide_eq_true h.1, decide_eq_true h.2]; rfl
  · rw [if_neg h]
    by_cases h0 : 0 ≤ f
    · rw [decide_eq_false (fun h3 => h ⟨h0, h3⟩)]; simp
    · rw [decide_eq_false h0]; rfl
theorem box_row {w w' : World} {nb base e size n : Nat} {t : TypeId} {vs : Array Value} {v : Value} {xs : List Value} (h : BoxC w nb t vs) (ho : w.ownsRow base e size v n xs) (hg : w.grownBy w' v.ownBlock) (hb : nb < base) : BoxC w' nb t vs :=
  (hg.block nb h.lt (fun e => by have := (ho.lt nb e.symm).1; omega)).trans h
set_option maxRecDepth 100000 in
set_option maxHeartbeats 2000000 in
theorem implRepl_any (a : Option Addr) (l : List Nd) (c : Nat) (f : Int) (ab : Option Addr) (b : List Nd) (cb : Nat) (w : World) (hl : Nds w w.heap.size a l) (hb : Nds w w.heap.size ab b) (hn : l.length ≤ 1048576) (hnb : b.length ≤ 1048576) (ht : NTab w) :
    Calls Tryd.prog 7 #[.slice a l.length c, .int .i64 f, .slice ab b.length cb] w (RPost l f b w) := by
  obtain ⟨i0, hi0', hz0, hz1, hz2⟩ := info_parts infoNode
  have HL := Lib.hid hl
  have HBY := Lib.hid hb
  have HT := Lib.hid ht
  have HE1 := Lib.hid (fun W h t => implExpr_any a l c W h hn t)
  have HE2 := Lib.hid (fun W h t => implExpr_any ab b cb W h hnb t)
  have HVN := Lib.hid (repl_none (l := l) (f := f) (b := b))
  have HVE := Lib.hid (fun h1 h2 h3 => (repl_expr (l := l) (f := f) (b := b) h1 h2 h3).2)
  have HVR := Lib.hid (repl_both (l := l) (f := f) (b := b))
  have HF := Lib.hid (fun W h => formOf_any 1 f W h)
  rw [fmOk_field] at HF
  unfold RPost
  unfold formV at HF
  clear hl hb ht
  generalize replB l f b = v at *
  generalize replL l f b = rl at *
  generalize fmK 1 = y0 at *
  generalize fmT 1 = y1 at *
  generalize fmM 1 = y2 at *
  generalize fmO 1 = y3 at *
  generalize fmA 1 = y4 at *
  generalize fmB 1 = y5 at *
  generalize fmC 1 = y6 at *
  obtain ⟨nb, hnb0⟩ : ∃ q, w.heap.size = q := ⟨_, rfl⟩
  obtain ⟨W1, hW1⟩ : ∃ W, w.alloc (.cells #[.int .i64 1, .int .i64 f] 49) = W := ⟨_, rfl⟩
  have B1 := Lib.hid (show Below w.heap.size w W1 by rw [← hW1]; exact below_all _ _)
  have X1 := Lib.hid (show BoxC W1 nb 49 #[.int .i64 1, .int .i64 f] by rw [← hW1, ← hnb0]; exact BoxC.new _ _ _)
  have c0 := X1.out.cell 0
  have c1 := X1.out.cell 1
  simp at c0 c1
  go_enter Tryd.func7, Tryd.ntmps7
  go_wp2_with fail
  refine (HF.out _ (HT.out.below B1.out)).mono ?_
  rintro e w2 ⟨rfl, b2⟩
  have X2 := X1.out.below b2
  have B2 := below_then B1.out b2
  clear b2 X1 B1 c0 c1 hW1
  obtain ⟨W2, hW2⟩ : ∃ W, w2.alloc (.cells #[.int .i64 y0, .int .i64 y1, .int .i64 y2, .int .i64 y3, .string y4, .string y5, .string y6] 52) = W := ⟨_, rfl⟩
  have X2 := Lib.hid (show BoxC W2 nb 49 #[.int .i64 1, .int .i64 f] by rw [← hW2]; exact X2.alloc _)
  have B2 := Lib.hid (show Below w.heap.size w W2 by rw [← hW2]; exact below_then B2 (below_all _ _))
  cases h3 : inF f with
  | false =>
    obtain ⟨ev, el⟩ := HVN.out (.inl h3)
    subst ev el
    clear h3
    go_wp2
    go_ret2
    exact ⟨_, _, rfl, OwnN.none_, B2.out.alloc B2.out.size _⟩
  | true =>
    cases h1 : exprB l with
    | false =>
      obtain ⟨ev, el⟩ := HVN.out (.inr (.inl h1))
      subst ev el
      rw [h1] at HE1
      clear h1 h3
      go_wp2_with fail
      refine (HE1.out _ (nds_below HL.out B2.out) (HT.out.below B2.out)).mono ?_
      rintro e w3 ⟨rfl, b3⟩
      have B3 := Lib.hid (below_then B2.out b3)
      clear b3
      go_wp2
      go_ret2
      exact ⟨_, _, rfl, OwnN.none_, B3.out.alloc B3.out.size _⟩
    | true =>
      rw [h1] at HE1
      cases h2 : exprB b with
      | false =>
        obtain ⟨ev, el⟩ := HVN.out (.inr (.inr h2))
        subst ev el
        rw [h2] at HE2
        clear h1 h2 h3
        go_wp2_with fail
        refine (HE1.out _ (nds_below HL.out B2.out) (HT.out.below B2.out)).mono ?_
        rintro e w3 ⟨rfl, b3⟩
        have B3 := Lib.hid (below_then B2.out b3)
        clear b3
        go_wp2_with fail
        refine (HE2.out _ (nds_below HBY.out B3.out) (HT.out.below B3.out)).mono ?_
        rintro e w4 ⟨rfl, b4⟩
        have B4 := Lib.hid (below_then B3.out b4)
        clear b4
        go_wp2
        go_ret2
        exact ⟨_, _, rfl, OwnN.none_, B4.out.alloc B4.out.size _⟩
      | true =>
        rw [h2] at HE2
        obtain ⟨r2, r3, r4⟩ := HVE.out h1 h2 h3
        have HVR2 := Lib.hid (HVR.out r2)
        have HNE := Lib.hid (expr_ne h2)
        have HLE := Lib.hid (fun k => replR_le (f := f) r4 (l.take k))
        clear h1 h2 h3 r2 HVR HVE HVN
        go_wp2_with fail
        refine (HE1.out _ (nds_below HL.out B2.out) (HT.out.below B2.out)).mono ?_
        rintro e w3 ⟨rfl, b3⟩
        have B3 := Lib.hid (below_then B2.out b3)
        have X3 := Lib.hid (X2.out.below b3)
        clear b3 B2 X2 hW2
        go_wp2_with fail
        refine (HE2.out _ (nds_below HBY.out B3.out) (HT.out.below B3.out)).mono ?_
        rintro e w4 ⟨rfl, b4⟩
        have B4 := Lib.hid (below_then B3.out b4)
        have X4 := Lib.hid (X3.out.below b4)
        have hz4 : w.heap.size + 1 ≤ w4.heap.size := by have := X4.out.lt; omega
        clear b4 B3 X3 HE1 HE2 HF HT
        go_wp2
        go_loopw [11, 37] (fun out i wr => ∃ k : Nat, k ≤ l.length ∧ i = .int .i64 k ∧ wr.ownsRow (w.heap.size + 1) 49 2 out (replR (l.take k) f b).length (nv (replR (l.take k) f b)) ∧ BoxC wr nb 49 #[.int .i64 1, .int .i64 f] ∧ Below w.heap.size w wr) (fun _ i _ => l.length - (intOf i).toNat)
        case atStart => exact ⟨0, Nat.zero_le _, rfl, (by have h := World.ownsRow_made (base := w.heap.size + 1) (e := 49) (size := 2) w4 #[] 0 hz4 (by simp) rfl; rw [replR_zero]; exact h), X4.out.alloc _, B4.out.alloc B4.out.size _⟩
        case round =>
          obtain ⟨k, hk, rfl, hown, hbx, hB⟩ := hrel
          have HSZ := Lib.hid (show w.heap.size + 1 ≤ wr.heap.size by have := hbx.lt; omega)
          have hlen := HLE.out k
          have hlt15 : (l.take k).length ≤ 15 := by rw [List.length_take]; omega
          have HLEN := Lib.hid (show (replR (l.take k) f b).length ≤ 225 by omega)
          have HO := Lib.hid hown
          have HX := Lib.hid hbx
          have HB := Lib.hid hB
          clear hown hbx hB hlen hlt15 X4 B4
          by_cases hlt : k < l.length
          · have hi : (k : Int) < (l.length : Int) := by omega
            have hi0 : (0 : Int) ≤ (k : Int) := by omega
            obtain ⟨bk, o, rfl, hbk, q0, q1⟩ := (HL.out.below HB.out (Nat.le_refl _)).at_ hlt
            have HS := Lib.hid (replR_step (f := f) (b := b) hlt)
            generalize replR (l.take k) f b = rs at *
            have HYS := Lib.hid (oneR_yes (p := l[k]) (f := f) (b := b))
            have HNO := Lib.hid (oneR_no (p := l[k]) (f := f) (b := b))
            generalize oneR l[k] f b = one at *
            have HPP := Lib.hid (show l[k] = (l[k].1, l[k].2) from rfl)
            generalize l[k].1 = x at *
            generalize l[k].2 = y at *
            obtain ⟨tb, htb⟩ : ∃ q, wr.heap.size = q := ⟨_, rfl⟩
            obtain ⟨W5, hW5⟩ : ∃ W, wr.alloc (.cells #[.int .i64 x, .int .i64 y] 49) = W := ⟨_, rfl⟩
            have T5 := Lib.hid (show BoxC W5 tb 49 #[.int .i64 x, .int .i64 y] by rw [← hW5, ← htb]; exact BoxC.new _ _ _)
            have X5 := Lib.hid (show BoxC W5 nb 49 #[.int .i64 1, .int .i64 f] by rw [← hW5]; exact HX.out.alloc _)
            have O5 := Lib.hid (show W5.ownsRow (w.heap.size + 1) 49 2 _ rs.length (nv rs) by rw [← hW5]; exact HO.out.alloc _)
            have B5 := Lib.hid (show Below w.heap.size w W5 by rw [← hW5]; exact HB.out.alloc HB.out.size _)
            have SZ5 := Lib.hid (show w.heap.size + 1 ≤ W5.heap.size by rw [← hW5]; have := HSZ.out; simp; omega)
            have t0 := T5.out.cell 0
            have t1 := T5.out.cell 1
            have x0 := X5.out.cell 0
            have x1 := X5.out.cell 1
            simp at t0 t1 x0 x1
            clear HO HX HB
            by_cases hx : x = 1 ∧ y = f
            · obtain ⟨rfl, rfl⟩ := hx
              obtain ⟨bb, ob, rfl, _⟩ : ∃ bb ob, ab = some ⟨bb, ob, none⟩ ∧ True := by
                rcases HBY.out with hnil | ⟨bb, ob, e, _⟩
                · exact absurd hnil HNE.out
                · exact ⟨bb, ob, e, trivial⟩
              have HNW := Lib.hid (nds_news (nds_below HBY.out B5.out))
              have HY := Lib.hid (HYS.out rfl rfl)
              go_wp2_with (at_builtin; refine wpList_append_own _ rfl _ _ 24 rfl (w.heap.size + 1) 49 i0 _ 2 16 Tryd.underlying24 hi0' hz0 hz1 hz2 rfl (by decide) _ rs.length (nv rs) rfl O5.out ⟨bb, ob, none⟩ b.length cb (nv b) rfl (nv_length b) HNW.out (nv_one b) (by have := HLEN.out; unfold maxLen; omega) (by have := HLEN.out; omega) SZ5.out ?_; intro v' w6 hown' hgrow _; have HO6 := Lib.hid hown'; have HG6 := Lib.hid hgrow; clear hown' hgrow)
              go_roundw
              case rel => exact ⟨k + 1, by omega, by go_num, by rw [HS.out, HY.out, nv_append, List.length_append]; exact HO6.out, box_row X5.out O5.out HG6.out (by omega), B5.out.grown HG6.out B5.out.size (fun k hk => by have := (O5.out.lt k hk).1; omega)⟩
              case measure => simp [intOf]; omega
            · have HY := Lib.hid (HNO.out hx)
              by_cases hx1 : x = 1
              · subst hx1
                have e2 : (y == f) = false := by rw [beq_eq_false_iff_ne]; intro e; exact hx ⟨rfl, e⟩
                clear hx
                go_wp2_with (at_builtin; refine wpList_append_own _ rfl _ _ 24 rfl (w.heap.size + 1) 49 i0 _ 2 16 Tryd.underlying24 hi0' hz0 hz1 hz2 rfl (by decide) _ rs.length (nv rs) rfl (O5.out.alloc _) ⟨W5.heap.size, 0, none⟩ 1 1 [.int .i64 1, .int .i64 y] rfl rfl (World.news_of_block (heap_alloc_new _ _)) (by simp [Value.oneCell']) (by have := HLEN.out; unfold maxLen; omega) (by have := HLEN.out; omega) (by have := SZ5.out; simp; omega) ?_; intro v' w6 hown' hgrow _; have HO6 := Lib.hid hown'; have HG6 := Lib.hid hgrow; clear hown' hgrow)
                go_roundw
                case rel => exact ⟨k + 1, by omega, by go_num, by rw [HS.out, HY.out, HPP.out, nv_append, List.length_append]; exact HO6.out, box_row (X5.out.alloc _) (O5.out.alloc _) HG6.out (by omega), (B5.out.alloc B5.out.size _).grown HG6.out (by have := B5.out.size; simp; omega) (fun k hk => by have := (O5.out.lt k hk).1; omega)⟩
                case measure => simp [intOf]; omega
              · have e1 : (x == 1) = false := by rw [beq_eq_false_iff_ne]; exact hx1
                clear hx hx1
                go_wp2_with (at_builtin; refine wpList_append_own _ rfl _ _ 24 rfl (w.heap.size + 1) 49 i0 _ 2 16 Tryd.underlying24 hi0' hz0 hz1 hz2 rfl (by decide) _ rs.length (nv rs) rfl (O5.out.alloc _) ⟨W5.heap.size, 0, none⟩ 1 1 [.int .i64 x, .int .i64 y] rfl rfl (World.news_of_block (heap_alloc_new _ _)) (by simp [Value.oneCell']) (by have := HLEN.out; unfold maxLen; omega) (by have := HLEN.out; omega) (by have := SZ5.out; simp; omega) ?_; intro v' w6 hown' hgrow _; have HO6 := Lib.hid hown'; have HG6 := Lib.hid hgrow; clear hown' hgrow)
                go_roundw
                case rel => exact ⟨k + 1, by omega, by go_num, by rw [HS.out, HY.out, HPP.out, nv_append, List.length_append]; exact HO6.out, box_row (X5.out.alloc _) (O5.out.alloc _) HG6.out (by omega), (B5.out.alloc B5.out.size _).grown HG6.out (by have := B5.out.size; simp; omega) (fun k hk => by have := (O5.out.lt k hk).1; omega)⟩
                case measure => simp [intOf]; omega
          · obtain rfl : k = l.length := by omega
            rw [List.take_length] at HO HLEN
            have HVRo := HVR2.out
            clear HVR2
            obtain ⟨a5, c5, rfl, o5⟩ := ownN_of HO.out rfl
            have HO5 := Lib.hid (o5.more (show w.heap.size ≤ w.heap.size + 1 by omega))
            clear o5 HO HL HBY
            have hlq := HLEN.out
            generalize replR l f b = rs at *
            by_cases hle : rs.length ≤ 15
            · have hgt : ¬ ((15 : Int) < (rs.length : Int)) := by omega
              obtain ⟨ev, el⟩ := HVRo.1 hle
              subst ev el
              clear HVRo
              go_wp2
              go_ret2
              exact ⟨_, ⟨_, rfl⟩, by rw [← hnb0]; exact HO5.out, by rw [← hnb0]; exact HB.out⟩
            · have hgt : (15 : Int) < (rs.length : Int) := by omega
              obtain ⟨ev, el⟩ := HVRo.2 hle
              subst ev el
              clear HVRo
              go_wp2
              go_ret2
              exact ⟨_, _, rfl, OwnN.none_, HB.out.alloc HB.out.size _⟩
end Go.Proofs.YtikglddifoalfaaDoor
namespace Go.Proofs.YtikglddifoalfaaDoor
open Go.RowKit
set_option linter.unusedVariables false
set_option linter.unusedSimpArgs false
/-- a row of nodes of the call's own stays while a cursor below moves -/
theorem own2_cur {w w' : World} {g B n size : Nat} {e : TypeId} {v : Value} {xs : List Value} (h : w.ownsRow B e size v n xs) (hg : w.grownBy w' (some g)) (hB : g < B) : w'.ownsRow B e size v n xs := by
  refine h.kept hg ?_
  cases hv : v.ownBlock with
  | none => exact .inl rfl
  | some k => exact .inr (by intro e; injection e with e; have := (h.lt k hv).1; omega)
/-- what the draw of a list of nodes knows of a later world -/
structure Xd (w : World) (g : Nat) (a : Option Addr) (l : List Int) (c K gr cp : Nat) (L : List Nd) (w' : World) : Prop where
  cur : CurIs w' g a l c K
  own : w'.ownsRow w.heap.size 49 2 (.slice (some ⟨gr, 0, none⟩) L.length cp) L.length (nv L)
  grown : w.grownBy w' (some g)
section
variable {w w1 w2 : World} {g : Nat} {a : Option Addr} {l : List Int} {c K K' gr cp : Nat} {L : List Nd}
theorem Xd.step (h : Xd w g a l c K gr cp L w1) (hc : CurIs w2 g a l c K') (ho : Only g w1 w2) (hg : g < w.heap.size) : Xd w g a l c K' gr cp L w2 :=
  ⟨hc, own2_cur h.own ho.1 hg, turn_trans h.grown ho.1⟩
theorem Xd.alloc (h : Xd w g a l c K gr cp L w1) (o : Obj) : Xd w g a l c K gr cp L (w1.alloc o) :=
  ⟨h.cur.alloc o, h.own.alloc o, turn_of_below h.grown (below_all _ _)⟩
theorem Xd.more (h : Xd w g a l c K gr cp L w1) (hk : K ≤ K') : Xd w g a l c K' gr cp L w1 := ⟨h.cur.more hk, h.own, h.grown⟩
theorem Xd.put (h : Xd w g a l c K gr cp L w1) (hg : g < w.heap.size) {v' : Value} {x y : Int} {o : Obj} (ho : w2.ownsRow w.heap.size 49 2 v' (L.length + 1) (nv L ++ [Value.int .i64 x, Value.int .i64 y]))
    (hgr : (w1.alloc o).grownBy w2 (Value.slice (some ⟨gr, 0, none⟩) L.length cp).ownBlock) : ∃ gr' cp', ∃ L' : List Nd, L'.length = L.length + 1 ∧ v' = .slice (some ⟨gr', 0, none⟩) L'.length cp' ∧ Xd w g a l c K gr' cp' L' w2 := by
  have h2 : w2.ownsRow w.heap.size 49 2 v' (L ++ [(x, y)]).length (nv (L ++ [(x, y)])) := by rw [nv_append, List.length_append]; exact ho
  obtain ⟨gr', cp', rfl, hb, hr, hc, hm⟩ := own_rowc h2 (by simp)
  refine ⟨gr', cp', L ++ [(x, y)], by simp, rfl, (h.cur.alloc o).past hgr (fun j hj => by have := (h.own.lt j hj).1; omega), h2, turn_new (turn_of_below h.grown (below_all _ _)) hgr (fun j hj => (h.own.lt j hj).1)⟩
end
/-- a list of nodes is drawn -/
def EDraw (M : Nat) (g : Nat) (a : Option Addr) (l : List Int) (c K : Nat) (w : World) (e : Ending) (w' : World) : Prop :=
  ∃ (gr cp : Nat) (L : List Nd), L.length ≤ M ∧ e = .returned (.slice (some ⟨gr, 0, none⟩) L.length cp) ∧ Xd w g a l c K gr cp L w'
set_option maxRecDepth 100000 in
set_option maxHeartbeats 8000000 in
theorem expression_any (w : World) (g : Nat) (a : Option Addr) (l : List Int) (c K : Nat) (hK : K ≤ 900000) (h : CurIs w g a l c K) :
    Calls Tryd.prog 36 #[.pointer (some ⟨g, 0, none⟩)] w (EDraw 18 g a l c (K + 100) w) := by
  obtain ⟨i0, hi0', hz0, hz1, hz2⟩ := info_parts infoNode
  have hg := h.lt
  have X0 : Xd w g a l c K w.heap.size 0 [] (w.alloc (.cells #[] 49)) := ⟨h.alloc _, World.ownsRow_made (base := w.heap.size) (e := 49) (size := 2) w #[] 0 (Nat.le_refl _) (by simp) rfl, turn_below (below_all _ _)⟩
  have HX0 := Lib.hid X0
  clear h X0
  go_enter Tryd.func36, Tryd.ntmps36
  go_wp2_with fail
  refine (pick_any _ g a l c K 9 (by omega) (by omega) (by omega) HX0.out.cur).mono ?_
  rintro e w1 ⟨v, ⟨r, hr, rfl⟩, rfl, hc, ho⟩
  have HX1 := Lib.hid (HX0.out.step hc ho hg)
  clear hc ho HX0
  have hw1 : wrap64 (1 + (r : Int)) = ((r + 1 : Nat) : Int) := by rw [IntWalk.wrap64_in _ (by omega)]; push_cast; omega
  obtain ⟨n0, hn0⟩ : ∃ q, r + 1 = q := ⟨_, rfl⟩
  rw [hn0] at hw1
  have hn9 : n0 ≤ 9 := by omega
  have HW1 := Lib.hid hw1
  clear hr hn0 hw1
  go_wp2_with fail
  go_loopw [3, 4, 5] (fun li op i wr => ∃ (n o gr cp : Nat) (L : List Nd), L.length + n ≤ 9 ∧ o ≤ L.length ∧ li = .slice (some ⟨gr, 0, none⟩) L.length cp ∧ op = .int .i64 o ∧ i = .int .i64 n ∧ Xd w g a l c (K + 2 + 8 * (9 - n)) gr cp L wr) (fun _ _ i _ => (intOf i).toNat)
  case atStart => exact ⟨n0, 0, _, 0, [], by simpa using hn9, Nat.zero_le _, rfl, rfl, by rw [HW1.out], HX1.out.more (by omega)⟩
  case round =>
    obtain ⟨n, o, gr, cp, L, hLn, hoL, rfl, rfl, rfl, hx⟩ := hrel
    have HX := Lib.hid hx
    clear hx HX1 HW1
    by_cases hn : n = 0
    · have hni : ¬ (0 : Int) < (n : Int) := by omega
      have hL9 : L.length ≤ 9 := by omega
      have HX2 := Lib.hid (HX.out.more (show K + 2 + 8 * (9 - n) ≤ K + 74 by omega))
      clear hn9 HX hLn hn
      go_wp2_with fail
      go_loopw [3, 4] (fun li op wr => ∃ (o gr cp : Nat) (L : List Nd), L.length + o ≤ 18 ∧ o ≤ 9 ∧ li = .slice (some ⟨gr, 0, none⟩) L.length cp ∧ op = .int .i64 o ∧ Xd w g a l c (K + 74 + 2 * (9 - o)) gr cp L wr) (fun _ op _ => (intOf op).toNat)
      case atStart => exact ⟨o, gr, cp, L, by omega, by omega, rfl, rfl, HX2.out.more (by omega)⟩
      case round =>
        rename_i hrel
        obtain ⟨o, gr, cp, L, hLo, ho9, rfl, rfl, hx⟩ := hrel
        have HX := Lib.hid hx
        clear hx HX2
        by_cases h1 : 1 < o
        · have h1i : (1 : Int) < (o : Int) := by omega
          have ho1 := Lib.hid (show wrap64 ((o : Int) - 1) = ((o - 1 : Nat) : Int) by rw [IntWalk.wrap64_in _ (by omega)]; omega)
          go_wp2_with fail
          refine (pick_any _ g a l c (K + 74 + 2 * (9 - o)) 4 (by omega) (by omega) (by omega) HX.out.cur).mono ?_
          rintro e w4 ⟨v, ⟨r, hr, rfl⟩, rfl, hc, ho⟩
          have HX4 := Lib.hid (HX.out.step hc ho hg)
          clear hc ho HX hr
          have hsz := HX4.out.grown.size
          go_wp2_with (at_builtin; go_loud (refine wpList_append_own _ rfl _ _ 24 rfl w.heap.size 49 i0 _ 2 16 Tryd.underlying24 hi0' hz0 hz1 hz2 rfl (by decide) _ L.length (nv L) rfl (HX4.out.own.alloc _) ⟨w4.heap.size, 0, none⟩ 1 1 [Value.int .i64 (wrap64 (3 + (r : Int))), Value.int .i64 0] rfl rfl (World.news_of_block (heap_alloc_new _ _)) (by simp [Value.oneCell']) (by unfold maxLen; omega) (by omega) (by simp; omega) ?_); go_loud (intro v' w6 hown' hgrow _); go_loud (obtain ⟨gr6, cp6, L6, hl6, rfl, hx6⟩ := HX4.out.put hg hown' hgrow); go_loud (have HX6 := Lib.hid hx6); go_loud (have HL6 := Lib.hid hl6); clear hown' hgrow hx6 hl6)
          go_roundw
          case rel => exact ⟨o - 1, gr6, cp6, L6, by have := HL6.out; omega, by omega, rfl, by first | (congr 1; omega) | rw [ho1.out], HX6.out.more (by omega)⟩
          case measure => simp [intOf]; omega
        · have h1i : ¬ (1 : Int) < (o : Int) := by omega
          go_wp2
          go_ret
          exact ⟨gr, cp, L, by omega, rfl, HX.out.more (by omega)⟩
    · have hni : (0 : Int) < (n : Int) := by omega
      have hn1 := Lib.hid (show wrap64 ((n : Int) - 1) = ((n - 1 : Nat) : Int) by rw [IntWalk.wrap64_in _ (by omega)]; omega)
      have hop := Lib.hid (show wrap64 ((o : Int) + 1) = ((o + 1 : Nat) : Int) by rw [IntWalk.wrap64_in _ (by omega)]; push_cast; omega)
      have hK0 : K + 2 + 8 * (9 - n) ≤ K + 74 := by omega
      obtain ⟨K1, hK1⟩ : ∃ q, K + 2 + 8 * (9 - n) = q := ⟨_, rfl⟩
      rw [hK1] at HX hK0
      have HK1 := Lib.hid (show K1 + 8 ≤ K + 2 + 8 * (9 - (n - 1)) by omega)
      clear hK1
      by_cases h1 : 1 < o
      · have h1i : (1 : Int) < (o : Int) := by omega
        have h0i : (0 : Int) < (o : Int) := by omega
        have hom := Lib.hid (show wrap64 ((o : Int) - 1) = ((o - 1 : Nat) : Int) by rw [IntWalk.wrap64_in _ (by omega)]; omega)
        go_wp2_with fail
        refine (one_any _ g a l c (K1) 2 (by omega) (by omega) (by omega) HX.out.cur).mono ?_
        rintro e w7 ⟨v, ⟨b, rfl⟩, rfl, hc, ho⟩
        have HX7 := Lib.hid (HX.out.step hc ho hg)
        clear hc ho HX
        cases b with
        | true =>
          go_wp2_with fail
          refine (pick_any _ g a l c (K1 + 2) 4 (by omega) (by omega) (by omega) HX7.out.cur).mono ?_
          rintro e wp ⟨v, ⟨r, hr, rfl⟩, rfl, hc, ho⟩
          have HXp := Lib.hid (HX7.out.step hc ho hg)
          clear hc ho HX7 hr
          have hsz := HXp.out.grown.size
          go_wp2_with (at_builtin; go_loud (refine wpList_append_own _ rfl _ _ 24 rfl w.heap.size 49 i0 _ 2 16 Tryd.underlying24 hi0' hz0 hz1 hz2 rfl (by decide) _ L.length (nv L) rfl (HXp.out.own.alloc _) ⟨wp.heap.size, 0, none⟩ 1 1 [Value.int .i64 (wrap64 (3 + (r : Int))), Value.int .i64 0] rfl rfl (World.news_of_block (heap_alloc_new _ _)) (by simp [Value.oneCell']) (by unfold maxLen; omega) (by omega) (by simp; omega) ?_); go_loud (intro v' w6 hown' hgrow _); go_loud (obtain ⟨gr6, cp6, L6, hl6, rfl, hx6⟩ := HXp.out.put hg hown' hgrow); go_loud (have HX6 := Lib.hid hx6); go_loud (have HL6 := Lib.hid hl6); clear hown' hgrow hx6 hl6)
          go_roundw
          case rel => exact ⟨n - 1, o - 1, gr6, cp6, L6, by have := HL6.out; omega, by have := HL6.out; omega, rfl, by first | (congr 1; omega) | rw [hom.out], by first | (congr 1; omega) | rw [hn1.out], HX6.out.more (by have := HK1.out; omega)⟩
          case measure => simp [intOf]; omega
        | false =>
          go_wp2_with fail
          refine (one_any _ g a l c (K1 + 2) 6 (by omega) (by omega) (by omega) HX7.out.cur).mono ?_
          rintro e w8 ⟨v, ⟨b, rfl⟩, rfl, hc, ho⟩
          have HX8 := Lib.hid (HX7.out.step hc ho hg)
          clear hc ho HX7
          cases b with
          | true =>
            go_wp2_with fail
            refine (pick_any _ g a l c (K1 + 2 + 2) 30 (by omega) (by omega) (by omega) HX8.out.cur).mono ?_
            rintro e wp ⟨v, ⟨r, hr, rfl⟩, rfl, hc, ho⟩
            have HXp := Lib.hid (HX8.out.step hc ho hg)
            clear hc ho HX8 hr
            have hsz := HXp.out.grown.size
            go_wp2_with (at_builtin; go_loud (refine wpList_append_own _ rfl _ _ 24 rfl w.heap.size 49 i0 _ 2 16 Tryd.underlying24 hi0' hz0 hz1 hz2 rfl (by decide) _ L.length (nv L) rfl (HXp.out.own.alloc _) ⟨wp.heap.size, 0, none⟩ 1 1 [Value.int .i64 7, Value.int .i64 (r : Int)] rfl rfl (World.news_of_block (heap_alloc_new _ _)) (by simp [Value.oneCell']) (by unfold maxLen; omega) (by omega) (by simp; omega) ?_); go_loud (intro v' w6 hown' hgrow _); go_loud (obtain ⟨gr6, cp6, L6, hl6, rfl, hx6⟩ := HXp.out.put hg hown' hgrow); go_loud (have HX6 := Lib.hid hx6); go_loud (have HL6 := Lib.hid hl6); clear hown' hgrow hx6 hl6)
            go_roundw
            case rel => exact ⟨n - 1, o, gr6, cp6, L6, by have := HL6.out; omega, by have := HL6.out; omega, rfl, rfl, by first | (congr 1; omega) | rw [hn1.out], HX6.out.more (by have := HK1.out; omega)⟩
            case measure => simp [intOf]; omega
          | false =>
            go_wp2_with fail
            refine (one_any _ g a l c (K1 + 2 + 2) 3 (by omega) (by omega) (by omega) HX8.out.cur).mono ?_
            rintro e w9 ⟨v, ⟨b, rfl⟩, rfl, hc, ho⟩
            have HX9 := Lib.hid (HX8.out.step hc ho hg)
            clear hc ho HX8
            cases b with
            | true =>
              have hlts := HX9.out.cur.lt
              have HXa := Lib.hid (HX9.out.alloc (.cells ([0, 1, 5, 20, 9000].map (Value.int .i64)).toArray 3))
              have hszs := HX9.out.grown.size
              go_wp2_with fail
              refine (among_any _ g a l c (K1 + 2 + 2 + 2) _ 5 [0, 1, 5, 20, 9000] (by omega) rfl (by omega) (by omega) HXa.out.cur (by omega) (by simp) (by intro k hk; exact lit_ints _ _ _ k hk) 5).mono ?_
              rintro e wp ⟨v, ⟨y, hy, rfl⟩, rfl, hc, ho⟩
              have HXp := Lib.hid (HXa.out.step hc ho hg)
              clear hc ho hy HXa hszs hlts HX9
              have hsz := HXp.out.grown.size
              go_wp2_with (at_builtin; go_loud (refine wpList_append_own _ rfl _ _ 24 rfl w.heap.size 49 i0 _ 2 16 Tryd.underlying24 hi0' hz0 hz1 hz2 rfl (by decide) _ L.length (nv L) rfl (HXp.out.own.alloc _) ⟨wp.heap.size, 0, none⟩ 1 1 [Value.int .i64 2, Value.int .i64 y] rfl rfl (World.news_of_block (heap_alloc_new _ _)) (by simp [Value.oneCell']) (by unfold maxLen; omega) (by omega) (by simp; omega) ?_); go_loud (intro v' w6 hown' hgrow _); go_loud (obtain ⟨gr6, cp6, L6, hl6, rfl, hx6⟩ := HXp.out.put hg hown' hgrow); go_loud (have HX6 := Lib.hid hx6); go_loud (have HL6 := Lib.hid hl6); clear hown' hgrow hx6 hl6)
              go_roundw
              case rel => exact ⟨n - 1, o + 1, gr6, cp6, L6, by have := HL6.out; omega, by have := HL6.out; omega, rfl, by first | rfl | go_num | (congr 1; omega) | rw [hop.out], by first | (congr 1; omega) | rw [hn1.out], HX6.out.more (by have := HK1.out; omega)⟩
              case measure => simp [intOf]; omega
            | false =>
              go_wp2_with fail
              refine (pick_any _ g a l c (K1 + 2 + 2 + 2) 3 (by omega) (by omega) (by omega) HX9.out.cur).mono ?_
              rintro e wp ⟨v, ⟨r, hr, rfl⟩, rfl, hc, ho⟩
              have HXp := Lib.hid (HX9.out.step hc ho hg)
              clear hc ho HX9 hr
              have hsz := HXp.out.grown.size
              go_wp2_with (at_builtin; go_loud (refine wpList_append_own _ rfl _ _ 24 rfl w.heap.size 49 i0 _ 2 16 Tryd.underlying24 hi0' hz0 hz1 hz2 rfl (by decide) _ L.length (nv L) rfl (HXp.out.own.alloc _) ⟨wp.heap.size, 0, none⟩ 1 1 [Value.int .i64 1, Value.int .i64 (r : Int)] rfl rfl (World.news_of_block (heap_alloc_new _ _)) (by simp [Value.oneCell']) (by unfold maxLen; omega) (by omega) (by simp; omega) ?_); go_loud (intro v' w6 hown' hgrow _); go_loud (obtain ⟨gr6, cp6, L6, hl6, rfl, hx6⟩ := HXp.out.put hg hown' hgrow); go_loud (have HX6 := Lib.hid hx6); go_loud (have HL6 := Lib.hid hl6); clear hown' hgrow hx6 hl6)
              go_roundw
              case rel => exact ⟨n - 1, o + 1, gr6, cp6, L6, by have := HL6.out; omega, by have := HL6.out; omega, rfl, by first | rfl | go_num | (congr 1; omega) | rw [hop.out], by first | (congr 1; omega) | rw [hn1.out], HX6.out.more (by have := HK1.out; omega)⟩
              case measure => simp [intOf]; omega
      · have h1i : ¬ (1 : Int) < (o : Int) := by omega
        by_cases h0 : 0 < o
        · have h0i : (0 : Int) < (o : Int) := by omega
          go_wp2_with fail
          refine (one_any _ g a l c (K1) 6 (by omega) (by omega) (by omega) HX.out.cur).mono ?_
          rintro e w8 ⟨v, ⟨b, rfl⟩, rfl, hc, ho⟩
          have HX8 := Lib.hid (HX.out.step hc ho hg)
          clear hc ho HX
          cases b with
          | true =>
            go_wp2_with fail
            refine (pick_any _ g a l c (K1 + 2) 30 (by omega) (by omega) (by omega) HX8.out.cur).mono ?_
            rintro e wp ⟨v, ⟨r, hr, rfl⟩, rfl, hc, ho⟩
            have HXp := Lib.hid (HX8.out.step hc ho hg)
            clear hc ho HX8 hr
            have hsz := HXp.out.grown.size
            go_wp2_with (at_builtin; go_loud (refine wpList_append_own _ rfl _ _ 24 rfl w.heap.size 49 i0 _ 2 16 Tryd.underlying24 hi0' hz0 hz1 hz2 rfl (by decide) _ L.length (nv L) rfl (HXp.out.own.alloc _) ⟨wp.heap.size, 0, none⟩ 1 1 [Value.int .i64 7, Value.int .i64 (r : Int)] rfl rfl (World.news_of_block (heap_alloc_new _ _)) (by simp [Value.oneCell']) (by unfold maxLen; omega) (by omega) (by simp; omega) ?_); go_loud (intro v' w6 hown' hgrow _); go_loud (obtain ⟨gr6, cp6, L6, hl6, rfl, hx6⟩ := HXp.out.put hg hown' hgrow); go_loud (have HX6 := Lib.hid hx6); go_loud (have HL6 := Lib.hid hl6); clear hown' hgrow hx6 hl6)
            go_roundw
            case rel => exact ⟨n - 1, o, gr6, cp6, L6, by have := HL6.out; omega, by have := HL6.out; omega, rfl, rfl, by first | (congr 1; omega) | rw [hn1.out], HX6.out.more (by have := HK1.out; omega)⟩
            case measure => simp [intOf]; omega
          | false =>
            go_wp2_with fail
            refine (one_any _ g a l c (K1 + 2) 3 (by omega) (by omega) (by omega) HX8.out.cur).mono ?_
            rintro e w9 ⟨v, ⟨b, rfl⟩, rfl, hc, ho⟩
            have HX9 := Lib.hid (HX8.out.step hc ho hg)
            clear hc ho HX8
            cases b with
            | true =>
              have hlts := HX9.out.cur.lt
              have HXa := Lib.hid (HX9.out.alloc (.cells ([0, 1, 5, 20, 9000].map (Value.int .i64)).toArray 3))
              have hszs := HX9.out.grown.size
              go_wp2_with fail
              refine (among_any _ g a l c (K1 + 2 + 2) _ 5 [0, 1, 5, 20, 9000] (by omega) rfl (by omega) (by omega) HXa.out.cur (by omega) (by simp) (by intro k hk; exact lit_ints _ _ _ k hk) 5).mono ?_
              rintro e wp ⟨v, ⟨y, hy, rfl⟩, rfl, hc, ho⟩
              have HXp := Lib.hid (HXa.out.step hc ho hg)
              clear hc ho hy HXa hszs hlts HX9
              have hsz := HXp.out.grown.size
              go_wp2_with (at_builtin; go_loud (refine wpList_append_own _ rfl _ _ 24 rfl w.heap.size 49 i0 _ 2 16 Tryd.underlying24 hi0' hz0 hz1 hz2 rfl (by decide) _ L.length (nv L) rfl (HXp.out.own.alloc _) ⟨wp.heap.size, 0, none⟩ 1 1 [Value.int .i64 2, Value.int .i64 y] rfl rfl (World.news_of_block (heap_alloc_new _ _)) (by simp [Value.oneCell']) (by unfold maxLen; omega) (by omega) (by simp; omega) ?_); go_loud (intro v' w6 hown' hgrow _); go_loud (obtain ⟨gr6, cp6, L6, hl6, rfl, hx6⟩ := HXp.out.put hg hown' hgrow); go_loud (have HX6 := Lib.hid hx6); go_loud (have HL6 := Lib.hid hl6); clear hown' hgrow hx6 hl6)
              go_roundw
              case rel => exact ⟨n - 1, o + 1, gr6, cp6, L6, by have := HL6.out; omega, by have := HL6.out; omega, rfl, by first | rfl | go_num | (congr 1; omega) | rw [hop.out], by first | (congr 1; omega) | rw [hn1.out], HX6.out.more (by have := HK1.out; omega)⟩
              case measure => simp [intOf]; omega
            | false =>
              go_wp2_with fail
              refine (pick_any _ g a l c (K1 + 2 + 2) 3 (by omega) (by omega) (by omega) HX9.out.cur).mono ?_
              rintro e wp ⟨v, ⟨r, hr, rfl⟩, rfl, hc, ho⟩
              have HXp := Lib.hid (HX9.out.step hc ho hg)
              clear hc ho HX9 hr
              have hsz := HXp.out.grown.size
              go_wp2_with (at_builtin; go_loud (refine wpList_append_own _ rfl _ _ 24 rfl w.heap.size 49 i0 _ 2 16 Tryd.underlying24 hi0' hz0 hz1 hz2 rfl (by decide) _ L.length (nv L) rfl (HXp.out.own.alloc _) ⟨wp.heap.size, 0, none⟩ 1 1 [Value.int .i64 1, Value.int .i64 (r : Int)] rfl rfl (World.news_of_block (heap_alloc_new _ _)) (by simp [Value.oneCell']) (by unfold maxLen; omega) (by omega) (by simp; omega) ?_); go_loud (intro v' w6 hown' hgrow _); go_loud (obtain ⟨gr6, cp6, L6, hl6, rfl, hx6⟩ := HXp.out.put hg hown' hgrow); go_loud (have HX6 := Lib.hid hx6); go_loud (have HL6 := Lib.hid hl6); clear hown' hgrow hx6 hl6)
              go_roundw
              case rel => exact ⟨n - 1, o + 1, gr6, cp6, L6, by have := HL6.out; omega, by have := HL6.out; omega, rfl, by first | rfl | go_num | (congr 1; omega) | rw [hop.out], by first | (congr 1; omega) | rw [hn1.out], HX6.out.more (by have := HK1.out; omega)⟩
              case measure => simp [intOf]; omega
        · have h0i : ¬ (0 : Int) < (o : Int) := by omega
          go_wp2_with fail
          refine (one_any _ g a l c (K1) 3 (by omega) (by omega) (by omega) HX.out.cur).mono ?_
          rintro e w9 ⟨v, ⟨b, rfl⟩, rfl, hc, ho⟩
          have HX9 := Lib.hid (HX.out.step hc ho hg)
          clear hc ho HX
          cases b with
          | true =>
            have hlts := HX9.out.cur.lt
            have HXa := Lib.hid (HX9.out.alloc (.cells ([0, 1, 5, 20, 9000].map (Value.int .i64)).toArray 3))
            have hszs := HX9.out.grown.size
            go_wp2_with fail
            refine (among_any _ g a l c (K1 + 2) _ 5 [0, 1, 5, 20, 9000] (by omega) rfl (by omega) (by omega) HXa.out.cur (by omega) (by simp) (by intro k hk; exact lit_ints _ _ _ k hk) 5).mono ?_
            rintro e wp ⟨v, ⟨y, hy, rfl⟩, rfl, hc, ho⟩
            have HXp := Lib.hid (HXa.out.step hc ho hg)
            clear hc ho hy HXa hszs hlts HX9
            have hsz := HXp.out.grown.size
            go_wp2_with (at_builtin; go_loud (refine wpList_append_own _ rfl _ _ 24 rfl w.heap.size 49 i0 _ 2 16 Tryd.underlying24 hi0' hz0 hz1 hz2 rfl (by decide) _ L.length (nv L) rfl (HXp.out.own.alloc _) ⟨wp.heap.size, 0, none⟩ 1 1 [Value.int .i64 2, Value.int .i64 y] rfl rfl (World.news_of_block (heap_alloc_new _ _)) (by simp [Value.oneCell']) (by unfold maxLen; omega) (by omega) (by simp; omega) ?_); go_loud (intro v' w6 hown' hgrow _); go_loud (obtain ⟨gr6, cp6, L6, hl6, rfl, hx6⟩ := HXp.out.put hg hown' hgrow); go_loud (have HX6 := Lib.hid hx6); go_loud (have HL6 := Lib.hid hl6); clear hown' hgrow hx6 hl6)
            go_roundw
            case rel => exact ⟨n - 1, o + 1, gr6, cp6, L6, by have := HL6.out; omega, by have := HL6.out; omega, rfl, by first | rfl | go_num | (congr 1; omega) | rw [hop.out], by first | (congr 1; omega) | rw [hn1.out], HX6.out.more (by have := HK1.out; omega)⟩
            case measure => simp [intOf]; omega
          | false =>
            go_wp2_with fail
            refine (pick_any _ g a l c (K1 + 2) 3 (by omega) (by omega) (by omega) HX9.out.cur).mono ?_
            rintro e wp ⟨v, ⟨r, hr, rfl⟩, rfl, hc, ho⟩
            have HXp := Lib.hid (HX9.out.step hc ho hg)
            clear hc ho HX9 hr
            have hsz := HXp.out.grown.size
            go_wp2_with (at_builtin; go_loud (refine wpList_append_own _ rfl _ _ 24 rfl w.heap.size 49 i0 _ 2 16 Tryd.underlying24 hi0' hz0 hz1 hz2 rfl (by decide) _ L.length (nv L) rfl (HXp.out.own.alloc _) ⟨wp.heap.size, 0, none⟩ 1 1 [Value.int .i64 1, Value.int .i64 (r : Int)] rfl rfl (World.news_of_block (heap_alloc_new _ _)) (by simp [Value.oneCell']) (by unfold maxLen; omega) (by omega) (by simp; omega) ?_); go_loud (intro v' w6 hown' hgrow _); go_loud (obtain ⟨gr6, cp6, L6, hl6, rfl, hx6⟩ := HXp.out.put hg hown' hgrow); go_loud (have HX6 := Lib.hid hx6); go_loud (have HL6 := Lib.hid hl6); clear hown' hgrow hx6 hl6)
            go_roundw
            case rel => exact ⟨n - 1, o + 1, gr6, cp6, L6, by have := HL6.out; omega, by have := HL6.out; omega, rfl, by first | rfl | go_num | (congr 1; omega) | rw [hop.out], by first | (congr 1; omega) | rw [hn1.out], HX6.out.more (by have := HK1.out; omega)⟩
            case measure => simp [intOf]; omega
end Go.Proofs.YtikglddifoalfaaDoor
namespace Go.Proofs.YtikglddifoalfaaDoor
open Go.RowKit
set_option linter.unusedVariables false
set_option linter.unusedSimpArgs false
theorem row_of_own2 {w : World} {B n cp g : Nat} {e : TypeId} {xs : List Value} (h : w.ownsRow B e 2 (.slice (some ⟨g, 0, none⟩) n cp) n xs) : B ≤ g ∧ Row w g e xs := by
  obtain ⟨h1, ⟨h2, h3⟩ | ⟨g', cap, cur, h2, hb, hh, hc, hcm, hcs, hx⟩⟩ := h
  · cases h2
  · injection h2 with e1 e2 e3
    injection e1 with e1
    injection e1 with e1
    subst e1
    refine ⟨hb, cur, hh, fun k hk => ?_⟩
    have e : xs[k]? = cur[k]? := by
      rw [← hx, List.getElem?_take]
      rw [h1] at hk
      rw [if_pos hk]
      simp
    rw [← e]
    exact List.getElem?_eq_getElem hk
theorem row_lit (w : World) (t : TypeId) (xs : List Value) : Row (w.alloc (.cells xs.toArray t)) w.heap.size t xs := ⟨xs.toArray, heap_alloc_new _ _, fun k hk => by simp [hk]⟩
/-- what the draw of any list of nodes knows of a later world -/
structure Xw (w : World) (g : Nat) (a : Option Addr) (l : List Int) (c K gr : Nat) (L : List Nd) (w' : World) : Prop where
  cur : CurIs w' g a l c K
  row : Row w' gr 49 (nv L)
  lo : w.heap.size ≤ gr
  grown : w.grownBy w' (some g)
section
variable {w w1 w2 : World} {g : Nat} {a : Option Addr} {l : List Int} {c K K' gr cp : Nat} {L : List Nd}
theorem Xd.xw (h : Xd w g a l c K gr cp L w1) : Xw w g a l c K gr L w1 := ⟨h.cur, (row_of_own2 h.own).2, (row_of_own2 h.own).1, h.grown⟩
theorem Xw.step (h : Xw w g a l c K gr L w1) (hc : CurIs w2 g a l c K') (ho : Only g w1 w2) (hg : g < w.heap.size) : Xw w g a l c K' gr L w2 :=
  ⟨hc, h.row.of_block (ho.1.block gr h.row.lt (by intro e; injection e with e; have := h.lo; omega)), h.lo, turn_trans h.grown ho.1⟩
theorem Xw.alloc (h : Xw w g a l c K gr L w1) (o : Obj) : Xw w g a l c K gr L (w1.alloc o) := ⟨h.cur.alloc o, h.row.alloc o, h.lo, turn_of_below h.grown (below_all _ _)⟩
theorem Xw.more (h : Xw w g a l c K gr L w1) (hk : K ≤ K') : Xw w g a l c K' gr L w1 := ⟨h.cur.more hk, h.row, h.lo, h.grown⟩
theorem Xw.set (h : Xw w g a l c K gr L w1) (hg : g < w.heap.size) {r : Nat} (hr : r < L.length) (x y : Int) : Xw w g a l c K gr (L.set r (x, y)) ((w1.setCell ⟨gr, r * 2, none⟩ (.int .i64 x)).setCell ⟨gr, r * 2 + 1, none⟩ (.int .i64 y)) := by
  have hlo := h.lo
  refine ⟨(h.cur.setOther (by omega) _ _).setOther (by omega) _ _, ?_, h.lo, turn_setNew (turn_setNew h.grown hlo _ _) hlo _ _⟩
  have := (h.row.set (r * 2) (.int .i64 x)).set (r * 2 + 1) (.int .i64 y)
  rw [nv_set L r x y hr] at this
  exact this
theorem Xw.cells (h : Xw w g a l c K gr L w1) {r : Nat} (hr : r < L.length) : (∃ u, w1.cell? ⟨gr, r * 2, none⟩ = some u) ∧ (∃ u, w1.cell? ⟨gr, r * 2 + 1, none⟩ = some u) ∧ w1.frozen? ⟨gr, r * 2, none⟩ = false ∧ w1.frozen? ⟨gr, r * 2 + 1, none⟩ = false :=
  ⟨⟨_, h.row.cell (k := r * 2) (by rw [nv_length]; omega)⟩, ⟨_, h.row.cell (k := r * 2 + 1) (by rw [nv_length]; omega)⟩, h.row.frozen _, h.row.frozen _⟩
end
/-- any list of nodes is drawn -/
def ADraw (M : Nat) (g : Nat) (a : Option Addr) (l : List Int) (c K : Nat) (w : World) (e : Ending) (w' : World) : Prop :=
  ∃ (gr cp : Nat) (L : List Nd), L.length ≤ M ∧ e = .returned (.slice (some ⟨gr, 0, none⟩) L.length cp) ∧ Xw w g a l c K gr L w'
set_option maxRecDepth 100000 in
set_option maxHeartbeats 1500000 in
theorem anyExpr_any (w : World) (g : Nat) (a : Option Addr) (l : List Int) (c K : Nat) (hK : K ≤ 800000) (h : CurIs w g a l c K) :
    Calls Tryd.prog 21 #[.pointer (some ⟨g, 0, none⟩)] w (ADraw 19 g a l c (K + 110) w) := by
  obtain ⟨i0, hi0', hz0, hz1, hz2⟩ := info_parts infoNode
  have hg := h.lt
  have HC0 := Lib.hid h
  clear h
  go_enter Tryd.func21, Tryd.ntmps21
  go_wp2_with fail
  refine (expression_any w g a l c K (by omega) HC0.out).mono ?_
  rintro e w1 ⟨gr, cp, L, hL, rfl, hx⟩
  have HX1 := Lib.hid hx
  clear hx HC0
  go_wp2_with fail
  refine (pick_any _ g a l c _ 20 (by omega) (by omega) (by omega) HX1.out.cur).mono ?_
  rintro e w2 ⟨v, ⟨r, hr, rfl⟩, rfl, hc, ho⟩
  have HX2 := Lib.hid (HX1.out.step hc ho hg)
  have hsz := HX2.out.grown.size
  clear hc ho HX1
  have hcs : r = 0 ∨ r = 1 ∨ r = 2 ∨ 3 ≤ r := by omega
  rcases hcs with rfl | rfl | rfl | h3
  · clear hr
    go_wp2_with fail
    refine (pick_any _ g a l c _ 9 (by omega) (by omega) (by omega) HX2.out.cur).mono ?_
    rintro e w3 ⟨v, ⟨x, hx, rfl⟩, rfl, hc, ho⟩
    have HX3 := Lib.hid (HX2.out.step hc ho hg)
    clear hc ho HX2 hx
    go_wp2_with fail
    refine (pick_any _ g a l c _ 5 (by omega) (by omega) (by omega) HX3.out.cur).mono ?_
    rintro e w4 ⟨v, ⟨y, hy, rfl⟩, rfl, hc, ho⟩
    have HX4 := Lib.hid (HX3.out.step hc ho hg)
    have hsz4 := HX4.out.grown.size
    clear hc ho HX3 hy
    go_wp2_with (at_builtin; go_loud (refine wpList_append_own _ rfl _ _ 24 rfl w.heap.size 49 i0 _ 2 16 Tryd.underlying24 hi0' hz0 hz1 hz2 rfl (by decide) _ L.length (nv L) rfl (HX4.out.own.alloc _) ⟨w4.heap.size, 0, none⟩ 1 1 [Value.int .i64 (x : Int), Value.int .i64 (y : Int)] rfl rfl (World.news_of_block (heap_alloc_new _ _)) (by simp [Value.oneCell']) (by unfold maxLen; omega) (by omega) (by simp; omega) ?_); go_loud (intro v' w6 hown' hgrow _); go_loud (obtain ⟨gr6, cp6, L6, hl6, rfl, hx6⟩ := HX4.out.put hg hown' hgrow); go_loud (have HX6 := Lib.hid hx6); go_loud (have HL6 := Lib.hid hl6); clear hown' hgrow hx6 hl6)
    go_ret
    exact ⟨gr6, cp6, L6, by have := HL6.out; omega, rfl, HX6.out.xw.more (by omega)⟩
  · clear hr
    by_cases hp : 0 < L.length
    · have hpi : (0 : Int) < (L.length : Int) := by omega
      have HY2 := Lib.hid HX2.out.xw
      clear HX2
      go_wp2_with fail
      refine (pick_any _ g a l c _ L.length (by omega) (by omega) (by omega) HY2.out.cur).mono ?_
      rintro e w3 ⟨v, ⟨r, hr, rfl⟩, rfl, hc, ho⟩
      have HY3 := Lib.hid (HY2.out.step hc ho hg)
      clear hc ho HY2
      go_wp2_with fail
      refine (pick_any _ g a l c _ 9 (by omega) (by omega) (by omega) HY3.out.cur).mono ?_
      rintro e w4 ⟨v, ⟨x, hx, rfl⟩, rfl, hc, ho⟩
      have HY4 := Lib.hid (HY3.out.step hc ho hg)
      have HYa := Lib.hid (HY4.out.alloc (.cells ([0, 3, 4, -1, 9000, 9001].map (Value.int .i64)).toArray 3))
      have hlt4 := HY4.out.cur.lt
      clear hc ho HY3 hx HY4
      go_wp2_with fail
      refine (among_any _ g a l c _ _ 6 [0, 3, 4, -1, 9000, 9001] (by omega) rfl (by omega) (by omega) HYa.out.cur (by omega) (by simp) (by intro k hk; exact lit_ints _ _ _ k hk) 6).mono ?_
      rintro e w5 ⟨v, ⟨y, hy, rfl⟩, rfl, hc, ho⟩
      have HY5 := Lib.hid (HYa.out.step hc ho hg)
      clear hc ho HYa hy
      obtain ⟨⟨u0, q0⟩, ⟨u1, q1⟩, f0, f1⟩ := HY5.out.cells hr
      have hri : (r : Int) < (L.length : Int) := by omega
      have hr0 : (0 : Int) ≤ (r : Int) := by omega
      go_wp2
      go_ret
      exact ⟨gr, cp, L.set r ((x : Int), y), by rw [List.length_set]; omega, by rw [List.length_set]; rfl, (HY5.out.set hg hr (x : Int) y).more (by omega)⟩
    · have hpi : ¬ (0 : Int) < (L.length : Int) := by omega
      go_wp2
      go_ret
      exact ⟨gr, cp, L, by omega, rfl, HX2.out.xw.more (by omega)⟩
  · clear hr
    go_wp2
    go_ret
    refine ⟨w2.heap.size, 0, [], by simp, rfl, (HX2.out.cur.alloc _).more (by omega), ⟨_, heap_alloc_new _ _, by simp [nv]⟩, hsz, turn_of_below HX2.out.grown (below_all _ _)⟩
  · have k0 : ((r : Int) == 0) = false := by rw [beq_eq_false_iff_ne]; omega
    have k1 : ((r : Int) == 1) = false := by rw [beq_eq_false_iff_ne]; omega
    have k2 : ((r : Int) == 2) = false := by rw [beq_eq_false_iff_ne]; omega
    clear hr
    go_wp2
    go_ret
    exact ⟨gr, cp, L, by omega, rfl, HX2.out.xw.more (by omega)⟩
/-- the draw of FnReplacing: two lists and a number -/
def RDraw (w : World) (e : Ending) (w' : World) : Prop :=
  ∃ (g1 c1 g2 c2 : Nat) (L1 L2 : List Nd) (f : Int), L1.length ≤ 19 ∧ L2.length ≤ 19 ∧ e = .returned (.tuple #[.slice (some ⟨g1, 0, none⟩) L1.length c1, .int .i64 f, .slice (some ⟨g2, 0, none⟩) L2.length c2]) ∧ Row w' g1 49 (nv L1) ∧ Row w' g2 49 (nv L2) ∧ Below w.heap.size w w'
set_option maxRecDepth 100000 in
set_option maxHeartbeats 1500000 in
theorem drawRepl_any (w : World) (a : Option Addr) (l : List Int) (c : Nat) (hi : Ints .u8 w w.heap.size a l) (hb : ∀ z ∈ l, 0 ≤ z ∧ z ≤ 255) (hl : l.length ≤ 1048576) :
    Calls Tryd.prog 6 #[.slice a l.length c] w (RDraw w) := by
  have hcn := cur_new w a l c hi hb hl
  obtain ⟨W0, hW0⟩ : ∃ W, w.alloc (.cells #[.slice a l.length c, .int .i64 0, .int .u64 0] 45) = W := ⟨_, rfl⟩
  rw [hW0] at hcn
  have C0 := Lib.hid hcn
  have B0 := Lib.hid (show Below w.heap.size w W0 by rw [← hW0]; exact below_all w _)
  have hz0 := hcn.lt
  clear hi hb hcn
  go_enter Tryd.func6, Tryd.ntmps6
  go_wp2_with fail
  refine (anyExpr_any W0 w.heap.size a l c 0 (by omega) C0.out).mono ?_
  rintro e w1 ⟨g1, c1, L1, hL1, rfl, hx⟩
  have HX1 := Lib.hid hx
  have hz1 := hx.grown.size
  clear hx C0 hW0
  go_wp2_with fail
  refine (anyExpr_any w1 w.heap.size a l c _ (by omega) HX1.out.cur).mono ?_
  rintro e w2 ⟨g2, c2, L2, hL2, rfl, hx⟩
  have HX2 := Lib.hid hx
  have hlo := HX1.out.lo
  have HR2 := Lib.hid (HX1.out.row.of_block (hx.grown.block g1 HX1.out.row.lt (by intro e; injection e with e; omega)))
  have HB2 := Lib.hid (B0.out.grown (turn_trans HX1.out.grown hx.grown) B0.out.size (fun j e => by injection e with e; omega))
  have hz2 := hx.grown.size
  clear hx HX1 B0
  go_wp2_with fail
  refine (one_any w2 w.heap.size a l c _ 2 (by omega) (by omega) (by omega) HX2.out.cur).mono ?_
  rintro e w3 ⟨v, ⟨b, rfl⟩, rfl, hc, ho⟩
  have HX3 := Lib.hid (HX2.out.step hc ho (by omega))
  have HR3 := Lib.hid (HR2.out.of_block (ho.1.block g1 HR2.out.lt (by intro e; injection e with e; omega)))
  have HB3 := Lib.hid (HB2.out.grown ho.1 HB2.out.size (fun j e => by injection e with e; omega))
  have hz3 : w2.heap.size ≤ w3.heap.size := ho.1.size
  clear hc ho HX2 HR2 HB2
  cases b with
  | false =>
    have HXa := Lib.hid (HX3.out.alloc (.cells ([0, 1, 2, 3, 4, -1].map (Value.int .i64)).toArray 3))
    have HRa := Lib.hid (HR3.out.alloc (.cells ([0, 1, 2, 3, 4, -1].map (Value.int .i64)).toArray 3))
    have HBa := Lib.hid (HB3.out.alloc HB3.out.size (.cells ([0, 1, 2, 3, 4, -1].map (Value.int .i64)).toArray 3))
    clear HX3 HR3 HB3
    go_wp2_with fail
    refine (among_any _ w.heap.size a l c _ _ 6 [0, 1, 2, 3, 4, -1] (by omega) rfl (by omega) (by omega) HXa.out.cur (by omega) (by simp) (by intro k hk; exact lit_ints _ _ _ k hk) 6).mono ?_
    rintro e w5 ⟨v, ⟨f, hf, rfl⟩, rfl, hc, ho⟩
    have HX5 := Lib.hid (HXa.out.step hc ho (by omega))
    have HR5 := Lib.hid (HRa.out.of_block (ho.1.block g1 HRa.out.lt (by intro e; injection e with e; omega)))
    have HB5 := Lib.hid (HBa.out.grown ho.1 HBa.out.size (fun j e => by injection e with e; omega))
    clear hc ho HXa HRa HBa
    go_wp2
    refine bodyPost_ret (v := .tuple #[.slice (some ⟨g1, 0, none⟩) L1.length c1, .int .i64 f, .slice (some ⟨g2, 0, none⟩) L2.length c2]) (by simp [results, Tryd.results6, go_sem]) rfl ⟨g1, c1, g2, c2, L1, L2, f, hL1, hL2, rfl, HR5.out, HX5.out.row, HB5.out⟩
  | true =>
    obtain ⟨W4, hW4⟩ : ∃ W, w3.alloc (.cells #[.int .i64 1, .int .i64 1, .int .i64 2, .int .i64 2, .int .i64 3, .int .i64 0] 49) = W := ⟨_, rfl⟩
    have HC4 := Lib.hid (show CurIs W4 w.heap.size a l c _ by rw [← hW4]; exact HX3.out.cur.alloc _)
    have HR4 := Lib.hid (show Row W4 g1 49 (nv L1) by rw [← hW4]; exact HR3.out.alloc _)
    have HB4 := Lib.hid (show Below w.heap.size w W4 by rw [← hW4]; exact HB3.out.alloc HB3.out.size _)
    have HQ4 := Lib.hid (show Row W4 w3.heap.size 49 (nv [(1, 1), (2, 2), (3, 0)]) by rw [← hW4]; exact row_lit _ _ _)
    have hz4 : w3.heap.size < W4.heap.size := HQ4.out.lt
    have hlt3 := HX3.out.cur.lt
    clear HX3 HR3 HB3
    have HCa := Lib.hid (HC4.out.alloc (.cells ([0, 1, 2, 3, 4, -1].map (Value.int .i64)).toArray 3))
    have HRa := Lib.hid (HR4.out.alloc (.cells ([0, 1, 2, 3, 4, -1].map (Value.int .i64)).toArray 3))
    have HQa := Lib.hid (HQ4.out.alloc (.cells ([0, 1, 2, 3, 4, -1].map (Value.int .i64)).toArray 3))
    have HBa := Lib.hid (HB4.out.alloc HB4.out.size (.cells ([0, 1, 2, 3, 4, -1].map (Value.int .i64)).toArray 3))
    clear HC4 HR4 HB4 HQ4
    go_wp2_with fail
    refine (among_any _ w.heap.size a l c _ _ 6 [0, 1, 2, 3, 4, -1] (by omega) rfl (by omega) (by omega) HCa.out (by omega) (by simp) (by intro k hk; exact lit_ints _ _ _ k hk) 6).mono ?_
    rintro e w5 ⟨v, ⟨f, hf, rfl⟩, rfl, hc, ho⟩
    have HR5 := Lib.hid (HRa.out.of_block (ho.1.block g1 HRa.out.lt (by intro e; injection e with e; omega)))
    have HQ5 := Lib.hid (HQa.out.of_block (ho.1.block w3.heap.size HQa.out.lt (by intro e; injection e with e; omega)))
    have HB5 := Lib.hid (HBa.out.grown ho.1 HBa.out.size (fun j e => by injection e with e; omega))
    clear hc ho HCa HRa HBa HQa
    go_wp2
    refine bodyPost_ret (v := .tuple #[.slice (some ⟨g1, 0, none⟩) L1.length c1, .int .i64 f, .slice (some ⟨w3.heap.size, 0, none⟩) 3 3]) (by simp [results, Tryd.results6, go_sem]) rfl ⟨g1, c1, w3.heap.size, 3, L1, [(1, 1), (2, 2), (3, 0)], f, hL1, by simp, rfl, HR5.out, HQ5.out, HB5.out⟩
end Go.Proofs.YtikglddifoalfaaDoor
namespace Go.Proofs.YtikglddifoalfaaDoor
open Go.RowKit
set_option linter.unusedVariables false
set_option linter.unusedSimpArgs false
theorem flat_root (t : ET) : ∃ body, t.flat = body ++ [(t.kind, t.val)] := by
  cases t with
  | n0 k v => exact ⟨[], rfl⟩
  | n1 k v x => exact ⟨x.flat, rfl⟩
  | n2 k v x y => exact ⟨x.flat ++ y.flat, rfl⟩
theorem root_get {l pre post : List Nd} {t : ET} {i : Nat} (h : l = pre ++ t.flat ++ post) (hi : i + 1 = pre.length + t.flat.length) : ∃ hlt : i < l.length, l[i] = (t.kind, t.val) := by
  obtain ⟨body, hb⟩ := flat_root t
  have hp := flat_pos t
  subst h
  have hlt : i < (pre ++ t.flat ++ post).length := by rw [List.length_append, List.length_append]; omega
  refine ⟨hlt, ?_⟩
  rw [List.getElem_append_left (by rw [List.length_append]; omega), List.getElem_append_right (by have := flat_pos t; omega)]
  have key : ∀ (f : List Nd) (j : Nat) (hj : j < f.length), f = body ++ [(t.kind, t.val)] → j + 1 = f.length → f[j] = (t.kind, t.val) := by
    intro f j hj e hl
    subst e
    rw [List.length_append] at hl
    have : j = body.length := by simpa using hl
    subst this
    simp
  exact key t.flat _ _ hb (by omega)
theorem mostN_is (x y : Int) (w : World) : Calls Tryd.prog 40 #[.int .i64 x, .int .i64 y] w fun e w' => e = .returned (.int .i64 (max x y)) ∧ w = w' := by
  by_cases h : y < x
  · have e : max x y = x := by omega
    rw [e]
    clear e
    go_enter Tryd.func40, Tryd.ntmps40
    go_wp2
    go_ret
    exact ⟨rfl, rfl⟩
  · have e : max x y = y := by omega
    rw [e]
    clear e
    go_enter Tryd.func40, Tryd.ntmps40
    go_wp2
    go_ret
    exact ⟨rfl, rfl⟩

set_option maxRecDepth 100000 in
set_option maxHeartbeats 4000000 in
theorem start_any (a : Option Addr) (l : List Nd) (c : Nat) (hn : l.length ≤ 1048576) : ∀ (t : ET) (pre post : List Nd) (i : Nat), t.ok → l = pre ++ t.flat ++ post → i + 1 = pre.length + t.flat.length → ∀ w : World, Nds w w.heap.size a l →
    Calls Tryd.prog 41 #[.slice a l.length c, .int .i64 (i : Int)] w fun e w' => e = .returned (.int .i64 (pre.length : Int)) ∧ Below w.heap.size w w' := by
  intro t
  induction t with
  | n0 k v =>
    intro pre post i hok hl hi w hnd
    obtain ⟨hlt, hg⟩ := root_get hl hi
    obtain ⟨b, o, rfl, hb, q0, q1⟩ := hnd.at_ hlt
    rw [hg] at q0 q1
    have hip : i = pre.length := by simp [ET.flat] at hi; omega
    subst hip
    have HC := Lib.hid (fun W => specArity_any k v W)
    rw [arI_some (show arity k v = some 0 from hok)] at HC
    simp only [ET.kind, ET.val] at q0 q1
    have i1 : (pre.length : Int) < (l.length : Int) := by omega
    have i0 : (0 : Int) ≤ (pre.length : Int) := by omega
    clear hnd hl hi hg hok
    go_enter Tryd.func41, Tryd.ntmps41
    go_wp2_with (go_at_call 38; refine (HC.out _).mono ?_; rintro e w1 ⟨rfl, b1⟩; have HB := Lib.hid b1; clear b1)
    go_ret
    exact ⟨rfl, HB.out⟩
  | n1 k v x ih =>
    intro pre post i hok hl hi w hnd
    obtain ⟨hlt, hg⟩ := root_get hl hi
    have HND := Lib.hid hnd
    obtain ⟨b, o, rfl, hb, q0, q1⟩ := hnd.at_ hlt
    rw [hg] at q0 q1
    have HC := Lib.hid (fun W => specArity_any k v W)
    rw [arI_some hok.1] at HC
    simp only [ET.kind, ET.val] at q0 q1
    have hp := flat_pos x
    simp only [ET.flat, List.length_append, List.length_singleton] at hi
    obtain ⟨j, hj⟩ : ∃ j, i = j + 1 := ⟨i - 1, by omega⟩
    have HR := Lib.hid (ih pre ((k, v) :: post) j hok.2 (by rw [hl]; simp [ET.flat]) (by omega))
    have i1 : (i : Int) < (l.length : Int) := by omega
    have i0 : (0 : Int) ≤ (i : Int) := by omega
    have ej : (i : Int) - 1 = (j : Int) := by omega
    clear hnd hl hi hg hok ih hj
    go_enter Tryd.func41, Tryd.ntmps41
    go_wp2_with (go_at_call 38; refine (HC.out _).mono ?_; rintro e w1 ⟨rfl, b1⟩; have HB := Lib.hid b1; clear b1)
    refine (HR.out _ (nds_below HND.out HB.out)).mono ?_
    rintro e w2 ⟨rfl, b2⟩
    have HB2 := Lib.hid (below_thenN HB.out b2)
    clear b2
    go_wp2
    go_ret
    exact ⟨rfl, HB2.out⟩
  | n2 k v x y ih1 ih2 =>
    intro pre post i hok hl hi w hnd
    obtain ⟨hlt, hg⟩ := root_get hl hi
    have HND := Lib.hid hnd
    obtain ⟨b, o, rfl, hb, q0, q1⟩ := hnd.at_ hlt
    rw [hg] at q0 q1
    have HC := Lib.hid (fun W => specArity_any k v W)
    rw [arI_some hok.1] at HC
    simp only [ET.kind, ET.val] at q0 q1
    have hpx := flat_pos x
    have hpy := flat_pos y
    simp only [ET.flat, List.length_append, List.length_singleton] at hi
    obtain ⟨j, hj⟩ : ∃ j, i = j + 1 := ⟨i - 1, by omega⟩
    obtain ⟨s, hs⟩ : ∃ s, pre.length + x.flat.length = s + 1 := ⟨pre.length + x.flat.length - 1, by omega⟩
    have HR2 := Lib.hid (ih2 (pre ++ x.flat) ((k, v) :: post) j hok.2.2 (by rw [hl]; simp [ET.flat]) (by rw [List.length_append]; omega))
    rw [List.length_append, hs] at HR2
    have HR1 := Lib.hid (ih1 pre (y.flat ++ (k, v) :: post) s hok.2.1 (by rw [hl]; simp [ET.flat]) (by omega))
    have i1 : (i : Int) < (l.length : Int) := by omega
    have i0 : (0 : Int) ≤ (i : Int) := by omega
    have ej : (i : Int) - 1 = (j : Int) := by omega
    have hs9 : s + 1 ≤ l.length := by omega
    clear hnd hl hi hg hok ih1 ih2 hj hs
    go_enter Tryd.func41, Tryd.ntmps41
    go_wp2_with (go_at_call 38; refine (HC.out _).mono ?_; rintro e w1 ⟨rfl, b1⟩; have HB := Lib.hid b1; clear b1)
    refine (HR2.out _ (nds_below HND.out HB.out)).mono ?_
    rintro e w2 ⟨rfl, b2⟩
    have HB2 := Lib.hid (below_thenN HB.out b2)
    clear b2
    have es : ((s + 1 : Nat) : Int) - 1 = (s : Int) := by omega
    go_wp2_with fail
    refine (HR1.out _ (nds_below HND.out HB2.out)).mono ?_
    rintro e w3 ⟨rfl, b3⟩
    have HB3 := Lib.hid (below_thenN HB2.out b3)
    clear b3
    go_wp2
    go_ret
    exact ⟨rfl, HB3.out⟩

set_option maxRecDepth 100000 in
set_option maxHeartbeats 4000000 in
theorem sdepth_any (a : Option Addr) (l : List Nd) (c : Nat) (hn : l.length ≤ 1048576) : ∀ (t : ET) (pre post : List Nd) (i : Nat), t.ok → l = pre ++ t.flat ++ post → i + 1 = pre.length + t.flat.length → ∀ w : World, Nds w w.heap.size a l →
    Calls Tryd.prog 30 #[.slice a l.length c, .int .i64 (i : Int)] w fun e w' => e = .returned (.int .i64 (t.depth : Int)) ∧ Below w.heap.size w w' := by
  intro t
  induction t with
  | n0 k v =>
    intro pre post i hok hl hi w hnd
    obtain ⟨hlt, hg⟩ := root_get hl hi
    obtain ⟨b, o, rfl, hb, q0, q1⟩ := hnd.at_ hlt
    rw [hg] at q0 q1
    have HC := Lib.hid (fun W => specArity_any k v W)
    rw [arI_some (show arity k v = some 0 from hok)] at HC
    simp only [ET.kind, ET.val] at q0 q1
    have i1 : (i : Int) < (l.length : Int) := by omega
    have i0 : (0 : Int) ≤ (i : Int) := by omega
    clear hnd hl hi hg hok
    go_enter Tryd.func30, Tryd.ntmps30
    go_wp2_with (go_at_call 38; refine (HC.out _).mono ?_; rintro e w1 ⟨rfl, b1⟩; have HB := Lib.hid b1; clear b1)
    go_ret
    exact ⟨rfl, HB.out⟩
  | n1 k v x ih =>
    intro pre post i hok hl hi w hnd
    obtain ⟨hlt, hg⟩ := root_get hl hi
    have HND := Lib.hid hnd
    obtain ⟨b, o, rfl, hb, q0, q1⟩ := hnd.at_ hlt
    rw [hg] at q0 q1
    have HC := Lib.hid (fun W => specArity_any k v W)
    rw [arI_some hok.1] at HC
    simp only [ET.kind, ET.val] at q0 q1
    have hp := flat_pos x
    have hd := depth_le x
    simp only [ET.flat, List.length_append, List.length_singleton] at hi
    obtain ⟨j, hj⟩ : ∃ j, i = j + 1 := ⟨i - 1, by omega⟩
    have HR := Lib.hid (ih pre ((k, v) :: post) j hok.2 (by rw [hl]; simp [ET.flat]) (by omega))
    have i1 : (i : Int) < (l.length : Int) := by omega
    have i0 : (0 : Int) ≤ (i : Int) := by omega
    have ej : (i : Int) - 1 = (j : Int) := by omega
    have hdx : x.depth ≤ 1048576 := by omega
    obtain ⟨dx, hdx'⟩ : ∃ q, x.depth = q := ⟨_, rfl⟩
    have R := Lib.hid (show (ET.n1 k v x).depth = dx + 1 by rw [← hdx']; rfl)
    rw [hdx'] at HR hdx
    clear hnd hl hi hg hok ih hj hd hdx'
    go_enter Tryd.func30, Tryd.ntmps30
    go_wp2_with (go_at_call 38; refine (HC.out _).mono ?_; rintro e w1 ⟨rfl, b1⟩; have HB := Lib.hid b1; clear b1)
    refine (HR.out _ (nds_below HND.out HB.out)).mono ?_
    rintro e w2 ⟨rfl, b2⟩
    have HB2 := Lib.hid (below_thenN HB.out b2)
    clear b2
    go_wp2
    go_ret
    exact ⟨by rw [R.out]; go_num, HB2.out⟩
  | n2 k v x y ih1 ih2 =>
    intro pre post i hok hl hi w hnd
    obtain ⟨hlt, hg⟩ := root_get hl hi
    have HND := Lib.hid hnd
    obtain ⟨b, o, rfl, hb, q0, q1⟩ := hnd.at_ hlt
    rw [hg] at q0 q1
    have HC := Lib.hid (fun W => specArity_any k v W)
    rw [arI_some hok.1] at HC
    simp only [ET.kind, ET.val] at q0 q1
    have hpx := flat_pos x
    have hpy := flat_pos y
    have hdx := depth_le x
    have hdy := depth_le y
    simp only [ET.flat, List.length_append, List.length_singleton] at hi
    obtain ⟨j, hj⟩ : ∃ j, i = j + 1 := ⟨i - 1, by omega⟩
    obtain ⟨s, hs⟩ : ∃ s, pre.length + x.flat.length = s + 1 := ⟨pre.length + x.flat.length - 1, by omega⟩
    have e2 : l = (pre ++ x.flat) ++ y.flat ++ ((k, v) :: post) := by rw [hl]; simp [ET.flat]
    have HR2 := Lib.hid (ih2 (pre ++ x.flat) ((k, v) :: post) j hok.2.2 e2 (by rw [List.length_append]; omega))
    have HST := Lib.hid (start_any (some ⟨b, o, none⟩) l c hn y (pre ++ x.flat) ((k, v) :: post) j hok.2.2 e2 (by rw [List.length_append]; omega))
    rw [List.length_append, hs] at HST
    have HR1 := Lib.hid (ih1 pre (y.flat ++ (k, v) :: post) s hok.2.1 (by rw [hl]; simp [ET.flat]) (by omega))
    have i1 : (i : Int) < (l.length : Int) := by omega
    have i0 : (0 : Int) ≤ (i : Int) := by omega
    have ej : (i : Int) - 1 = (j : Int) := by omega
    have hs9 : s + 1 ≤ l.length := by omega
    have hdx2 : x.depth ≤ 1048576 := by omega
    have hdy2 : y.depth ≤ 1048576 := by omega
    obtain ⟨dx, hdx'⟩ : ∃ q, x.depth = q := ⟨_, rfl⟩
    obtain ⟨dy, hdy'⟩ : ∃ q, y.depth = q := ⟨_, rfl⟩
    have R := Lib.hid (show (ET.n2 k v x y).depth = max dx dy + 1 by rw [← hdx', ← hdy']; rfl)
    rw [hdx'] at HR1 hdx2
    rw [hdy'] at HR2 hdy2
    clear hnd hl hi hg hok ih1 ih2 hj hs hdx hdy hdx' hdy' e2
    go_enter Tryd.func30, Tryd.ntmps30
    go_wp2_with (go_at_call 38; refine (HC.out _).mono ?_; rintro e w1 ⟨rfl, b1⟩; have HB := Lib.hid b1; clear b1)
    refine (HR2.out _ (nds_below HND.out HB.out)).mono ?_
    rintro e w2 ⟨rfl, b2⟩
    have HB2 := Lib.hid (below_thenN HB.out b2)
    clear b2
    have es : ((s + 1 : Nat) : Int) - 1 = (s : Int) := by omega
    go_wp2_with fail
    refine (HST.out _ (nds_below HND.out HB2.out)).mono ?_
    rintro e w3 ⟨rfl, b3⟩
    have HB3 := Lib.hid (below_thenN HB2.out b3)
    clear b3
    go_wp2_with fail
    refine (HR1.out _ (nds_below HND.out HB3.out)).mono ?_
    rintro e w4 ⟨rfl, b4⟩
    have HB4 := Lib.hid (below_thenN HB3.out b4)
    clear b4
    go_wp2_with fail
    refine (mostN_is (dy : Int) (dx : Int) w4).mono ?_
    rintro e w5 ⟨rfl, rfl⟩
    obtain ⟨mx, hmx⟩ : ∃ q : Nat, max dx dy = q := ⟨_, rfl⟩
    have hmx2 : max (dy : Int) (dx : Int) = (mx : Int) := by omega
    have hmx3 : mx ≤ 1048576 := by omega
    rw [hmx] at R
    rw [hmx2]
    clear hmx hmx2
    go_wp2
    go_ret
    exact ⟨by rw [R.out]; go_num, HB4.out⟩

set_option maxRecDepth 100000 in
set_option maxHeartbeats 4000000 in
theorem specDepth_any (a : Option Addr) (l : List Nd) (c : Nat) (w : World) (hl : Nds w w.heap.size a l) (hn : l.length ≤ 1048576) :
    Calls Tryd.prog 11 #[.slice a l.length c] w fun e w' => e = .returned (.tuple #[.int .i64 (depR l), .bool (exprB l)]) ∧ Below w.heap.size w w' := by
  have HC := Lib.hid (fun W h => specExprGood_any a l c W h hn)
  have HL := Lib.hid hl
  have HE := Lib.hid (exprB_tree l)
  clear hl
  cases ht : treeT l with
  | none =>
    have hb : exprB l = false := by rw [HE.out, ht]; rfl
    have hd : depR l = 0 := by unfold depR; rw [ht]
    rw [hb] at HC ⊢
    rw [hd]
    clear hb hd ht
    go_enter Tryd.func11, Tryd.ntmps11
    go_wp2_with fail
    refine (HC.out _ HL.out).mono ?_
    rintro e w1 ⟨rfl, b1⟩
    have HB := Lib.hid b1
    clear b1
    go_wp2
    go_ret2
    exact ⟨rfl, HB.out⟩
  | some t =>
    have hb : exprB l = true := by rw [HE.out, ht]; rfl
    have hd : depR l = (t.depth : Int) := by unfold depR; rw [ht]
    obtain ⟨h15, hf, hok⟩ := treeT_some ht
    have hp := flat_pos t
    rw [hf] at hp
    obtain ⟨j, hj⟩ : ∃ j, l.length = j + 1 := ⟨l.length - 1, by omega⟩
    have HD := Lib.hid (sdepth_any a l c hn t [] [] j hok (by simp [hf]) (by rw [hf, hj]; simp))
    rw [hb] at HC ⊢
    rw [hd]
    have ej : (l.length : Int) - 1 = (j : Int) := by omega
    clear hb hd ht hf hok hp hj
    go_enter Tryd.func11, Tryd.ntmps11
    go_wp2_with fail
    refine (HC.out _ HL.out).mono ?_
    rintro e w1 ⟨rfl, b1⟩
    have HB := Lib.hid b1
    clear b1
    go_wp2_with fail
    refine (HD.out _ (nds_below HL.out HB.out)).mono ?_
    rintro e w2 ⟨rfl, b2⟩
    have HB2 := Lib.hid (below_thenN HB.out b2)
    clear b2
    go_wp2
    go_ret2
    exact ⟨rfl, HB2.out⟩
end Go.Proofs.YtikglddifoalfaaDoor
namespace Go.Proofs.YtikglddifoalfaaDoor
set_option linter.unusedVariables false
set_option linter.unusedSimpArgs false
/-- a tree with a field replaced by a tree -/
def subT (f : Int) (tb : ET) : ET → ET
  | .n0 k v => if k = 1 ∧ v = f then tb else .n0 k v
  | .n1 k v x => .n1 k v (subT f tb x)
  | .n2 k v x y => .n2 k v (subT f tb x) (subT f tb y)
theorem subT_depth (f : Int) (tb : ET) : ∀ t : ET, t.depth ≤ (subT f tb t).depth
  | .n0 k v => by
    unfold subT
    split
    · have := (depth_le tb).2; simpa [ET.depth] using this
    · exact Nat.le_refl _
  | .n1 k v x => by have := subT_depth f tb x; simp only [subT, ET.depth]; omega
  | .n2 k v x y => by have := subT_depth f tb x; have := subT_depth f tb y; simp only [subT, ET.depth]; omega
theorem pushT_frame (s st : List ET) (p : Nd) (a : Nat) (h : a ≤ st.length) : pushT (s ++ st) p a = s ++ pushT st p a := by
  unfold pushT
  rw [List.length_append, show s.length + st.length - a = s.length + (st.length - a) by omega, List.take_append, List.drop_append]
  rw [List.take_of_length_le (by omega), List.drop_of_length_le (by omega), show s.length + (st.length - a) - s.length = st.length - a by omega, List.nil_append, List.append_assoc]
theorem run_frame : ∀ (l : List Nd) (st st' s : List ET), run l st = some st' → run l (s ++ st) = some (s ++ st')
  | [], st, st', s, h => by injection h with h; subst h; rfl
  | p :: r, st, st', s, h => by
    unfold run at h ⊢
    cases ha : arity p.1 p.2 with
    | none => rw [ha] at h; cases h
    | some a =>
      rw [ha] at h
      simp only at h ⊢
      by_cases hn : a ≤ st.length
      · rw [if_pos hn] at h
        rw [if_pos (by rw [List.length_append]; omega), pushT_frame s st p a hn]
        exact run_frame r _ _ s h
      · rw [if_neg hn] at h; cases h
theorem mkT_sub (f : Int) (tb : ET) (k v : Int) (h : ¬ (k = 1 ∧ v = f)) : ∀ (l : List ET), mkT k v (l.map (subT f tb)) = subT f tb (mkT k v l)
  | [] => by show ET.n0 k v = subT f tb (ET.n0 k v); unfold subT; rw [if_neg h]
  | [x] => rfl
  | x :: y :: _ => rfl
theorem pushT_sub (f : Int) (tb : ET) (st : List ET) (p : Nd) (a : Nat) (h : ¬ (p.1 = 1 ∧ p.2 = f)) : pushT (st.map (subT f tb)) p a = (pushT st p a).map (subT f tb) := by
  unfold pushT
  rw [List.map_append, List.length_map, List.map_take, List.map_cons, List.map_nil, ← mkT_sub f tb p.1 p.2 h, List.map_drop]
theorem run_sub {f : Int} {b : List Nd} {tb : ET} (h0 : 0 ≤ f) (h3 : f ≤ 3) (hb : run b [] = some [tb]) : ∀ (l : List Nd) (st st' : List ET), run l st = some st' → run (replR l f b) (st.map (subT f tb)) = some (st'.map (subT f tb))
  | [], st, st', h => by injection h with h; subst h; rfl
  | p :: r, st, st', h => by
    show run (oneR p f b ++ replR r f b) _ = _
    rw [run_append]
    have e : run (p :: r) st = (run [p] st).bind (run r) := run_append [p] r st
    rw [e] at h
    cases hp : run [p] st with
    | none => rw [hp] at h; cases h
    | some s1 =>
      rw [hp] at h
      have ih := run_sub h0 h3 hb r s1 st' h
      have hq : run (oneR p f b) (st.map (subT f tb)) = some (s1.map (subT f tb)) := by
        unfold run at hp
        by_cases h9 : p.1 = 1 ∧ p.2 = f
        · rw [oneR_yes h9.1 h9.2]
          have ha : arity p.1 p.2 = some 0 := by rw [h9.1, h9.2]; unfold arity; rw [if_pos rfl, if_pos ⟨h0, h3⟩]
          rw [ha] at hp
          simp only [Nat.zero_le, if_true] at hp
          have hp2 : pushT st p 0 = s1 := by injection hp
          subst hp2
          have hf := run_frame b [] [tb] (st.map (subT f tb)) hb
          rw [List.append_nil] at hf
          rw [hf]
          unfold pushT
          rw [List.map_append, Nat.sub_zero, List.take_length, List.drop_length, List.map_cons, List.map_nil]
          show some (_ ++ [tb]) = some (_ ++ [subT f tb (ET.n0 p.1 p.2)])
          unfold subT
          rw [if_pos h9]
        · rw [oneR_no h9]
          cases ha : arity p.1 p.2 with
          | none => rw [ha] at hp; cases hp
          | some a =>
            rw [ha] at hp
            simp only at hp
            by_cases hn : a ≤ st.length
            · rw [if_pos hn] at hp
              have hp2 : pushT st p a = s1 := by injection hp
              subst hp2
              unfold run
              rw [ha]
              simp only
              rw [if_pos (by rw [List.length_map]; exact hn), pushT_sub f tb st p a h9]
              rfl
            · rw [if_neg hn] at hp; cases hp
      rw [hq]
      exact ih
theorem treeT_run {l : List Nd} {t : ET} (h : treeT l = some t) : run l [] = some [t] := by
  unfold treeT at h
  split at h
  · split at h
    · rename_i heq; injection h with h; subst h; exact heq
    · cases h
  · cases h
/-- the depth does not fall -/
theorem repl_depth {l : List Nd} {f : Int} {b : List Nd} (h : replB l f b = true) : depR l ≤ depR (replR l f b) := by
  unfold replB inF at h
  simp only [Bool.and_eq_true, decide_eq_true_eq] at h
  obtain ⟨⟨⟨h1, h2⟩, h0, h3⟩, h4⟩ := h
  rw [exprB_tree, Option.isSome_iff_exists] at h1 h2
  obtain ⟨t, ht⟩ := h1
  obtain ⟨tb, htb⟩ := h2
  have hr := run_sub h0 h3 (treeT_run htb) l [] [t] (treeT_run ht)
  have hm : treeT (replR l f b) = some (subT f tb t) := treeT_one h4 hr
  unfold depR
  rw [ht, hm]
  have := subT_depth f tb t
  show (t.depth : Int) ≤ ((subT f tb t).depth : Int)
  omega
/-- the fields used -/
theorem repl_has (l : List Nd) (f : Int) (b : List Nd) (x : Int) : hasN (replR l f b) 1 x = ((hasN l 1 x && decide (x ≠ f)) || (hasN l 1 f && hasN b 1 x)) := by
  rw [Bool.eq_iff_iff]
  simp only [hasN, List.any_eq_true, Bool.and_eq_true, Bool.or_eq_true, decide_eq_true_eq, beq_iff_eq]
  unfold replR
  simp only [List.mem_flatMap]
  constructor
  · rintro ⟨q, ⟨p, hp, hq⟩, q1, q2⟩
    unfold oneR at hq
    split at hq
    · rename_i h9
      exact .inr ⟨⟨p, hp, h9.1, h9.2⟩, ⟨q, hq, q1, q2⟩⟩
    · rename_i h9
      rw [List.mem_singleton] at hq
      subst hq
      exact .inl ⟨⟨q, hp, q1, q2⟩, fun e => h9 ⟨q1, by rw [q2, e]⟩⟩
  · rintro (⟨⟨p, hp, p1, p2⟩, hne⟩ | ⟨⟨p, hp, p1, p2⟩, ⟨q, hq, q1, q2⟩⟩)
    · refine ⟨p, ⟨p, hp, ?_⟩, p1, p2⟩
      unfold oneR
      rw [if_neg (fun h => hne (by rw [← p2, h.2]))]
      simp
    · refine ⟨q, ⟨p, hp, ?_⟩, q1, q2⟩
      unfold oneR
      rw [if_pos ⟨p1, p2⟩]
      exact hq
def hasZ (L : List Int) (x : Int) : Bool := L.any fun z => decide (z = x)
theorem used_has (l : List Nd) {x : Nat} (hx : x < 4) : hasZ (usedU l 4) (x : Int) = hasN l 1 (x : Int) := by
  rw [used_four]
  have : x = 0 ∨ x = 1 ∨ x = 2 ∨ x = 3 := by omega
  rcases this with rfl | rfl | rfl | rfl <;> cases hasN l 1 0 <;> cases hasN l 1 1 <;> cases hasN l 1 2 <;> cases hasN l 1 3 <;> decide
theorem used_out (l : List Nd) {f : Int} (h : ¬ (0 ≤ f ∧ f ≤ 3)) : hasZ (usedU l 4) f = false := by
  rw [used_four]
  cases hasN l 1 0 <;> cases hasN l 1 1 <;> cases hasN l 1 2 <;> cases hasN l 1 3 <;> simp [four, hasZ] <;> omega
end Go.Proofs.YtikglddifoalfaaDoor
namespace Go.Proofs.YtikglddifoalfaaDoor
open Go.RowKit
set_option linter.unusedVariables false
set_option linter.unusedSimpArgs false
set_option maxHeartbeats 1000000 in
theorem vNodes_yes (a a' : Option Addr) (l : List Nd) (c c' : Nat) (w : World) (hl : Nds w w.heap.size a l) (hl' : Nds w w.heap.size a' l) (hn : l.length ≤ 1048576) :
    Calls Tryd.prog 9 #[.slice a l.length c, .slice a' l.length c'] w fun e w' => e = .returned (.bool true) ∧ Below w.heap.size w w' := by
  have HL := Lib.hid hl
  have HL' := Lib.hid hl'
  clear hl hl'
  go_enter Tryd.func9, Tryd.ntmps9
  go_wp2
  go_loopw [5] (fun i wr => ∃ k : Nat, k ≤ l.length ∧ i = .int .i64 k ∧ Below w.heap.size w wr) (fun i _ => l.length - (intOf i).toNat)
  case atStart => exact ⟨0, Nat.zero_le _, rfl, Below.refl _ _⟩
  case round =>
    obtain ⟨k, hk, rfl, hB⟩ := hrel
    have HB := Lib.hid hB
    by_cases hlt : k < l.length
    · obtain ⟨b, o, rfl, hb, q0, q1⟩ := (HL.out.below hB (Nat.le_refl _)).at_ hlt
      obtain ⟨b', o', rfl, hb', p0, p1⟩ := (HL'.out.below hB (Nat.le_refl _)).at_ hlt
      clear hB
      have hi : (k : Int) < (l.length : Int) := by omega
      have hi0 : (0 : Int) ≤ (k : Int) := by omega
      generalize l[k].1 = x at *
      generalize l[k].2 = y at *
      go_wp2_with fail
      go_quiet (fail)
      go_wp2
      go_roundw
      case rel => exact ⟨k + 1, by omega, by go_num, by first | exact HB.out.drew | exact HB.out.trans ((Drew.more (Drew.refl _) _).below _)⟩
      case measure => simp [intOf]; omega
    · have hge : ¬ (k : Int) < (l.length : Int) := by omega
      clear hB
      go_wp2
      go_ret
      exact ⟨rfl, HB.out⟩
theorem hasZ_at {L : List Int} {k : Nat} {x : Int} (hk : k < L.length) (h : L[k] = x) : hasZ L x = true := by
  unfold hasZ; rw [List.any_eq_true]; exact ⟨L[k], List.getElem_mem hk, decide_eq_true h⟩
theorem hasZ_no {L : List Int} {x : Int} (h : ∀ k (hk : k < L.length), ¬ L[k] = x) : hasZ L x = false := by
  unfold hasZ; rw [List.any_eq_false]; intro z hz
  obtain ⟨k, hk, rfl⟩ := List.getElem_of_mem hz
  simpa using h k hk
set_option maxHeartbeats 1000000 in
theorem vHas_any (a : Option Addr) (l : List Int) (c : Nat) (x : Int) (w : World) (hl : Ints .i64 w w.heap.size a l) (hn : l.length ≤ 1048576) :
    Calls Tryd.prog 13 #[.slice a l.length c, .int .i64 x] w fun e w' => e = .returned (.bool (hasZ l x)) ∧ w = w' := by
  have HL := Lib.hid hl
  clear hl
  go_enter Tryd.func13, Tryd.ntmps13
  go_wp2
  go_loopw [5] (fun i wr => ∃ k : Nat, k ≤ l.length ∧ i = .int .i64 k ∧ (∀ j (hj : j < l.length), j < k → ¬ l[j] = x) ∧ w = wr) (fun i _ => l.length - (intOf i).toNat)
  case atStart => exact ⟨0, Nat.zero_le _, rfl, by intro j _ h; omega, rfl⟩
  case round =>
    obtain ⟨k, hk, rfl, hno, rfl⟩ := hrel
    have HNO := Lib.hid hno
    clear hno
    by_cases hlt : k < l.length
    · obtain ⟨b, o, rfl, hb, q0⟩ := HL.out.at_ hlt
      have hi : (k : Int) < (l.length : Int) := by omega
      have hi0 : (0 : Int) ≤ (k : Int) := by omega
      have HAT := Lib.hid (hasZ_at (x := x) hlt)
      have HN2 := Lib.hid (fun (h : ¬ l[k] = x) (j : Nat) (hj : j < l.length) (hjk : j < k + 1) => (show ¬ l[j] = x from by
        by_cases hjk2 : j < k
        · exact HNO.out j hj hjk2
        · obtain rfl : j = k := by omega
          exact h))
      generalize l[k] = z at *
      by_cases hz : z = x
      · have HY := Lib.hid (HAT.out hz)
        subst hz
        go_wp2
        go_ret
        exact ⟨by rw [HY.out]; rfl, rfl⟩
      · have HY := Lib.hid (HN2.out hz)
        have hb0 : (z == x) = false := by rw [beq_eq_false_iff_ne]; exact hz
        clear hz
        go_wp2
        go_roundw
        case rel => exact ⟨k + 1, by omega, by go_num, HY.out, by simp⟩
        case measure => simp [intOf]; omega
    · have hge : ¬ (k : Int) < (l.length : Int) := by omega
      have HY := Lib.hid (hasZ_no fun j hj => HNO.out j hj (by omega))
      clear hlt
      go_wp2
      go_ret
      exact ⟨by rw [HY.out]; rfl, rfl⟩
end Go.Proofs.YtikglddifoalfaaDoor
namespace Go.Proofs.YtikglddifoalfaaDoor
open Go.RowKit
set_option linter.unusedVariables false
set_option linter.unusedSimpArgs false
set_option maxRecDepth 100000 in
set_option maxHeartbeats 2000000 in
theorem specRepl_any (a : Option Addr) (l : List Nd) (c : Nat) (f : Int) (ab : Option Addr) (b : List Nd) (cb : Nat) (w : World) (hl : Nds w w.heap.size a l) (hb : Nds w w.heap.size ab b) (hn : l.length ≤ 1048576) (hnb : b.length ≤ 1048576) :
    Calls Tryd.prog 8 #[.slice a l.length c, .int .i64 f, .slice ab b.length cb] w (RPost l f b w) := by
  obtain ⟨i0, hi0', hz0, hz1, hz2⟩ := info_parts infoNode
  have HL := Lib.hid hl
  have HBY := Lib.hid hb
  have HE1 := Lib.hid (fun W h => specExprGood_any a l c W h hn)
  have HE2 := Lib.hid (fun W h => specExprGood_any ab b cb W h hnb)
  unfold RPost
  clear hl hb
  have B0 := Lib.hid (below_all w (.cells #[] 49))
  cases h1 : exprB l with
  | false =>
    have hr : replB l f b = false := by unfold replB; rw [h1]; rfl
    rw [repl_no hr, hr]
    rw [h1] at HE1
    clear h1 hr
    go_enter Tryd.func8, Tryd.ntmps8
    go_wp2_with fail
    refine (HE1.out _ (nds_below HL.out B0.out)).mono ?_
    rintro e w1 ⟨rfl, b1⟩
    have B1 := Lib.hid (below_then B0.out b1)
    clear b1
    go_wp2
    go_ret2
    exact ⟨_, _, rfl, OwnN.none_, B1.out⟩
  | true =>
    rw [h1] at HE1
    cases h2 : exprB b with
    | false =>
      have hr : replB l f b = false := by unfold replB; rw [h1, h2]; rfl
      rw [repl_no hr, hr]
      rw [h2] at HE2
      clear h1 h2 hr
      go_enter Tryd.func8, Tryd.ntmps8
      go_wp2_with fail
      refine (HE1.out _ (nds_below HL.out B0.out)).mono ?_
      rintro e w1 ⟨rfl, b1⟩
      have B1 := Lib.hid (below_then B0.out b1)
      clear b1
      go_wp2_with fail
      refine (HE2.out _ (nds_below HBY.out B1.out)).mono ?_
      rintro e w2 ⟨rfl, b2⟩
      have B2 := Lib.hid (below_then B1.out b2)
      clear b2
      go_wp2
      go_ret2
      exact ⟨_, _, rfl, OwnN.none_, B2.out⟩
    | true =>
      rw [h2] at HE2
      cases h3 : inF f with
      | false =>
        have hr : replB l f b = false := by unfold replB; rw [h1, h2, h3]; rfl
        rw [repl_no hr, hr]
        have HI := Lib.hid (fun W => l1In_is f 0 3 false W (by rw [← h3]; rfl))
        clear h1 h2 h3 hr
        go_enter Tryd.func8, Tryd.ntmps8
        go_wp2_with fail
        refine (HE1.out _ (nds_below HL.out B0.out)).mono ?_
        rintro e w1 ⟨rfl, b1⟩
        have B1 := Lib.hid (below_then B0.out b1)
        clear b1
        go_wp2_with fail
        refine (HE2.out _ (nds_below HBY.out B1.out)).mono ?_
        rintro e w2 ⟨rfl, b2⟩
        have B2 := Lib.hid (below_then B1.out b2)
        clear b2
        go_wp2_with fail
        refine (HI.out _).mono ?_
        rintro e w3 ⟨rfl, rfl⟩
        go_wp2
        go_ret2
        exact ⟨_, _, rfl, OwnN.none_, B2.out⟩
      | true =>
        obtain ⟨r1, r2, r3, r4⟩ := repl_expr h1 h2 h3
        have HR1 := Lib.hid r1
        have HVR := Lib.hid (repl_both r2)
        have HNE := Lib.hid (expr_ne h2)
        have HLE := Lib.hid (fun k => replR_le (f := f) r4 (l.take k))
        have HI := Lib.hid (fun W => l1In_is f 0 3 true W (by rw [← h3]; rfl))
        clear h1 h2 h3 r1 r2
        generalize replB l f b = v at *
        generalize replL l f b = rl at *
        go_enter Tryd.func8, Tryd.ntmps8
        go_wp2_with fail
        refine (HE1.out _ (nds_below HL.out B0.out)).mono ?_
        rintro e w1 ⟨rfl, b1⟩
        have B1 := Lib.hid (below_then B0.out b1)
        have O1 := Lib.hid (own2_keeps (World.ownsRow_made (base := w.heap.size) (e := 49) (size := 2) w #[] 0 (Nat.le_refl _) (by simp) rfl) b1)
        clear b1
        go_wp2_with fail
        refine (HE2.out _ (nds_below HBY.out B1.out)).mono ?_
        rintro e w2 ⟨rfl, b2⟩
        have B2 := Lib.hid (below_then B1.out b2)
        have O2 := Lib.hid (own2_keeps O1.out b2)
        clear b2 B1 O1
        go_wp2_with fail
        refine (HI.out _).mono ?_
        rintro e w3 ⟨rfl, rfl⟩
        clear HE1 HI
        go_wp2
        go_loopw [8, 9] (fun out i wr => ∃ k : Nat, k ≤ l.length ∧ i = .int .i64 k ∧ wr.ownsRow w.heap.size 49 2 out (replR (l.take k) f b).length (nv (replR (l.take k) f b)) ∧ Below w.heap.size w wr) (fun _ i _ => l.length - (intOf i).toNat)
        case atStart => exact ⟨0, Nat.zero_le _, rfl, by rw [replR_zero]; exact O2.out, B2.out⟩
        case round =>
          obtain ⟨k, hk, rfl, hown, hB⟩ := hrel
          have HO := Lib.hid hown
          have HB := Lib.hid hB
          have hlen := HLE.out k
          have hlt15 : (l.take k).length ≤ 15 := by rw [List.length_take]; omega
          have HLEN := Lib.hid (show (replR (l.take k) f b).length ≤ 225 by omega)
          clear hown hB hlen hlt15 O2 B2
          by_cases hlt : k < l.length
          · have hi : (k : Int) < (l.length : Int) := by omega
            have hi0 : (0 : Int) ≤ (k : Int) := by omega
            obtain ⟨bk, o, rfl, hbk, c0, c1⟩ := (nds_below HL.out HB.out).at_ hlt
            have HS := Lib.hid (replR_step (f := f) (b := b) hlt)
            generalize replR (l.take k) f b = rs at *
            have HSZ := Lib.hid HB.out.size
            have HYS := Lib.hid (oneR_yes (p := l[k]) (f := f) (b := b))
            have HNO := Lib.hid (oneR_no (p := l[k]) (f := f) (b := b))
            generalize oneR l[k] f b = one at *
            have HPP := Lib.hid (show l[k] = (l[k].1, l[k].2) from rfl)
            generalize l[k].1 = x at *
            generalize l[k].2 = y at *
            by_cases hx : x = 1 ∧ y = f
            · obtain ⟨rfl, rfl⟩ := hx
              obtain ⟨bb, ob, rfl, _⟩ : ∃ bb ob, ab = some ⟨bb, ob, none⟩ ∧ True := by
                rcases HBY.out with hnil | ⟨bb, ob, e, _⟩
                · exact absurd hnil HNE.out
                · exact ⟨bb, ob, e, trivial⟩
              have HNW := Lib.hid (nds_news (nds_below HBY.out HB.out))
              have HY := Lib.hid (HYS.out rfl rfl)
              go_wp2_with (at_builtin; refine wpList_append_own _ rfl _ _ 24 rfl w.heap.size 49 i0 _ 2 16 Tryd.underlying24 hi0' hz0 hz1 hz2 rfl (by decide) _ rs.length (nv rs) rfl HO.out ⟨bb, ob, none⟩ b.length cb (nv b) rfl (nv_length b) HNW.out (nv_one b) (by have := HLEN.out; unfold maxLen; omega) (by have := HLEN.out; omega) HSZ.out ?_; intro v' w4 hown' hgrow _; have HO4 := Lib.hid hown'; have HG4 := Lib.hid hgrow; clear hown' hgrow)
              go_roundw
              case rel => exact ⟨k + 1, by omega, by go_num, by rw [HS.out, HY.out, nv_append, List.length_append]; exact HO4.out, HB.out.grown HG4.out HSZ.out (fun k hk => (HO.out.lt k hk).1)⟩
              case measure => simp [intOf]; omega
            · have HY := Lib.hid (HNO.out hx)
              by_cases hx1 : x = 1
              · subst hx1
                have e2 : (y == f) = false := by rw [beq_eq_false_iff_ne]; intro e; exact hx ⟨rfl, e⟩
                clear hx
                go_wp2_with (at_builtin; refine wpList_append_own _ rfl _ _ 24 rfl w.heap.size 49 i0 _ 2 16 Tryd.underlying24 hi0' hz0 hz1 hz2 rfl (by decide) _ rs.length (nv rs) rfl (HO.out.alloc _) ⟨wr.heap.size, 0, none⟩ 1 1 [.int .i64 1, .int .i64 y] rfl rfl (World.news_of_block (heap_alloc_new _ _)) (by simp [Value.oneCell']) (by have := HLEN.out; unfold maxLen; omega) (by have := HLEN.out; omega) (by have := HSZ.out; simp; omega) ?_; intro v' w4 hown' hgrow _; have HO4 := Lib.hid hown'; have HG4 := Lib.hid hgrow; clear hown' hgrow)
                go_roundw
                case rel => exact ⟨k + 1, by omega, by go_num, by rw [HS.out, HY.out, HPP.out, nv_append, List.length_append]; exact HO4.out, (HB.out.alloc HSZ.out _).grown HG4.out (by have := HSZ.out; simp; omega) (fun k hk => (HO.out.lt k hk).1)⟩
                case measure => simp [intOf]; omega
              · have e1 : (x == 1) = false := by rw [beq_eq_false_iff_ne]; exact hx1
                clear hx hx1
                go_wp2_with (at_builtin; refine wpList_append_own _ rfl _ _ 24 rfl w.heap.size 49 i0 _ 2 16 Tryd.underlying24 hi0' hz0 hz1 hz2 rfl (by decide) _ rs.length (nv rs) rfl (HO.out.alloc _) ⟨wr.heap.size, 0, none⟩ 1 1 [.int .i64 x, .int .i64 y] rfl rfl (World.news_of_block (heap_alloc_new _ _)) (by simp [Value.oneCell']) (by have := HLEN.out; unfold maxLen; omega) (by have := HLEN.out; omega) (by have := HSZ.out; simp; omega) ?_; intro v' w4 hown' hgrow _; have HO4 := Lib.hid hown'; have HG4 := Lib.hid hgrow; clear hown' hgrow)
                go_roundw
                case rel => exact ⟨k + 1, by omega, by go_num, by rw [HS.out, HY.out, HPP.out, nv_append, List.length_append]; exact HO4.out, (HB.out.alloc HSZ.out _).grown HG4.out (by have := HSZ.out; simp; omega) (fun k hk => (HO.out.lt k hk).1)⟩
                case measure => simp [intOf]; omega
          · obtain rfl : k = l.length := by omega
            rw [List.take_length] at HO HLEN
            have hsz := HB.out.size
            obtain ⟨a5, c5, rfl, o5⟩ := ownN_of HO.out rfl
            have HO5 := Lib.hid o5
            have HE3 := Lib.hid (fun W h => specExprGood_any a5 (replR l f b) c5 W h (by have := HLEN.out; omega))
            rw [HR1.out] at HE3
            clear o5 HO HR1 HL HBY HE2
            generalize replR l f b = rs at *
            by_cases hle : rs.length ≤ 15
            · rw [decide_eq_true hle] at HE3
              obtain ⟨ev, el⟩ := HVR.out.1 hle
              subst ev el
              go_wp2_with fail
              refine (HE3.out _ HO5.out.nds).mono ?_
              rintro e w6 ⟨rfl, b6⟩
              have B6 := Lib.hid (below_then HB.out b6)
              have O6 := Lib.hid (HO5.out.below b6)
              clear b6
              go_wp2
              go_ret2
              exact ⟨_, _, rfl, O6.out, B6.out⟩
            · rw [decide_eq_false hle] at HE3
              obtain ⟨ev, el⟩ := HVR.out.2 hle
              subst ev el
              go_wp2_with fail
              refine (HE3.out _ HO5.out.nds).mono ?_
              rintro e w6 ⟨rfl, b6⟩
              have B6 := Lib.hid (below_then HB.out b6)
              clear b6
              go_wp2
              go_ret2
              exact ⟨_, _, rfl, OwnN.none_, B6.out.alloc B6.out.size _⟩
end Go.Proofs.YtikglddifoalfaaDoor
namespace Go.Proofs.YtikglddifoalfaaDoor
open Go.RowKit
set_option linter.unusedVariables false
set_option linter.unusedSimpArgs false
theorem TreeAt.below {w w' : World} {P : Nat → Prop} {t : ET} {b : Nat} (h : TreeAt w P t b) (hb : Below w.heap.size w w') : TreeAt w' P t b := TreeAt.keep (fun i _ hi => hb.block i hi) (fun _ h _ => h) t b h
set_option maxRecDepth 100000 in
set_option maxHeartbeats 4000000 in
theorem tdepth_any : ∀ (t : ET), t.flat.length ≤ 1000 → ∀ (P : Nat → Prop) (b : Nat) (w : World), TreeAt w P t b →
    Calls Tryd.prog 29 #[.pointer (some ⟨b, 0, none⟩)] w fun e w' => e = .returned (.int .i64 (t.depth : Int)) ∧ Below w.heap.size w w' := by
  intro t
  induction t with
  | n0 k v =>
    intro hf P b w ht
    obtain ⟨h1, a, c, h2⟩ := ht
    have c9 := h2.cell 9
    simp [tcells] at c9
    clear h1 h2 hf
    go_enter Tryd.func29, Tryd.ntmps29
    go_wp2
    go_loopw [3, 11] (fun m i wr => m = .int .i64 0 ∧ i = .int .i64 0 ∧ Below w.heap.size w wr) (fun _ i _ => 1)
    case atStart => exact ⟨rfl, rfl, Below.refl _ _⟩
    case round =>
      obtain ⟨rfl, rfl, hB⟩ := hrel
      have HB := Lib.hid hB
      clear hB
      go_wp2
      go_ret
      exact ⟨rfl, HB.out⟩
  | n1 k v x ih =>
    intro hf P b w ht
    obtain ⟨h1, ga, c, bx, h2, h3, h4, h5⟩ := ht
    have c9 := h3.cell 9
    simp [tcells] at c9
    have hg := cell_lt h4
    have hd := depth_le x
    simp only [ET.flat, List.length_append, List.length_singleton] at hf
    have HC := Lib.hid (fun W h => ih (by omega) P bx W h)
    have HT := Lib.hid h5
    have H4 := Lib.hid h4
    obtain ⟨dx, hdx⟩ : ∃ q, x.depth = q := ⟨_, rfl⟩
    have R := Lib.hid (show (ET.n1 k v x).depth = dx + 1 by rw [← hdx]; rfl)
    rw [hdx] at HC hd
    have hdx3 : dx ≤ 1000 := by omega
    clear h1 h2 h3 h4 h5 ih hdx hd hf
    go_enter Tryd.func29, Tryd.ntmps29
    go_wp2
    go_loopw [3, 11] (fun m i wr => ((m = .int .i64 0 ∧ i = .int .i64 0) ∨ (m = .int .i64 (dx : Int) ∧ i = .int .i64 1)) ∧ Below w.heap.size w wr) (fun _ i _ => 1 - (intOf i).toNat)
    case atStart => exact ⟨.inl ⟨rfl, rfl⟩, Below.refl _ _⟩
    case round =>
      obtain ⟨⟨rfl, rfl⟩ | ⟨rfl, rfl⟩, hB⟩ := hrel
      · have h4' := (hB.cell (p := ⟨ga, 0, none⟩) hg).trans H4.out
        have HB := Lib.hid hB
        have HTB := Lib.hid (TreeAt.keep (w' := wr) (fun i _ hi => hB.block i hi) (fun _ h _ => h) x bx HT.out)
        clear hB
        go_wp2_with fail
        refine (HC.out wr HTB.out).mono ?_
        rintro e w1 ⟨rfl, b1⟩
        have HB1 := Lib.hid (below_thenN HB.out b1)
        clear b1 h4'
        have hm : max (0 : Int) (dx : Int) = (dx : Int) := by omega
        go_wp2
        go_roundw
        case rel => exact ⟨.inr ⟨by congr 1; split <;> omega, rfl⟩, HB1.out⟩
        case measure => simp [intOf]
      · have HB := Lib.hid hB
        clear hB
        go_wp2
        go_ret
        exact ⟨by rw [R.out]; go_num, HB.out⟩
  | n2 k v x y ih1 ih2 =>
    intro hf P b w ht
    obtain ⟨h1, ga, c, bx, bz, h2, h3, h4, h5, h6, h7⟩ := ht
    have c9 := h3.cell 9
    simp [tcells] at c9
    have hg := cell_lt h4
    have hd := depth_le x
    have hd2 := depth_le y
    simp only [ET.flat, List.length_append, List.length_singleton] at hf
    have HC := Lib.hid (fun W h => ih1 (by omega) P bx W h)
    have HC2 := Lib.hid (fun W h => ih2 (by omega) P bz W h)
    have HT := Lib.hid h6
    have HT2 := Lib.hid h7
    have H4 := Lib.hid h4
    have H5 := Lib.hid h5
    obtain ⟨dx, hdx⟩ : ∃ q, x.depth = q := ⟨_, rfl⟩
    obtain ⟨dy, hdy⟩ : ∃ q, y.depth = q := ⟨_, rfl⟩
    obtain ⟨mx, hmx⟩ : ∃ q : Nat, max dx dy = q := ⟨_, rfl⟩
    have R := Lib.hid (show (ET.n2 k v x y).depth = mx + 1 by rw [← hmx, ← hdx, ← hdy]; rfl)
    rw [hdx] at HC hd
    rw [hdy] at HC2 hd2
    have hdx3 : dx ≤ 1000 := by omega
    have hdy3 : dy ≤ 1000 := by omega
    have hm2 : max (dx : Int) (dy : Int) = (mx : Int) := by omega
    have hmx3 : mx ≤ 1000 := by omega
    clear h1 h2 h3 h4 h5 h6 h7 ih1 ih2 hdx hdy hd hd2 hf hmx
    go_enter Tryd.func29, Tryd.ntmps29
    go_wp2
    go_loopw [3, 11] (fun m i wr => ((m = .int .i64 0 ∧ i = .int .i64 0) ∨ (m = .int .i64 (dx : Int) ∧ i = .int .i64 1) ∨ (m = .int .i64 (mx : Int) ∧ i = .int .i64 2)) ∧ Below w.heap.size w wr) (fun _ i _ => 2 - (intOf i).toNat)
    case atStart => exact ⟨.inl ⟨rfl, rfl⟩, Below.refl _ _⟩
    case round =>
      obtain ⟨⟨rfl, rfl⟩ | ⟨rfl, rfl⟩ | ⟨rfl, rfl⟩, hB⟩ := hrel
      · have h4' := (hB.cell (p := ⟨ga, 0, none⟩) hg).trans H4.out
        have HB := Lib.hid hB
        have HTB := Lib.hid (TreeAt.keep (w' := wr) (fun i _ hi => hB.block i hi) (fun _ h _ => h) x bx HT.out)
        clear hB
        go_wp2_with fail
        refine (HC.out wr HTB.out).mono ?_
        rintro e w1 ⟨rfl, b1⟩
        have HB1 := Lib.hid (below_thenN HB.out b1)
        clear b1 h4'
        have hm : max (0 : Int) (dx : Int) = (dx : Int) := by omega
        go_wp2
        go_roundw
        case rel => exact ⟨.inr (.inl ⟨by congr 1; split <;> omega, rfl⟩), HB1.out⟩
        case measure => simp [intOf]
      · have h5' := (hB.cell (p := ⟨ga, 1, none⟩) hg).trans H5.out
        have HB := Lib.hid hB
        have HTB := Lib.hid (TreeAt.keep (w' := wr) (fun i _ hi => hB.block i hi) (fun _ h _ => h) y bz HT2.out)
        clear hB
        go_wp2_with fail
        refine (HC2.out wr HTB.out).mono ?_
        rintro e w1 ⟨rfl, b1⟩
        have HB1 := Lib.hid (below_thenN HB.out b1)
        clear b1 h5'
        go_wp2
        go_roundw
        case rel => exact ⟨.inr (.inr ⟨by congr 1; split <;> omega, rfl⟩), HB1.out⟩
        case measure => simp [intOf]
      · have HB := Lib.hid hB
        clear hB
        go_wp2
        go_ret
        exact ⟨by rw [R.out]; go_num, HB.out⟩

set_option maxRecDepth 100000 in
set_option maxHeartbeats 4000000 in
theorem implDepth_any (a : Option Addr) (l : List Nd) (c : Nat) (w : World) (hl : Nds w w.heap.size a l) (hn : l.length ≤ 1048576) (ht : NTab w) :
    Calls Tryd.prog 10 #[.slice a l.length c] w fun e w' => e = .returned (.tuple #[.int .i64 (depR l), .bool (exprB l)]) ∧ Below w.heap.size w w' := by
  have HC := Lib.hid (fun W h t => treeOf_any a l c W h hn t)
  have HL := Lib.hid hl
  have HT := Lib.hid ht
  have HE := Lib.hid (exprB_tree l)
  clear hl ht
  go_enter Tryd.func10, Tryd.ntmps10
  go_wp2_with fail
  refine (HC.out _ HL.out HT.out).mono ?_
  rintro e w1 ⟨b1, ⟨h1, rfl⟩ | ⟨t, b, h1, rfl, h2⟩⟩
  · have HB := Lib.hid b1
    have R := Lib.hid (HE.out.trans (by rw [h1]; rfl) : exprB l = false)
    have R2 := Lib.hid (show depR l = 0 by unfold depR; rw [h1])
    clear b1 h1
    go_wp2
    go_ret2
    exact ⟨by rw [R.out, R2.out]; rfl, HB.out⟩
  · have HB := Lib.hid b1
    have R := Lib.hid (HE.out.trans (by rw [h1]; rfl) : exprB l = true)
    have R2 := Lib.hid (show depR l = (t.depth : Int) by unfold depR; rw [h1])
    obtain ⟨h15, hf, _⟩ := treeT_some h1
    have HD := Lib.hid (tdepth_any t (by rw [hf]; omega) _ b w1 h2)
    clear b1 h1 h2 hf
    go_wp2_with fail
    refine HD.out.mono ?_
    rintro e w2 ⟨rfl, b2⟩
    have HB2 := Lib.hid (below_thenN HB.out b2)
    clear b2
    go_wp2
    go_ret2
    exact ⟨by rw [R.out, R2.out]; rfl, HB2.out⟩
end Go.Proofs.YtikglddifoalfaaDoor
namespace Go.Proofs.YtikglddifoalfaaDoor
open Go.RowKit
set_option linter.unusedVariables false
set_option linter.unusedSimpArgs false
theorem exprB_len {l : List Nd} (h : exprB l = true) : l.length ≤ 15 := by
  unfold exprB at h
  simp only [Bool.and_eq_true, decide_eq_true_eq] at h
  exact h.1
theorem repl_yes {l : List Nd} {f : Int} {b : List Nd} (h : replB l f b = true) : replL l f b = replR l f b ∧ exprB l = true ∧ exprB b = true ∧ exprB (replR l f b) = true ∧ 0 ≤ f ∧ f ≤ 3 ∧ (replR l f b).length ≤ 15 := by
  refine ⟨if_pos h, ?_⟩
  have h' := h
  unfold replB at h'
  simp only [Bool.and_eq_true, decide_eq_true_eq] at h'
  obtain ⟨⟨⟨h1, h2⟩, h3⟩, h4⟩ := h'
  have hi := h3
  unfold inF at hi
  simp only [Bool.and_eq_true, decide_eq_true_eq] at hi
  exact ⟨h1, h2, by rw [(repl_expr h1 h2 h3).1]; exact decide_eq_true h4, hi.1, hi.2, h4⟩
theorem usedR_yes {l : List Nd} (h : exprB l = true) : usedR l = usedU l 4 := if_pos h
/-- the three lists of fields used, as sets -/
theorem repl_used {l : List Nd} {f : Int} {b : List Nd} (h0 : 0 ≤ f) (h3 : f ≤ 3) {k : Nat} (hk : k < 4) :
    hasZ (usedU (replR l f b) 4) (k : Int) = ((hasZ (usedU l 4) (k : Int) && decide ((k : Int) ≠ f)) || (hasZ (usedU l 4) f && hasZ (usedU b 4) (k : Int))) := by
  obtain ⟨j, rfl⟩ : ∃ j : Nat, f = (j : Int) := ⟨f.toNat, by omega⟩
  rw [used_has _ hk, used_has _ hk, used_has _ hk, used_has _ (show j < 4 by omega)]
  exact repl_has l _ b _
set_option maxRecDepth 100000 in
set_option maxHeartbeats 4000000 in
theorem walk_Replacing (a : Option Addr) (l : List Int) (c : Nat) (w : World) (hi : Ints .u8 w w.heap.size a l) (hb : ∀ z ∈ l, 0 ≤ z ∧ z ≤ 255) (hlm : l.length ≤ maxLen) (ht : NTab w) :
    Calls Tryd.prog 3 #[.slice a l.length c] w fun e w' => e = .returned (.bool true) ∧ Below w.heap.size w w' := by
  unfold maxLen at hlm
  by_cases hbig : (65536 : Int) < (l.length : Int)
  · clear hi hb
    go_enter Tryd.func3, Tryd.ntmps3
    go_wp2
    go_ret
    exact ⟨rfl, Below.refl _ _⟩
  · have HI := Lib.hid hi
    have HBY := Lib.hid hb
    have HT := Lib.hid (fun W (G : Below w.heap.size w W) => ht.below G)
    have hl : l.length ≤ 65536 := by omega
    clear hi hb hlm ht
    go_enter Tryd.func3, Tryd.ntmps3
    go_wp2_with (first | (go_at_call 5; go_in) | fail)
    refine (drawRepl_any _ a l c HI.out HBY.out (by omega)).mono ?_
    rintro e w0 ⟨g1, c1, g2, c2, L, R, f, hL, hR, rfl, r1, r2, b0⟩
    have P0 := Lib.hid (Nds.of_row r1)
    have Q0 := Lib.hid (Nds.of_row r2)
    have G0 := Lib.hid b0
    clear r1 r2 b0 HI HBY
    have nL : L.length ≤ 1048576 := by omega
    have nR : R.length ≤ 1048576 := by omega
    have HRI := Lib.hid (fun W h1 h2 t => implRepl_any (some ⟨g1, 0, none⟩) L c1 f (some ⟨g2, 0, none⟩) R c2 W h1 h2 nL nR t)
    have HRS := Lib.hid (fun W h1 h2 => specRepl_any (some ⟨g1, 0, none⟩) L c1 f (some ⟨g2, 0, none⟩) R c2 W h1 h2 nL nR)
    have HDI := Lib.hid (fun W h t => implDepth_any (some ⟨g1, 0, none⟩) L c1 W h nL t)
    have HDS := Lib.hid (fun W h => specDepth_any (some ⟨g1, 0, none⟩) L c1 W h nL)
    have HU1 := Lib.hid (fun W h t => implUsed_any (some ⟨g1, 0, none⟩) L c1 W h nL t)
    have HU3 := Lib.hid (fun W h t => implUsed_any (some ⟨g2, 0, none⟩) R c2 W h nR t)
    unfold RPost at HRI HRS
    unfold UPost at HU1 HU3
    cases hok : replB L f R with
      | false =>
        rw [hok, repl_no hok] at HRI HRS
        clear hok HU1 HU3
        generalize hvv : exprB L = v at *
        clear hvv
        have hvn : (v != v) = false := by cases v <;> rfl
        generalize depR L = d at *
        have HVV : (false != false) = false := rfl
        go_wp2_with fail
        refine (HRI.out _ P0.out Q0.out (HT.out _ G0.out)).mono ?_
        rintro e w1 ⟨a1, c1, rfl, o1, b1⟩
        have P1 := Lib.hid (nds_below P0.out b1)
        have Q1 := Lib.hid (nds_below Q0.out b1)
        have G1 := Lib.hid (below_then G0.out b1)
        have M1 := Lib.hid (o1.nds)
        clear b1 o1 P0 Q0 G0
        go_wp2_with fail
        refine (HRS.out _ P1.out Q1.out).mono ?_
        rintro e w2 ⟨a2, c2, rfl, o2, b2⟩
        have P2 := Lib.hid (nds_below P1.out b2)
        have Q2 := Lib.hid (nds_below Q1.out b2)
        have G2 := Lib.hid (below_then G1.out b2)
        have M2 := Lib.hid (nds_below M1.out b2)
        have V2 := Lib.hid (o2.nds)
        clear b2 o2 P1 Q1 G1 M1
        go_wp2_with fail
        refine (vNodes_yes _ _ _ _ _ _ M2.out V2.out (by first | omega | simp)).mono ?_
        rintro e w3 ⟨rfl, b3⟩
        have P3 := Lib.hid (nds_below P2.out b3)
        have Q3 := Lib.hid (nds_below Q2.out b3)
        have G3 := Lib.hid (below_then G2.out b3)
        have M3 := Lib.hid (nds_below M2.out b3)
        have V3 := Lib.hid (nds_below V2.out b3)
        clear b3 P2 Q2 G2 M2 V2
        clear V3
        go_wp2_with fail
        refine (HDI.out _ P3.out (HT.out _ G3.out)).mono ?_
        rintro e w4 ⟨rfl, b4⟩
        have P4 := Lib.hid (nds_below P3.out b4)
        have Q4 := Lib.hid (nds_below Q3.out b4)
        have G4 := Lib.hid (below_then G3.out b4)
        have M4 := Lib.hid (nds_below M3.out b4)
        clear b4 P3 Q3 G3 M3
        go_wp2_with fail
        refine (HDS.out _ P4.out).mono ?_
        rintro e w5 ⟨rfl, b5⟩
        have P5 := Lib.hid (nds_below P4.out b5)
        have Q5 := Lib.hid (nds_below Q4.out b5)
        have G5 := Lib.hid (below_then G4.out b5)
        have M5 := Lib.hid (nds_below M4.out b5)
        clear b5 P4 Q4 G4 M4
        go_wp2
        go_ret
        exact ⟨rfl, G5.out⟩
      | true =>
        obtain ⟨e1, e2, e3, e4, f0, f3, m15⟩ := repl_yes hok
        have hdep := repl_depth hok
        have HUS := Lib.hid (fun (k : Nat) (hk : k < 4) => repl_used (l := L) (b := R) f0 f3 hk)
        rw [hok, e1] at HRI HRS
        rw [e2] at HDI HDS HU1
        rw [e3] at HU3
        rw [usedR_yes e2] at HU1
        rw [usedR_yes e3] at HU3
        have u1 := usedU_len L 4
        have u3 := usedU_len R 4
        have u2 := usedU_len (replR L f R) 4
        have HU2 := Lib.hid (fun ad c W h t => implUsed_any ad (replR L f R) c W h (by omega) t)
        have HDM := Lib.hid (fun ad c W h t => implDepth_any ad (replR L f R) c W h (by omega) t)
        unfold UPost at HU2
        rw [usedR_yes e4, e4] at HU2
        rw [e4] at HDM
        clear hok e1 e2 e3 e4
        generalize replR L f R = m at *
        generalize depR L = d at *
        generalize depR m = dm at *
        generalize usedU L 4 = A1 at *
        generalize usedU m 4 = A2 at *
        generalize usedU R 4 = A3 at *
        have hdn : ¬ dm < d := by omega
        have HVV : (true != true) = false := rfl
        go_wp2_with fail
        refine (HRI.out _ P0.out Q0.out (HT.out _ G0.out)).mono ?_
        rintro e w1 ⟨a1, c1, rfl, o1, b1⟩
        have P1 := Lib.hid (nds_below P0.out b1)
        have Q1 := Lib.hid (nds_below Q0.out b1)
        have G1 := Lib.hid (below_then G0.out b1)
        have M1 := Lib.hid (o1.nds)
        clear b1 o1 P0 Q0 G0
        go_wp2_with fail
        refine (HRS.out _ P1.out Q1.out).mono ?_
        rintro e w2 ⟨a2, c2, rfl, o2, b2⟩
        have P2 := Lib.hid (nds_below P1.out b2)
        have Q2 := Lib.hid (nds_below Q1.out b2)
        have G2 := Lib.hid (below_then G1.out b2)
        have M2 := Lib.hid (nds_below M1.out b2)
        have V2 := Lib.hid (o2.nds)
        clear b2 o2 P1 Q1 G1 M1
        go_wp2_with fail
        refine (vNodes_yes _ _ _ _ _ _ M2.out V2.out (by first | omega | simp)).mono ?_
        rintro e w3 ⟨rfl, b3⟩
        have P3 := Lib.hid (nds_below P2.out b3)
        have Q3 := Lib.hid (nds_below Q2.out b3)
        have G3 := Lib.hid (below_then G2.out b3)
        have M3 := Lib.hid (nds_below M2.out b3)
        have V3 := Lib.hid (nds_below V2.out b3)
        clear b3 P2 Q2 G2 M2 V2
        clear V3
        go_wp2_with fail
        refine (HDI.out _ P3.out (HT.out _ G3.out)).mono ?_
        rintro e w4 ⟨rfl, b4⟩
        have P4 := Lib.hid (nds_below P3.out b4)
        have Q4 := Lib.hid (nds_below Q3.out b4)
        have G4 := Lib.hid (below_then G3.out b4)
        have M4 := Lib.hid (nds_below M3.out b4)
        clear b4 P3 Q3 G3 M3
        go_wp2_with fail
        refine (HDS.out _ P4.out).mono ?_
        rintro e w5 ⟨rfl, b5⟩
        have P5 := Lib.hid (nds_below P4.out b5)
        have Q5 := Lib.hid (nds_below Q4.out b5)
        have G5 := Lib.hid (below_then G4.out b5)
        have M5 := Lib.hid (nds_below M4.out b5)
        clear b5 P4 Q4 G4 M4
        go_wp2_with fail
        refine (HU1.out _ P5.out (HT.out _ G5.out)).mono ?_
        rintro e w6 ⟨a6, c6, rfl, o6, b6⟩
        have P6 := Lib.hid (nds_below P5.out b6)
        have Q6 := Lib.hid (nds_below Q5.out b6)
        have G6 := Lib.hid (below_then G5.out b6)
        have M6 := Lib.hid (nds_below M5.out b6)
        have X6 := Lib.hid (o6.ints)
        clear b6 o6 P5 Q5 G5 M5
        go_wp2_with fail
        refine (HU2.out _ _ _ M6.out (HT.out _ G6.out)).mono ?_
        rintro e w7 ⟨a7, c7, rfl, o7, b7⟩
        have P7 := Lib.hid (nds_below P6.out b7)
        have Q7 := Lib.hid (nds_below Q6.out b7)
        have G7 := Lib.hid (below_then G6.out b7)
        have M7 := Lib.hid (nds_below M6.out b7)
        have X7 := Lib.hid (ints_below X6.out b7)
        have Y7 := Lib.hid (o7.ints)
        clear b7 o7 P6 Q6 G6 M6 X6
        go_wp2_with fail
        refine (HU3.out _ Q7.out (HT.out _ G7.out)).mono ?_
        rintro e w8 ⟨a8, c8, rfl, o8, b8⟩
        have P8 := Lib.hid (nds_below P7.out b8)
        have Q8 := Lib.hid (nds_below Q7.out b8)
        have G8 := Lib.hid (below_then G7.out b8)
        have M8 := Lib.hid (nds_below M7.out b8)
        have X8 := Lib.hid (ints_below X7.out b8)
        have Y8 := Lib.hid (ints_below Y7.out b8)
        have Z8 := Lib.hid (o8.ints)
        clear b8 o8 P7 Q7 G7 M7 X7 Y7
        go_wp2_with fail
        refine (HDM.out _ _ _ M8.out (HT.out _ G8.out)).mono ?_
        rintro e w9 ⟨rfl, b9⟩
        have P9 := Lib.hid (nds_below P8.out b9)
        have Q9 := Lib.hid (nds_below Q8.out b9)
        have G9 := Lib.hid (below_then G8.out b9)
        have M9 := Lib.hid (nds_below M8.out b9)
        have X9 := Lib.hid (ints_below X8.out b9)
        have Y9 := Lib.hid (ints_below Y8.out b9)
        have Z9 := Lib.hid (ints_below Z8.out b9)
        clear b9 P8 Q8 G8 M8 X8 Y8 Z8
        have HX := Lib.hid (fun z => vHas_any a6 A1 c6 z w9 X9.out (by omega))
        have HY := Lib.hid (fun z => vHas_any a7 A2 c7 z w9 Y9.out (by omega))
        have HZ := Lib.hid (fun z => vHas_any a8 A3 c8 z w9 Z9.out (by omega))
        clear P9 Q9 M9 X9 Y9 Z9 HRI HRS HDI HDS HU1 HU2 HU3 HDM HT
        go_wp2_with fail
        go_loopw [22] (fun i wr => ∃ k : Nat, k ≤ 4 ∧ i = .int .i64 k ∧ wr = w9) (fun i _ => 4 - (intOf i).toNat)
        case atStart => exact ⟨0, by omega, rfl, rfl⟩
        case round =>
          obtain ⟨k, hk, rfl, rfl⟩ := hrel
          by_cases hlt : k < 4
          · have hi : (k : Int) < 4 := by omega
            have hu := HUS.out k hlt
            have HY1 := Lib.hid (HY.out (k : Int))
            have HX1 := Lib.hid (HX.out (k : Int))
            have HX2 := Lib.hid (HX.out f)
            have HZ1 := Lib.hid (HZ.out (k : Int))
            rw [hu] at HY1
            clear hu HX HY HZ HUS
            by_cases hkf : (k : Int) = f
            · have HK := Lib.hid hkf
              have hkd : decide ((k : Int) ≠ f) = false := decide_eq_false (fun h => h hkf)
              have hkn : ((k : Int) != f) = false := by rw [hkf]; simp
              rw [hkd] at HY1
              clear hkf hkd
              generalize hasZ A1 (k : Int) = p at *
              generalize hasZ A1 f = q at *
              generalize hasZ A3 (k : Int) = r at *
              cases p <;> cases q <;> cases r
              all_goals (go_wp2_with (first | (go_at_call 13; (with_reducible refine HX1.out.mono ?_); rintro e w10 ⟨rfl, rfl⟩) | (go_at_call 13; (with_reducible refine HX2.out.mono ?_); rintro e w10 ⟨rfl, rfl⟩) | (go_at_call 13; (with_reducible refine HZ1.out.mono ?_); rintro e w10 ⟨rfl, rfl⟩) | (go_at_call 13; (with_reducible refine HY1.out.mono ?_); rintro e w10 ⟨rfl, rfl⟩)))
              all_goals (go_roundw; (case rel => exact ⟨k + 1, by omega, by go_num, by simp⟩); (case measure => simp [intOf]; omega))
            · have HK := Lib.hid hkf
              have hkd : decide ((k : Int) ≠ f) = true := decide_eq_true hkf
              have hkn : ((k : Int) != f) = true := by simpa using hkf
              rw [hkd] at HY1
              clear hkf hkd
              generalize hasZ A1 (k : Int) = p at *
              generalize hasZ A1 f = q at *
              generalize hasZ A3 (k : Int) = r at *
              cases p <;> cases q <;> cases r
              all_goals (go_wp2_with (first | (go_at_call 13; (with_reducible refine HX1.out.mono ?_); rintro e w10 ⟨rfl, rfl⟩) | (go_at_call 13; (with_reducible refine HX2.out.mono ?_); rintro e w10 ⟨rfl, rfl⟩) | (go_at_call 13; (with_reducible refine HZ1.out.mono ?_); rintro e w10 ⟨rfl, rfl⟩) | (go_at_call 13; (with_reducible refine HY1.out.mono ?_); rintro e w10 ⟨rfl, rfl⟩)))
              all_goals (go_roundw; (case rel => exact ⟨k + 1, by omega, by go_num, by simp⟩); (case measure => simp [intOf]; omega))
          · have hge : ¬ (k : Int) < 4 := by omega
            go_wp2
            go_ret
            exact ⟨rfl, G9.out⟩
end Go.Proofs.YtikglddifoalfaaDoor
