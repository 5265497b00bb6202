/- Sets of points: a map from points to bools that the call itself has made. Points of cells: pointAt, neighborsOf, cornersOf. The program's MoveField. The program's MatchOf. The program's qualifyingMatches. Putting a motion into a list of the call's own; the appends of the model's ranking. Comparing two matches: cmp.Or and the program's compareMatches. slices.SortFunc with compareMatches. The program's RankMotions. The model's l11Qualifies and l11Better. The model's l11Rank. The model's RankMotions. BestMotion: the program's and the model's. The laws' helpers on lists of fields: szFieldS, toFieldS, eqFieldS, markFieldS, heldFieldS. A forecast: a field moved again and again; mathematics. The program's Nowcast. The model's l1Own: a copy in memory of its own. The model's copy of a field, and its SetCell. The model's MoveField. The model's Nowcast. The laws' heldFieldS. A drawn answer that is a list of fields. How many numbers a forecast has. The walk of the law FnExactNowcast. -/
import Derived.Test.YtggdkibbfmjelaaChecked
import Derived.Test.YtggdkibbfmjelaaDrew
import Derived.Maps.OwnSet
import Derived.DeepKeys4
import Derived.Test.YtggdkibbfmjelaaRgnVal
import Derived.Test.YtggdkibbfmjelaaMake
import Derived.RegionTactic
import Derived.Test.YtggdkibbfmjelaaMvP
import Derived.Test.YtggdkibbfmjelaaMvSmall
import Derived.Test.YtggdkibbfmjelaaRgBk
import Derived.BigQuiet
import Derived.Test.YtggdkibbfmjelaaMvSpM
import Derived.Test.YtggdkibbfmjelaaRkEv
import Derived.Deep.RegionLaw
import Derived.Test.YtggdkibbfmjelaaRkMath
import Derived.Test.YtggdkibbfmjelaaMvDf
import Derived.Test.YtggdkibbfmjelaaMts
import Derived.Deep.RegionHeld3
import Derived.Sort.Grow
import Derived.Deep.DeepCutAuto
import Derived.Test.YtggdkibbfmjelaaShelfSF
import Derived.Shelf.SlSortCmp.NoneTotal
import Derived.Test.YtggdkibbfmjelaaFlds
import Derived.Laws.MakeOwn
import Derived.StillTailTactics
import Derived.Deep.AppendLies
import Derived.Maps.AppendAt
import Derived.Test.YtggdkibbfmjelaaHas
import Derived.Test.YtggdkibbfmjelaaLws
namespace Go.Proofs.Ytggdkibbfmjelaa
open Go.RowKit Go.Maps
set_option linter.unusedVariables false
theorem ptLaidOut : laidOutB Try.prog = true := by kernel_rfl
theorem ptRow : (83 : TypeId) < Try.prog.types.size := of_decide_eq_true (by kernel_rfl)
theorem ptKeyed : Keyed Try.prog 83 := Keyed.of_law (deep_law_laid ptLaidOut (m := 2) (by omega) ptRow (by kernel_rfl) (by rw [Try.underlying83]))
theorem zeroBool (w : World) : (zeroValue 4).run Try.prog w = .ok (.bool false) w := by kernel_rfl
theorem ptKeyType : Try.prog.keyType 83 = true := by kernel_rfl
theorem ptCells : Try.prog.cellsOf 83 = 2 := by kernel_rfl
theorem intCells : Try.prog.cellsOf 3 = 1 := by kernel_rfl
theorem tySize : ∃ m, Try.prog.types.size = m + 2 := ⟨Try.prog.types.size - 2, by have : 2 ≤ Try.prog.types.size := of_decide_eq_true (by kernel_rfl); omega⟩
def okI (x : Int) : Prop := -9223372036854775808 ≤ x ∧ x ≤ 9223372036854775807
theorem okI_wf {x : Int} (h : okI x) : (Lit.int .i64 x).wf = true := by unfold okI at h; exact WalkArith.wf_i64 (by omega)
def pkey (x y : Int) : Lit := .string (keyBytes [.int .i64 x, .int .i64 y])
theorem pkey_is {x y : Int} (hx : okI x) (hy : okI y) : keyOf Try.prog 83 (.agg #[.int .i64 x, .int .i64 y]) = some (pkey x y) := by
  have hwx := okI_wf hx
  have hwy := okI_wf hy
  obtain ⟨m, hm⟩ := tySize
  unfold keyOf
  simp only [Try.underlying83]
  rw [if_pos (by simp [ptKeyType, Value.formed, Try.underlying83, ptCells]), hm]
  unfold Program.keyLits
  simp only [Try.underlying83, Value.cells]
  rw [if_pos (by simp [ptCells])]
  simp [intCells, Program.keyLits, Try.underlying3, hwx, hwy, pkey]
theorem pkey_inj {x y x' y' : Int} (hx : okI x) (hy : okI y) (hx' : okI x') (hy' : okI y') (h : pkey x y = pkey x' y') : x = x' ∧ y = y' := by
  have h1 := pkey_is hx hy
  have h2 := pkey_is hx' hy'
  rw [← h] at h2
  have e := ptKeyed.inj h1 h2
  simpa using e
theorem plainElem_bool_inv {H : Type} {P : Program} {e : TypeId} (he : P.underlying e = some .bool) {v : Value} {z : DataW H × List MemPlace} (h : plainElem P e v = some z) : ∃ x, v = .bool x ∧ z = (.lit (.bool x), []) := by
  unfold plainElem at h
  rw [he] at h
  cases v <;> simp at h
  exact ⟨_, rfl, h.symm⟩
/-- block b is a map of at most n entries, made by the call; at the point (x, y) it holds S x y -/
def PSet (w : World) (b n : Nat) (S : Int → Int → Bool) : Prop :=
  ∃ D : DataW Unit, w.ownsMap Try.prog 83 (plainElem Try.prog 4) b n D ∧ ∀ x y, okI x → okI y → D.atKey (pkey x y) (.lit (.bool false)) = .lit (.bool (S x y))
section
variable {w w' : World} {b n : Nat} {S : Int → Int → Bool}
theorem PSet.made (w : World) : PSet (w.alloc (.map #[] 0)) w.heap.size 0 (fun _ _ => false) :=
  ⟨.map [], World.ownsMap_made _ _ _ _, fun x y _ _ => rfl⟩
theorem PSet.lt (h : PSet w b n S) : b < w.heap.size := by obtain ⟨D, h1, _⟩ := h; exact h1.lt
theorem PSet.mono {m : Nat} (h : PSet w b n S) (hm : n ≤ m) : PSet w b m S := by obtain ⟨D, h1, h2⟩ := h; exact ⟨D, h1.mono hm, h2⟩
theorem PSet.kept {row : Option Nat} (h : PSet w b n S) (hg : w.grownBy w' row) (hne : some b ≠ row) : PSet w' b n S := by obtain ⟨D, h1, h2⟩ := h; exact ⟨D, h1.kept hg hne, h2⟩
theorem PSet.below {B : Nat} (h : PSet w b n S) (hb : Below B w w') (hB : b < B) : PSet w' b n S := by
  obtain ⟨D, ⟨es, clock, h3, h4⟩, h2⟩ := h
  exact ⟨D, ⟨es, clock, (hb.block b hB).trans h3, h4⟩, h2⟩
theorem PSet.alloc (h : PSet w b n S) (o : Obj) : PSet (w.alloc o) b n S := by obtain ⟨D, h1, h2⟩ := h; exact ⟨D, h1.alloc o, h2⟩
theorem PSet.drew (h : PSet w b n S) (d : Drew w w') : PSet w' b n S := by obtain ⟨m, rfl⟩ := d; exact h
theorem PSet.setCell (h : PSet w b n S) {a : Addr} (ha : b ≠ a.block) (u : Value) : PSet (w.setCell a u) b n S := by obtain ⟨D, h1, h2⟩ := h; exact ⟨D, h1.setCell ha u, h2⟩
theorem PSet.congr {S' : Int → Int → Bool} (h : PSet w b n S) (e : ∀ x y, okI x → okI y → S x y = S' x y) : PSet w b n S' := by
  obtain ⟨D, h1, h2⟩ := h; exact ⟨D, h1, fun x y hx hy => by rw [h2 x y hx hy, e x y hx hy]⟩
theorem PSet.look {t : TypeId} (h : PSet w b n S) (ht : Try.prog.underlying t = some (.map 83 4)) {x y : Int} (hx : okI x) (hy : okI y) :
    (Instr.lookup t (.map (some b)) (.agg #[.int .i64 x, .int .i64 y]) false).run Try.prog w = .ok (.bool (S x y)) w := by
  obtain ⟨D, h1, h2⟩ := h
  obtain ⟨v, ps, hr, hv⟩ := h1.lookup ptKeyed ht (zeroBool w) (plainElem_bool Try.underlying4 false) (pkey_is hx hy)
  rw [h2 x y hx hy] at hv
  obtain ⟨x', rfl, hz⟩ := plainElem_bool_inv Try.underlying4 hv
  simp only [Prod.mk.injEq, DataW.lit.injEq, Lit.bool.injEq] at hz
  rw [hr, hz.1]
theorem PSet.put {t : TypeId} (h : PSet w b n S) (ht : Try.prog.underlying t = some (.map 83 4)) (hn : n < maxLen) {x y : Int} (hx : okI x) (hy : okI y) (v : Bool) :
    ∃ w', (Instr.mapUpdate t (.map (some b)) (.agg #[.int .i64 x, .int .i64 y]) (.bool v)).run Try.prog w = .ok () w' ∧ PSet w' b (n + 1) (fun p q => if p = x ∧ q = y then v else S p q) ∧ w.grownBy w' (some b) ∧ w'.heap.size = w.heap.size := by
  obtain ⟨D, h1, h2⟩ := h
  obtain ⟨w', hr, h3, h4⟩ := h1.store ptKeyed ht hn (pkey_is hx hy) (plainElem_bool Try.underlying4 v)
  refine ⟨w', hr, ⟨_, h3, fun p q hp hq => ?_⟩, h4.grown, ?_⟩
  · show _ = DataW.lit (.bool (if p = x ∧ q = y then v else S p q))
    by_cases e : p = x ∧ q = y
    · rw [if_pos e]
      obtain ⟨rfl, rfl⟩ := e
      exact atKey_put_same h1.isMap (ptKeyed.key (pkey_is hp hq)) _ _
    · rw [if_neg e, ← h2 p q hp hq]
      exact atKey_put_other (fun e2 => e (pkey_inj hp hq hx hy e2)) _ _
  · obtain ⟨es, clock, es', clock', _, rfl⟩ := h4; simp [ChangeMaps.setBlock]
theorem PSet.del {t : TypeId} (h : PSet w b n S) (ht : Try.prog.underlying t = some (.map 83 4)) {x y : Int} (hx : okI x) (hy : okI y) (ty : TypeId) :
    ∃ w', (Builtin.delete_ #[t, 83] ty #[.map (some b), .agg #[.int .i64 x, .int .i64 y]]).run Try.prog w = .ok (.tuple #[]) w' ∧ PSet w' b n (fun p q => if p = x ∧ q = y then false else S p q) ∧ w.grownBy w' (some b) ∧ w'.heap.size = w.heap.size := by
  obtain ⟨D, h1, h2⟩ := h
  obtain ⟨w', hr, h3, h4⟩ := h1.drop ptKeyed ht (pkey_is hx hy) ty
  refine ⟨w', hr, ⟨_, h3, fun p q hp hq => ?_⟩, h4.grown, ?_⟩
  · show _ = DataW.lit (.bool (if p = x ∧ q = y then false else S p q))
    by_cases e : p = x ∧ q = y
    · rw [if_pos e]
      obtain ⟨rfl, rfl⟩ := e
      exact atKey_del_same _
    · rw [if_neg e, ← h2 p q hp hq]
      exact atKey_del_other (fun e2 => e (pkey_inj hp hq hx hy e2)) _
  · obtain ⟨es, clock, es', clock', _, rfl⟩ := h4; simp [ChangeMaps.setBlock]
end
section
variable (w : World) {ops : Array Oper} {rest : List Oper} {o : Oper} {a : Act} {Q : Exit → Act → World → Prop}
/-- 'm[p]', p a point, at the operation -/
theorem wpList_look_set (hg : o.guard = none) (m x : Operand) (t : TypeId) (hop : o.op = Op.lookup t m x false) (ht : Try.prog.underlying t = some (.map 83 4)) (b n : Nat) (S : Int → Int → Bool) (hm : a.eval m = .map (some b)) (hs : PSet w b n S)
    (p q : Int) (hx : a.eval x = .agg #[.int .i64 p, .int .i64 q]) (hp : okI p) (hq : okI q) (v : Bool) (hv : S p q = v) (hK : wpList Try.prog ops Q rest (a.put o.dst (.bool v)) w) : wpList Try.prog ops Q (o :: rest) a w := by
  refine wpList_plain hg fun K' hK' => ?_
  have hr := hs.look ht hp hq
  rw [hv] at hr
  unfold Oper.wp
  simp [execOp, hop, hm, hx, hr, Result.andThen]
  exact hK' _ _ hK
/-- 'm[p] = v' at the operation -/
theorem wpList_put_set (hg : o.guard = none) (m x y : Operand) (t : TypeId) (hop : o.op = Op.mapUpdate t m x y) (ht : Try.prog.underlying t = some (.map 83 4)) (b n : Nat) (S : Int → Int → Bool) (hm : a.eval m = .map (some b)) (hs : PSet w b n S) (hn : n < maxLen)
    (p q : Int) (hx : a.eval x = .agg #[.int .i64 p, .int .i64 q]) (hp : okI p) (hq : okI q) (v : Bool) (hv : a.eval y = .bool v)
    (hK : ∀ w', PSet w' b (n + 1) (fun p' q' => if p' = p ∧ q' = q then v else S p' q') → w.grownBy w' (some b) → w'.heap.size = w.heap.size → wpList Try.prog ops Q rest (a.put o.dst undef) w') : wpList Try.prog ops Q (o :: rest) a w := by
  refine wpList_plain hg fun K' hK' => ?_
  obtain ⟨w', hr, h1, h2, h3⟩ := hs.put ht hn hp hq v
  unfold Oper.wp
  simp [execOp, hop, hm, hx, hv, hr, Result.andThen]
  exact hK' _ _ (hK w' h1 h2 h3)
/-- 'delete(m, p)' at the operation -/
theorem wpList_del_set (hg : o.guard = none) (m x : Operand) (t : TypeId) (hop : o.op = Op.call { callee := Callee.builtin Builtin.delete, args := #[m, x], argTypes := #[t, 83] }) (ht : Try.prog.underlying t = some (.map 83 4)) (b n : Nat) (S : Int → Int → Bool) (hm : a.eval m = .map (some b)) (hs : PSet w b n S)
    (p q : Int) (hx : a.eval x = .agg #[.int .i64 p, .int .i64 q]) (hp : okI p) (hq : okI q)
    (hK : ∀ w', PSet w' b n (fun p' q' => if p' = p ∧ q' = q then false else S p' q') → w.grownBy w' (some b) → w'.heap.size = w.heap.size → wpList Try.prog ops Q rest (a.put o.dst (.tuple #[])) w') : wpList Try.prog ops Q (o :: rest) a w := by
  refine wpList_plain hg fun K' hK' => ?_
  obtain ⟨w', hr, h1, h2, h3⟩ := hs.del ht hp hq o.type
  unfold Oper.wp
  simp [execOp, hop, resolve, invoke, builtin, hm, hx, hr, Result.andThen]
  exact hK' _ _ (hK w' h1 h2 h3)
end
end Go.Proofs.Ytggdkibbfmjelaa
namespace Go.Proofs.Ytggdkibbfmjelaa
open Go.RowKit
set_option linter.unusedVariables false
set_option linter.unusedSimpArgs false
set_option maxHeartbeats 1000000 in
theorem pointAt_any (wd i : Int) (w : World) (h1 : 1 ≤ wd) (h2 : wd ≤ 8) (h3 : 0 ≤ i) (h4 : i ≤ 64) :
    Calls Try.prog 62 #[.int .i64 wd, .int .i64 i] w fun e w' => e = .returned (.agg #[.int .i64 (i % wd), .int .i64 (i / wd)]) ∧ Below w.heap.size w w' := by
  have hne : ¬ wd = 0 := by omega
  go_enter Try.func62, Try.ntmps62
  go_wp2
  go_region
  all_goals go_wp2
  all_goals refine bodyPost_ret (v := .agg #[.int .i64 (i % wd), .int .i64 (i / wd)]) (by simp [results, Try.results62, go_sem]) rfl ⟨rfl, ?_⟩
  all_goals exact (below_all _ _).drew
theorem below_drewN {B : Nat} {w w' : World} (h : Below B w w') (n : Nat) : Below B w (w'.drewN n) := ⟨h.os, h.tape, h.output, h.size, h.block⟩
end Go.Proofs.Ytggdkibbfmjelaa
namespace Go.Proofs.Ytggdkibbfmjelaa
open Go.RowKit
set_option linter.unusedVariables false
set_option linter.unusedSimpArgs false
/-- a field and a motion by value, a field as a result -/
structure Fm1 (w : World) (wd hg : Int) (a : Option Addr) (l : List Int) (c : Nat) (mx my : Int) (w' : World) : Prop where
  b : Below w.heap.size w w'
  s0 : Ints .i64 w w.heap.size a l
  i0 : Ints .i64 w' w'.heap.size a l
  k0 : Box w' w.heap.size 34 (.int .i64 wd) (.int .i64 hg) (.slice a l.length c)
  m : MBox w' (w.heap.size + 1) 24 mx my
  r : Box w' (w.heap.size + 2) 34 (.int .i64 0) (.int .i64 0) (.slice none 0 0)
section
variable {w w1 w2 : World} {ob g c cap : Nat} {wd hg mx my P Q : Int} {a : Option Addr} {l S : List Int}
theorem Fm1.new (h : Ints .i64 w w.heap.size a l) (mx my : Int) : Fm1 w wd hg a l c mx my (((w.alloc (.cells #[.int .i64 wd, .int .i64 hg, .slice a l.length c] 34)).alloc (.cells #[.int .i64 mx, .int .i64 my] 24)).alloc (.cells #[.int .i64 0, .int .i64 0, .slice none 0 0] 34)) := by
  refine ⟨(((Below.refl w.heap.size w).alloc (by simp) _).alloc (by simp) _).alloc (by simp; omega) _, h, ints_alloc (ints_alloc (ints_alloc h _) _) _, ?_, ?_, ?_⟩
  · exact ((Box.new w _ _ _ _).alloc _).alloc _
  · have h1 := (MBox.new (w.alloc (.cells #[.int .i64 wd, .int .i64 hg, .slice a l.length c] 34)) 24 mx my).below (below_all _ (.cells #[.int .i64 0, .int .i64 0, .slice none 0 0] 34))
    simp only [World.size_alloc] at h1
    exact h1
  · have h1 := Box.new ((w.alloc (.cells #[.int .i64 wd, .int .i64 hg, .slice a l.length c] 34)).alloc (.cells #[.int .i64 mx, .int .i64 my] 24)) 34 (.int .i64 0) (.int .i64 0) (.slice none 0 0)
    simp only [World.size_alloc] at h1
    exact h1
theorem Fm1.step (h : Fm1 w wd hg a l c mx my w1) (b : Below w1.heap.size w1 w2) : Fm1 w wd hg a l c mx my w2 := ⟨below_then h.b b, h.s0, ints_below h.i0 b, h.k0.below b, h.m.below b, h.r.below b⟩
theorem Fm1.turn {g : Nat} (h : Fm1 w wd hg a l c mx my w1) (t : w1.grownBy w2 (some g)) (hg' : w.heap.size + 3 ≤ g) : Fm1 w wd hg a l c mx my w2 :=
  ⟨below_turn h.b t h.b.size (by omega), h.s0, ints_turn h.s0 h.b t (by omega), h.k0.turn t (by omega), h.m.turn t (by omega), h.r.turn t (by omega)⟩
/-- the field that is written, in box ob, its cells S in block g -/
structure Bm (w : World) (ob g : Nat) (wd hg : Int) (a : Option Addr) (l : List Int) (c : Nat) (mx my P Q : Int) (S : List Int) (cap : Nat) (wr : World) : Prop where
  f : Fm1 w wd hg a l c mx my wr
  x : Box wr ob 34 (.int .i64 P) (.int .i64 Q) (.slice (some ⟨g, 0, none⟩) S.length cap)
  o : Row wr g 3 (iv S)
  n : w.heap.size + 2 < ob
  m : w.heap.size + 2 < g
  ne : g ≠ ob
theorem Bm.step (h : Bm w ob g wd hg a l c mx my P Q S cap w1) (b : Below w1.heap.size w1 w2) : Bm w ob g wd hg a l c mx my P Q S cap w2 :=
  ⟨h.f.step b, h.x.below b, h.o.of_block (b.block g h.o.lt), h.n, h.m, h.ne⟩
theorem Bm.put (h : Bm w ob g wd hg a l c mx my P Q S cap w1) (j : Nat) (z : Int) : Bm w ob g wd hg a l c mx my P Q (S.set j z) cap (w1.setCell ⟨g, j, none⟩ (.int .i64 z)) :=
  ⟨h.f.turn (turn_set w1 g j _) (by have := h.m; omega), by rw [List.length_set]; exact h.x.other (show ob ≠ g from Ne.symm h.ne) _, by have := h.o.set j (.int .i64 z); rw [iv_set] at this; exact this, h.n, h.m, h.ne⟩
theorem Bm.get (h : Bm w ob g wd hg a l c mx my P Q S cap w1) {j : Nat} (hj : j < S.length) : w1.cell? ⟨g, j, none⟩ = some (.int .i64 S[j]) := by
  rw [h.o.cell (k := j) (by rw [iv_length]; exact hj), iv_get]
theorem Bm.new {a1 : Option Addr} (hf : Fm1 w wd hg a l c mx my w1) (o1 : OwnI w1 (w.heap.size + 3) a1 S) (h0 : 0 < S.length) :
    ∃ g, a1 = some ⟨g, 0, none⟩ ∧ Bm w w1.heap.size g wd hg a l c mx my P Q S cap (w1.alloc (.cells #[.int .i64 P, .int .i64 Q, .slice a1 S.length cap] 34)) := by
  obtain ⟨g, h1, rfl, h3⟩ := o1.row h0
  have hz := hf.r.lt
  exact ⟨g, rfl, hf.step (below_all _ _), Box.new _ _ _ _ _, h3.alloc _, by omega, by omega, by have := h3.lt; omega⟩
theorem Bm.own (h : Bm w ob g wd hg a l c mx my P Q S cap w1) : OwnI w1 (w.heap.size + 3) (some ⟨g, 0, none⟩) S := ⟨g, h.m, .inr ⟨rfl, h.o⟩⟩
theorem Bm.ret2 (h : Bm w ob g wd hg a l c mx my P Q S cap w1) {e : Ending} (he : e = .returned (.tuple #[.agg #[.int .i64 P, .int .i64 Q, .slice (some ⟨g, 0, none⟩) S.length cap], .bool true])) (u0 u1 u2 : Value) :
    FRet (some (P, Q, S)) w e (((w1.setCell ⟨w.heap.size + 2, 0, none⟩ u0).setCell ⟨w.heap.size + 2, 1, none⟩ u1).setCell ⟨w.heap.size + 2, 2, none⟩ u2) :=
  ⟨_, _, he, (ownI_set (ownI_set (ownI_set h.own (by simp) _) (by simp) _) (by simp) _).more (by omega), ((h.f.b.setCell (p := ⟨w.heap.size + 2, 0, none⟩) (by simp) _).setCell (p := ⟨w.heap.size + 2, 1, none⟩) (by simp) _).setCell (p := ⟨w.heap.size + 2, 2, none⟩) (by simp) _⟩
end
set_option maxRecDepth 100000 in
set_option maxHeartbeats 8000000 in
theorem implMove_any (wd hg : Int) (a : Option Addr) (l : List Int) (c : Nat) (mx my : Int) (w : World) (hl : Ints .i64 w w.heap.size a l) (hn : l.length ≤ 1048576) :
    Calls Try.prog 21 #[.agg #[.int .i64 wd, .int .i64 hg, .slice a l.length c], .agg #[.int .i64 mx, .int .i64 my]] w (FRet (moveR wd hg l mx my) w) := by
  have F0 := Lib.hid (Fm1.new (wd := wd) (hg := hg) (c := c) hl mx my)
  obtain ⟨W0, hW0⟩ : ∃ W, ((w.alloc (.cells #[.int .i64 wd, .int .i64 hg, .slice a l.length c] 34)).alloc (.cells #[.int .i64 mx, .int .i64 my] 24)).alloc (.cells #[.int .i64 0, .int .i64 0, .slice none 0 0] 34) = W := ⟨_, rfl⟩
  rw [hW0] at F0
  have HW := Lib.hid hW0
  clear hl hW0
  cases hs : goodB wd hg l with
  | false =>
    rw [moveR_no (by unfold movB; rw [hs]; rfl)]
    have HC := Lib.hid (fun W i => implGood_is wd hg a l c _ false W i (Nat.le_refl _) hn hs)
    clear hs
    go_enter Try.func21, Try.ntmps21
    go_wp2_with fail
    rw [HW.out]
    refine (HC.out _ F0.out.i0).mono ?_
    rintro e w1 ⟨rfl, b1⟩
    have F1 := Lib.hid (F0.out.step b1)
    clear b1 F0
    obtain ⟨r0, r1, r2⟩ := F1.out.r.cells
    have g0 := F1.out.r.frozen 0
    have g1 := F1.out.r.frozen 1
    have g2 := F1.out.r.frozen 2
    go_wp2
    refine bodyPost_ret (v := .tuple #[.agg #[.int .i64 0, .int .i64 0, .slice none 0 0], .bool false]) (by simp [results, Try.results21, go_sem, r0, r1, r2]) rfl ⟨none, 0, rfl, OwnI.none_, ?_⟩
    exact ((F1.out.b.setCell (by simp <;> omega) _).setCell (by simp <;> omega) _).setCell (by simp <;> omega) _
  | true =>
    have HC := Lib.hid (fun W i => implGood_is wd hg a l c _ true W i (Nat.le_refl _) hn hs)
    cases hmt : motB mx my with
    | false =>
      rw [moveR_no (by unfold movB; rw [hmt]; simp)]
      have HG := Lib.hid (fun W => implMot_is mx my false W hmt)
      clear hs hmt
      go_enter Try.func21, Try.ntmps21
      go_wp2_with fail
      rw [HW.out]
      refine (HC.out _ F0.out.i0).mono ?_
      rintro e w1 ⟨rfl, b1⟩
      have F1 := Lib.hid (F0.out.step b1)
      clear b1 F0
      obtain ⟨m0, m1⟩ := F1.out.m.cells
      go_wp2_with fail
      refine (HG.out _).mono ?_
      rintro e w2 ⟨rfl, b2⟩
      have F2 := Lib.hid (F1.out.step b2)
      clear b2 F1 m0 m1
      obtain ⟨r0, r1, r2⟩ := F2.out.r.cells
      have g0 := F2.out.r.frozen 0
      have g1 := F2.out.r.frozen 1
      have g2 := F2.out.r.frozen 2
      go_wp2
      refine bodyPost_ret (v := .tuple #[.agg #[.int .i64 0, .int .i64 0, .slice none 0 0], .bool false]) (by simp [results, Try.results21, go_sem, r0, r1, r2]) rfl ⟨none, 0, rfl, OwnI.none_, ?_⟩
      exact ((F2.out.b.setCell (by simp <;> omega) _).setCell (by simp <;> omega) _).setCell (by simp <;> omega) _
    | true =>
      rw [moveR_yes (movB_iff.2 ⟨hs, hmt⟩)]
      have HG := Lib.hid (fun W => implMot_is mx my true W hmt)
      have HNEW := Lib.hid (fun W' => implNew_any wd hg (-9999) W')
      unfold FRet at HNEW
      have hsh := good_shape hs
      rw [newR_yes (by rw [hsh]; rfl)] at HNEW
      simp only [rW, rH, rL, rB] at HNEW
      obtain ⟨⟨s1, s2⟩, s3, s4⟩ := shapeB_iff.1 hsh
      obtain ⟨⟨v1, v2⟩, v3, v4⟩ := motB_iff.1 hmt
      have hlen := good_len hs
      obtain ⟨W, rfl⟩ := Int.eq_ofNat_of_zero_le (show 0 ≤ wd by omega)
      obtain ⟨H, rfl⟩ := Int.eq_ofNat_of_zero_le (show 0 ≤ hg by omega)
      rw [← Int.natCast_mul] at hlen HNEW
      rw [Int.toNat_natCast] at HNEW
      simp only [Int.toNat_natCast]
      have hlw : l.length = W * H := by omega
      have W1 : 1 ≤ W ∧ W ≤ 8 := by omega
      have H1 : 1 ≤ H ∧ H ≤ 8 := by omega
      have hWH : W * H ≤ 64 := Nat.mul_le_mul W1.2 H1.2
      have hWH0 : 0 < W * H := Nat.mul_pos (by omega) (by omega)
      rw [← mvP_zero W H l mx my] at HNEW
      rw [← mvP_all l mx my W1 H1]
      have HPL := Lib.hid (fun x y (h : inB (W : Int) (H : Int) x y = true) => place_int hsh h)
      have HHAS := Lib.hid (fun x y v Wd h => implHas_is (W : Int) (H : Int) a l.length c x y v Wd h)
      have HPT := Lib.hid (fun i Wd h3 h4 => pointAt_any (W : Int) i Wd (by omega) (by omega) h3 h4)
      have HMISS := Lib.hid (fun k hk h => mvP_miss (l := l) (mx := mx) (my := my) (k := k) W1 H1 hk h)
      have HHIT := Lib.hid (fun k hk z hz h => mvP_hitZ (l := l) (mx := mx) (my := my) (k := k) W1 H1 hlw hk z hz h)
      have HLEN := Lib.hid (mvP_len W H l mx my)
      have HGC := Lib.hid (fun (i : Nat) hi => grid_cell (W := W) (H := H) (i := i) (by omega) hi)
      have HLW := Lib.hid hlw
      clear hs hmt hsh hlen hlw
      generalize hP : mvP W H l mx my = P at *
      clear hP
      go_enter Try.func21, Try.ntmps21
      go_wp2_with fail
      rw [HW.out]
      refine (HC.out _ F0.out.i0).mono ?_
      rintro e w1 ⟨rfl, b1⟩
      have F1 := Lib.hid (F0.out.step b1)
      clear b1 F0
      obtain ⟨m0, m1⟩ := F1.out.m.cells
      go_wp2_with fail
      refine (HG.out _).mono ?_
      rintro e w2 ⟨rfl, b2⟩
      have F2 := Lib.hid (F1.out.step b2)
      clear b2 F1 m0 m1
      obtain ⟨k0, k1, k2⟩ := F2.out.k0.cells
      go_wp2_with fail
      refine (HNEW.out _).mono ?_
      rintro e w3 ⟨a3, c3, rfl, o3, b3⟩
      have F3 := Lib.hid (F2.out.step b3)
      have hz3 := F2.out.r.lt
      obtain ⟨g, rfl, hB⟩ := Bm.new (P := (W : Int)) (Q := (H : Int)) (cap := c3) F3.out (o3.more (by omega)) (by rw [HLEN.out]; exact hWH0)
      have HB := Lib.hid hB
      have hzr := F3.out.r.lt
      clear b3 F2 k0 k1 k2 o3 hB hz3
      obtain ⟨k0, k1, k2⟩ := F3.out.k0.cells
      have q3 : w.heap.size < w3.heap.size := by omega
      have q4 : ¬ w.heap.size = w3.heap.size := by omega
      go_wp2
      generalize w3.heap.size = ob at *
      clear k0 k1 k2 q3 q4 F3 hzr
      go_loopw [33] (fun i wr => ∃ k : Nat, k ≤ l.length ∧ i = .int .i64 k ∧ Bm w ob g W H a l c mx my W H (P k) c3 wr) (fun i _ => l.length - (intOf i).toNat)
      case atStart => exact ⟨0, Nat.zero_le _, rfl, HB.out⟩
      case round =>
        clear HB
        obtain ⟨k, hk, rfl, hB⟩ := hrel
        have HB := Lib.hid hB
        by_cases hlt : k < l.length
        · have hkW : k < W * H := by rw [← HLW.out]; exact hlt
          have hi : (k : Int) < (l.length : Int) := by omega
          have hi0 : (0 : Int) ≤ (k : Int) := by omega
          obtain ⟨b, o, rfl, hb, hc⟩ := hB.f.i0.at_ hlt
          obtain ⟨k0, k1, k2⟩ := hB.f.k0.cells
          have hgc := HGC.out k hkW
          obtain ⟨⟨c1, c2⟩, c3', c4⟩ := inB_iff.1 hgc
          have HPK := Lib.hid (fun Wd => HPT.out (k : Int) Wd hi0 (by omega))
          have hMS := Lib.hid (HMISS.out k hkW)
          have hHT := Lib.hid (HHIT.out k hkW _ (getD_at hlt))
          generalize l[k] = z at *
          generalize (k : Int) % (W : Int) = x at *
          generalize (k : Int) / (W : Int) = y at *
          clear hB hgc
          go_wp2_with fail
          refine (HPK.out _).mono ?_
          rintro e w4 ⟨rfl, b4⟩
          have HB4 := Lib.hid (HB.out.step b4)
          clear b4 k0 k1 k2 hc HB
          have hz4 := HB4.out.f.r.lt
          obtain ⟨W5, hW5⟩ : ∃ x', w4.alloc (.cells #[.int .i64 x, .int .i64 y] 83) = x' := ⟨_, rfl⟩
          have HB5 := Lib.hid (HB4.out.step (below_all w4 (.cells #[.int .i64 x, .int .i64 y] 83)))
          have HP5 := Lib.hid (MBox.new w4 83 x y)
          rw [hW5] at HB5 HP5
          have HW5 := Lib.hid hW5
          clear hW5 HB4
          go_wp2_with fail
          rw [HW5.out]
          obtain ⟨p0, p1⟩ := HP5.out.cells
          obtain ⟨n0, n1⟩ := HB5.out.f.m.cells
          generalize w4.heap.size = pb at *
          have hwx := IntWalk.i64_in (x + mx) (by omega)
          have hwy := IntWalk.i64_in (y + my) (by omega)
          go_quiet (fail)
          clear p0 p1 n0 n1 HW5
          generalize hW6 : W5.drewN _ = W6
          have HB6 : Hid (Bm w ob g W H (some ⟨b, o, none⟩) l c mx my W H (P k) c3 W6) := Lib.hid (by rw [← hW6]; exact HB5.out.step (below_drewN (Below.refl _ _) _))
          clear hW6 HB5 HP5
          obtain ⟨k0, k1, k2⟩ := HB6.out.f.k0.cells
          cases hin : inB (W : Int) (H : Int) (x + mx) (y + my) with
          | false =>
            have HC2 := Lib.hid (fun Wd => HHAS.out _ _ false Wd hin)
            have HE := Lib.hid (hMS.out hin)
            clear hin hHT hMS
            go_wp2_with fail
            refine (HC2.out _).mono ?_
            rintro e w7 ⟨rfl, b7⟩
            have HB7 := Lib.hid (HB6.out.step b7)
            clear b7 k0 k1 k2
            go_wp2
            go_roundw
            case rel => exact ⟨k + 1, by omega, by go_num, by rw [HE.out]; exact HB7.out⟩
            case measure => simp [intOf]; omega
          | true =>
            have HC2 := Lib.hid (fun Wd => HHAS.out _ _ true Wd hin)
            have HE := Lib.hid (hHT.out hin)
            obtain ⟨p1, p2, p3, p4⟩ := HPL.out _ _ hin
            obtain ⟨⟨i1, i2⟩, i3, i4⟩ := inB_iff.1 hin
            rw [← Int.natCast_mul] at p2
            generalize place (W : Int) (x + mx) (y + my) = q at *
            clear hin hHT hMS
            go_wp2_with fail
            refine (HC2.out _).mono ?_
            rintro e w7 ⟨rfl, b7⟩
            have HB7 := Lib.hid (HB6.out.step b7)
            clear b7 k0 k1 k2 HB6
            obtain ⟨k0, k1, k2⟩ := HB7.out.f.k0.cells
            obtain ⟨x0, x1, x2⟩ := HB7.out.x.cells
            have hlp : (P k).length = W * H := HLEN.out k
            obtain ⟨ov, hov⟩ : ∃ ov, w7.cell? ⟨g, q, none⟩ = some (.int .i64 ov) := ⟨_, HB7.out.get (j := q) (by omega)⟩
            have hof := HB7.out.o.frozen q
            have hq0 : (0 : Int) ≤ (q : Int) := by omega
            have hq1 : (q : Int) < ((P k).length : Int) := by omega
            have e1 : (y + my) * (W : Int) = (q : Int) - (x + mx) := by omega
            have w1' := IntWalk.i64_in ((y + my) * (W : Int)) (by omega)
            have w2' := IntWalk.i64_in (q : Int) (by omega)
            have HPT2 : Hid (Bm w ob g W H (some ⟨b, o, none⟩) l c mx my W H ((P k).set q z) c3 (w7.setCell ⟨g, q, none⟩ (.int .i64 z))) := Lib.hid (HB7.out.put q z)
            rw [HE.out] at HPT2
            clear hlp e1
            go_wp2
            go_roundw
            case rel => exact ⟨k + 1, by omega, by go_num, HPT2.out⟩
            case measure => simp [intOf]; omega
        · obtain rfl : k = l.length := by omega
          have hBB := hB
          rw [HLW.out] at hBB
          have HBB := Lib.hid hBB
          obtain ⟨x0, x1, x2⟩ := hBB.x.cells
          obtain ⟨r0, r1, r2⟩ := hB.f.r.cells
          have g0 := hB.f.r.frozen 0
          have g1 := hB.f.r.frozen 1
          have g2 := hB.f.r.frozen 2
          have q7 : ¬ w.heap.size + 2 = ob := by have := hB.n; omega
          have q8 : ¬ ob = w.heap.size + 2 := by omega
          clear hB hBB
          generalize P (W * H) = L at *
          go_wp2
          refine bodyPost_ret (v := .tuple #[.agg #[.int .i64 W, .int .i64 H, .slice (some ⟨g, 0, none⟩) L.length c3], .bool true]) (by simp [results, Try.results21, go_sem, r0, r1, r2]) rfl ?_
          exact HBB.out.ret2 rfl _ _ _
end Go.Proofs.Ytggdkibbfmjelaa
namespace Go.Proofs.Ytggdkibbfmjelaa
open Go.RowKit
set_option linter.unusedVariables false
set_option linter.unusedSimpArgs false
section
variable {wa ha : Int} {la : List Int} {wb hb : Int} {lb : List Int} {mx my : Int}
theorem maB_move_no (h : movB wa ha la mx my = false) : maB wa ha la wb hb lb mx my = false := by
  cases h2 : maB wa ha la wb hb lb mx my with
  | false => rfl
  | true =>
    obtain ⟨h3, h4⟩ := maB_iff.1 h2
    rw [movB_iff.2 ⟨(same_iff.1 h3).1, h4⟩] at h
    cases h
theorem maB_move (h : movB wa ha la mx my = true) : maB wa ha la wb hb lb mx my = sameB wa ha (mvR wa.toNat ha.toNat la mx my) wb hb lb ∧ maG wa ha la wb hb lb mx my = erG wa ha (mvR wa.toNat ha.toNat la mx my) wb hb lb ∧ maN wa ha la wb hb lb mx my = erN wa ha (mvR wa.toNat ha.toNat la mx my) wb hb lb := by
  obtain ⟨h1, h2⟩ := movB_iff.1 h
  have e : maB wa ha la wb hb lb mx my = sameB wa ha (mvR wa.toNat ha.toNat la mx my) wb hb lb := by
    unfold maB sameB
    rw [h1, h2, move_good h1 mx my]; simp
  refine ⟨e, ?_, ?_⟩
  · unfold maG erG; rw [e]
  · unfold maN erN; rw [e]
end
set_option maxRecDepth 100000 in
set_option maxHeartbeats 4000000 in
theorem implMatch_any (wa ha : Int) (aa : Option Addr) (la : List Int) (ca : Nat) (wb hb : Int) (ab : Option Addr) (lb : List Int) (cb : Nat) (mx my : Int) (w : World) (h1 : Ints .i64 w w.heap.size aa la) (h2 : Ints .i64 w w.heap.size ab lb) (n1 : la.length ≤ 1048576) (n2 : lb.length ≤ 1048576) :
    Calls Try.prog 28 #[.agg #[.int .i64 wa, .int .i64 ha, .slice aa la.length ca], .agg #[.int .i64 wb, .int .i64 hb, .slice ab lb.length cb], .agg #[.int .i64 mx, .int .i64 my]] w fun e w' => e = .returned (.tuple #[.int .i64 (maG wa ha la wb hb lb mx my), .int .i64 (maN wa ha la wb hb lb mx my), .bool (maB wa ha la wb hb lb mx my)]) ∧ Below w.heap.size w w' := by
  have F0 := Lib.hid (Lx3.new (wd0 := wa) (hg0 := ha) (c0 := ca) (wd1 := wb) (hg1 := hb) (c1 := cb) h1 h2 mx my)
  obtain ⟨W0, hW0⟩ : ∃ W, ((w.alloc (.cells #[.int .i64 wa, .int .i64 ha, .slice aa la.length ca] 34)).alloc (.cells #[.int .i64 wb, .int .i64 hb, .slice ab lb.length cb] 34)).alloc (.cells #[.int .i64 mx, .int .i64 my] 24) = W := ⟨_, rfl⟩
  rw [hW0] at F0
  have HW := Lib.hid hW0
  clear h1 h2 hW0
  have HMV := Lib.hid (fun W i => implMove_any wa ha aa la ca mx my W i n1)
  unfold FRet at HMV
  cases hm : movB wa ha la mx my with
  | false =>
    rw [moveR_no hm] at HMV
    have hB := maB_move_no (wb := wb) (hb := hb) (lb := lb) hm
    rw [maG_no hB, maN_no hB, hB]
    simp only [rW, rH, rL, rB, List.length_nil] at HMV
    clear hm hB
    go_enter Try.func28, Try.ntmps28
    go_wp2_with fail
    rw [HW.out]
    refine (HMV.out _ F0.out.f.i0).mono ?_
    rintro e w1 ⟨a1, c1, rfl, o1, b1⟩
    have B1 := Lib.hid (below_then F0.out.f.b b1)
    have B2 := Lib.hid (below_then B1.out (below_all w1 (.cells #[.int .i64 0, .int .i64 0, .slice a1 0 c1] 34)))
    clear b1 o1
    go_wp2
    exact bodyPost_ret (v := .tuple #[.int .i64 0, .int .i64 0, .bool false]) (by simp [results, Try.results28, go_sem]) rfl ⟨rfl, B2.out⟩
  | true =>
    rw [moveR_yes hm] at HMV
    obtain ⟨e1, e2, e3⟩ := maB_move (wb := wb) (hb := hb) (lb := lb) hm
    rw [e1, e2, e3]
    simp only [rW, rH, rL, rB] at HMV
    have hq64 := (good_le (move_good (movB_iff.1 hm).1 mx my)).2
    generalize mvR wa.toNat ha.toNat la mx my = q at *
    have HE := Lib.hid (fun a1 c1 Wd i1 i2 => implErr_any wa ha a1 q c1 wb hb ab lb cb Wd i1 i2 (by omega) n2)
    clear hm e1 e2 e3
    generalize erG wa ha q wb hb lb = g at *
    generalize erN wa ha q wb hb lb = n at *
    generalize sameB wa ha q wb hb lb = v at *
    go_enter Try.func28, Try.ntmps28
    go_wp2_with fail
    rw [HW.out]
    refine (HMV.out _ F0.out.f.i0).mono ?_
    rintro e w1 ⟨a1, c1, rfl, o1, b1⟩
    have F1 := Lib.hid (F0.out.step b1)
    have hz := F1.out.m.lt
    obtain ⟨k0, k1, k2⟩ := F1.out.f.k1.cells
    have HI1 := Lib.hid (ints_alloc o1.ints (.cells #[.int .i64 wa, .int .i64 ha, .slice a1 q.length c1] 34))
    have HI2 := Lib.hid (ints_alloc F1.out.f.i1 (.cells #[.int .i64 wa, .int .i64 ha, .slice a1 q.length c1] 34))
    have B1 := Lib.hid (below_then F1.out.f.b (below_all w1 (.cells #[.int .i64 wa, .int .i64 ha, .slice a1 q.length c1] 34)))
    have q1 : w.heap.size + 1 < w1.heap.size := by omega
    have q2 : ¬ w.heap.size + 1 = w1.heap.size := by omega
    clear b1 o1 F0 HW HMV
    go_wp2_with fail
    refine (HE.out _ _ _ HI1.out HI2.out).mono ?_
    rintro e w2 ⟨rfl, b2⟩
    have B2 := Lib.hid (below_then B1.out b2)
    clear b2
    go_wp2
    exact bodyPost_ret (v := .tuple #[.int .i64 g, .int .i64 n, .bool v]) (by simp [results, Try.results28, go_sem]) rfl ⟨rfl, B2.out⟩
end Go.Proofs.Ytggdkibbfmjelaa
namespace Go.Proofs.Ytggdkibbfmjelaa
open Go.RowKit
set_option linter.unusedVariables false
set_option linter.unusedSimpArgs false
theorem infoMt : (Try.prog.info? 97).map (fun i => (i.zero, i.size, i.bytes)) = some (some (.agg #[.int .i64 0, .int .i64 0, .int .i64 0, .int .i64 0]), 4, 32) := by kernel_rfl
theorem ownMt_of {w : World} {B n : Nat} {v : Value} {l : List MtT} (h : w.ownsRow B 97 4 v n (mtv l)) (hn : n = l.length) : ∃ a c, v = .slice a l.length c ∧ OwnMt w B a l := by
  subst hn
  obtain ⟨h1, ⟨h2, h3⟩ | ⟨g, cap, cur, h2, hb, hh, hc, _, hcs, hx⟩⟩ := h
  · refine ⟨none, 0, by rw [h2, h3], ?_⟩
    have : l = [] := List.eq_nil_of_length_eq_zero h3
    subst this
    exact OwnMt.none_
  · subst h2
    refine ⟨_, _, rfl, g, hb, .inr ⟨rfl, cur, hh, fun k hk => ?_⟩⟩
    have hk' := hk
    rw [mtv_length] at hk'
    have e : (mtv l)[k]? = cur[k]? := by
      rw [← hx, List.getElem?_take, if_pos hk']
      simp
    rw [← e]
    exact List.getElem?_eq_getElem hk
theorem ownRow_keeps {w w' : World} {base e size n : Nat} {v : Value} {xs : List Value} (h : w.ownsRow base e size v n xs) (hb : Below w.heap.size w w') : w'.ownsRow base e size v n xs :=
  h.kept (row := none) ⟨hb.os, hb.tape, hb.output, hb.size, fun i hi _ => hb.block i hi⟩ (by cases h1 : v.ownBlock with | none => exact .inl rfl | some k => exact .inr (by simp))
theorem own_ne_row {w : World} {b base e n size : Nat} {t : TypeId} {v : Value} {xs vs : List Value} (h : w.ownsRow base e size v n xs) (hb : Row w b t vs) (hne : e ≠ t) : v.ownBlock ≠ some b := by
  rcases h.2 with ⟨rfl, _⟩ | ⟨g', cap, cur, rfl, _, hh, _⟩
  · simp [Value.ownBlock]
  · intro he
    have h9 : g' = b := by simpa [Value.ownBlock] using he
    subst h9
    obtain ⟨cc, h4, _⟩ := hb
    rw [hh] at h4
    injection h4 with h4
    injection h4 with _ h5
    exact hne h5
theorem row_mo {w : World} {g : Nat} {t : TypeId} {l : List MoT} (h : Row w g t (mov l)) {k : Nat} (hk : k < l.length) : w.cell? ⟨g, k * 2, none⟩ = some (.int .i64 l[k].1) ∧ w.cell? ⟨g, k * 2 + 1, none⟩ = some (.int .i64 l[k].2) := by
  obtain ⟨h1, h2⟩ := mov_get l k hk
  have hl := mov_length l
  constructor
  · rw [h.cell (k := k * 2) (by omega), ← h1]; simp [List.getElem?_eq_getElem (show k * 2 < (mov l).length by omega)]
  · rw [h.cell (k := k * 2 + 1) (by omega), ← h2]; simp [List.getElem?_eq_getElem (show k * 2 + 1 < (mov l).length by omega)]
section
variable {w w1 w2 : World} {wd0 hg0 wd1 hg1 : Int} {a0 a1 : Option Addr} {l0 l1 : List Int} {c0 c1 : Nat}
theorem Lx2.grown4 {b e n size : Nat} {v : Value} {xs : List Value} (h : Lx2 w wd0 hg0 a0 l0 c0 wd1 hg1 a1 l1 c1 w1) (o : w1.ownsRow b e size v n xs) (ob : Obj) (k : (w1.alloc ob).grownBy w2 v.ownBlock) (hb : w.heap.size + 2 ≤ b) : Lx2 w wd0 hg0 a0 l0 c0 wd1 hg1 a1 l1 c1 w2 := by
  have hne : ∀ j, v.ownBlock = some j → w.heap.size + 2 ≤ j := fun j hj => by have := (o.lt j hj).1; omega
  have h2 := h.step (below_all w1 ob)
  have hB := h2.b.grown k h2.b.size (fun j hj => by have := hne j hj; omega)
  exact ⟨hB, h.s0, h.s1, (h.s0.below hB (Nat.le_refl _)).more hB.size, (h.s1.below hB (Nat.le_refl _)).more hB.size, h2.k0.grown k (fun e => by have := hne _ e.symm; omega), h2.k1.grown k (fun e => by have := hne _ e.symm; omega)⟩
end
set_option maxRecDepth 100000 in
set_option maxHeartbeats 8000000 in
theorem implQl_any (wa ha : Int) (aa : Option Addr) (la : List Int) (ca : Nat) (wb hb : Int) (ab : Option Addr) (lb : List Int) (cb : Nat) (w : World) (h1 : Ints .i64 w w.heap.size aa la) (h2 : Ints .i64 w w.heap.size ab lb) (n1 : la.length ≤ 64) (n2 : lb.length ≤ 64) (hbd : ∀ x y, (-2 ≤ x ∧ x ≤ 2) → (-2 ≤ y ∧ y ≤ 2) → 0 ≤ maN wa ha la wb hb lb x y ∧ maN wa ha la wb hb lb x y ≤ 64) :
    Calls Try.prog 73 #[.agg #[.int .i64 wa, .int .i64 ha, .slice aa la.length ca], .agg #[.int .i64 wb, .int .i64 hb, .slice ab lb.length cb]] w fun e w' => ∃ a c, e = .returned (.slice a (qlL (maG wa ha la wb hb lb) (maN wa ha la wb hb lb) la.length 25).length c) ∧ OwnMt w' w.heap.size a (qlL (maG wa ha la wb hb lb) (maN wa ha la wb hb lb) la.length 25) ∧ Below w.heap.size w w' := by
  obtain ⟨i0, hi0', hz0, hz1, hz2⟩ := info_parts infoMt
  have F0 := Lib.hid (Lx2.new (wd0 := wa) (hg0 := ha) (c0 := ca) (wd1 := wb) (hg1 := hb) (c1 := cb) h1 h2)
  have HMA := Lib.hid (fun x y Wd i1 i2 => implMatch_any wa ha aa la ca wb hb ab lb cb x y Wd i1 i2 (by omega) (by omega))
  obtain ⟨w1, hw1⟩ : ∃ x, (w.alloc (.cells #[.int .i64 wa, .int .i64 ha, .slice aa la.length ca] 34)).alloc (.cells #[.int .i64 wb, .int .i64 hb, .slice ab lb.length cb] 34) = x := ⟨_, rfl⟩
  rw [hw1] at F0
  have hsz1 : w.heap.size + 2 ≤ w1.heap.size := by rw [← hw1]; simp
  have hsz2 : w1.heap.size ≤ w.heap.size + 2 := by rw [← hw1]; simp
  have HW := Lib.hid hw1
  have HBD := Lib.hid hbd
  clear h1 h2 hw1 hbd
  generalize maG wa ha la wb hb lb = G at *
  generalize maN wa ha la wb hb lb = N at *
  generalize maB wa ha la wb hb lb = B at *
  have HLN := Lib.hid (fun n => ql_len (G := G) (N := N) (len := (la.length : Int)) n)
  go_enter Try.func73, Try.ntmps73
  go_wp2_with fail
  rw [HW.out]
  have O1 := Lib.hid (World.ownsRow_made (base := w1.heap.size) (e := 97) (size := 4) w1 #[] 0 (Nat.le_refl _) (by unfold maxLen; omega) rfl)
  have F1 := Lib.hid (F0.out.step (below_all w1 (.cells #[] 97)))
  refine (implEvery_any _).mono ?_
  rintro e w2 ⟨a2, c2, rfl, o2, b2⟩
  have F2 := Lib.hid (F1.out.step b2)
  have O2 := Lib.hid (ownRow_keeps O1.out b2)
  have hz2' := b2.size
  obtain ⟨g2, hg2, hm⟩ := o2
  obtain ⟨rfl, hR⟩ : a2 = some ⟨g2, 0, none⟩ ∧ Row w2 g2 24 (mov (moL 25)) := by
    rcases hm with h | h
    · have := congrArg List.length h; rw [moL_len] at this; simp at this
    · exact h
  have HR2 := Lib.hid hR
  have hrl : w1.heap.size < w2.heap.size := by simp at hz2'; omega
  clear F0 F1 O1 b2 hm HW hz2' hR
  go_wp2
  go_loopw [5, 14] (fun q i wr => ∃ k : Nat, k ≤ 25 ∧ i = .int .i64 k ∧ wr.ownsRow w1.heap.size 97 4 q (qlL G N la.length k).length (mtv (qlL G N la.length k)) ∧ Lx2 w wa ha aa la ca wb hb ab lb cb wr ∧ Row wr g2 24 (mov (moL 25)) ∧ w1.heap.size < wr.heap.size) (fun _ i _ => 25 - (intOf i).toNat)
  case atStart => exact ⟨0, Nat.zero_le _, rfl, by have h9 := O2.out; (try rw [show w1.heap.size = w.heap.size + 1 + 1 by omega] at h9 ⊢); exact h9, F2.out, HR2.out, hrl⟩
  case round =>
    clear O2 F2 HR2
    obtain ⟨k, hk, rfl, hown, hL, hR, hzz⟩ := hrel
    have HO := Lib.hid hown
    have HX := Lib.hid hL
    have HR := Lib.hid hR
    have hqn := HLN.out k
    have hsz := hL.b.size
    by_cases hlt : k < 25
    · obtain ⟨c0, c1⟩ := row_mo hR (k := k) (by rw [moL_len]; exact hlt)
      rw [moL_get] at c0 c1
      have hmb := mo_bd hlt
      have HY := Lib.hid (fun h => qlL_yes (G := G) (N := N) (len := (la.length : Int)) (n := k) h)
      have HN := Lib.hid (fun h => qlL_no (G := G) (N := N) (len := (la.length : Int)) (n := k) h)
      have hnb := HBD.out _ _ hmb.1 hmb.2
      have HMK := Lib.hid (fun Wd i1 i2 => HMA.out (moX k) (moY k) Wd i1 i2)
      unfold mtAt at HY
      clear hown hL hR hmb
      generalize moX k = mx at *
      generalize moY k = my at *
      have hi : (k : Int) < 25 := by omega
      have hi0 : (0 : Int) ≤ (k : Int) := by omega
      have HP := Lib.hid (MBox.new wr 24 mx my)
      obtain ⟨w3, hw3⟩ : ∃ x, wr.alloc (.cells #[.int .i64 mx, .int .i64 my] 24) = x := ⟨_, rfl⟩
      have HX3 := Lib.hid (HX.out.step (below_all wr (.cells #[.int .i64 mx, .int .i64 my] 24)))
      have HO3 := Lib.hid (HO.out.alloc (.cells #[.int .i64 mx, .int .i64 my] 24))
      have HR3 := Lib.hid (HR.out.alloc (.cells #[.int .i64 mx, .int .i64 my] 24))
      have hz3 : wr.heap.size < w3.heap.size := by rw [← hw3]; simp
      rw [hw3] at HX3 HO3 HR3 HP
      have HW3 := Lib.hid hw3
      obtain ⟨k0, k1, k2⟩ := HX.out.k0.cells
      obtain ⟨l0, l1, l2⟩ := HX.out.k1.cells
      have q1 : w.heap.size < wr.heap.size := by omega
      have q2 : ¬ w.heap.size = wr.heap.size := by omega
      have q3 : w.heap.size + 1 < wr.heap.size := by omega
      have q4 : ¬ w.heap.size + 1 = wr.heap.size := by omega
      clear hw3
      go_wp2_with fail
      rw [HW3.out]
      refine (HMK.out _ HX3.out.i0 HX3.out.i1).mono ?_
      rintro e w4 ⟨rfl, b4⟩
      have HX4 := Lib.hid (HX3.out.step b4)
      have HO4 := Lib.hid (ownRow_keeps HO3.out b4)
      have HR4 := Lib.hid (HR3.out.of_block (b4.block g2 HR3.out.lt))
      have HP4 := Lib.hid (HP.out.below b4)
      have hz4 := b4.size
      obtain ⟨v1, v2⟩ := hnb
      clear b4 k0 k1 k2 l0 l1 l2 c0 c1 q1 q2 q3 q4 HX HO HR HX3 HO3 HR3 HP HW3 HMK
      generalize wr.heap.size = pb at *
      generalize G mx my = gg at *
      generalize hNn : N mx my = nn at *
      obtain ⟨k0, k1, k2⟩ := HX4.out.k0.cells
      obtain ⟨p0, p1⟩ := HP4.out.cells
      have w1' := IntWalk.i64_in (2 * nn) (by omega)
      by_cases hq : (la.length : Int) ≤ 2 * nn
      · have HE := Lib.hid (HY.out hq)
        clear HY HN hNn
        generalize qlL G N (la.length : Int) k = r at *
        have hne := Lib.hid (own_ne_row HO4.out HR4.out (by decide))
        go_wp2_with (at_builtin; go_loud (refine wpList_append_own _ rfl _ _ 93 rfl w1.heap.size 97 i0 (.agg #[.int .i64 0, .int .i64 0, .int .i64 0, .int .i64 0]) 4 32 Try.underlying93 hi0' hz0 hz1 hz2 rfl (by decide) _ r.length (mtv r) rfl (HO4.out.alloc _) ⟨w4.heap.size, 0, none⟩ 1 1 [.int .i64 mx, .int .i64 my, .int .i64 gg, .int .i64 nn] rfl rfl (World.news_of_block (heap_alloc_new _ _)) (by simp [Value.oneCell']) (by unfold maxLen; omega) (by omega) (by simp; omega) ?_); intro v' w5 hown' hgr _; have HO5 := Lib.hid hown'; have HG5 := Lib.hid hgr; clear hown' hgr)
        go_roundw
        case rel =>
          refine ⟨k + 1, by omega, by go_num, ?_, HX4.out.grown4 HO4.out _ HG5.out (by omega), ?_, by have := HG5.out.size; simp at this; omega⟩
          · rw [HE.out, List.length_append, mtv_append]; exact HO5.out
          · exact (HR4.out.alloc _).of_block (HG5.out.block g2 (HR4.out.alloc _).lt (Ne.symm hne.out))
        case measure => simp [intOf]; omega
      · have HE := Lib.hid (HN.out (by omega))
        clear HY HN hNn
        go_wp2
        go_roundw
        case rel => exact ⟨k + 1, by omega, by go_num, by rw [HE.out]; exact HO4.out, HX4.out, HR4.out, by omega⟩
        case measure => simp [intOf]; omega
    · obtain rfl : k = 25 := by omega
      obtain ⟨a', c', rfl, ho⟩ := ownMt_of HO.out rfl
      have HOO := Lib.hid ho
      clear ho HO hL hown hR
      go_wp2
      go_ret
      exact ⟨a', c', rfl, HOO.out.more (by omega), HX.out.b⟩
end Go.Proofs.Ytggdkibbfmjelaa
namespace Go.Proofs.Ytggdkibbfmjelaa
open Go.RowKit
set_option linter.unusedVariables false
set_option linter.unusedSimpArgs false
/-- an append onto a row of the call's own, as a step of a region; the source may be empty -/
theorem step_putM {P : Program} {w : World} {ops : Array Oper} {o : Oper} {a : Act} {K : Act → World → Prop} {Q : Exit → Act → World → Prop} {E : Prop} (hgd : o.guard = none) (s x : Operand) (t : TypeId)
    (ho : o.op = .call { callee := .builtin .append, args := #[s, x], argTypes := #[t, t] })
    (base : Nat) (e : TypeId) (i : TypeInfo) (z : Value) (ht : P.underlying t = some (.slice e)) (hi : P.info? e = some i) (hz : i.zero = some z)
    (hsize : i.size = 2) (hby : i.bytes = 16) (hzs : z.cells.size = 2)
    (v : Value) (n : Nat) (xs : List Value) (hs : a.eval s = v) (hown : w.ownsRow base e 2 v n xs)
    (ad : Addr) (m c : Nat) (news : List Value) (hx : a.eval x = .slice (some ad) m c) (hl : news.length = m * 2) (hnews : ∀ j u, news[j]? = some u → w.cell? (ad.add j) = some u) (h1 : ∀ u ∈ news, u.oneCell' = true)
    (h63 : n + m ≤ 1048576) (hbase : base ≤ w.heap.size)
    (h : ∀ v' w', w'.ownsRow base e 2 v' (n + m) (xs ++ news) → w.grownBy w' v.ownBlock → K (a.put o.dst v') w') :
    if Region.wanted o (yielded ops a.tmps) = true then Oper.wp P o a w K Q else E := by
  rw [if_pos (by simp [Region.wanted, hgd])]
  exact wp_append_own w s x t ho base e i z 2 16 ht hi hz hsize hby hzs (by omega) v n xs hs hown ad m c news hx hl hnews h1 (by unfold maxLen; omega) (by omega) hbase fun v' w' h2 h3 _ => h v' w' h2 h3
theorem mov_split (l : List MoT) (k : Nat) : mov l = mov (l.take k) ++ mov (l.drop k) := by rw [← mov_append, List.take_append_drop]
theorem mput_take {w W : World} {g : Nat} {l : List MoT} {k : Nat} (h : ∀ (j : Nat) (u : Value), (mov l)[j]? = some u → w.cell? ⟨g, j, none⟩ = some u) (hg : g < w.heap.size) (hb : Below w.heap.size w W) : ∀ (j : Nat) (u : Value), (mov (l.take k))[j]? = some u → W.cell? ((⟨g, 0, none⟩ : Addr).add j) = some u := by
  intro j u hu
  have hadd : (⟨g, 0, none⟩ : Addr).add j = ⟨g, j, none⟩ := by unfold Addr.add; split <;> simp_all
  rw [hadd, hb.cell (p := ⟨g, j, none⟩) hg]
  refine h j u ?_
  rw [mov_split l k, List.getElem?_append_left (List.getElem?_eq_some_iff.1 hu).1]
  exact hu
theorem mput_drop {w W : World} {g : Nat} {l : List MoT} {k : Nat} (h : ∀ (j : Nat) (u : Value), (mov l)[j]? = some u → w.cell? ⟨g, j, none⟩ = some u) (hg : g < w.heap.size) (hk : k ≤ l.length) (hb : Below w.heap.size w W) : ∀ (j : Nat) (u : Value), (mov (l.drop k))[j]? = some u → W.cell? ((⟨g, k * 2, none⟩ : Addr).add j) = some u := by
  intro j u hu
  have hadd : (⟨g, k * 2, none⟩ : Addr).add j = ⟨g, k * 2 + j, none⟩ := by unfold Addr.add; split <;> simp_all
  rw [hadd, hb.cell (p := ⟨g, k * 2 + j, none⟩) hg]
  refine h (k * 2 + j) u ?_
  have hlen : (mov (l.take k)).length = k * 2 := by rw [mov_length, List.length_take, Nat.min_eq_left hk]
  rw [mov_split l k, List.getElem?_append_right (by omega), hlen, show k * 2 + j - k * 2 = j by omega]
  exact hu
theorem litM_grown {W W1 : World} {B g : Nat} {vs : List Value} (h : ∀ (j : Nat) (u : Value), vs[j]? = some u → W.cell? ((⟨B, 0, none⟩ : Addr).add j) = some u) (hg : W.grownBy W1 (some g)) (hB : B < W.heap.size) (hne : B ≠ g) : ∀ (j : Nat) (u : Value), vs[j]? = some u → W1.cell? ((⟨B, 0, none⟩ : Addr).add j) = some u := by
  intro j u hu
  have e := h j u hu
  have hadd : (⟨B, 0, none⟩ : Addr).add j = ⟨B, j, none⟩ := by unfold Addr.add; split <;> simp_all
  rw [hadd] at e ⊢
  unfold World.cell? at e ⊢
  rw [hg.block B hB (by intro q; injection q with q; exact hne q)]
  exact e
theorem litM_below {W W1 : World} {B : Nat} {vs : List Value} (h : ∀ (j : Nat) (u : Value), vs[j]? = some u → W.cell? ((⟨B, 0, none⟩ : Addr).add j) = some u) (hb : Below W.heap.size W W1) (hB : B < W.heap.size) : ∀ (j : Nat) (u : Value), vs[j]? = some u → W1.cell? ((⟨B, 0, none⟩ : Addr).add j) = some u := by
  intro j u hu
  have e := h j u hu
  have hadd : (⟨B, 0, none⟩ : Addr).add j = ⟨B, j, none⟩ := by unfold Addr.add; split <;> simp_all
  rw [hadd] at e ⊢
  rw [hb.cell (p := ⟨B, j, none⟩) hB]
  exact e
theorem lit_newM (w : World) (x y : Int) (t : TypeId) : ∀ (j : Nat) (u : Value), [Value.int .i64 x, .int .i64 y][j]? = some u → (w.alloc (.cells #[.int .i64 x, .int .i64 y] t)).cell? ((⟨w.heap.size, 0, none⟩ : Addr).add j) = some u := World.news_of_block (heap_alloc_new _ _)
theorem ownM_slice {w : World} {base e size n : Nat} {v : Value} {xs : List Value} (h : w.ownsRow base e size v n xs) (hn : 0 < n) : ∃ g cap, v = .slice (some ⟨g, 0, none⟩) n cap := by
  rcases h.2 with ⟨_, h1⟩ | ⟨g, cap, cur, h1, _⟩
  · omega
  · exact ⟨g, cap, h1⟩
theorem ownM_base {w : World} {B C e size n : Nat} {v : Value} {xs : List Value} (h : w.ownsRow C e size v n xs) (hB : B ≤ C) : w.ownsRow B e size v n xs := by
  obtain ⟨h1, h2 | ⟨g, cap, cur, h2, h3, h4⟩⟩ := h
  · exact ⟨h1, .inl h2⟩
  · exact ⟨h1, .inr ⟨g, cap, cur, h2, Nat.le_trans hB h3, h4⟩⟩
/-- a list of the call's own, in a block that is known -/
structure OutM (B : Nat) (l : List MoT) (g cap : Nat) (wr : World) : Prop where
  o : wr.ownsRow B 24 2 (.slice (some ⟨g, 0, none⟩) l.length cap) l.length (mov l)
theorem OutM.facts {B : Nat} {wr : World} {l : List MoT} {g cap : Nat} (h : OutM B l g cap wr) : g < wr.heap.size ∧ B ≤ g ∧ l.length ≤ cap ∧ ∀ (j : Nat) (u : Value), (mov l)[j]? = some u → wr.cell? ⟨g, j, none⟩ = some u := by
  obtain ⟨h1, ⟨h2, _⟩ | ⟨g', cap', cur, h2, hb, hh, hc, _, hcs, hx⟩⟩ := h.o
  · cases h2
  · injection h2 with e1 _ e2
    injection e1 with e1
    injection e1 with e1
    subst e1 e2
    refine ⟨(Array.getElem?_eq_some_iff.1 hh).1, hb, hc, fun j u hu => ?_⟩
    have hj := (List.getElem?_eq_some_iff.1 hu).1
    rw [mov_length] at hj
    have e : (mov l)[j]? = cur[j]? := by
      rw [← hx, List.getElem?_take, if_pos hj]
      simp
    simp [World.cell?, hh, ← e, hu]
theorem OutM.start (B : Nat) (w : World) (h : B ≤ w.heap.size) : OutM B [] w.heap.size 0 (w.alloc (.cells #[] 24)) :=
  ⟨World.ownsRow_made (base := B) (e := 24) (size := 2) w #[] 0 h (by simp) rfl⟩
theorem OutM.step {B : Nat} {w w' : World} {l : List MoT} {g cap : Nat} (h : OutM B l g cap w) (b : Below w.heap.size w w') : OutM B l g cap w' := ⟨ownRow_keeps h.o b⟩
theorem OutM.ins {B C : Nat} {w3 : World} {l : List MoT} {k q : Nat} {x y : Int} {v3 : Value} (hB : B ≤ C) (ho : w3.ownsRow C 24 2 v3 q ([] ++ mov (l.take k) ++ [.int .i64 x, .int .i64 y] ++ mov (l.drop k))) (hq : q = l.length + 1) (hk : k ≤ l.length) :
    ∃ g' cap', v3 = .slice (some ⟨g', 0, none⟩) (l.take k ++ (x, y) :: l.drop k).length cap' ∧ OutM B (l.take k ++ (x, y) :: l.drop k) g' cap' w3 := by
  have e : [] ++ mov (l.take k) ++ [.int .i64 x, .int .i64 y] ++ mov (l.drop k) = mov (l.take k ++ (x, y) :: l.drop k) := by rw [mov_append, mov_cons]; simp
  have el : (l.take k ++ (x, y) :: l.drop k).length = l.length + 1 := by simp; omega
  subst hq
  obtain ⟨g', cap', rfl⟩ := ownM_slice ho (by omega)
  rw [e] at ho
  rw [← el] at ho ⊢
  exact ⟨g', cap', rfl, ⟨ownM_base ho hB⟩⟩
end Go.Proofs.Ytggdkibbfmjelaa
namespace Go.Proofs.Ytggdkibbfmjelaa
open Go.RowKit
set_option linter.unusedVariables false
set_option linter.unusedSimpArgs false
/-- the first number that is not 0 -/
def orV : List Int → Int
  | [] => 0
  | x :: r => if x ≠ 0 then x else orV r
theorem orV_drop {l : List Int} {k : Nat} (h : ∀ j (hj : j < l.length), j < k → l[j] = 0) (hk : k ≤ l.length) : orV l = orV (l.drop k) := by
  induction k generalizing l with
  | zero => rfl
  | succ k ih =>
    cases l with
    | nil => simp at hk
    | cons x r =>
      have h0 := h 0 (by simp) (by omega)
      simp only [List.getElem_cons_zero] at h0
      show (if x ≠ 0 then x else orV r) = _
      rw [if_neg (by simp [h0]), List.drop_succ_cons]
      exact ih (fun j hj hjk => by have := h (j + 1) (by simp; omega) (by omega); simpa using this) (by simp at hk; omega)
set_option maxHeartbeats 2000000 in
theorem or_any (a : Option Addr) (l : List Int) (c : Nat) (w : World) (hl : Ints .i64 w w.heap.size a l) (hn : l.length ≤ 64) :
    Calls Try.prog 105 #[.slice a l.length c] w fun e w' => e = .returned (.int .i64 (orV l)) ∧ w = w' := by
  have HL := Lib.hid hl
  have HD := Lib.hid (fun k h hk => orV_drop (l := l) (k := k) h hk)
  clear hl
  go_enter Try.func105, Try.ntmps105
  go_wp2
  go_loop [8] (fun i => ∃ k : Nat, k ≤ l.length ∧ i = .int .i64 k ∧ ∀ j (hj : j < l.length), j < k → l[j] = 0) (fun i => l.length - (intOf i).toNat)
  case atStart => exact ⟨0, Nat.zero_le _, rfl, fun j _ h => by omega⟩
  case round =>
    obtain ⟨k, hk, rfl, hz⟩ := hrel
    have HZ := Lib.hid hz
    clear hz
    by_cases hlt : k < l.length
    · obtain ⟨b, o, rfl, hb, hc⟩ := HL.out.at_ hlt
      have hi : (k : Int) < (l.length : Int) := by omega
      have hi0 : (0 : Int) ≤ (k : Int) := by omega
      have HE := Lib.hid (fun (h : ¬ l[k] = 0) => show orV l = l[k] from by
        rw [HD.out k HZ.out hk, List.drop_eq_getElem_cons hlt]
        exact if_pos h)
      have HN := Lib.hid (fun (h : l[k] = 0) => show ∀ j (hj : j < l.length), j < k + 1 → l[j] = 0 from fun j hj hjk => by
        rcases Nat.lt_or_ge j k with h9 | h9
        · exact HZ.out j hj h9
        · obtain rfl : j = k := by omega
          exact h)
      by_cases hx : l[k] = 0
      · have HN2 := Lib.hid (HN.out hx)
        rw [hx] at hc
        clear HN HE hx
        go_wp2
        go_round
        case rel => exact ⟨k + 1, by omega, by go_num, HN2.out⟩
        case measure => simp [intOf]; omega
      · have HE2 := Lib.hid (HE.out hx)
        have nx : (l[k] != 0) = true := by rw [bne_iff_ne]; exact hx
        clear HN HE hx
        generalize l[k] = x at *
        go_wp2
        go_ret
        rw [HE2.out]
        exact ⟨rfl, rfl⟩
    · obtain rfl : k = l.length := by omega
      have HE := Lib.hid (show orV l = 0 from by rw [HD.out _ HZ.out (Nat.le_refl _), List.drop_length]; rfl)
      go_wp2
      go_ret
      rw [HE.out]
      exact ⟨rfl, rfl⟩
theorem cmp_or (p q : MtV) : orV [mG p * mN q - mG q * mN p, sz2 (mX p) (mY p) - sz2 (mX q) (mY q), mY p - mY q, mX p - mX q] = cmpM p q := by
  unfold cmpM
  simp only [orV]
  split
  · rfl
  · split
    · rfl
    · split
      · rfl
      · split <;> omega
theorem sz_two (x y : Int) : szS [x, y] = sz2 x y := by unfold szS sz2; simp
/-- a later world: draws, and blocks behind the others -/
def Lay (w w' : World) : Prop := ∃ q os, w' = Sort.grow (w.drewN q) os
theorem Lay.refl (w : World) : Lay w w := ⟨0, #[], by simp [World.drewN]⟩
theorem Lay.alloc {w w' : World} (h : Lay w w') (o : Obj) : Lay w (w'.alloc o) := by
  obtain ⟨q, os, rfl⟩ := h
  exact ⟨q, os ++ #[o], by rw [Sort.alloc_eq_grow, Sort.grow_grow]⟩
theorem Lay.drew {w w' : World} (h : Lay w w') : Lay w w'.drew := by
  obtain ⟨q, os, rfl⟩ := h
  exact ⟨q + 1, os, by simp [Sort.grow, World.drewN, World.drew, Nat.add_assoc]⟩
theorem Lay.below {w w' : World} (h : Lay w w') : Below w.heap.size w w' := by
  obtain ⟨q, os, rfl⟩ := h
  refine ⟨rfl, rfl, rfl, ?_, fun k hk => ?_⟩
  · simp [Sort.grow, World.drewN]
  · simp [Sort.grow, World.drewN, Array.getElem?_append, hk]
theorem ints_lit2 (w : World) (x y : Int) (t : TypeId) : Ints .i64 (w.alloc (.cells #[.int .i64 x, .int .i64 y] t)) (w.alloc (.cells #[.int .i64 x, .int .i64 y] t)).heap.size (some ⟨w.heap.size, 0, none⟩) [x, y] := by
  refine .inr ⟨w.heap.size, 0, rfl, by simp, fun j hj => ?_⟩
  rcases (by simp at hj; omega : j = 0 ∨ j = 1) with rfl | rfl <;> simp [go_sem]
theorem ints_lit4 (w : World) (x y z v : Int) (t : TypeId) : Ints .i64 (w.alloc (.cells #[.int .i64 x, .int .i64 y, .int .i64 z, .int .i64 v] t)) (w.alloc (.cells #[.int .i64 x, .int .i64 y, .int .i64 z, .int .i64 v] t)).heap.size (some ⟨w.heap.size, 0, none⟩) [x, y, z, v] := by
  refine .inr ⟨w.heap.size, 0, rfl, by simp, fun j hj => ?_⟩
  rcases (by simp at hj; omega : j = 0 ∨ j = 1 ∨ j = 2 ∨ j = 3) with rfl | rfl | rfl | rfl <;> simp [go_sem]
theorem ints_lit2E (w : World) (x y : Int) (t : TypeId) (b : Nat) (hb : b = w.heap.size) : Ints .i64 (w.alloc (.cells #[.int .i64 x, .int .i64 y] t)) (w.alloc (.cells #[.int .i64 x, .int .i64 y] t)).heap.size (some ⟨b, 0, none⟩) [x, y] := by subst hb; exact ints_lit2 w x y t
theorem ints_lit4E (w : World) (x y z v : Int) (t : TypeId) (b : Nat) (hb : b = w.heap.size) : Ints .i64 (w.alloc (.cells #[.int .i64 x, .int .i64 y, .int .i64 z, .int .i64 v] t)) (w.alloc (.cells #[.int .i64 x, .int .i64 y, .int .i64 z, .int .i64 v] t)).heap.size (some ⟨b, 0, none⟩) [x, y, z, v] := by subst hb; exact ints_lit4 w x y z v t
set_option maxRecDepth 100000 in
set_option maxHeartbeats 8000000 in
theorem implCmp_any (px py pg pn qx qy qg qn : Int) (w : World) (hp : okM (px, py, pg, pn)) (hq : okM (qx, qy, qg, qn)) :
    Calls Try.prog 75 #[.agg #[.int .i64 px, .int .i64 py, .int .i64 pg, .int .i64 pn], .agg #[.int .i64 qx, .int .i64 qy, .int .i64 qg, .int .i64 qn]] w fun e w' => e = .returned (.int .i64 (cmpM (px, py, pg, pn) (qx, qy, qg, qn))) ∧ Lay w w' := by
  obtain ⟨⟨a1, a2⟩, ⟨a3, a4⟩, ⟨a5, a6⟩, a7, a8⟩ := hp
  obtain ⟨⟨b1, b2⟩, ⟨b3, b4⟩, ⟨b5, b6⟩, b7, b8⟩ := hq
  simp only [mX, mY, mG, mN] at a1 a2 a3 a4 a5 a6 a7 a8 b1 b2 b3 b4 b5 b6 b7 b8
  have c1 : 0 ≤ pg * qn ∧ pg * qn ≤ 1280000 * 64 := ⟨Int.mul_nonneg a3 (by omega), Int.mul_le_mul a4 b2 (by omega) (by omega)⟩
  have c2 : 0 ≤ qg * pn ∧ qg * pn ≤ 1280000 * 64 := ⟨Int.mul_nonneg b3 (by omega), Int.mul_le_mul b4 a2 (by omega) (by omega)⟩
  have hor := cmp_or (px, py, pg, pn) (qx, qy, qg, qn)
  simp only [mX, mY, mG, mN] at hor
  rw [← hor]
  have w1 := IntWalk.i64_in (pg * qn) (by omega)
  have w2 := IntWalk.i64_in (qg * pn) (by omega)
  have w3 := IntWalk.i64_in (pg * qn - qg * pn) (by omega)
  have w4 := IntWalk.i64_in (py - qy) (by omega)
  have w5 := IntWalk.i64_in (px - qx) (by omega)
  have HSP : Hid (∀ (a : Option Addr) (W : World), Ints .i64 W W.heap.size a [px, py] → Calls Try.prog 71 #[.slice a 2 2] W fun e w' => e = .returned (.int .i64 (szS [px, py])) ∧ W = w') := Lib.hid (fun a W i => implSz_any a [px, py] 2 W i (by intro z hz; simp at hz; omega) (by simp))
  have HSQ : Hid (∀ (a : Option Addr) (W : World), Ints .i64 W W.heap.size a [qx, qy] → Calls Try.prog 71 #[.slice a 2 2] W fun e w' => e = .returned (.int .i64 (szS [qx, qy])) ∧ W = w') := Lib.hid (fun a W i => implSz_any a [qx, qy] 2 W i (by intro z hz; simp at hz; omega) (by simp))
  rw [sz_two] at HSP HSQ
  have d1 : 0 ≤ sz2 px py ∧ sz2 px py ≤ 4 := by unfold sz2; omega
  have d2 : 0 ≤ sz2 qx qy ∧ sz2 qx qy ≤ 4 := by unfold sz2; omega
  generalize sz2 px py = sp at *
  generalize sz2 qx qy = sq at *
  have w6 := IntWalk.i64_in (sp - sq) (by omega)
  have HOR : Hid (∀ (a : Option Addr) (W : World), Ints .i64 W W.heap.size a [pg * qn - qg * pn, sp - sq, py - qy, px - qx] → Calls Try.prog 105 #[.slice a 4 4] W fun e w' => e = .returned (.int .i64 (orV [pg * qn - qg * pn, sp - sq, py - qy, px - qx])) ∧ W = w') := Lib.hid (fun a W i => or_any a [pg * qn - qg * pn, sp - sq, py - qy, px - qx] 4 W i (by simp))
  have L0 : Lay w ((w.alloc (.cells #[.int .i64 px, .int .i64 py, .int .i64 pg, .int .i64 pn] 97)).alloc (.cells #[.int .i64 qx, .int .i64 qy, .int .i64 qg, .int .i64 qn] 97)) := ((Lay.refl w).alloc _).alloc _
  have C0 : (((w.alloc (.cells #[.int .i64 px, .int .i64 py, .int .i64 pg, .int .i64 pn] 97)).alloc (.cells #[.int .i64 qx, .int .i64 qy, .int .i64 qg, .int .i64 qn] 97)).cell? ⟨w.heap.size, 0, none⟩ = some (.int .i64 px) ∧ ((w.alloc (.cells #[.int .i64 px, .int .i64 py, .int .i64 pg, .int .i64 pn] 97)).alloc (.cells #[.int .i64 qx, .int .i64 qy, .int .i64 qg, .int .i64 qn] 97)).cell? ⟨w.heap.size, 1, none⟩ = some (.int .i64 py) ∧ ((w.alloc (.cells #[.int .i64 px, .int .i64 py, .int .i64 pg, .int .i64 pn] 97)).alloc (.cells #[.int .i64 qx, .int .i64 qy, .int .i64 qg, .int .i64 qn] 97)).cell? ⟨w.heap.size, 2, none⟩ = some (.int .i64 pg) ∧ ((w.alloc (.cells #[.int .i64 px, .int .i64 py, .int .i64 pg, .int .i64 pn] 97)).alloc (.cells #[.int .i64 qx, .int .i64 qy, .int .i64 qg, .int .i64 qn] 97)).cell? ⟨w.heap.size, 3, none⟩ = some (.int .i64 pn)) ∧ ((w.alloc (.cells #[.int .i64 px, .int .i64 py, .int .i64 pg, .int .i64 pn] 97)).alloc (.cells #[.int .i64 qx, .int .i64 qy, .int .i64 qg, .int .i64 qn] 97)).cell? ⟨w.heap.size + 1, 0, none⟩ = some (.int .i64 qx) ∧ ((w.alloc (.cells #[.int .i64 px, .int .i64 py, .int .i64 pg, .int .i64 pn] 97)).alloc (.cells #[.int .i64 qx, .int .i64 qy, .int .i64 qg, .int .i64 qn] 97)).cell? ⟨w.heap.size + 1, 1, none⟩ = some (.int .i64 qy) ∧ ((w.alloc (.cells #[.int .i64 px, .int .i64 py, .int .i64 pg, .int .i64 pn] 97)).alloc (.cells #[.int .i64 qx, .int .i64 qy, .int .i64 qg, .int .i64 qn] 97)).cell? ⟨w.heap.size + 1, 2, none⟩ = some (.int .i64 qg) ∧ ((w.alloc (.cells #[.int .i64 px, .int .i64 py, .int .i64 pg, .int .i64 pn] 97)).alloc (.cells #[.int .i64 qx, .int .i64 qy, .int .i64 qg, .int .i64 qn] 97)).cell? ⟨w.heap.size + 1, 3, none⟩ = some (.int .i64 qn) := by refine ⟨⟨?_, ?_, ?_, ?_⟩, ?_, ?_, ?_, ?_⟩ <;> simp [go_sem]
  have z0 : w.heap.size + 1 < ((w.alloc (.cells #[.int .i64 px, .int .i64 py, .int .i64 pg, .int .i64 pn] 97)).alloc (.cells #[.int .i64 qx, .int .i64 qy, .int .i64 qg, .int .i64 qn] 97)).heap.size := by simp
  obtain ⟨W0, hW0⟩ : ∃ x, (w.alloc (.cells #[.int .i64 px, .int .i64 py, .int .i64 pg, .int .i64 pn] 97)).alloc (.cells #[.int .i64 qx, .int .i64 qy, .int .i64 qg, .int .i64 qn] 97) = x := ⟨_, rfl⟩
  rw [hW0] at L0 C0 z0
  have HW := Lib.hid hW0
  have HC := Lib.hid C0
  have HL := Lib.hid L0
  have HK := Lib.hid (fun W (k : Lay W0 W) => show (W.cell? ⟨w.heap.size, 0, none⟩ = some (.int .i64 px) ∧ W.cell? ⟨w.heap.size, 1, none⟩ = some (.int .i64 py) ∧ W.cell? ⟨w.heap.size, 2, none⟩ = some (.int .i64 pg) ∧ W.cell? ⟨w.heap.size, 3, none⟩ = some (.int .i64 pn)) ∧ W.cell? ⟨w.heap.size + 1, 0, none⟩ = some (.int .i64 qx) ∧ W.cell? ⟨w.heap.size + 1, 1, none⟩ = some (.int .i64 qy) ∧ W.cell? ⟨w.heap.size + 1, 2, none⟩ = some (.int .i64 qg) ∧ W.cell? ⟨w.heap.size + 1, 3, none⟩ = some (.int .i64 qn) from by
    have b := k.below
    obtain ⟨⟨x0, x1, x2, x3⟩, y0, y1, y2, y3⟩ := C0
    exact ⟨⟨(b.cell (p := ⟨w.heap.size, 0, none⟩) (by show w.heap.size < _; omega)).trans x0, (b.cell (p := ⟨w.heap.size, 1, none⟩) (by show w.heap.size < _; omega)).trans x1, (b.cell (p := ⟨w.heap.size, 2, none⟩) (by show w.heap.size < _; omega)).trans x2, (b.cell (p := ⟨w.heap.size, 3, none⟩) (by show w.heap.size < _; omega)).trans x3⟩, (b.cell (p := ⟨w.heap.size + 1, 0, none⟩) (by show w.heap.size + 1 < _; omega)).trans y0, (b.cell (p := ⟨w.heap.size + 1, 1, none⟩) (by show w.heap.size + 1 < _; omega)).trans y1, (b.cell (p := ⟨w.heap.size + 1, 2, none⟩) (by show w.heap.size + 1 < _; omega)).trans y2, (b.cell (p := ⟨w.heap.size + 1, 3, none⟩) (by show w.heap.size + 1 < _; omega)).trans y3⟩)
  have LL := Lib.hid (fun W (k : Lay W0 W) => show Lay w W from by
    obtain ⟨q, os, rfl⟩ := k
    obtain ⟨q', os', rfl⟩ := L0
    exact ⟨q' + q, os' ++ os, by simp [Sort.grow, World.drewN, Nat.add_assoc]⟩)
  clear L0 C0 hW0 hor c1 c2 d1 d2 a1 a2 a3 a4 a5 a6 a7 a8 b1 b2 b3 b4 b5 b6 b7 b8
  go_enter Try.func75, Try.ntmps75
  go_upto_region 1 with fail
  rw [HW.out]
  obtain ⟨⟨x0, x1, x2, x3⟩, y0, y1, y2, y3⟩ := HC.out
  go_cut [4] (fun s wx => s = .int .i64 (orV [pg * qn - qg * pn, sp - sq, py - qy, px - qx]) ∧ Lay W0 wx)
  case first =>
    go_region_held3 (fun w' => (w'.cell? ⟨w.heap.size, 0, none⟩ = some (.int .i64 px) ∧ w'.cell? ⟨w.heap.size, 1, none⟩ = some (.int .i64 py) ∧ w'.cell? ⟨w.heap.size, 2, none⟩ = some (.int .i64 pg) ∧ w'.cell? ⟨w.heap.size, 3, none⟩ = some (.int .i64 pn)) ∧ w'.cell? ⟨w.heap.size + 1, 0, none⟩ = some (.int .i64 qx) ∧ w'.cell? ⟨w.heap.size + 1, 1, none⟩ = some (.int .i64 qy) ∧ w'.cell? ⟨w.heap.size + 1, 2, none⟩ = some (.int .i64 qg) ∧ w'.cell? ⟨w.heap.size + 1, 3, none⟩ = some (.int .i64 qn))
      (first | exact HK.out _ (by repeat (first | (with_reducible exact Lay.refl _) | (with_reducible refine Lay.alloc ?_ _) | (with_reducible refine Lay.drew ?_))) | go_keep)
      (first
        | (go_at_call 71; (with_reducible refine (HSP.out _ _ ?_).mono ?_); (first | (refine ints_lit2E _ _ _ _ _ ?_; first | rfl | simp) | (refine ints_alloc (ints_lit2E _ _ _ _ _ ?_) _; first | rfl | simp)); rintro e w9 ⟨rfl, rfl⟩)
        | (go_at_call 71; (with_reducible refine (HSQ.out _ _ ?_).mono ?_); (first | (refine ints_lit2E _ _ _ _ _ ?_; first | rfl | simp) | (refine ints_alloc (ints_lit2E _ _ _ _ _ ?_) _; first | rfl | simp)); rintro e w9 ⟨rfl, rfl⟩)
        | (go_at_call 105; (with_reducible refine (HOR.out _ _ ?_).mono ?_); (refine ints_lit4E _ _ _ _ _ _ _ ?_; first | rfl | simp); rintro e w9 ⟨rfl, rfl⟩))
    all_goals (go_wp2_with fail; go_meet)
    all_goals exact ⟨rfl, by repeat (first | (with_reducible exact Lay.refl _) | (with_reducible refine Lay.alloc ?_ _) | (with_reducible refine Lay.drew ?_))⟩
  case rest =>
    obtain ⟨rfl, hl⟩ := hcut
    have HLL := Lib.hid hl
    clear hl
    go_wp2
    go_ret
    exact ⟨rfl, LL.out _ HLL.out⟩
end Go.Proofs.Ytggdkibbfmjelaa
namespace Go.Proofs.Ytggdkibbfmjelaa
open Go.RowKit Go.Sort
set_option linter.unusedVariables false
set_option linter.unusedSimpArgs false
/-- a match that may be compared -/
abbrev OkT := {p : MtV // okM p}
instance : Inhabited OkT := ⟨⟨(0, 0, 0, 1), by unfold okM mN mG mX mY; simp⟩⟩
def encM (p : OkT) : List Value := [.int .i64 p.1.1, .int .i64 p.1.2.1, .int .i64 p.1.2.2.1, .int .i64 p.1.2.2.2]
def cmpO (p q : OkT) : Int := cmpM p.1 q.1
theorem ltO (p q : OkT) : ltOf cmpO p q = ltM p.1 q.1 := rfl
theorem swoM : SWO (ltOf cmpO) where
  irrefl x := ltM_irrefl x.1
  trans x y z h1 h2 := ltM_trans x.2 y.2 z.2 h1 h2
  ntrans x y z h1 h2 := ltM_ntrans x.2 y.2 z.2 h1 h2
theorem cmpLays (blk off size : Nat) (w : World) : CmpLays Try.prog 75 #[] encM 4 cmpO blk off size w :=
  fun _ _ _ _ x y => (implCmp_any x.1.1 x.1.2.1 x.1.2.2.1 x.1.2.2.2 y.1.1 y.1.2.1 y.1.2.2.1 y.1.2.2.2 _ x.2 y.2).mono fun _ _ h => h
def arrM (l : List MtV) (h : ∀ p ∈ l, okM p) : Array OkT := (l.pmap Subtype.mk h).toArray
theorem arrM_size (l : List MtV) (h : ∀ p ∈ l, okM p) : (arrM l h).size = l.length := by simp [arrM]
theorem arrM_get (l : List MtV) (h : ∀ p ∈ l, okM p) {i : Nat} (hi : i < l.length) : ((arrM l h)[i]!).1 = l[i] := by
  have h1 : i < (arrM l h).size := by rw [arrM_size]; exact hi
  rw [getElem!_pos (arrM l h) i h1]
  simp [arrM]
theorem holds_mt {w : World} {g : Nat} {l : List MtV} (hR : Row w g 97 (mtv l)) (h : ∀ p ∈ l, okM p) : HoldsK encM 4 w g 0 (arrM l h) := by
  intro t ht
  rw [size_flatK, arrM_size] at ht
  have h4 : t / 4 < l.length := by omega
  rw [get_flatK _ _ _ _ (by rw [arrM_size]; exact ht)]
  refine ⟨?_, hR.frozen _⟩
  rw [Nat.zero_add, hR.cell (k := t) (by rw [mtv_length]; exact ht)]
  obtain ⟨m0, m1, m2, m3⟩ := mtv_get l (t / 4) h4
  have hl := mtv_length l
  have e : (mtv l)[t]? = some ((encM (arrM l h)[t / 4]!)[t % 4]!) := by
    have hg := arrM_get l h h4
    unfold encM
    rw [hg]
    have ht4 : t = t / 4 * 4 + t % 4 := by omega
    have hc4 : t % 4 = 0 ∨ t % 4 = 1 ∨ t % 4 = 2 ∨ t % 4 = 3 := by omega
    clear hg
    generalize t / 4 = i at *
    generalize t % 4 = k at *
    subst ht4
    rcases hc4 with rfl | rfl | rfl | rfl
    · exact m0
    · exact m1
    · exact m2
    · exact m3
  rw [List.getElem?_eq_getElem (show t < (mtv l).length by omega)] at e
  injection e with e
  rw [e]; rfl
theorem grownBy_sortK (w : World) (g n : Nat) (d : Array OkT) (os : Array Obj) : w.grownBy (sortWorldK encM 4 w g 0 n d os) (some g) := by
  unfold sortWorldK grow putRowK putRow mapBlock Go.Sort.ahead
  refine ⟨rfl, rfl, rfl, by simp, fun k hk hne => ?_⟩
  have h9 : ¬ g = k := fun e => hne (by rw [e])
  simp [Array.getElem?_append, hk, Array.getElem_modify, h9]
theorem mts_sorted {w : World} {g n : Nat} {d d' : Array OkT} {os : Array Obj} (h : HoldsK encM 4 w g 0 d) (hs : d'.size = d.size) (hg : g < w.heap.size) : Mts (sortWorldK encM 4 w g 0 n d' os) (sortWorldK encM 4 w g 0 n d' os).heap.size (some ⟨g, 0, none⟩) (d'.toList.map Subtype.val) := by
  have hH := holdsK_sortWorldK_c encM 4 w g 0 d d' n os h hg hs
  have hz := size_sortWorldK_c encM 4 w g 0 n d' os
  refine .inr ⟨g, 0, rfl, by omega, fun j hj => ?_⟩
  simp only [List.length_map, Array.length_toList] at hj
  have c0 := (hH.cell hj (c := 0) (by omega)).1
  have c1 := (hH.cell hj (c := 1) (by omega)).1
  have c2 := (hH.cell hj (c := 2) (by omega)).1
  have c3 := (hH.cell hj (c := 3) (by omega)).1
  rw [getElem!_pos d' j hj] at c0 c1 c2 c3
  simp only [List.getElem_map, Array.getElem_toList]
  exact ⟨c0, c1, c2, c3⟩
theorem sort_perm {l : List MtV} {h : ∀ p ∈ l, okM p} {d' : Array OkT} (hp : PermIn 0 (arrM l h).size (arrM l h) d') : (d'.toList.map Subtype.val).Perm l := by
  obtain ⟨h1, _, h3⟩ := hp
  have e1 : d'.extract 0 (arrM l h).size = d' := by rw [← h1]; simp
  have e2 : (arrM l h).extract 0 (arrM l h).size = arrM l h := by simp
  rw [e1, e2] at h3
  have h4 := h3.map Subtype.val
  have e3 : (arrM l h).toList.map Subtype.val = l := by simp [arrM, List.map_pmap]
  rw [e3] at h4
  exact h4
theorem sort_sorted {l : List MtV} {h : ∀ p ∈ l, okM p} {d' : Array OkT} (hz : d'.size = (arrM l h).size) (hs : SortedIn (ltOf cmpO) 0 (arrM l h).size d') : SortM (d'.toList.map Subtype.val) := by
  unfold SortM
  rw [List.pairwise_iff_getElem]
  intro i j hi hj hij
  simp only [List.length_map, Array.length_toList] at hi hj
  have h9 := hs i j (Nat.zero_le _) hij (by omega)
  rw [getElem!_pos d' i hi, getElem!_pos d' j hj] at h9
  simp only [List.getElem_map, Array.getElem_toList]
  exact h9
theorem ent_cmp : ∀ args w, (callFunc 75 args).run Try.prog w = .ok (.enter 75 args) w := enters_of Try.func75 (by kernel_rfl) rfl
theorem sortMt_any (g c : Nat) (l : List MtV) (w : World) (hR : Row w g 97 (mtv l)) (hok : ∀ p ∈ l, okM p) (hn : l.length ≤ 64) :
    Calls Try.prog 74 #[.slice (some ⟨g, 0, none⟩) l.length c, .func (.func 75) #[] #[]] w fun e w' => e = .returned (.tuple #[]) ∧ ∃ l' : List MtV, l'.Perm l ∧ SortM l' ∧ Mts w' w'.heap.size (some ⟨g, 0, none⟩) l' ∧ w.grownBy w' (some g) := by
  have hcon := AnyQ.slices_SortFunc Try.sortMt 4 Try.isAgg97 Try.sizeOf97 encM (fun _ => rfl) (fun x v hv => by simp [encM] at hv; rcases hv with rfl | rfl | rfl | rfl <;> rfl) cmpO swoM 75 #[] g 0 c (arrM l hok) w ent_cmp (cmpLays g 0 _ w) (holds_mt hR hok) hR.lt (by rw [arrM_size]; omega)
  rw [arrM_size] at hcon
  refine hcon.mono ?_
  rintro e w' ⟨he, d', n, os, hp, hs, rfl⟩
  have hz : d'.size = (arrM l hok).size := hp.1.trans (by rw [arrM_size])
  refine ⟨he, d'.toList.map Subtype.val, sort_perm (h := hok) (by rw [arrM_size]; exact hp), sort_sorted (h := hok) hz (by rw [arrM_size]; exact hs), mts_sorted (holds_mt hR hok) hz hR.lt, grownBy_sortK w g n d' os⟩
theorem sortNone_any (c : Nat) (p : Option Addr) (w : World) :
    Calls Try.prog 74 #[.slice p 0 c, .func (.func 75) #[] #[]] w fun e w' => e = .returned (.tuple #[]) ∧ w' = w :=
  AnyF.slices_SortFunc_none Try.sortMt p c _ w
end Go.Proofs.Ytggdkibbfmjelaa
namespace Go.Proofs.Ytggdkibbfmjelaa
open Go.RowKit
set_option linter.unusedVariables false
set_option linter.unusedSimpArgs false
/-- what RankMotions answers -/
def rankM (wa ha : Int) (la : List Int) (wb hb : Int) (lb : List Int) : List MtV := rkL (maG wa ha la wb hb lb) (maN wa ha la wb hb lb) la.length 25
def rankR (wa ha : Int) (la : List Int) (wb hb : Int) (lb : List Int) : List MoT := if sameB wa ha la wb hb lb = true then (rankM wa ha la wb hb lb).map moOf else []
section
variable {wa ha : Int} {la : List Int} {wb hb : Int} {lb : List Int}
theorem rankR_no (h : sameB wa ha la wb hb lb = false) : rankR wa ha la wb hb lb = [] := if_neg (by rw [h]; simp)
theorem rankR_yes (h : sameB wa ha la wb hb lb = true) : rankR wa ha la wb hb lb = (rankM wa ha la wb hb lb).map moOf := if_pos h
theorem rankR_len : (rankR wa ha la wb hb lb).length ≤ 25 := by
  unfold rankR
  split
  · rw [List.length_map]; exact rk_len 25
  · simp
theorem ma_fine (h : sameB wa ha la wb hb lb = true) : FineM (maG wa ha la wb hb lb) (maN wa ha la wb hb lb) la.length ∧ ∀ x y, (-2 ≤ x ∧ x ≤ 2) → (-2 ≤ y ∧ y ≤ 2) → 0 ≤ maN wa ha la wb hb lb x y ∧ maN wa ha la wb hb lb x y ≤ 64 := by
  obtain ⟨g1, g2, _, _⟩ := same_iff.1 h
  have hl := (good_le g1).1
  have hn := (good_le g2).2
  have key : ∀ x y, (-2 ≤ x ∧ x ≤ 2) → (-2 ≤ y ∧ y ≤ 2) → (0 ≤ maN wa ha la wb hb lb x y ∧ maN wa ha la wb hb lb x y ≤ 64) ∧ 0 ≤ maG wa ha la wb hb lb x y ∧ maG wa ha la wb hb lb x y ≤ 1280000 := by
    intro x y hx hy
    have hb' := maB_iff.2 ⟨h, motB_iff.2 ⟨hx, hy⟩⟩
    rw [maG_yes hb', maN_yes hb']
    have c := cnt_bd (mvR wa.toNat ha.toNat la x y) lb lb.length
    have g := gapK_bd (good_bd (move_good g1 x y)) (good_bd g2) lb.length
    omega
  refine ⟨fun x y hx hy hq => ?_, fun x y hx hy => (key x y hx hy).1⟩
  have k := key x y hx hy
  omega
end
def MRet (r : List MoT) (v : Bool) (w : World) (e : Ending) (w' : World) : Prop := ∃ a c, e = .returned (.tuple #[.slice a r.length c, .bool v]) ∧ OwnMo w' w.heap.size a r ∧ Below w.heap.size w w'
theorem sortOwn_any (B : Nat) (a : Option Addr) (c : Nat) (l : List MtV) (w : World) (h : OwnMt w B a l) (hok : ∀ p ∈ l, okM p) (hn : l.length ≤ 64) :
    Calls Try.prog 74 #[.slice a l.length c, .func (.func 75) #[] #[]] w fun e w' => e = .returned (.tuple #[]) ∧ ∃ l' : List MtV, l'.Perm l ∧ SortM l' ∧ Mts w' w'.heap.size a l' ∧ ∃ g, B ≤ g ∧ w.grownBy w' (some g) := by
  obtain ⟨g, hg, rfl | ⟨rfl, hR⟩⟩ := h
  · refine (sortNone_any c a w).mono ?_
    rintro e w' ⟨rfl, rfl⟩
    exact ⟨rfl, [], List.Perm.refl _, List.Pairwise.nil, .inl rfl, g, hg, ⟨rfl, rfl, rfl, Nat.le_refl _, fun _ _ _ => rfl⟩⟩
  · refine (sortMt_any g c l w hR hok hn).mono ?_
    rintro e w' ⟨rfl, l', h1, h2, h3, h4⟩
    exact ⟨rfl, l', h1, h2, h3, g, hg, h4⟩
set_option maxRecDepth 100000 in
set_option maxHeartbeats 8000000 in
theorem implRank_any (wa ha : Int) (aa : Option Addr) (la : List Int) (ca : Nat) (wb hb : Int) (ab : Option Addr) (lb : List Int) (cb : Nat) (w : World) (h1 : Ints .i64 w w.heap.size aa la) (h2 : Ints .i64 w w.heap.size ab lb) (n1 : la.length ≤ 1048576) (n2 : lb.length ≤ 1048576) :
    Calls Try.prog 30 #[.agg #[.int .i64 wa, .int .i64 ha, .slice aa la.length ca], .agg #[.int .i64 wb, .int .i64 hb, .slice ab lb.length cb]] w (MRet (rankR wa ha la wb hb lb) (sameB wa ha la wb hb lb) w) := by
  have F0 := Lib.hid (Lx2.new (wd0 := wa) (hg0 := ha) (c0 := ca) (wd1 := wb) (hg1 := hb) (c1 := cb) h1 h2)
  clear h1 h2
  cases hs : sameB wa ha la wb hb lb with
  | false =>
    rw [rankR_no hs]
    have hS := oneShape_is _ 2 2 _ _ _ _ _ false _ (fldRow_two (wa := wa) (ha := ha) (wb := wb) (hb := hb) (ca := ca) (cb := cb) 34 F0.out.i0 F0.out.i1 n1 n2) (by omega) (by omega) ((oneB_two wa ha la wb hb lb).trans hs)
    simp only [World.size_alloc] at hS
    have HS := Lib.hid hS
    clear hS hs
    go_enter Try.func30, Try.ntmps30
    go_wp2_with fail
    refine HS.out.mono ?_
    rintro e w1 ⟨rfl, b1⟩
    have B1 := Lib.hid (below_then (below_then F0.out.b (below_all _ _)) (by simpa using b1))
    clear b1
    go_wp2
    go_ret2
    exact ⟨_, _, rfl, OwnMo.none_, B1.out.alloc B1.out.size _⟩
  | true =>
    rw [rankR_yes hs]
    have hS := oneShape_is _ 2 2 _ _ _ _ _ true _ (fldRow_two (wa := wa) (ha := ha) (wb := wb) (hb := hb) (ca := ca) (cb := cb) 34 F0.out.i0 F0.out.i1 n1 n2) (by omega) (by omega) ((oneB_two wa ha la wb hb lb).trans hs)
    simp only [World.size_alloc] at hS
    have HS := Lib.hid hS
    obtain ⟨hfine, hbd⟩ := ma_fine hs
    obtain ⟨g1, g2, e1, e2⟩ := same_iff.1 hs
    have l1 := (good_le g1).2
    have l2 := (good_le g2).2
    have HQ := Lib.hid (fun Wd i1 i2 => implQl_any wa ha aa la ca wb hb ab lb cb Wd i1 i2 l1 l2 hbd)
    have HOK := Lib.hid (fun p h => ql_ok hfine (n := 25) (Nat.le_refl _) (p := p) h)
    have HON := Lib.hid (fun m h1 h2 => rk_only hfine (n := 25) (m := m) (Nat.le_refl _) h1 h2)
    have hql := ql_len (G := maG wa ha la wb hb lb) (N := maN wa ha la wb hb lb) (len := (la.length : Int)) 25
    unfold rankM
    clear hS hs hfine hbd g1 g2 e1 e2
    generalize rkL (maG wa ha la wb hb lb) (maN wa ha la wb hb lb) la.length 25 = R at *
    generalize qlL (maG wa ha la wb hb lb) (maN wa ha la wb hb lb) la.length 25 = q at *
    have HST := Lib.hid (fun B a c Wd h => sortOwn_any B a c q Wd h HOK.out (by omega))
    go_enter Try.func30, Try.ntmps30
    go_wp2_with fail
    refine HS.out.mono ?_
    rintro e w1 ⟨rfl, b1⟩
    have F1 := Lib.hid ((F0.out.step (below_all _ _)).step (by simpa using b1))
    obtain ⟨k0, k1, k2⟩ := F1.out.k0.cells
    obtain ⟨l0, l1', l2'⟩ := F1.out.k1.cells
    clear b1 F0 HS
    go_wp2_with fail
    refine (HQ.out _ F1.out.i0 F1.out.i1).mono ?_
    rintro e w2 ⟨a2, c2, rfl, o2, b2⟩
    have B2 := Lib.hid (below_then F1.out.b b2)
    have HO := Lib.hid o2
    have hz1 := F1.out.b.size
    clear o2 b2 k0 k1 k2 l0 l1' l2' HQ
    go_wp2_with fail
    refine (HST.out _ _ _ _ HO.out).mono ?_
    rintro e w3 ⟨rfl, q', hp, hso, hmt, g, hg, hgr⟩
    have e9 := HON.out q' hp hso
    subst e9
    have hlen := hp.length_eq
    have B3 := Lib.hid (B2.out.grown hgr B2.out.size (fun j hj => by injection hj with hj; omega))
    have HM := Lib.hid hmt
    have HLN := Lib.hid hlen
    clear hp hso hmt hgr HO HST HON HOK
    have hmk := fun W => run_make_mo q.length (by omega) W
    have HR0 := Lib.hid (row_made_mo q.length w3)
    go_wp2
    clear hmk
    obtain ⟨L, hL⟩ : ∃ L, q'.map moOf = L := ⟨_, rfl⟩
    have hLl : L.length = q.length := by rw [← hL, List.length_map]; exact hlen
    have HLG := Lib.hid (fun k (h : k < L.length) (h' : k < q'.length) => show L[k] = (mX q'[k], mY q'[k]) from by subst hL; simp [moOf])
    have HLL := Lib.hid hLl
    have HR1' : Hid (Row (w3.alloc (.cells (madeCells #[.int .i64 0, .int .i64 0] (q.length * 2)) 24)) w3.heap.size 24 (mov (mixMo L 0))) := Lib.hid (by rw [mixMo_zero, hLl]; exact HR0.out)
    have HLM := Lib.hid hL
    clear hL hLl hlen HR0
    go_loopw [26] (fun i wr => ∃ k : Nat, k ≤ q.length ∧ i = .int .i64 k ∧ Row wr w3.heap.size 24 (mov (mixMo L k)) ∧ Mts wr w3.heap.size a2 q' ∧ Below w.heap.size w wr) (fun i _ => q.length - (intOf i).toNat)
    case atStart => exact ⟨0, Nat.zero_le _, rfl, HR1'.out, HM.out.below (below_all _ _) (Nat.le_refl _), B3.out.alloc B3.out.size _⟩
    case round =>
      clear HR1'
      obtain ⟨k, hk, rfl, hrow, hm, hB⟩ := hrel
      have HR := Lib.hid hrow
      have HMM := Lib.hid hm
      have HB := Lib.hid hB
      by_cases hlt : k < q.length
      · have hkR : k < q'.length := by have := HLN.out; omega
        have hkL : k < L.length := by have := HLL.out; omega
        obtain ⟨b, o, rfl, hb, d0, d1, d2, d3⟩ := hm.at_ hkR
        have hml := mixMo_len L k (by omega)
        have hnl := mov_length (mixMo L k)
        have hLe := HLL.out
        obtain ⟨u0, hu0⟩ : ∃ u, wr.cell? ⟨w3.heap.size, k * 2, none⟩ = some u := ⟨_, hrow.cell (k := k * 2) (by omega)⟩
        obtain ⟨u1, hu1⟩ : ∃ u, wr.cell? ⟨w3.heap.size, k * 2 + 1, none⟩ = some u := ⟨_, hrow.cell (k := k * 2 + 1) (by omega)⟩
        have f0 := hrow.frozen (k * 2)
        have f1 := hrow.frozen (k * 2 + 1)
        have hz := hrow.lt
        have hz2 : ¬ w3.heap.size = wr.heap.size := by omega
        have HST := Lib.hid (mixMo_step L k hkL)
        have HNS := Lib.hid (fun x0 x1 => mov_set (mixMo L k) k x0 x1 (by omega))
        have HXY := Lib.hid (HLG.out k hkL hkR)
        clear hrow hm hB hml hnl hLe
        have hi : (k : Int) < (q.length : Int) := by omega
        have hi0 : (0 : Int) ≤ (k : Int) := by omega
        unfold mX mY at HXY
        generalize q'[k] = mt at *
        obtain ⟨x0, x1, x2, x3⟩ := mt
        simp only at d0 d1 d2 d3 HXY
        have hwr : w.heap.size ≤ w3.heap.size := B3.out.size
        generalize w3.heap.size = gR at *
        go_wp2
        go_roundw
        case rel =>
          refine ⟨k + 1, by omega, by go_num, ?_, ?_, ?_⟩
          · have h := ((HR.out.set (k * 2) (.int .i64 x0)).set (k * 2 + 1) (.int .i64 x1)).alloc (.cells #[.int .i64 x0, .int .i64 x1, .int .i64 x2, .int .i64 x3] 97)
            rw [HNS.out, ← HXY.out, HST.out] at h
            exact h
          · exact (HMM.out.keep (fun p9 hp9 => (World.cell?_setCell_far _ _ _ _ (Nat.ne_of_gt hp9)).trans (World.cell?_setCell_far _ _ _ _ (Nat.ne_of_gt hp9)))).below (below_all _ _) (by simp [World.setCell]; omega)
          · exact ((HB.out.setCell (p := ⟨gR, k * 2, none⟩) (by simp; omega) _).setCell (p := ⟨gR, k * 2 + 1, none⟩) (by simp; omega) _).alloc (by have := HB.out.size; simp [World.setCell]; omega) _
        case measure => simp [intOf]; omega
      · obtain rfl : k = q.length := by omega
        have hLe := HLL.out
        rw [← hLe, mixMo_all] at hrow
        have HR2 := Lib.hid hrow
        have hz := hrow.lt
        have HLE := Lib.hid hLe
        clear hrow hm hB hLe
        go_wp2
        go_ret2
        exact ⟨_, _, by rw [HLM.out, HLE.out]; rfl, ⟨w3.heap.size, by have := B3.out.size; omega, .inr ⟨rfl, by rw [HLM.out]; exact HR2.out⟩⟩, HB.out⟩
end Go.Proofs.Ytggdkibbfmjelaa
namespace Go.Proofs.Ytggdkibbfmjelaa
open Go.RowKit
set_option linter.unusedVariables false
set_option linter.unusedSimpArgs false
theorem ltM_by (mx my G1 N1 kx ky G2 N2 : Int) : (G1 * N2 ≠ G2 * N1 → ltM (mx, my, G1, N1) (kx, ky, G2, N2) = decide (G1 * N2 < G2 * N1)) ∧ (G1 * N2 = G2 * N1 → max mx (-mx) + max my (-my) ≠ max kx (-kx) + max ky (-ky) → ltM (mx, my, G1, N1) (kx, ky, G2, N2) = decide (max mx (-mx) + max my (-my) < max kx (-kx) + max ky (-ky))) ∧ (G1 * N2 = G2 * N1 → max mx (-mx) + max my (-my) = max kx (-kx) + max ky (-ky) → ltM (mx, my, G1, N1) (kx, ky, G2, N2) = decide (my < ky ∨ (my = ky ∧ mx < kx))) := by
  have hi : ltM (mx, my, G1, N1) (kx, ky, G2, N2) = true ↔ G1 * N2 < G2 * N1 ∨ (G1 * N2 = G2 * N1 ∧ (max mx (-mx) + max my (-my) < max kx (-kx) + max ky (-ky) ∨ (max mx (-mx) + max my (-my) = max kx (-kx) + max ky (-ky) ∧ (my < ky ∨ (my = ky ∧ mx < kx))))) := ltM_iff _ _
  have key : ∀ (P : Prop) [Decidable P], (ltM (mx, my, G1, N1) (kx, ky, G2, N2) = true ↔ P) → ltM (mx, my, G1, N1) (kx, ky, G2, N2) = decide P := by
    intro P _ h
    by_cases hp : P
    · rw [h.2 hp, decide_eq_true hp]
    · rw [decide_eq_false hp]
      cases h9 : ltM (mx, my, G1, N1) (kx, ky, G2, N2) with
      | false => rfl
      | true => exact absurd (h.1 h9) hp
  generalize max mx (-mx) + max my (-my) = sp at *
  generalize max kx (-kx) + max ky (-ky) = sq at *
  refine ⟨fun h => key _ ?_, fun h h2 => key _ ?_, fun h h2 => key _ ?_⟩ <;> rw [hi] <;> omega
/-- a call that leaves every world as it is, in a region that reads behind another one -/
theorem quietMoreR {P : Program} {f : FuncId} {args : Array Value} {w : World} {a n : Nat} {v : Value} (h : ∀ W : World, Calls P f args W fun e w' => e = .returned v ∧ W = w') :
    Calls P f args (w.drewN (a + n)) fun e w'' => e = .returned v ∧ ∃ m, w'' = w.drewN (a + m) := (h _).mono fun _ _ h9 => ⟨h9.1, n, h9.2.symm⟩
/-- two fields, two motions, by value -/
structure Lx4 (w : World) (wd0 hg0 : Int) (a0 : Option Addr) (l0 : List Int) (c0 : Nat) (wd1 hg1 : Int) (a1 : Option Addr) (l1 : List Int) (c1 : Nat) (mx my kx ky : Int) (w' : World) : Prop where
  f : Lx3 w wd0 hg0 a0 l0 c0 wd1 hg1 a1 l1 c1 mx my w'
  k : MBox w' (w.heap.size + 3) 24 kx ky
section
variable {w w1 w2 : World} {wd0 hg0 wd1 hg1 mx my kx ky : Int} {a0 a1 : Option Addr} {l0 l1 : List Int} {c0 c1 : Nat}
theorem Lx4.new (h0 : Ints .i64 w w.heap.size a0 l0) (h1 : Ints .i64 w w.heap.size a1 l1) (mx my kx ky : Int) : Lx4 w wd0 hg0 a0 l0 c0 wd1 hg1 a1 l1 c1 mx my kx ky ((((w.alloc (.cells #[.int .i64 wd0, .int .i64 hg0, .slice a0 l0.length c0] 34)).alloc (.cells #[.int .i64 wd1, .int .i64 hg1, .slice a1 l1.length c1] 34)).alloc (.cells #[.int .i64 mx, .int .i64 my] 24)).alloc (.cells #[.int .i64 kx, .int .i64 ky] 24)) := by
  have h := Lx3.new (wd0 := wd0) (hg0 := hg0) (c0 := c0) (wd1 := wd1) (hg1 := hg1) (c1 := c1) h0 h1 mx my
  refine ⟨⟨h.f.step (below_all _ _), h.m.below (below_all _ _)⟩, ?_⟩
  have h9 := MBox.new (((w.alloc (.cells #[.int .i64 wd0, .int .i64 hg0, .slice a0 l0.length c0] 34)).alloc (.cells #[.int .i64 wd1, .int .i64 hg1, .slice a1 l1.length c1] 34)).alloc (.cells #[.int .i64 mx, .int .i64 my] 24)) 24 kx ky
  simp only [World.size_alloc] at h9
  exact h9
theorem Lx4.step (h : Lx4 w wd0 hg0 a0 l0 c0 wd1 hg1 a1 l1 c1 mx my kx ky w1) (b : Below w1.heap.size w1 w2) : Lx4 w wd0 hg0 a0 l0 c0 wd1 hg1 a1 l1 c1 mx my kx ky w2 := ⟨⟨h.f.f.step b, h.f.m.below b⟩, h.k.below b⟩
end
set_option maxRecDepth 100000 in
set_option maxHeartbeats 4000000 in
theorem specQl_any (W H : Nat) (aa : Option Addr) (la : List Int) (ca : Nat) (ab : Option Addr) (lb : List Int) (cb : Nat) (mx my G N : Int) (w : World) (h1 : Ints .i64 w w.heap.size aa la) (h2 : Ints .i64 w w.heap.size ab lb) (hn : 0 ≤ N ∧ N ≤ 64) (hl : 1 ≤ la.length ∧ la.length ≤ 64)
    (hM : ∀ W1 : World, Ints .i64 W1 W1.heap.size aa la → Ints .i64 W1 W1.heap.size ab lb → Calls Try.prog 68 #[.agg #[.int .i64 W, .int .i64 H, .slice aa la.length ca], .agg #[.int .i64 W, .int .i64 H, .slice ab lb.length cb], .agg #[.int .i64 mx, .int .i64 my]] W1 fun e w' => e = .returned (.tuple #[.int .i64 G, .int .i64 N]) ∧ Below W1.heap.size W1 w') :
    Calls Try.prog 100 #[.agg #[.int .i64 W, .int .i64 H, .slice aa la.length ca], .agg #[.int .i64 W, .int .i64 H, .slice ab lb.length cb], .agg #[.int .i64 mx, .int .i64 my]] w fun e w' => e = .returned (.bool (decide ((la.length : Int) ≤ 2 * N))) ∧ Below w.heap.size w w' := by
  have F0 := Lib.hid (Lx3.new (wd0 := (W : Int)) (hg0 := (H : Int)) (c0 := ca) (wd1 := (W : Int)) (hg1 := (H : Int)) (c1 := cb) h1 h2 mx my)
  obtain ⟨W0, hW0⟩ : ∃ x, ((w.alloc (.cells #[.int .i64 W, .int .i64 H, .slice aa la.length ca] 34)).alloc (.cells #[.int .i64 W, .int .i64 H, .slice ab lb.length cb] 34)).alloc (.cells #[.int .i64 mx, .int .i64 my] 24) = x := ⟨_, rfl⟩
  rw [hW0] at F0
  have HW := Lib.hid hW0
  have HM := Lib.hid hM
  have w1' := IntWalk.i64_in (2 * N) (by omega)
  clear h1 h2 hW0 hM
  by_cases hq : (la.length : Int) ≤ 2 * N
  · rw [decide_eq_true hq]
    have hN : 0 < N := by omega
    go_enter Try.func100, Try.ntmps100
    go_wp2_with fail
    rw [HW.out]
    refine (HM.out _ F0.out.f.i0 F0.out.f.i1).mono ?_
    rintro e w1 ⟨rfl, b1⟩
    have F1 := Lib.hid (F0.out.step b1)
    clear b1 F0
    obtain ⟨k0, k1, k2⟩ := F1.out.f.k0.cells
    go_wp2
    go_ret
    exact ⟨by simp [hq], F1.out.f.b⟩
  · rw [decide_eq_false hq]
    have hq2 : 2 * N < (la.length : Int) := by omega
    by_cases hN : 0 < N
    · go_enter Try.func100, Try.ntmps100
      go_wp2_with fail
      rw [HW.out]
      refine (HM.out _ F0.out.f.i0 F0.out.f.i1).mono ?_
      rintro e w1 ⟨rfl, b1⟩
      have F1 := Lib.hid (F0.out.step b1)
      clear b1 F0
      obtain ⟨k0, k1, k2⟩ := F1.out.f.k0.cells
      go_wp2
      go_ret
      (first | exact ⟨rfl, F1.out.f.b⟩ | exact ⟨by simp [hq], F1.out.f.b⟩ | exact ⟨by simp [hq]; omega, F1.out.f.b⟩)
    · go_enter Try.func100, Try.ntmps100
      go_wp2_with fail
      rw [HW.out]
      refine (HM.out _ F0.out.f.i0 F0.out.f.i1).mono ?_
      rintro e w1 ⟨rfl, b1⟩
      have F1 := Lib.hid (F0.out.step b1)
      clear b1 F0
      obtain ⟨k0, k1, k2⟩ := F1.out.f.k0.cells
      go_wp2
      go_ret
      (first | exact ⟨rfl, F1.out.f.b⟩ | exact ⟨by simp [hq], F1.out.f.b⟩ | exact ⟨by simp [hq]; omega, F1.out.f.b⟩)
set_option maxRecDepth 100000 in
set_option maxHeartbeats 8000000 in
theorem specBt_any (W H : Nat) (aa : Option Addr) (la : List Int) (ca : Nat) (ab : Option Addr) (lb : List Int) (cb : Nat) (mx my kx ky G1 N1 G2 N2 : Int) (w : World) (h1 : Ints .i64 w w.heap.size aa la) (h2 : Ints .i64 w w.heap.size ab lb) (o1 : okM (mx, my, G1, N1)) (o2 : okM (kx, ky, G2, N2))
    (hM : ∀ W1 : World, Ints .i64 W1 W1.heap.size aa la → Ints .i64 W1 W1.heap.size ab lb → Calls Try.prog 68 #[.agg #[.int .i64 W, .int .i64 H, .slice aa la.length ca], .agg #[.int .i64 W, .int .i64 H, .slice ab lb.length cb], .agg #[.int .i64 mx, .int .i64 my]] W1 fun e w' => e = .returned (.tuple #[.int .i64 G1, .int .i64 N1]) ∧ Below W1.heap.size W1 w')
    (hK : ∀ W1 : World, Ints .i64 W1 W1.heap.size aa la → Ints .i64 W1 W1.heap.size ab lb → Calls Try.prog 68 #[.agg #[.int .i64 W, .int .i64 H, .slice aa la.length ca], .agg #[.int .i64 W, .int .i64 H, .slice ab lb.length cb], .agg #[.int .i64 kx, .int .i64 ky]] W1 fun e w' => e = .returned (.tuple #[.int .i64 G2, .int .i64 N2]) ∧ Below W1.heap.size W1 w') :
    Calls Try.prog 101 #[.agg #[.int .i64 W, .int .i64 H, .slice aa la.length ca], .agg #[.int .i64 W, .int .i64 H, .slice ab lb.length cb], .agg #[.int .i64 mx, .int .i64 my], .agg #[.int .i64 kx, .int .i64 ky]] w fun e w' => e = .returned (.bool (ltM (mx, my, G1, N1) (kx, ky, G2, N2))) ∧ Below w.heap.size w w' := by
  have F0 := Lib.hid (Lx4.new (wd0 := (W : Int)) (hg0 := (H : Int)) (c0 := ca) (wd1 := (W : Int)) (hg1 := (H : Int)) (c1 := cb) h1 h2 mx my kx ky)
  obtain ⟨W0, hW0⟩ : ∃ x, (((w.alloc (.cells #[.int .i64 W, .int .i64 H, .slice aa la.length ca] 34)).alloc (.cells #[.int .i64 W, .int .i64 H, .slice ab lb.length cb] 34)).alloc (.cells #[.int .i64 mx, .int .i64 my] 24)).alloc (.cells #[.int .i64 kx, .int .i64 ky] 24) = x := ⟨_, rfl⟩
  rw [hW0] at F0
  have HW := Lib.hid hW0
  have HM := Lib.hid hM
  have HK := Lib.hid hK
  obtain ⟨b1, b2, b3⟩ := ltM_by mx my G1 N1 kx ky G2 N2
  obtain ⟨⟨a1, a2⟩, ⟨a3, a4⟩, ⟨a5, a6⟩, a7, a8⟩ := o1
  obtain ⟨⟨d1, d2⟩, ⟨d3, d4⟩, ⟨d5, d6⟩, d7, d8⟩ := o2
  simp only [mX, mY, mG, mN] at a1 a2 a3 a4 a5 a6 a7 a8 d1 d2 d3 d4 d5 d6 d7 d8
  have c1 : 0 ≤ G1 * N2 ∧ G1 * N2 ≤ 1280000 * 64 := ⟨Int.mul_nonneg a3 (by omega), Int.mul_le_mul a4 d2 (by omega) (by omega)⟩
  have c2 : 0 ≤ G2 * N1 ∧ G2 * N1 ≤ 1280000 * 64 := ⟨Int.mul_nonneg d3 (by omega), Int.mul_le_mul d4 a2 (by omega) (by omega)⟩
  have w1 := IntWalk.i64_in (G1 * N2) (by omega)
  have w2 := IntWalk.i64_in (G2 * N1) (by omega)
  have HA1 := Lib.hid (fun Wd => specAbs_is mx Wd (by omega))
  have HA2 := Lib.hid (fun Wd => specAbs_is my Wd (by omega))
  have HA3 := Lib.hid (fun Wd => specAbs_is kx Wd (by omega))
  have HA4 := Lib.hid (fun Wd => specAbs_is ky Wd (by omega))
  have f1 : 0 ≤ max mx (-mx) ∧ max mx (-mx) ≤ 2 := by omega
  have f2 : 0 ≤ max my (-my) ∧ max my (-my) ≤ 2 := by omega
  have f3 : 0 ≤ max kx (-kx) ∧ max kx (-kx) ≤ 2 := by omega
  have f4 : 0 ≤ max ky (-ky) ∧ max ky (-ky) ≤ 2 := by omega
  have B1 := Lib.hid b1
  have B2 := Lib.hid b2
  have B3 := Lib.hid b3
  clear h1 h2 hW0 hM hK b1 b2 b3 a1 a2 a3 a4 d1 d2 d3 d4
  generalize max mx (-mx) = s1 at *
  generalize max my (-my) = s2 at *
  generalize max kx (-kx) = s3 at *
  generalize max ky (-ky) = s4 at *
  generalize ltM (mx, my, G1, N1) (kx, ky, G2, N2) = v at *
  have w3 := IntWalk.i64_in (s1 + s2) (by omega)
  have w4 := IntWalk.i64_in (s3 + s4) (by omega)
  go_enter Try.func101, Try.ntmps101
  go_wp2_with fail
  rw [HW.out]
  refine (HM.out _ F0.out.f.f.i0 F0.out.f.f.i1).mono ?_
  rintro e w5 ⟨rfl, b5⟩
  have F1 := Lib.hid (F0.out.step b5)
  clear b5 F0
  obtain ⟨⟨k0, k1, k2⟩, ⟨l0, l1, l2⟩, n0, n1⟩ := F1.out.f.cells
  obtain ⟨n2, n3⟩ := F1.out.k.cells
  go_wp2_with fail
  refine (HK.out _ F1.out.f.f.i0 F1.out.f.f.i1).mono ?_
  rintro e w6 ⟨rfl, b6⟩
  have F2 := Lib.hid (F1.out.step b6)
  clear b6 F1 k0 k1 k2 l0 l1 l2 n0 n1 n2 n3
  obtain ⟨⟨k0, k1, k2⟩, ⟨l0, l1, l2⟩, n0, n1⟩ := F2.out.f.cells
  obtain ⟨n2, n3⟩ := F2.out.k.cells
  by_cases hab : G1 * N2 = G2 * N1
  · have HB2 := Lib.hid (B2.out hab)
    have HB3 := Lib.hid (B3.out hab)
    have nab : (G1 * N2 != G2 * N1) = false := by simp [hab]
    clear B1 B2 B3 hab
    go_wp2_with fail
    go_quiet ((go_at_call 99; first | exact Calls.quiet_of_same (quietSame (HA1.out _)) | exact Calls.quiet_of_same (quietSame (HA2.out _)) | exact Calls.quiet_of_same (quietSame (HA3.out _)) | exact Calls.quiet_of_same (quietSame (HA4.out _)) | exact quietMoreR HA1.out | exact quietMoreR HA2.out | exact quietMoreR HA3.out | exact quietMoreR HA4.out))
    clear k0 k1 k2 l0 l1 l2 n0 n1 n2 n3
    generalize hW7 : w6.drewN _ = W7
    have F3 := Lib.hid (show Lx4 w W H aa la ca W H ab lb cb mx my kx ky W7 from by rw [← hW7]; exact F2.out.step (below_drewN (Below.refl _ _) _))
    clear hW7 F2
    obtain ⟨⟨k0, k1, k2⟩, ⟨l0, l1, l2⟩, n0, n1⟩ := F3.out.f.cells
    obtain ⟨n2, n3⟩ := F3.out.k.cells
    by_cases hs : s1 + s2 = s3 + s4
    · have HE := Lib.hid (HB3.out hs)
      have ns : (s1 + s2 != s3 + s4) = false := by simp [hs]
      clear HB2 HB3 hs
      by_cases hy : my < ky
      · have HV := Lib.hid (show v = true from by rw [HE.out]; simp [hy])
        go_wp2
        go_ret
        exact ⟨by show Ending.returned (.bool _) = _; rw [HV.out], F3.out.f.f.b⟩
      · by_cases hy2 : my = ky
        · have nyy : (my == ky) = true := by simp [hy2]
          have HV := Lib.hid (show v = decide (mx < kx) from by rw [HE.out]; simp [hy2])
          clear hy2
          go_wp2
          go_ret
          exact ⟨by show Ending.returned (.bool _) = _; rw [HV.out], F3.out.f.f.b⟩
        · have nyy : (my == ky) = false := by simp [hy2]
          have HV := Lib.hid (show v = false from by rw [HE.out]; simp [hy2]; omega)
          clear hy2
          go_wp2
          go_ret
          exact ⟨by show Ending.returned (.bool _) = _; rw [HV.out], F3.out.f.f.b⟩
    · have HE := Lib.hid (HB2.out hs)
      have ns : (s1 + s2 != s3 + s4) = true := by simp [hs]
      clear HB2 HB3 hs
      go_wp2
      go_ret
      exact ⟨by show Ending.returned (.bool _) = _; rw [HE.out], F3.out.f.f.b⟩
  · have HB1 := Lib.hid (B1.out hab)
    have nab : (G1 * N2 != G2 * N1) = true := by simp [hab]
    clear B1 B2 B3 hab
    go_wp2
    go_ret
    exact ⟨by show Ending.returned (.bool _) = _; rw [HB1.out], F2.out.f.f.b⟩
end Go.Proofs.Ytggdkibbfmjelaa
namespace Go.Proofs.Ytggdkibbfmjelaa
open Go.RowKit
set_option linter.unusedVariables false
set_option linter.unusedSimpArgs false
section
variable {G N : Int → Int → Int} {len : Int}
/-- the motions of the ranking among the first n -/
def RL (G N : Int → Int → Int) (len : Int) (n : Nat) : List MoT := (rkL G N len n).map moOf
theorem RL_len (n : Nat) : (RL G N len n).length ≤ n := by unfold RL; rw [List.length_map]; exact rk_len n
theorem RL_no {n : Nat} (h : ¬ len ≤ 2 * N (moX n) (moY n)) : RL G N len (n + 1) = RL G N len n := by unfold RL; rw [rkL_no h]
theorem RL_yes {n k : Nat} (h : len ≤ 2 * N (moX n) (moY n)) (hk : spotM (rkL G N len n) (mtAt G N n) (rkL G N len n).length = k) : RL G N len (n + 1) = (RL G N len n).take k ++ (moX n, moY n) :: (RL G N len n).drop k := by
  unfold RL
  rw [rkL_yes h]
  unfold insM
  rw [hk, List.map_append, List.map_cons, List.map_take, List.map_drop]
  rfl
theorem RL_at {n j : Nat} (hj : j < (rkL G N len n).length) : ∃ i, i < n ∧ (rkL G N len n)[j] = mtAt G N i ∧ len ≤ 2 * N (moX i) (moY i) := by
  exact ql_mem ((rk_perm n).mem_iff.1 (List.getElem_mem hj))
theorem RL_cell {n j : Nat} (hj : j < (rkL G N len n).length) : (mov (RL G N len n))[j * 2]? = some (.int .i64 (mX (rkL G N len n)[j])) ∧ (mov (RL G N len n))[j * 2 + 1]? = some (.int .i64 (mY (rkL G N len n)[j])) := by
  have hj2 : j < (RL G N len n).length := by unfold RL; rw [List.length_map]; exact hj
  obtain ⟨h1, h2⟩ := mov_get (RL G N len n) j hj2
  have e : (RL G N len n)[j] = (mX (rkL G N len n)[j], mY (rkL G N len n)[j]) := by simp [RL, moOf]
  rw [e] at h1 h2
  exact ⟨h1, h2⟩
end
set_option maxRecDepth 100000 in
set_option maxHeartbeats 16000000 in
theorem specRk_any (W H : Nat) (aa : Option Addr) (la : List Int) (ca : Nat) (ab : Option Addr) (lb : List Int) (cb : Nat) (G N : Int → Int → Int) (w : World) (h1 : Ints .i64 w w.heap.size aa la) (h2 : Ints .i64 w w.heap.size ab lb) (hl64 : 1 ≤ la.length ∧ la.length ≤ 64) (hfine : FineM G N la.length) (hN : ∀ x y, (-2 ≤ x ∧ x ≤ 2) → (-2 ≤ y ∧ y ≤ 2) → 0 ≤ N x y ∧ N x y ≤ 64)
    (hM : ∀ (x y : Int), (-2 ≤ x ∧ x ≤ 2) → (-2 ≤ y ∧ y ≤ 2) → ∀ W1 : World, Ints .i64 W1 W1.heap.size aa la → Ints .i64 W1 W1.heap.size ab lb → Calls Try.prog 68 #[.agg #[.int .i64 W, .int .i64 H, .slice aa la.length ca], .agg #[.int .i64 W, .int .i64 H, .slice ab lb.length cb], .agg #[.int .i64 x, .int .i64 y]] W1 fun e w' => e = .returned (.tuple #[.int .i64 (G x y), .int .i64 (N x y)]) ∧ Below W1.heap.size W1 w') :
    Calls Try.prog 72 #[.agg #[.int .i64 W, .int .i64 H, .slice aa la.length ca], .agg #[.int .i64 W, .int .i64 H, .slice ab lb.length cb]] w fun e w' => ∃ a c, e = .returned (.slice a (RL G N la.length 25).length c) ∧ OwnMo w' w.heap.size a (RL G N la.length 25) ∧ Below w.heap.size w w' := by
  obtain ⟨i0, hi0', hz0, hz1, hz2⟩ := info_parts infoMo
  have F0 := Lib.hid (Lx2.new (wd0 := (W : Int)) (hg0 := (H : Int)) (c0 := ca) (wd1 := (W : Int)) (hg1 := (H : Int)) (c1 := cb) h1 h2)
  have HQ := Lib.hid (fun n (hn : n < 25) Wd i1 i2 => specQl_any W H aa la ca ab lb cb (moX n) (moY n) (G (moX n) (moY n)) (N (moX n) (moY n)) Wd i1 i2 (hN _ _ (mo_bd hn).1 (mo_bd hn).2) hl64 (hM _ _ (mo_bd hn).1 (mo_bd hn).2))
  have HOK := Lib.hid (fun n (hn : n < 25) (h : (la.length : Int) ≤ 2 * N (moX n) (moY n)) => show okM (moX n, moY n, G (moX n) (moY n), N (moX n) (moY n)) from ⟨(hfine _ _ (mo_bd hn).1 (mo_bd hn).2 h).1, (hfine _ _ (mo_bd hn).1 (mo_bd hn).2 h).2, (mo_bd hn).1, (mo_bd hn).2⟩)
  have HB := Lib.hid (fun n m (hn : n < 25) (hm : m < 25) o1 o2 Wd i1 i2 => specBt_any W H aa la ca ab lb cb (moX n) (moY n) (moX m) (moY m) (G (moX n) (moY n)) (N (moX n) (moY n)) (G (moX m) (moY m)) (N (moX m) (moY m)) Wd i1 i2 o1 o2 (hM _ _ (mo_bd hn).1 (mo_bd hn).2) (hM _ _ (mo_bd hm).1 (mo_bd hm).2))
  have HLN := Lib.hid (fun n => RL_len (G := G) (N := N) (len := (la.length : Int)) n)
  have HLR := Lib.hid (fun n => show (RL G N la.length n).length = (rkL G N la.length n).length from by unfold RL; rw [List.length_map])
  have HNO := Lib.hid (fun n h => RL_no (G := G) (N := N) (len := (la.length : Int)) (n := n) h)
  have HYES := Lib.hid (fun n k h hk => RL_yes (G := G) (N := N) (len := (la.length : Int)) (n := n) (k := k) h hk)
  have HAT := Lib.hid (fun n j hj => RL_at (G := G) (N := N) (len := (la.length : Int)) (n := n) (j := j) hj)
  have HCELL := Lib.hid (fun n j hj => RL_cell (G := G) (N := N) (len := (la.length : Int)) (n := n) (j := j) hj)
  have HRL0 := Lib.hid (show RL G N la.length 0 = [] from rfl)
  obtain ⟨w1, hw1⟩ : ∃ x, (w.alloc (.cells #[.int .i64 W, .int .i64 H, .slice aa la.length ca] 34)).alloc (.cells #[.int .i64 W, .int .i64 H, .slice ab lb.length cb] 34) = x := ⟨_, rfl⟩
  obtain ⟨y0, y1, y2⟩ := F0.out.k0.cells
  rw [hw1] at F0
  have hs1 : w.heap.size + 2 ≤ w1.heap.size := by rw [← hw1]; simp
  have S0 := Lib.hid (OutM.start (w.heap.size + 2) w1 hs1)
  have HW := Lib.hid hw1
  have hss : w1.heap.size = w.heap.size + 1 + 1 := by rw [← hw1]; simp
  have HSS := Lib.hid hss
  clear h1 h2 hw1 hM hfine hN hss y0 y1 y2
  generalize hRL : RL G N la.length = R at *
  clear hRL
  go_enter Try.func72, Try.ntmps72
  go_wp2
  go_loopw [5, 6] (fun out i9 wr => ∃ j : Nat, j ≤ 5 ∧ i9 = .int .i64 ((j : Int) - 2) ∧ ∃ g cap, out = .slice (some ⟨g, 0, none⟩) (R (5 * j)).length cap ∧ OutM (w.heap.size + 2) (R (5 * j)) g cap wr ∧ Lx2 w W H aa la ca W H ab lb cb wr) (fun _ i9 _ => 5 - (intOf i9 + 2).toNat)
  case atStart =>
    rw [HW.out]
    refine ⟨0, by omega, rfl, w.heap.size + 1 + 1, 0, ?_, ?_, F0.out.step (below_all _ _)⟩
    · rw [Nat.mul_zero, HRL0.out]; rfl
    · rw [Nat.mul_zero, HRL0.out]; have h9 := S0.out; rw [HSS.out] at h9; exact h9
  case round =>
    clear S0 F0
    obtain ⟨j, hj, rfl, g0, cap0, rfl, hO, hX⟩ := hrel
    have HO := Lib.hid hO
    have HX := Lib.hid hX
    clear hO hX
    by_cases hlt : j < 5
    · have hi : (j : Int) - 2 ≤ 2 := by omega
      go_wp2
      go_loopw [5, 7] (fun out i9 wr => ∃ i : Nat, i ≤ 5 ∧ i9 = .int .i64 ((i : Int) - 2) ∧ ∃ g cap, out = .slice (some ⟨g, 0, none⟩) (R (5 * j + i)).length cap ∧ OutM (w.heap.size + 2) (R (5 * j + i)) g cap wr ∧ Lx2 w W H aa la ca W H ab lb cb wr) (fun _ i9 _ => 5 - (intOf i9 + 2).toNat)
      case atStart => exact ⟨0, by omega, rfl, g0, cap0, rfl, HO.out, HX.out⟩
      case round =>
        clear HO HX
        obtain ⟨i, hi5, rfl, g, c, rfl, hO, hX⟩ := hrel
        have HO := Lib.hid hO
        have HX := Lib.hid hX
        clear hO hX
        by_cases hlt2 : i < 5
        · have hi2 : (i : Int) - 2 ≤ 2 := by omega
          obtain ⟨ex, ey⟩ := mo_at (j := j) hlt2
          have hn25 : 5 * j + i < 25 := by omega
          have w1' := IntWalk.i64_in ((i : Int) - 2 + 1) (by omega)
          have HQN := Lib.hid (HQ.out (5 * j + i) hn25)
          have HNON := Lib.hid (HNO.out (5 * j + i))
          have HYESN := Lib.hid (HYES.out (5 * j + i))
          have HOKN := Lib.hid (HOK.out (5 * j + i) hn25)
          have HBN := Lib.hid (fun m hm => HB.out (5 * j + i) m hn25 hm)
          have HATN := Lib.hid (HAT.out (5 * j + i))
          have HCELLN := Lib.hid (HCELL.out (5 * j + i))
          have hln := HLN.out (5 * j + i)
          have HLRN := Lib.hid (HLR.out (5 * j + i))
          have HMT := Lib.hid (show mtAt G N (5 * j + i) = (moX (5 * j + i), moY (5 * j + i), G (moX (5 * j + i)) (moY (5 * j + i)), N (moX (5 * j + i)) (moY (5 * j + i))) from rfl)
          rw [ex, ey] at HQN HNON HYESN HOKN HBN HMT
          have HX5 := Lib.hid (show 5 * j + (i + 1) = 5 * j + i + 1 from rfl)
          generalize hn' : 5 * j + i = n at *
          clear hn' ex ey
          obtain ⟨x, hx⟩ : ∃ x, (i : Int) - 2 = x := ⟨_, rfl⟩
          obtain ⟨y, hy⟩ : ∃ y, (j : Int) - 2 = y := ⟨_, rfl⟩
          have HXX := Lib.hid hx
          have hxi : x + 1 = ((i + 1 : Nat) : Int) - 2 := by omega
          have HXI := Lib.hid hxi
          rw [hx, hy] at HQN HNON HYESN HOKN HBN HMT
          rw [hx] at hi2 w1'
          rw [hy] at hi
          rw [hx, hy]
          clear hx hy hxi
          generalize G x y = G1 at *
          generalize hN1 : N x y = N1 at *
          clear hN1
          obtain ⟨wA, hwA⟩ : ∃ z, wr.alloc (.cells #[.int .i64 x, .int .i64 y] 24) = z := ⟨_, rfl⟩
          have HP := Lib.hid (MBox.new wr 24 x y)
          have HXA := Lib.hid (HX.out.step (below_all wr (.cells #[.int .i64 x, .int .i64 y] 24)))
          have HOA := Lib.hid (HO.out.step (below_all wr (.cells #[.int .i64 x, .int .i64 y] 24)))
          have hzA : wr.heap.size < wA.heap.size := by rw [← hwA]; simp
          rw [hwA] at HP HXA HOA
          have HWA := Lib.hid hwA
          obtain ⟨k0, k1, k2⟩ := HX.out.k0.cells
          obtain ⟨l0, l1, l2⟩ := HX.out.k1.cells
          have q0 := HX.out.k1.lt
          have q1 : w.heap.size < wr.heap.size := by omega
          have q2 : ¬ w.heap.size = wr.heap.size := by omega
          have q3 : ¬ w.heap.size + 1 = wr.heap.size := by omega
          clear hwA
          go_wp2_with fail
          rw [HWA.out]
          refine (HQN.out _ HXA.out.i0 HXA.out.i1).mono ?_
          rintro e wB ⟨rfl, bB⟩
          have HPB := Lib.hid (HP.out.below bB)
          have HXB := Lib.hid (HXA.out.step bB)
          have HOB := Lib.hid (HOA.out.step bB)
          have hzB := bB.size
          clear bB HP HXA HOA HWA k0 k1 k2 l0 l1 l2 q0 q1 q2 q3 HX HO
          generalize wr.heap.size = pb at *
          by_cases hq : (la.length : Int) ≤ 2 * N1
          · have HYN := Lib.hid (fun k hk => HYESN.out k hq hk)
            have o1 := HOKN.out hq
            have O1 := Lib.hid o1
            have dq : decide ((la.length : Int) ≤ 2 * N1) = true := decide_eq_true hq
            clear HNON HYESN HOKN HQN hq o1
            rw [HMT.out] at HYN
            go_wp2
            clear dq
            go_loopw [9] (fun p wr => ∃ k : Nat, k ≤ (R n).length ∧ p = .int .i64 k ∧ Hid (spotM (rkL G N la.length n) (x, y, G1, N1) (rkL G N la.length n).length = spotM (rkL G N la.length n) (x, y, G1, N1) k) ∧ OutM (w.heap.size + 2) (R n) g c wr ∧ Lx2 w W H aa la ca W H ab lb cb wr ∧ MBox wr pb 24 x y) (fun p _ => (intOf p).toNat)
            case atStart => exact ⟨(R n).length, Nat.le_refl _, rfl, Lib.hid (by rw [HLRN.out]), HOB.out, HXB.out, HPB.out⟩
            case round =>
              clear HOB HXB HPB
              obtain ⟨k, hk, rfl, HSP, hO, hX, hP⟩ := hrel
              have HO := Lib.hid hO
              have HX := Lib.hid hX
              have HP := Lib.hid hP
              clear hO hX hP
              obtain ⟨v, hv⟩ : ∃ v : Bool, (decide (0 < k) && ltM (x, y, G1, N1) ((rkL G N la.length n).getD (k - 1) (0, 0, 0, 0))) = v := ⟨_, rfl⟩
              have HV := Lib.hid hv
              clear hv
              obtain ⟨hgl, hgb, hgc, hcl⟩ := HO.out.facts
              have HL1 := Lib.hid hcl
              clear hcl
              obtain ⟨k0, k1, k2⟩ := HX.out.k0.cells
              obtain ⟨l0, l1, l2⟩ := HX.out.k1.cells
              obtain ⟨m0, m1⟩ := HP.out.cells
              go_upto_region 11 with fail
              go_cut [41] (fun s wx => s = .bool v ∧ OutM (w.heap.size + 2) (R n) g c wx ∧ Lx2 w W H aa la ca W H ab lb cb wx ∧ MBox wx pb 24 x y)
              case first =>
                by_cases hk0 : k = 0
                · have hv0 : v = false := by rw [← HV.out, hk0]; rfl
                  subst hv0
                  have hk00 : ¬ (0 : Int) < (k : Int) := by omega
                  have hkN : ¬ 0 < k := by omega
                  clear hk0
                  refine wp_region_later (by kernel_rfl) (by kernel_rfl) ?_
                  repeat (go_big_quiet_step (fail))
                  refine wpQuiet_nil ?_
                  intro _ hw'
                  obtain ⟨pq, hw''⟩ := hw'
                  subst hw''
                  all_goals (go_wp2_with fail; go_meet)
                  exact ⟨rfl, HO.out.step pq.below, HX.out.step pq.below, HP.out.below pq.below⟩
                · obtain ⟨k', hkk⟩ : ∃ k', k = k' + 1 := ⟨k - 1, by omega⟩
                  have hk' : k' < (rkL G N la.length n).length := by have := HLRN.out; omega
                  obtain ⟨ci0, ci1⟩ := HCELLN.out k' hk'
                  have d0 := HL1.out _ _ ci0
                  have d1 := HL1.out _ _ ci1
                  obtain ⟨m, hm, em, hmq⟩ := HATN.out k' hk'
                  have hv2 : v = ltM (x, y, G1, N1) (mtAt G N m) := by rw [← HV.out, hkk, ← em, show k' + 1 - 1 = k' from rfl, gM_at hk', decide_eq_true (by omega)]; rfl
                  rw [em] at d0 d1
                  have HBM := Lib.hid (fun Wd i1 i2 => HBN.out m (by omega) O1.out (HOK.out m (by omega) hmq) Wd i1 i2)
                  have e1 : mX (mtAt G N m) = moX m := rfl
                  have e2 : mY (mtAt G N m) = moY m := rfl
                  rw [e1] at d0
                  rw [e2] at d1
                  unfold mtAt at hv2
                  have HV2 := Lib.hid hv2
                  have hk00 : (0 : Int) < (k : Int) := by omega
                  have hkN : 0 < k := by omega
                  have hx1 : (k : Int) - 1 = (k' : Int) := by omega
                  have hk3 : (k' : Int) < ((R n).length : Int) := by have := HLRN.out; omega
                  have hk4 : (0 : Int) ≤ (k' : Int) := by omega
                  clear ci0 ci1 em hmq hv2 e1 e2 hkk hk0 hk'
                  generalize moX m = kx at *
                  generalize moY m = ky at *
                  have zw := HX.out.k1.lt
                  have zw0 : w.heap.size < wr.heap.size := by omega
                  have zp := HP.out.lt
                  have p0 := later_cell k0 zw0
                  have p1 := later_cell k1 zw0
                  have p2 := later_cell k2 zw0
                  have p3 := later_cell l0 zw
                  have p4 := later_cell l1 zw
                  have p5 := later_cell l2 zw
                  have p6 := later_cell m0 zp
                  have p7 := later_cell m1 zp
                  have p8 := later_cell d0 hgl
                  have p9 := later_cell d1 hgl
                  have HXI0 := Lib.hid HX.out.i0
                  have HXI1 := Lib.hid HX.out.i1
                  clear d0 d1 k0 k1 k2 l0 l1 l2 m0 m1
                  refine wp_region_later (by kernel_rfl) (by kernel_rfl) ?_
                  repeat (go_big_quiet_step ((go_at_call 101; exact calls_later (HBM.out _ (ints_below HXI0.out (Later.below _)) (ints_below HXI1.out (Later.below _))))))
                  refine wpQuiet_nil ?_
                  intro _ hw'
                  obtain ⟨pq, hw''⟩ := hw'
                  subst hw''
                  clear p0 p1 p2 p3 p4 p5 p6 p7 p8 p9
                  all_goals (go_wp2_with fail; go_meet)
                  exact ⟨by rw [HV2.out], HO.out.step pq.below, HX.out.step pq.below, HP.out.below pq.below⟩
              case rest =>
                obtain ⟨rfl, hO, hX, hP⟩ := hcut
                clear HO HX HP HL1 k0 k1 k2 l0 l1 l2 m0 m1 hgl hgb
                have HO := Lib.hid hO
                have HX := Lib.hid hX
                have HP := Lib.hid hP
                clear hO hX hP
                cases v with
                | true =>
                  have hkp : 0 < k := by have h9 := HV.out; rw [Bool.and_eq_true] at h9; exact of_decide_eq_true h9.1
                  obtain ⟨k', hkk⟩ : ∃ k', k = k' + 1 := ⟨k - 1, by omega⟩
                  have hk' : k' < (rkL G N la.length n).length := by have := HLRN.out; omega
                  have HSP2 := Lib.hid (show spotM (rkL G N la.length n) (x, y, G1, N1) (rkL G N la.length n).length = spotM (rkL G N la.length n) (x, y, G1, N1) k' from by
                    rw [HSP.out, hkk]
                    refine spotM_down hk' ?_
                    have h9 := HV.out
                    rw [Bool.and_eq_true, hkk, show k' + 1 - 1 = k' from rfl, gM_at hk'] at h9
                    exact h9.2)
                  have hx1 : (k : Int) - 1 = (k' : Int) := by omega
                  have hkm : k' < k := by omega
                  have hkr : k' ≤ (R n).length := by omega
                  clear hkk hk' HSP HV
                  go_wp2
                  go_roundw
                  case rel => exact ⟨k', hkr, rfl, HSP2, HO.out, HX.out, HP.out⟩
                  case measure => simp [intOf]; omega
                | false =>
                  have HE := Lib.hid (show spotM (rkL G N la.length n) (x, y, G1, N1) (rkL G N la.length n).length = k from by
                    rw [HSP.out]
                    rcases Nat.eq_zero_or_pos k with h0 | h0
                    · rw [h0]; rfl
                    · obtain ⟨k', hkk⟩ : ∃ k', k = k' + 1 := ⟨k - 1, by omega⟩
                      have hk' : k' < (rkL G N la.length n).length := by have := HLRN.out; omega
                      have h9 := HV.out
                      rw [decide_eq_true h0, Bool.true_and, hkk, show k' + 1 - 1 = k' from rfl, gM_at hk'] at h9
                      rw [hkk]
                      exact spotM_stop hk' h9)
                  have HFIN := Lib.hid (fun h => show R (n + 1) = (R n).take k ++ (x, y) :: (R n).drop k from HYN.out k h)
                  obtain ⟨hg, hgb, hgc, hcl⟩ := HO.out.facts
                  have HL1 := Lib.hid hcl
                  obtain ⟨m0, m1⟩ := HP.out.cells
                  have hpb := HP.out.lt
                  have hpb2 : ¬ pb = wc.heap.size := by omega
                  have hBw : w.heap.size + 2 ≤ wc.heap.size := by omega
                  clear hcl HSP HV HYN
                  obtain ⟨wr, rfl⟩ : ∃ z, z = wc := ⟨_, rfl⟩
                  have hl25 : (R n).length ≤ 25 := by omega
                  have HLAST : Hid (5 * j + i + 1 = 5 * j + i + 1) := Lib.hid rfl
                  generalize R n = l at *
                  by_cases hck : c = k
                  · have HKL := Lib.hid (show k = l.length by omega)
                    have HDR := Lib.hid (show mov (l.drop k) = [] by rw [HKL.out, List.drop_length]; rfl)
                    subst hck
                    have hwz : wr.heap.size ≤ wr.heap.size := Nat.le_refl _
                    have BW := Lib.hid (show Below wr.heap.size wr (wr.alloc (.cells #[] 24)).drew from ((Below.refl wr.heap.size wr).alloc hwz _).drew)
                    have OW := Lib.hid (show (wr.alloc (.cells #[] 24)).drew.ownsRow wr.heap.size 24 2 (.slice (some ⟨wr.heap.size, 0, none⟩) 0 0) 0 [] from ownRow_keeps (World.ownsRow_made (base := wr.heap.size) (e := 24) (size := 2) wr #[] 0 hwz (by simp) rfl) (Below.refl _ _).drew)
                    have BWb := Lib.hid (show Below wr.heap.size wr ((wr.alloc (.cells #[] 24)).alloc (.cells #[.int .i64 x, .int .i64 y] 24)).drew from (((Below.refl wr.heap.size wr).alloc hwz _).alloc (by simp <;> omega) _).drew)
                    have OWb := Lib.hid (show ((wr.alloc (.cells #[] 24)).alloc (.cells #[.int .i64 x, .int .i64 y] 24)).drew.ownsRow wr.heap.size 24 2 (.slice (some ⟨wr.heap.size, 0, none⟩) 0 0) 0 [] from ownRow_keeps ((World.ownsRow_made (base := wr.heap.size) (e := 24) (size := 2) wr #[] 0 hwz (by simp) rfl).alloc _) (Below.refl _ _).drew)
                    have LTb := Lib.hid (show ∀ (j : Nat) (u : Value), [Value.int .i64 x, .int .i64 y][j]? = some u → ((wr.alloc (.cells #[] 24)).alloc (.cells #[.int .i64 x, .int .i64 y] 24)).drew.cell? ((⟨wr.heap.size + 1, 0, none⟩ : Addr).add j) = some u from by
                      have h := lit_newM (wr.alloc (.cells #[] 24)) x y 24
                      rw [World.size_alloc] at h
                      exact litM_below h (Below.refl _ _).drew (by simp))
                    have BWc := Lib.hid (show Below wr.heap.size wr ((wr.alloc (.cells #[.int .i64 x, .int .i64 y] 24)).alloc (.cells #[] 24)).drew from (((Below.refl wr.heap.size wr).alloc hwz _).alloc (by simp <;> omega) _).drew)
                    have OWc := Lib.hid (show ((wr.alloc (.cells #[.int .i64 x, .int .i64 y] 24)).alloc (.cells #[] 24)).drew.ownsRow wr.heap.size 24 2 (.slice (some ⟨wr.heap.size + 1, 0, none⟩) 0 0) 0 [] from by
                      have h := World.ownsRow_made (base := wr.heap.size) (e := 24) (size := 2) (wr.alloc (.cells #[.int .i64 x, .int .i64 y] 24)) #[] 0 (by simp <;> omega) (by simp) rfl
                      rw [World.size_alloc] at h
                      exact ownRow_keeps h (Below.refl _ _).drew)
                    have LTc := Lib.hid (show ∀ (j : Nat) (u : Value), [Value.int .i64 x, .int .i64 y][j]? = some u → ((wr.alloc (.cells #[.int .i64 x, .int .i64 y] 24)).alloc (.cells #[] 24)).drew.cell? ((⟨wr.heap.size, 0, none⟩ : Addr).add j) = some u from
                      litM_below (lit_newM wr x y 24) (below_all _ _).drew (by simp))
                    have HBb := Lib.hid (show wr.heap.size + 1 < ((wr.alloc (.cells #[] 24)).alloc (.cells #[.int .i64 x, .int .i64 y] 24)).drew.heap.size by
                      show wr.heap.size + 1 < ((wr.alloc (.cells #[] 24)).alloc (.cells #[.int .i64 x, .int .i64 y] 24)).heap.size
                      simp)
                    have HBc := Lib.hid (show wr.heap.size < ((wr.alloc (.cells #[.int .i64 x, .int .i64 y] 24)).alloc (.cells #[] 24)).drew.heap.size by
                      show wr.heap.size < ((wr.alloc (.cells #[.int .i64 x, .int .i64 y] 24)).alloc (.cells #[] 24)).heap.size
                      simp <;> omega)
                    have HNb := Lib.hid (show wr.heap.size + 1 ≠ wr.heap.size by omega)
                    have HNc := Lib.hid (show wr.heap.size ≠ wr.heap.size + 1 by omega)
                    go_wp2_with fail
                    go_region_law (first
                      | (refine step_putM (by rfl) _ _ _ (by rfl) wr.heap.size 24 i0 (.agg #[.int .i64 0, .int .i64 0]) Try.underlying46 hi0' hz0 hz1 hz2 rfl (.slice (some ⟨wr.heap.size, 0, none⟩) 0 0) 0 [] (by rfl) OW.out ⟨g, 0, none⟩ c c (mov (l.take c)) (by rfl) (by rw [mov_length, List.length_take]; omega) (mput_take HL1.out hg BW.out) (mov_one _) (by omega) BW.out.size ?_; intro v1 w1 hown1 hgrow1; have BW1 := Lib.hid (BW.out.grown hgrow1 BW.out.size (fun j hj => (OW.out.lt j hj).1)); have OW1 := Lib.hid hown1; have md0 := (BW1.out.cell (p := ⟨pb, 0, none⟩) hpb).trans m0; have md1 := (BW1.out.cell (p := ⟨pb, 1, none⟩) hpb).trans m1; clear hown1 hgrow1)
                      | (refine step_putM (by rfl) _ _ _ (by rfl) wr.heap.size 24 i0 (.agg #[.int .i64 0, .int .i64 0]) Try.underlying46 hi0' hz0 hz1 hz2 rfl v1 (0 + c) ([] ++ mov (l.take c)) (by rfl) (OW1.out.alloc _) ⟨w1.heap.size, 0, none⟩ 1 1 [.int .i64 x, .int .i64 y] (by rfl) (by rfl) (lit_newM _ _ _ _) (by simp [Value.oneCell']) (by omega) ((BW1.out.alloc BW1.out.size _).size) ?_; intro v2 w2 hown2 hgrow2; have BW2 := Lib.hid ((BW1.out.alloc BW1.out.size (.cells #[.int .i64 x, .int .i64 y] 24)).grown hgrow2 (BW1.out.alloc BW1.out.size _).size (fun j hj => (OW1.out.lt j hj).1)); have OW2 := Lib.hid hown2; clear hown2 hgrow2)
                      | (refine step_putM (by rfl) _ _ _ (by rfl) wr.heap.size 24 i0 (.agg #[.int .i64 0, .int .i64 0]) Try.underlying46 hi0' hz0 hz1 hz2 rfl v2 (0 + c + 1) ([] ++ mov (l.take c) ++ [.int .i64 x, .int .i64 y]) (by rfl) OW2.out ⟨g, 0, none⟩ 0 0 [] (by rfl) rfl (by intro j u h; simp at h) (by intro u hu; simp at hu) (by omega) BW2.out.size ?_; intro v3 w3 hown3 hgrow3; have BW3 := Lib.hid (BW2.out.grown hgrow3 BW2.out.size (fun j hj => (OW2.out.lt j hj).1)); have OW3 := Lib.hid hown3; clear hown3 hgrow3)
                      | (refine step_putM (by rfl) _ _ _ (by rfl) wr.heap.size 24 i0 (.agg #[.int .i64 0, .int .i64 0]) Try.underlying46 hi0' hz0 hz1 hz2 rfl (.slice (some ⟨wr.heap.size, 0, none⟩) 0 0) 0 [] (by rfl) OWb.out ⟨g, 0, none⟩ c c (mov (l.take c)) (by rfl) (by rw [mov_length, List.length_take]; omega) (mput_take HL1.out hg BWb.out) (mov_one _) (by omega) BWb.out.size ?_; intro v1 w1 hown1 hgrow1; have BW1 := Lib.hid (BWb.out.grown hgrow1 BWb.out.size (fun j hj => (OWb.out.lt j hj).1)); have OW1 := Lib.hid hown1; have md0 := (BW1.out.cell (p := ⟨pb, 0, none⟩) hpb).trans m0; have md1 := (BW1.out.cell (p := ⟨pb, 1, none⟩) hpb).trans m1; have LT1 := Lib.hid (litM_grown (g := wr.heap.size) LTb.out hgrow1 HBb.out HNb.out); clear hown1 hgrow1)
                      | (refine step_putM (by rfl) _ _ _ (by rfl) wr.heap.size 24 i0 (.agg #[.int .i64 0, .int .i64 0]) Try.underlying46 hi0' hz0 hz1 hz2 rfl (.slice (some ⟨wr.heap.size + 1, 0, none⟩) 0 0) 0 [] (by rfl) OWc.out ⟨g, 0, none⟩ c c (mov (l.take c)) (by rfl) (by rw [mov_length, List.length_take]; omega) (mput_take HL1.out hg BWc.out) (mov_one _) (by omega) BWc.out.size ?_; intro v1 w1 hown1 hgrow1; have BW1 := Lib.hid (BWc.out.grown hgrow1 BWc.out.size (fun j hj => (OWc.out.lt j hj).1)); have OW1 := Lib.hid hown1; have md0 := (BW1.out.cell (p := ⟨pb, 0, none⟩) hpb).trans m0; have md1 := (BW1.out.cell (p := ⟨pb, 1, none⟩) hpb).trans m1; have LT1 := Lib.hid (litM_grown (g := wr.heap.size + 1) LTc.out hgrow1 HBc.out HNc.out); clear hown1 hgrow1)
                      | (refine step_putM (by rfl) _ _ _ (by rfl) wr.heap.size 24 i0 (.agg #[.int .i64 0, .int .i64 0]) Try.underlying46 hi0' hz0 hz1 hz2 rfl v1 (0 + c) ([] ++ mov (l.take c)) (by rfl) OW1.out ⟨wr.heap.size + 1, 0, none⟩ 1 1 [.int .i64 x, .int .i64 y] (by rfl) (by rfl) LT1.out (by simp [Value.oneCell']) (by omega) BW1.out.size ?_; intro v2 w2 hown2 hgrow2; have BW2 := Lib.hid (BW1.out.grown hgrow2 BW1.out.size (fun j hj => (OW1.out.lt j hj).1)); have OW2 := Lib.hid hown2; clear hown2 hgrow2)
                      | (refine step_putM (by rfl) _ _ _ (by rfl) wr.heap.size 24 i0 (.agg #[.int .i64 0, .int .i64 0]) Try.underlying46 hi0' hz0 hz1 hz2 rfl v1 (0 + c) ([] ++ mov (l.take c)) (by rfl) OW1.out ⟨wr.heap.size, 0, none⟩ 1 1 [.int .i64 x, .int .i64 y] (by rfl) (by rfl) LT1.out (by simp [Value.oneCell']) (by omega) BW1.out.size ?_; intro v2 w2 hown2 hgrow2; have BW2 := Lib.hid (BW1.out.grown hgrow2 BW1.out.size (fun j hj => (OW1.out.lt j hj).1)); have OW2 := Lib.hid hown2; clear hown2 hgrow2))
                    all_goals
                      obtain ⟨g3, c3, rfl, hS3⟩ := OutM.ins (B := w.heap.size + 2) (l := l) (k := c) hBw (by rw [HDR.out]; exact OW3.out) (by first | omega | (simp; omega)) (by omega)
                      have HS3 := Lib.hid hS3
                      have HX3 := Lib.hid (HX.out.step BW3.out)
                      clear hS3 OW3 BW3 OW2 BW2 OW1 BW1 BW OW BWb OWb LTb BWc OWc LTc
                      have HF := Lib.hid (HFIN.out HE.out)
                      rw [← HF.out] at HS3 ⊢
                      go_wp2
                      go_roundw
                      case rel => exact ⟨i + 1, by omega, by rw [HXI.out], g3, c3, by rw [HX5.out], by rw [HX5.out]; exact HS3.out, HX3.out⟩
                      case measure => have := HXX.out; simp [intOf]; omega
                  · have hk1 : (k : Int) ≤ (c : Int) := by omega
                    have hk2 : (k : Int) ≤ (l.length : Int) := by omega
                    have hkz : (0 : Int) ≤ (k : Int) := by omega
                    have hkl : k ≤ l.length := hk
                    have hwz : wr.heap.size ≤ wr.heap.size := Nat.le_refl _
                    have BW := Lib.hid (show Below wr.heap.size wr (wr.alloc (.cells #[] 24)).drew from ((Below.refl wr.heap.size wr).alloc hwz _).drew)
                    have OW := Lib.hid (show (wr.alloc (.cells #[] 24)).drew.ownsRow wr.heap.size 24 2 (.slice (some ⟨wr.heap.size, 0, none⟩) 0 0) 0 [] from ownRow_keeps (World.ownsRow_made (base := wr.heap.size) (e := 24) (size := 2) wr #[] 0 hwz (by simp) rfl) (Below.refl _ _).drew)
                    have BWb := Lib.hid (show Below wr.heap.size wr ((wr.alloc (.cells #[] 24)).alloc (.cells #[.int .i64 x, .int .i64 y] 24)).drew from (((Below.refl wr.heap.size wr).alloc hwz _).alloc (by simp <;> omega) _).drew)
                    have OWb := Lib.hid (show ((wr.alloc (.cells #[] 24)).alloc (.cells #[.int .i64 x, .int .i64 y] 24)).drew.ownsRow wr.heap.size 24 2 (.slice (some ⟨wr.heap.size, 0, none⟩) 0 0) 0 [] from ownRow_keeps ((World.ownsRow_made (base := wr.heap.size) (e := 24) (size := 2) wr #[] 0 hwz (by simp) rfl).alloc _) (Below.refl _ _).drew)
                    have LTb := Lib.hid (show ∀ (j : Nat) (u : Value), [Value.int .i64 x, .int .i64 y][j]? = some u → ((wr.alloc (.cells #[] 24)).alloc (.cells #[.int .i64 x, .int .i64 y] 24)).drew.cell? ((⟨wr.heap.size + 1, 0, none⟩ : Addr).add j) = some u from by
                      have h := lit_newM (wr.alloc (.cells #[] 24)) x y 24
                      rw [World.size_alloc] at h
                      exact litM_below h (Below.refl _ _).drew (by simp))
                    have BWc := Lib.hid (show Below wr.heap.size wr ((wr.alloc (.cells #[.int .i64 x, .int .i64 y] 24)).alloc (.cells #[] 24)).drew from (((Below.refl wr.heap.size wr).alloc hwz _).alloc (by simp <;> omega) _).drew)
                    have OWc := Lib.hid (show ((wr.alloc (.cells #[.int .i64 x, .int .i64 y] 24)).alloc (.cells #[] 24)).drew.ownsRow wr.heap.size 24 2 (.slice (some ⟨wr.heap.size + 1, 0, none⟩) 0 0) 0 [] from by
                      have h := World.ownsRow_made (base := wr.heap.size) (e := 24) (size := 2) (wr.alloc (.cells #[.int .i64 x, .int .i64 y] 24)) #[] 0 (by simp <;> omega) (by simp) rfl
                      rw [World.size_alloc] at h
                      exact ownRow_keeps h (Below.refl _ _).drew)
                    have LTc := Lib.hid (show ∀ (j : Nat) (u : Value), [Value.int .i64 x, .int .i64 y][j]? = some u → ((wr.alloc (.cells #[.int .i64 x, .int .i64 y] 24)).alloc (.cells #[] 24)).drew.cell? ((⟨wr.heap.size, 0, none⟩ : Addr).add j) = some u from
                      litM_below (lit_newM wr x y 24) (below_all _ _).drew (by simp))
                    have HBb := Lib.hid (show wr.heap.size + 1 < ((wr.alloc (.cells #[] 24)).alloc (.cells #[.int .i64 x, .int .i64 y] 24)).drew.heap.size by
                      show wr.heap.size + 1 < ((wr.alloc (.cells #[] 24)).alloc (.cells #[.int .i64 x, .int .i64 y] 24)).heap.size
                      simp)
                    have HBc := Lib.hid (show wr.heap.size < ((wr.alloc (.cells #[.int .i64 x, .int .i64 y] 24)).alloc (.cells #[] 24)).drew.heap.size by
                      show wr.heap.size < ((wr.alloc (.cells #[.int .i64 x, .int .i64 y] 24)).alloc (.cells #[] 24)).heap.size
                      simp <;> omega)
                    have HNb := Lib.hid (show wr.heap.size + 1 ≠ wr.heap.size by omega)
                    have HNc := Lib.hid (show wr.heap.size ≠ wr.heap.size + 1 by omega)
                    go_wp2_with fail
                    go_region_law (first
                      | (refine step_putM (by rfl) _ _ _ (by rfl) wr.heap.size 24 i0 (.agg #[.int .i64 0, .int .i64 0]) Try.underlying46 hi0' hz0 hz1 hz2 rfl (.slice (some ⟨wr.heap.size, 0, none⟩) 0 0) 0 [] (by rfl) OW.out ⟨g, 0, none⟩ k c (mov (l.take k)) (by rfl) (by rw [mov_length, List.length_take]; omega) (mput_take HL1.out hg BW.out) (mov_one _) (by omega) BW.out.size ?_; intro v1 w1 hown1 hgrow1; have BW1 := Lib.hid (BW.out.grown hgrow1 BW.out.size (fun j hj => (OW.out.lt j hj).1)); have OW1 := Lib.hid hown1; have md0 := (BW1.out.cell (p := ⟨pb, 0, none⟩) hpb).trans m0; have md1 := (BW1.out.cell (p := ⟨pb, 1, none⟩) hpb).trans m1; clear hown1 hgrow1)
                      | (refine step_putM (by rfl) _ _ _ (by rfl) wr.heap.size 24 i0 (.agg #[.int .i64 0, .int .i64 0]) Try.underlying46 hi0' hz0 hz1 hz2 rfl v1 (0 + k) ([] ++ mov (l.take k)) (by rfl) (OW1.out.alloc _) ⟨w1.heap.size, 0, none⟩ 1 1 [.int .i64 x, .int .i64 y] (by rfl) (by rfl) (lit_newM _ _ _ _) (by simp [Value.oneCell']) (by omega) ((BW1.out.alloc BW1.out.size _).size) ?_; intro v2 w2 hown2 hgrow2; have BW2 := Lib.hid ((BW1.out.alloc BW1.out.size (.cells #[.int .i64 x, .int .i64 y] 24)).grown hgrow2 (BW1.out.alloc BW1.out.size _).size (fun j hj => (OW1.out.lt j hj).1)); have OW2 := Lib.hid hown2; clear hown2 hgrow2)
                      | (refine step_putM (by rfl) _ _ _ (by rfl) wr.heap.size 24 i0 (.agg #[.int .i64 0, .int .i64 0]) Try.underlying46 hi0' hz0 hz1 hz2 rfl v2 (0 + k + 1) ([] ++ mov (l.take k) ++ [.int .i64 x, .int .i64 y]) (by rfl) OW2.out ⟨g, k * 2, none⟩ (l.length - k) (c - k) (mov (l.drop k)) (by rfl) (by rw [mov_length, List.length_drop]) (mput_drop HL1.out hg hkl BW2.out) (mov_one _) (by omega) BW2.out.size ?_; intro v3 w3 hown3 hgrow3; have BW3 := Lib.hid (BW2.out.grown hgrow3 BW2.out.size (fun j hj => (OW2.out.lt j hj).1)); have OW3 := Lib.hid hown3; clear hown3 hgrow3)
                      | (refine step_putM (by rfl) _ _ _ (by rfl) wr.heap.size 24 i0 (.agg #[.int .i64 0, .int .i64 0]) Try.underlying46 hi0' hz0 hz1 hz2 rfl (.slice (some ⟨wr.heap.size, 0, none⟩) 0 0) 0 [] (by rfl) OWb.out ⟨g, 0, none⟩ k c (mov (l.take k)) (by rfl) (by rw [mov_length, List.length_take]; omega) (mput_take HL1.out hg BWb.out) (mov_one _) (by omega) BWb.out.size ?_; intro v1 w1 hown1 hgrow1; have BW1 := Lib.hid (BWb.out.grown hgrow1 BWb.out.size (fun j hj => (OWb.out.lt j hj).1)); have OW1 := Lib.hid hown1; have md0 := (BW1.out.cell (p := ⟨pb, 0, none⟩) hpb).trans m0; have md1 := (BW1.out.cell (p := ⟨pb, 1, none⟩) hpb).trans m1; have LT1 := Lib.hid (litM_grown (g := wr.heap.size) LTb.out hgrow1 HBb.out HNb.out); clear hown1 hgrow1)
                      | (refine step_putM (by rfl) _ _ _ (by rfl) wr.heap.size 24 i0 (.agg #[.int .i64 0, .int .i64 0]) Try.underlying46 hi0' hz0 hz1 hz2 rfl (.slice (some ⟨wr.heap.size + 1, 0, none⟩) 0 0) 0 [] (by rfl) OWc.out ⟨g, 0, none⟩ k c (mov (l.take k)) (by rfl) (by rw [mov_length, List.length_take]; omega) (mput_take HL1.out hg BWc.out) (mov_one _) (by omega) BWc.out.size ?_; intro v1 w1 hown1 hgrow1; have BW1 := Lib.hid (BWc.out.grown hgrow1 BWc.out.size (fun j hj => (OWc.out.lt j hj).1)); have OW1 := Lib.hid hown1; have md0 := (BW1.out.cell (p := ⟨pb, 0, none⟩) hpb).trans m0; have md1 := (BW1.out.cell (p := ⟨pb, 1, none⟩) hpb).trans m1; have LT1 := Lib.hid (litM_grown (g := wr.heap.size + 1) LTc.out hgrow1 HBc.out HNc.out); clear hown1 hgrow1)
                      | (refine step_putM (by rfl) _ _ _ (by rfl) wr.heap.size 24 i0 (.agg #[.int .i64 0, .int .i64 0]) Try.underlying46 hi0' hz0 hz1 hz2 rfl v1 (0 + k) ([] ++ mov (l.take k)) (by rfl) OW1.out ⟨wr.heap.size + 1, 0, none⟩ 1 1 [.int .i64 x, .int .i64 y] (by rfl) (by rfl) LT1.out (by simp [Value.oneCell']) (by omega) BW1.out.size ?_; intro v2 w2 hown2 hgrow2; have BW2 := Lib.hid (BW1.out.grown hgrow2 BW1.out.size (fun j hj => (OW1.out.lt j hj).1)); have OW2 := Lib.hid hown2; clear hown2 hgrow2)
                      | (refine step_putM (by rfl) _ _ _ (by rfl) wr.heap.size 24 i0 (.agg #[.int .i64 0, .int .i64 0]) Try.underlying46 hi0' hz0 hz1 hz2 rfl v1 (0 + k) ([] ++ mov (l.take k)) (by rfl) OW1.out ⟨wr.heap.size, 0, none⟩ 1 1 [.int .i64 x, .int .i64 y] (by rfl) (by rfl) LT1.out (by simp [Value.oneCell']) (by omega) BW1.out.size ?_; intro v2 w2 hown2 hgrow2; have BW2 := Lib.hid (BW1.out.grown hgrow2 BW1.out.size (fun j hj => (OW1.out.lt j hj).1)); have OW2 := Lib.hid hown2; clear hown2 hgrow2))
                    all_goals
                      obtain ⟨g3, c3, rfl, hS3⟩ := OutM.ins (B := w.heap.size + 2) (l := l) (k := k) hBw OW3.out (by first | omega | (simp; omega)) (by omega)
                      have HS3 := Lib.hid hS3
                      have HX3 := Lib.hid (HX.out.step BW3.out)
                      clear hS3 OW3 BW3 OW2 BW2 OW1 BW1 BW OW BWb OWb LTb BWc OWc LTc
                      have HF := Lib.hid (HFIN.out HE.out)
                      rw [← HF.out] at HS3 ⊢
                      go_wp2
                      go_roundw
                      case rel => exact ⟨i + 1, by omega, by rw [HXI.out], g3, c3, by rw [HX5.out], by rw [HX5.out]; exact HS3.out, HX3.out⟩
                      case measure => have := HXX.out; simp [intOf]; omega
          · have HE := Lib.hid (HNON.out (by omega))
            have dq : decide ((la.length : Int) ≤ 2 * N1) = false := decide_eq_false hq
            clear HNON HYESN HOKN HQN hq
            go_wp2
            go_roundw
            case rel => exact ⟨i + 1, by omega, by rw [HXI.out], g, c, by rw [HX5.out, HE.out], by rw [HX5.out, HE.out]; exact HOB.out, HXB.out⟩
            case measure => have := HXX.out; simp [intOf]; omega
        · obtain rfl : i = 5 := by omega
          have w1' := IntWalk.i64_in ((j : Int) - 2 + 1) (by omega)
          go_wp2
          go_roundw
          case rel => exact ⟨j + 1, by omega, by congr 1; omega, g, c, by rw [Nat.mul_succ], by rw [Nat.mul_succ]; exact HO.out, HX.out⟩
          case measure => simp [intOf]; omega
    · obtain rfl : j = 5 := by omega
      obtain ⟨a', c', he, ho⟩ := ownMo_of HO.out.o rfl
      have HOO := Lib.hid ho
      have HEE := Lib.hid he
      clear ho he
      go_wp2
      go_ret
      exact ⟨a', c', by show Ending.returned (.slice _ _ _) = _; rw [HEE.out], HOO.out.more (by omega), HX.out.b⟩
end Go.Proofs.Ytggdkibbfmjelaa
namespace Go.Proofs.Ytggdkibbfmjelaa
open Go.RowKit
set_option linter.unusedVariables false
set_option linter.unusedSimpArgs false
set_option maxRecDepth 100000 in
set_option maxHeartbeats 4000000 in
theorem specRank_any (wa ha : Int) (aa : Option Addr) (la : List Int) (ca : Nat) (wb hb : Int) (ab : Option Addr) (lb : List Int) (cb : Nat) (w : World) (h1 : Ints .i64 w w.heap.size aa la) (h2 : Ints .i64 w w.heap.size ab lb) (n1 : la.length ≤ 1048576) (n2 : lb.length ≤ 1048576) :
    Calls Try.prog 29 #[.agg #[.int .i64 wa, .int .i64 ha, .slice aa la.length ca], .agg #[.int .i64 wb, .int .i64 hb, .slice ab lb.length cb]] w (MRet (rankR wa ha la wb hb lb) (sameB wa ha la wb hb lb) w) := by
  have F0 := Lib.hid (Lx2.new (wd0 := wa) (hg0 := ha) (c0 := ca) (wd1 := wb) (hg1 := hb) (c1 := cb) h1 h2)
  obtain ⟨W0, hW0⟩ : ∃ W, (w.alloc (.cells #[.int .i64 wa, .int .i64 ha, .slice aa la.length ca] 34)).alloc (.cells #[.int .i64 wb, .int .i64 hb, .slice ab lb.length cb] 34) = W := ⟨_, rfl⟩
  rw [hW0] at F0
  have HW := Lib.hid hW0
  clear h1 h2 hW0
  cases hs : sameB wa ha la wb hb lb with
  | false =>
    rw [rankR_no hs]
    have HC := Lib.hid (fun W i1 i2 => specSame_is wa ha aa la ca wb hb ab lb cb false W i1 i2 n1 n2 hs)
    clear hs
    go_enter Try.func29, Try.ntmps29
    go_wp2_with fail
    rw [HW.out]
    refine (HC.out _ F0.out.i0 F0.out.i1).mono ?_
    rintro e w1 ⟨rfl, b1⟩
    have B1 := Lib.hid (below_then F0.out.b b1)
    clear b1
    go_wp2
    go_ret2
    exact ⟨_, _, rfl, OwnMo.none_, B1.out.alloc B1.out.size _⟩
  | true =>
    have HR := Lib.hid (show rankR wa ha la wb hb lb = RL (maG wa ha la wb hb lb) (maN wa ha la wb hb lb) la.length 25 from rankR_yes hs)
    rw [HR.out]
    have HC := Lib.hid (fun W i1 i2 => specSame_is wa ha aa la ca wb hb ab lb cb true W i1 i2 n1 n2 hs)
    obtain ⟨hfine, hbd⟩ := ma_fine hs
    obtain ⟨g1, g2, e1, e2⟩ := same_iff.1 hs
    have b1' := good_bd g1
    have b2' := good_bd g2
    have l1 := good_le g1
    obtain ⟨W, H, rfl, rfl, rfl, rfl, hW, hH, hla, hlb⟩ := same_nat hs
    have hM : ∀ (x y : Int), (-2 ≤ x ∧ x ≤ 2) → (-2 ≤ y ∧ y ≤ 2) → ∀ W1 : World, Ints .i64 W1 W1.heap.size aa la → Ints .i64 W1 W1.heap.size ab lb → Calls Try.prog 68 #[.agg #[.int .i64 W, .int .i64 H, .slice aa la.length ca], .agg #[.int .i64 W, .int .i64 H, .slice ab lb.length cb], .agg #[.int .i64 x, .int .i64 y]] W1 fun e w' => e = .returned (.tuple #[.int .i64 (maG W H la W H lb x y), .int .i64 (maN W H la W H lb x y)]) ∧ Below W1.heap.size W1 w' := by
      intro x y hx hy W1 i1 i2
      have hm := maB_iff.2 ⟨hs, motB_iff.2 ⟨hx, hy⟩⟩
      rw [maG_yes hm, maN_yes hm]
      simp only [Int.toNat_natCast]
      obtain ⟨e1, e2⟩ := match_is (la := la) hW.1 hlb x y
      rw [← e1, ← e2]
      exact specMt_any W H aa la ca ab lb cb x y W1 i1 i2 hW hH hla hlb b1' b2' ⟨hx, hy⟩
    have HRK := Lib.hid (fun Wd i1 i2 => specRk_any W H aa la ca ab lb cb (maG W H la W H lb) (maN W H la W H lb) Wd i1 i2 (by omega) hfine hbd hM)
    clear hs hfine hbd g1 g2 e1 e2 b1' b2' l1 hM hW hH hla hlb HR
    generalize RL (maG W H la W H lb) (maN W H la W H lb) la.length 25 = R at *
    go_enter Try.func29, Try.ntmps29
    go_wp2_with fail
    rw [HW.out]
    refine (HC.out _ F0.out.i0 F0.out.i1).mono ?_
    rintro e w1 ⟨rfl, b1⟩
    have F1 := Lib.hid (F0.out.step b1)
    obtain ⟨k0, k1, k2⟩ := F1.out.k0.cells
    obtain ⟨l0, l1, l2⟩ := F1.out.k1.cells
    clear b1 F0 HC HW
    go_wp2_with fail
    refine (HRK.out _ F1.out.i0 F1.out.i1).mono ?_
    rintro e w2 ⟨a2, c2, rfl, o2, b2⟩
    have B2 := Lib.hid (below_then F1.out.b b2)
    have HO := Lib.hid o2
    have hz := F1.out.b.size
    clear o2 b2
    go_wp2
    go_ret2
    exact ⟨a2, c2, rfl, HO.out.more hz, B2.out⟩
end Go.Proofs.Ytggdkibbfmjelaa
namespace Go.Proofs.Ytggdkibbfmjelaa
open Go.RowKit
set_option linter.unusedVariables false
set_option linter.unusedSimpArgs false
/-- what BestMotion answers -/
def bsX (wa ha : Int) (la : List Int) (wb hb : Int) (lb : List Int) : Int := ((rankR wa ha la wb hb lb).headD (0, 0)).1
def bsY (wa ha : Int) (la : List Int) (wb hb : Int) (lb : List Int) : Int := ((rankR wa ha la wb hb lb).headD (0, 0)).2
def bsB (wa ha : Int) (la : List Int) (wb hb : Int) (lb : List Int) : Bool := !(rankR wa ha la wb hb lb).isEmpty
/-- two fields by value, a motion as a result -/
structure FbM (w : World) (wd0 hg0 : Int) (a0 : Option Addr) (l0 : List Int) (c0 : Nat) (wd1 hg1 : Int) (a1 : Option Addr) (l1 : List Int) (c1 : Nat) (w' : World) : Prop where
  f : Lx2 w wd0 hg0 a0 l0 c0 wd1 hg1 a1 l1 c1 w'
  r : MBox w' (w.heap.size + 2) 24 0 0
section
variable {w w1 w2 : World} {wd0 hg0 wd1 hg1 : Int} {a0 a1 : Option Addr} {l0 l1 : List Int} {c0 c1 : Nat}
theorem FbM.new (h0 : Ints .i64 w w.heap.size a0 l0) (h1 : Ints .i64 w w.heap.size a1 l1) : FbM w wd0 hg0 a0 l0 c0 wd1 hg1 a1 l1 c1 (((w.alloc (.cells #[.int .i64 wd0, .int .i64 hg0, .slice a0 l0.length c0] 34)).alloc (.cells #[.int .i64 wd1, .int .i64 hg1, .slice a1 l1.length c1] 34)).alloc (.cells #[.int .i64 0, .int .i64 0] 24)) :=
  ⟨(Lx3.new h0 h1 0 0).f, (Lx3.new (wd0 := wd0) (hg0 := hg0) (c0 := c0) (wd1 := wd1) (hg1 := hg1) (c1 := c1) h0 h1 0 0).m⟩
theorem FbM.step (h : FbM w wd0 hg0 a0 l0 c0 wd1 hg1 a1 l1 c1 w1) (b : Below w1.heap.size w1 w2) : FbM w wd0 hg0 a0 l0 c0 wd1 hg1 a1 l1 c1 w2 := ⟨h.f.step b, h.r.below b⟩
end
theorem best_none {wa ha : Int} {la : List Int} {wb hb : Int} {lb : List Int} (h : rankR wa ha la wb hb lb = []) : bsX wa ha la wb hb lb = 0 ∧ bsY wa ha la wb hb lb = 0 ∧ bsB wa ha la wb hb lb = false := by unfold bsX bsY bsB; rw [h]; exact ⟨rfl, rfl, rfl⟩
theorem best_some {wa ha : Int} {la : List Int} {wb hb : Int} {lb : List Int} {p : MoT} {r : List MoT} (h : rankR wa ha la wb hb lb = p :: r) : bsX wa ha la wb hb lb = p.1 ∧ bsY wa ha la wb hb lb = p.2 ∧ bsB wa ha la wb hb lb = true := by unfold bsX bsY bsB; rw [h]; exact ⟨rfl, rfl, rfl⟩
set_option maxRecDepth 100000 in
set_option maxHeartbeats 4000000 in
theorem implBest_any (wa ha : Int) (aa : Option Addr) (la : List Int) (ca : Nat) (wb hb : Int) (ab : Option Addr) (lb : List Int) (cb : Nat) (w : World) (h1 : Ints .i64 w w.heap.size aa la) (h2 : Ints .i64 w w.heap.size ab lb) (n1 : la.length ≤ 1048576) (n2 : lb.length ≤ 1048576) :
    Calls Try.prog 35 #[.agg #[.int .i64 wa, .int .i64 ha, .slice aa la.length ca], .agg #[.int .i64 wb, .int .i64 hb, .slice ab lb.length cb]] w fun e w' => e = .returned (.tuple #[.agg #[.int .i64 (bsX wa ha la wb hb lb), .int .i64 (bsY wa ha la wb hb lb)], .bool (bsB wa ha la wb hb lb)]) ∧ Below w.heap.size w w' := by
  have F0 := Lib.hid (FbM.new (wd0 := wa) (hg0 := ha) (c0 := ca) (wd1 := wb) (hg1 := hb) (c1 := cb) h1 h2)
  obtain ⟨W0, hW0⟩ : ∃ W, ((w.alloc (.cells #[.int .i64 wa, .int .i64 ha, .slice aa la.length ca] 34)).alloc (.cells #[.int .i64 wb, .int .i64 hb, .slice ab lb.length cb] 34)).alloc (.cells #[.int .i64 0, .int .i64 0] 24) = W := ⟨_, rfl⟩
  rw [hW0] at F0
  have HW := Lib.hid hW0
  have HR := Lib.hid (fun W i1 i2 => implRank_any wa ha aa la ca wb hb ab lb cb W i1 i2 n1 n2)
  unfold MRet at HR
  clear h1 h2 hW0
  generalize sameB wa ha la wb hb lb = v at *
  cases hr : rankR wa ha la wb hb lb with
  | nil =>
    obtain ⟨e1, e2, e3⟩ := best_none hr
    rw [e1, e2, e3]
    rw [hr] at HR
    simp only [List.length_nil] at HR
    clear hr e1 e2 e3
    go_enter Try.func35, Try.ntmps35
    go_wp2_with fail
    rw [HW.out]
    refine (HR.out _ F0.out.f.i0 F0.out.f.i1).mono ?_
    rintro e w1 ⟨a1, c1, rfl, o1, b1⟩
    have F1 := Lib.hid (F0.out.step b1)
    obtain ⟨r0, r1⟩ := F1.out.r.cells
    have g0 := F1.out.r.frozen 0
    have g1 := F1.out.r.frozen 1
    clear b1 o1 F0 HR
    go_wp2
    refine bodyPost_ret (v := .tuple #[.agg #[.int .i64 0, .int .i64 0], .bool false]) (by simp [results, Try.results35, go_sem, r0, r1]) rfl ⟨rfl, ?_⟩
    exact (F1.out.f.b.setCell (by simp <;> omega) _).setCell (by simp <;> omega) _
  | cons p r =>
    obtain ⟨e1, e2, e3⟩ := best_some hr
    rw [e1, e2, e3]
    rw [hr] at HR
    have hl25 : (p :: r).length ≤ 25 := by rw [← hr]; exact rankR_len
    have hpos : 0 < (p :: r).length := by simp
    have HP := Lib.hid (show (p :: r)[0] = p from rfl)
    clear hr e1 e2 e3
    obtain ⟨x, y⟩ := p
    generalize hq : (x, y) :: r = q at *
    clear hq
    have hne : ((q.length : Int) == 0) = false := by rw [beq_eq_false_iff_ne]; omega
    have h0q : (0 : Int) < (q.length : Int) := by omega
    go_enter Try.func35, Try.ntmps35
    go_wp2_with fail
    rw [HW.out]
    refine (HR.out _ F0.out.f.i0 F0.out.f.i1).mono ?_
    rintro e w1 ⟨a1, c1, rfl, o1, b1⟩
    have F1 := Lib.hid (F0.out.step b1)
    obtain ⟨b, o, rfl, hb', q0, q1⟩ := o1.reads.at_ hpos
    rw [HP.out] at q0 q1
    simp only [Nat.zero_mul, Nat.add_zero] at q0 q1
    obtain ⟨r0, r1⟩ := F1.out.r.cells
    have g0 := F1.out.r.frozen 0
    have g1 := F1.out.r.frozen 1
    clear b1 o1 F0 HR
    go_wp2
    refine bodyPost_ret (v := .tuple #[.agg #[.int .i64 x, .int .i64 y], .bool true]) (by simp [results, Try.results35, go_sem, r0, r1]) rfl ⟨rfl, ?_⟩
    exact (F1.out.f.b.setCell (by simp <;> omega) _).setCell (by simp <;> omega) _
theorem rank_call {wa ha : Int} {la : List Int} {wb hb : Int} {lb : List Int} (hs : sameB wa ha la wb hb lb = true) (aa : Option Addr) (ca : Nat) (ab : Option Addr) (cb : Nat) (Wd : World) (i1 : Ints .i64 Wd Wd.heap.size aa la) (i2 : Ints .i64 Wd Wd.heap.size ab lb) :
    Calls Try.prog 72 #[.agg #[.int .i64 wa, .int .i64 ha, .slice aa la.length ca], .agg #[.int .i64 wb, .int .i64 hb, .slice ab lb.length cb]] Wd fun e w' => ∃ a c, e = .returned (.slice a (rankR wa ha la wb hb lb).length c) ∧ OwnMo w' Wd.heap.size a (rankR wa ha la wb hb lb) ∧ Below Wd.heap.size Wd w' := by
  have HR : rankR wa ha la wb hb lb = RL (maG wa ha la wb hb lb) (maN wa ha la wb hb lb) la.length 25 := rankR_yes hs
  rw [HR]
  obtain ⟨hfine, hbd⟩ := ma_fine hs
  obtain ⟨g1, g2, e1, e2⟩ := same_iff.1 hs
  have b1' := good_bd g1
  have b2' := good_bd g2
  have l1 := good_le g1
  obtain ⟨W, H, rfl, rfl, rfl, rfl, hW, hH, hla, hlb⟩ := same_nat hs
  refine specRk_any W H aa la ca ab lb cb (maG W H la W H lb) (maN W H la W H lb) Wd i1 i2 (by omega) hfine hbd ?_
  intro x y hx hy W1 i1 i2
  have hm := maB_iff.2 ⟨hs, motB_iff.2 ⟨hx, hy⟩⟩
  rw [maG_yes hm, maN_yes hm]
  simp only [Int.toNat_natCast]
  obtain ⟨e1, e2⟩ := match_is (la := la) hW.1 hlb x y
  rw [← e1, ← e2]
  exact specMt_any W H aa la ca ab lb cb x y W1 i1 i2 hW hH hla hlb b1' b2' ⟨hx, hy⟩
set_option maxRecDepth 100000 in
set_option maxHeartbeats 4000000 in
theorem specBest_any (wa ha : Int) (aa : Option Addr) (la : List Int) (ca : Nat) (wb hb : Int) (ab : Option Addr) (lb : List Int) (cb : Nat) (w : World) (h1 : Ints .i64 w w.heap.size aa la) (h2 : Ints .i64 w w.heap.size ab lb) (n1 : la.length ≤ 1048576) (n2 : lb.length ≤ 1048576) :
    Calls Try.prog 34 #[.agg #[.int .i64 wa, .int .i64 ha, .slice aa la.length ca], .agg #[.int .i64 wb, .int .i64 hb, .slice ab lb.length cb]] w fun e w' => e = .returned (.tuple #[.agg #[.int .i64 (bsX wa ha la wb hb lb), .int .i64 (bsY wa ha la wb hb lb)], .bool (bsB wa ha la wb hb lb)]) ∧ Below w.heap.size w w' := by
  have F0 := Lib.hid (FbM.new (wd0 := wa) (hg0 := ha) (c0 := ca) (wd1 := wb) (hg1 := hb) (c1 := cb) h1 h2)
  obtain ⟨W0, hW0⟩ : ∃ W, ((w.alloc (.cells #[.int .i64 wa, .int .i64 ha, .slice aa la.length ca] 34)).alloc (.cells #[.int .i64 wb, .int .i64 hb, .slice ab lb.length cb] 34)).alloc (.cells #[.int .i64 0, .int .i64 0] 24) = W := ⟨_, rfl⟩
  rw [hW0] at F0
  have HW := Lib.hid hW0
  clear h1 h2 hW0
  cases hs : sameB wa ha la wb hb lb with
  | false =>
    obtain ⟨e1, e2, e3⟩ := best_none (rankR_no hs)
    rw [e1, e2, e3]
    have HC := Lib.hid (fun W i1 i2 => specSame_is wa ha aa la ca wb hb ab lb cb false W i1 i2 n1 n2 hs)
    clear hs e1 e2 e3
    go_enter Try.func34, Try.ntmps34
    go_wp2_with fail
    rw [HW.out]
    refine (HC.out _ F0.out.f.i0 F0.out.f.i1).mono ?_
    rintro e w1 ⟨rfl, b1⟩
    have F1 := Lib.hid (F0.out.step b1)
    obtain ⟨r0, r1⟩ := F1.out.r.cells
    have g0 := F1.out.r.frozen 0
    have g1 := F1.out.r.frozen 1
    clear b1 F0 HC
    go_wp2
    refine bodyPost_ret (v := .tuple #[.agg #[.int .i64 0, .int .i64 0], .bool false]) (by simp [results, Try.results34, go_sem, r0, r1]) rfl ⟨rfl, ?_⟩
    exact (F1.out.f.b.setCell (by simp <;> omega) _).setCell (by simp <;> omega) _
  | true =>
    have HC := Lib.hid (fun W i1 i2 => specSame_is wa ha aa la ca wb hb ab lb cb true W i1 i2 n1 n2 hs)
    have HR := Lib.hid (fun W i1 i2 => rank_call hs aa ca ab cb W i1 i2)
    clear hs
    cases hr : rankR wa ha la wb hb lb with
    | nil =>
      obtain ⟨e1, e2, e3⟩ := best_none hr
      rw [e1, e2, e3]
      rw [hr] at HR
      simp only [List.length_nil] at HR
      clear hr e1 e2 e3
      go_enter Try.func34, Try.ntmps34
      go_wp2_with fail
      rw [HW.out]
      refine (HC.out _ F0.out.f.i0 F0.out.f.i1).mono ?_
      rintro e w1 ⟨rfl, b1⟩
      have F1 := Lib.hid (F0.out.step b1)
      obtain ⟨k0, k1, k2⟩ := F1.out.f.k0.cells
      obtain ⟨l0, l1, l2⟩ := F1.out.f.k1.cells
      clear b1 F0 HC
      go_wp2_with fail
      refine (HR.out _ F1.out.f.i0 F1.out.f.i1).mono ?_
      rintro e w2 ⟨a1, c1, rfl, o1, b2⟩
      have F2 := Lib.hid (F1.out.step b2)
      obtain ⟨r0, r1⟩ := F2.out.r.cells
      have g0 := F2.out.r.frozen 0
      have g1 := F2.out.r.frozen 1
      clear b2 o1 F1 HR k0 k1 k2 l0 l1 l2
      go_wp2
      refine bodyPost_ret (v := .tuple #[.agg #[.int .i64 0, .int .i64 0], .bool false]) (by simp [results, Try.results34, go_sem, r0, r1]) rfl ⟨rfl, ?_⟩
      exact (F2.out.f.b.setCell (by simp <;> omega) _).setCell (by simp <;> omega) _
    | cons p r =>
      obtain ⟨e1, e2, e3⟩ := best_some hr
      rw [e1, e2, e3]
      rw [hr] at HR
      have hl25 : (p :: r).length ≤ 25 := by rw [← hr]; exact rankR_len
      have hpos : 0 < (p :: r).length := by simp
      have HP := Lib.hid (show (p :: r)[0] = p from rfl)
      clear hr e1 e2 e3
      obtain ⟨x, y⟩ := p
      generalize hq : (x, y) :: r = q at *
      clear hq
      have hne : ((q.length : Int) == 0) = false := by rw [beq_eq_false_iff_ne]; omega
      have h0q : (0 : Int) < (q.length : Int) := by omega
      go_enter Try.func34, Try.ntmps34
      go_wp2_with fail
      rw [HW.out]
      refine (HC.out _ F0.out.f.i0 F0.out.f.i1).mono ?_
      rintro e w1 ⟨rfl, b1⟩
      have F1 := Lib.hid (F0.out.step b1)
      obtain ⟨k0, k1, k2⟩ := F1.out.f.k0.cells
      obtain ⟨l0, l1, l2⟩ := F1.out.f.k1.cells
      clear b1 F0 HC
      go_wp2_with fail
      refine (HR.out _ F1.out.f.i0 F1.out.f.i1).mono ?_
      rintro e w2 ⟨a1, c1, rfl, o1, b2⟩
      have F2 := Lib.hid (F1.out.step b2)
      obtain ⟨b, o, rfl, hb', q0, q1⟩ := o1.reads.at_ hpos
      rw [HP.out] at q0 q1
      simp only [Nat.zero_mul, Nat.add_zero] at q0 q1
      obtain ⟨r0, r1⟩ := F2.out.r.cells
      have g0 := F2.out.r.frozen 0
      have g1 := F2.out.r.frozen 1
      clear b2 o1 F1 HR k0 k1 k2 l0 l1 l2
      go_wp2
      refine bodyPost_ret (v := .tuple #[.agg #[.int .i64 x, .int .i64 y], .bool true]) (by simp [results, Try.results34, go_sem, r0, r1]) rfl ⟨rfl, ?_⟩
      exact (F2.out.f.b.setCell (by simp <;> omega) _).setCell (by simp <;> omega) _
end Go.Proofs.Ytggdkibbfmjelaa
namespace Go.Proofs.Ytggdkibbfmjelaa
open Go.RowKit
set_option linter.unusedVariables false
set_option linter.unusedSimpArgs false
def lenF (es : List FE) (k : Nat) : Nat := ((es.take k).map fun e => e.l.length).sum
def lenFs (es : List FE) : Nat := (es.map fun e => e.l.length).sum
theorem lenF_zero (es : List FE) : lenF es 0 = 0 := rfl
theorem lenF_step {es : List FE} {k : Nat} (h : k < es.length) : lenF es (k + 1) = lenF es k + es[k].l.length := by
  unfold lenF; rw [List.take_succ_eq_append_getElem h, List.map_append, List.sum_append]; simp
theorem lenF_all (es : List FE) : lenF es es.length = lenFs es := by simp [lenF, lenFs]
theorem lenF_le (es : List FE) (k : Nat) : lenF es k ≤ lenFs es := by
  unfold lenF lenFs
  conv => rhs; rw [← List.take_append_drop k es, List.map_append, List.sum_append]
  omega
/-- how many numbers stand ahead of field k when all are marked -/
def offF (es : List FE) (k : Nat) : Nat := 2 * k + lenF es k
theorem offF_step {es : List FE} {k : Nat} (h : k < es.length) : offF es (k + 1) = offF es k + 2 + es[k].l.length := by
  unfold offF; rw [lenF_step h]; omega
def szF (es : List FE) (left : Int) : Int := if ((es.length + lenFs es : Nat) : Int) ≤ left then left - ((es.length + lenFs es : Nat) : Int) else -1
theorem szF_over (es : List FE) (left : Int) (k : Nat) (h : left < (es.length : Int) + (lenF es k : Int)) : szF es left = -1 := by
  have := lenF_le es k
  exact if_neg (by omega)
theorem szF_fit (es : List FE) (left : Int) (h : (es.length : Int) + (lenFs es : Int) ≤ left) : szF es left = left - (es.length : Int) - (lenFs es : Int) := by
  unfold szF; rw [if_pos (by omega)]; omega
set_option maxHeartbeats 1000000 in
theorem szFields_any (a : Option Addr) (es : List FE) (c : Nat) (left : Int) (w : World) (hl : Flds w w.heap.size a es) (hn : es.length ≤ maxLen) (hs : ∀ e ∈ es, e.l.length ≤ maxLen) (h0 : 0 ≤ left) (h1 : left ≤ 1048576) :
    Calls Try.prog 48 #[.slice a es.length c, .int .i64 left] w fun e w' => e = .returned (.int .i64 (szF es left)) ∧ Below w.heap.size w w' := by
  have HL := Lib.hid hl
  have HSZ := Lib.hid hs
  clear hl hs
  by_cases hlen : left < (es.length : Int)
  · have HF := Lib.hid (szF_over es left 0 (by omega))
    unfold maxLen at hn
    go_enter Try.func48, Try.ntmps48
    go_wp2
    go_ret
    exact ⟨by rw [HF.out]; rfl, Below.refl _ _⟩
  · unfold maxLen at hn
    go_enter Try.func48, Try.ntmps48
    go_wp2
    go_loopw [1, 5] (fun r i wr => ∃ k : Nat, k ≤ es.length ∧ i = .int .i64 k ∧ r = .int .i64 (left - (es.length : Int) - (lenF es k : Int)) ∧ 0 ≤ left - (es.length : Int) - (lenF es k : Int) ∧ Below w.heap.size w wr) (fun _ i _ => es.length - (intOf i).toNat)
    case atStart => exact ⟨0, Nat.zero_le _, rfl, by simp [lenF], by simp [lenF]; omega, Below.refl _ _⟩
    case round =>
      obtain ⟨k, hk, rfl, rfl, hp, hB⟩ := hrel
      by_cases hlt : k < es.length
      · obtain ⟨b, o, rfl, hb, q0, q1, q2, _⟩ := (HL.out.below hB (Nat.le_refl _)).at_ hlt
        have HS := Lib.hid (lenF_step hlt)
        have hss := HSZ.out _ (List.getElem_mem hlt)
        have HO := Lib.hid (szF_over es left (k + 1))
        have HB := Lib.hid hB
        clear hB
        have hi : (k : Int) < (es.length : Int) := by omega
        have hi0 : (0 : Int) ≤ (k : Int) := by omega
        generalize lenF es k = s0 at *
        obtain ⟨r, hr⟩ : ∃ r, left - (es.length : Int) - (s0 : Int) = r := ⟨_, rfl⟩
        rw [hr] at hp ⊢
        have hr1 : r ≤ 1048576 := by omega
        have HR := Lib.hid hr
        clear hr
        have HC := Lib.hid (fun W => szField_any es[k].wd es[k].hg es[k].ad es[k].l.length es[k].c r W hss hp hr1)
        unfold maxLen at hss
        generalize es[k].wd = x0 at *
        generalize es[k].hg = x1 at *
        generalize es[k].ad = x2 at *
        generalize es[k].c = x3 at *
        generalize es[k].l.length = n at *
        by_cases hneg : (n : Int) ≤ r
        · simp only [if_pos hneg] at HC
          go_wp2_with fail
          refine (HC.out wr).mono ?_
          rintro e w1 ⟨rfl, b1⟩
          have HB1 := Lib.hid (HB.out.trans (b1.mono HB.out.size))
          clear b1 q0 q1 q2
          have h9 : ¬ r - (n : Int) < 0 := by omega
          go_wp2
          go_roundw
          case rel => exact ⟨k + 1, by omega, by go_num, by rw [HS.out, ← HR.out]; push_cast; congr 1; omega, by have := HS.out; have := HR.out; omega, HB1.out⟩
          case measure => simp [intOf]; omega
        · have hf := HO.out (by have := HS.out; have := HR.out; omega)
          have HF := Lib.hid hf
          clear hf
          simp only [if_neg hneg] at HC
          go_wp2_with fail
          refine (HC.out wr).mono ?_
          rintro e w1 ⟨rfl, b1⟩
          have HB1 := Lib.hid (HB.out.trans (b1.mono HB.out.size))
          clear b1 q0 q1 q2
          go_wp2
          go_ret
          exact ⟨by rw [HF.out]; rfl, HB1.out⟩
      · obtain rfl : k = es.length := by omega
        rw [lenF_all] at *
        have HF := Lib.hid (szF_fit es left (by omega))
        have HB := Lib.hid hB
        clear hB
        go_wp2
        go_ret
        exact ⟨by rw [HF.out]; rfl, HB.out⟩
theorem infoField : (Try.prog.info? 34).map (fun i => (i.zero, i.size, i.bytes)) = some (some (.agg #[.int .i64 0, .int .i64 0, .slice none 0 0]), 3, 40) := by kernel_rfl
theorem run_make_fields (n : Nat) (h : n ≤ 1048576) (W : World) :
    (Instr.makeSlice 52 (.int .i64 (n : Int)) (.int .i64 (n : Int))).run Try.prog W = .ok (.slice (some ⟨W.heap.size, 0, none⟩) n n) (W.alloc (.cells (madeCells #[.int .i64 0, .int .i64 0, .slice none 0 0] (n * 3)) 34)) := by
  obtain ⟨i, hi, hzz⟩ := Option.map_eq_some_iff.1 infoField
  simp only [Prod.mk.injEq] at hzz
  obtain ⟨hz, hs, hb⟩ := hzz
  have hr := run_make (P := Try.prog) W 52 34 i (.agg #[.int .i64 0, .int .i64 0, .slice none 0 0]) Try.underlying52 hi hz .i64 .i64 n n (by omega) (Int.le_refl _) (by rw [hb]; omega) (by omega)
  simp only [Int.toNat_natCast, hs] at hr
  exact hr
def zeroF : FE := ⟨0, 0, none, [], 0, 0⟩
theorem fvs_zero (n k : Nat) (h : k < n * 3) : (fvs (List.replicate n zeroF))[k]? = (#[Value.int .i64 0, .int .i64 0, .slice none 0 0] : Array Value)[k % 3]? := by
  have hl : (k / 3) < (List.replicate n zeroF).length := by rw [List.length_replicate]; omega
  have e := fvs_get (List.replicate n zeroF) (k / 3) hl
  rw [List.getElem_replicate] at e
  have hm : k % 3 = 0 ∨ k % 3 = 1 ∨ k % 3 = 2 := by omega
  rcases hm with hm | hm | hm
  · rw [show k = k / 3 * 3 by omega, e.1]; simp; rfl
  · rw [show k = k / 3 * 3 + 1 by omega, e.2.1, show (k / 3 * 3 + 1) % 3 = 1 by omega]; rfl
  · rw [show k = k / 3 * 3 + 2 by omega, e.2.2, show (k / 3 * 3 + 2) % 3 = 2 by omega]; rfl
theorem row_made_fields (n : Nat) (W : World) : Row (W.alloc (.cells (madeCells #[.int .i64 0, .int .i64 0, .slice none 0 0] (n * 3)) 34)) W.heap.size 34 (fvs (List.replicate n zeroF)) := by
  refine ⟨_, heap_alloc_new W _, fun k hk => ?_⟩
  have hk2 := hk
  rw [fvs_length, List.length_replicate] at hk2
  have e := fvs_zero n k hk2
  rw [List.getElem?_eq_getElem hk] at e
  rw [e]
  have hm : k % 3 = 0 ∨ k % 3 = 1 ∨ k % 3 = 2 := by omega
  rcases hm with hm | hm | hm <;> simp [madeCells, hk2, hm]
/-- the first fields copied, the others nothing -/
def mixF (es : List FE) (n : Nat) : List FE := es ++ List.replicate (n - es.length) zeroF
theorem mixF_len (es : List FE) (n : Nat) (h : es.length ≤ n) : (mixF es n).length = n := by simp [mixF]; omega
theorem mixF_step (es : List FE) (n : Nat) (e : FE) (h : es.length < n) : (mixF es n).set es.length e = mixF (es ++ [e]) n := by
  unfold mixF
  rw [List.set_append_right _ _ (Nat.le_refl _), Nat.sub_self, show n - es.length = (n - (es ++ [e]).length) + 1 by simp; omega, List.replicate_succ, List.set_cons_zero, List.append_assoc]
  rfl
theorem mixF_all (es : List FE) : mixF es es.length = es := by simp [mixF]
/-- es' reads as the first fields of es -/
def LikeF (es' es : List FE) : Prop := es'.length ≤ es.length ∧ ∀ j (h : j < es'.length) (h2 : j < es.length), es'[j].wd = es[j].wd ∧ es'[j].hg = es[j].hg ∧ es'[j].l = es[j].l ∧ es'[j].l.length ≤ es'[j].c
theorem LikeF.nil (es : List FE) : LikeF [] es := ⟨Nat.zero_le _, fun j h => by simp at h⟩
theorem LikeF.snoc {es' es : List FE} (h : LikeF es' es) (hlt : es'.length < es.length) {e : FE} (h1 : e.wd = es[es'.length].wd) (h2 : e.hg = es[es'.length].hg) (h3 : e.l = es[es'.length].l) (h4 : e.l.length ≤ e.c) : LikeF (es' ++ [e]) es := by
  refine ⟨by simp; omega, fun j h5 h6 => ?_⟩
  rw [List.length_append, List.length_singleton] at h5
  by_cases e1 : j < es'.length
  · rw [List.getElem_append_left e1]; exact h.2 j e1 h6
  · obtain rfl : j = es'.length := by omega
    rw [List.getElem_append_right (Nat.le_refl _)]
    simp only [Nat.sub_self, List.getElem_cons_zero]
    exact ⟨h1, h2, h3, h4⟩
theorem LikeF.plain {es' es : List FE} (h : LikeF es' es) (hl : es'.length = es.length) : es'.map FE.plain = es.map FE.plain := by
  refine List.ext_getElem (by simp [hl]) fun j h1 h2 => ?_
  rw [List.length_map] at h1 h2
  obtain ⟨e1, e2, e3, _⟩ := h.2 j h1 h2
  rw [List.getElem_map, List.getElem_map]
  unfold FE.plain
  rw [e1, e2, e3]
def ToFsPost (es : List FE) (w : World) (e : Ending) (w' : World) : Prop :=
  ∃ es', es'.length = es.length ∧ LikeF es' es ∧ e = .returned (.slice (some ⟨w.heap.size, 0, none⟩) es.length es.length) ∧ OwnFs w' w.heap.size w'.heap.size w.heap.size es' ∧ Below w.heap.size w w'
set_option maxRecDepth 100000 in
set_option maxHeartbeats 2000000 in
theorem toFields_any (a : Option Addr) (es : List FE) (c : Nat) (w : World) (hl : Flds w w.heap.size a es) (hn : es.length ≤ 1048576) (hs : ∀ e ∈ es, e.l.length ≤ 1048576) :
    Calls Try.prog 50 #[.slice a es.length c] w (ToFsPost es w) := by
  have HL := Lib.hid hl
  have HSZ := Lib.hid hs
  clear hl hs
  have hmk := fun W => run_make_fields es.length (by omega) W
  have HR0 := Lib.hid (row_made_fields es.length w)
  have hsz0 : ∀ o, (w.alloc o).heap.size = w.heap.size + 1 := fun o => by simp
  go_enter Try.func50, Try.ntmps50
  go_wp2
  clear hmk
  go_loopw [4] (fun i wr => ∃ (k : Nat) (es' : List FE), k ≤ es.length ∧ es'.length = k ∧ i = .int .i64 k ∧ LikeF es' es ∧ Row wr w.heap.size 34 (fvs (mixF es' es.length)) ∧ Fb wr (w.heap.size + 1) wr.heap.size es' ∧ w.heap.size + 1 ≤ wr.heap.size ∧ Below w.heap.size w wr) (fun i _ => es.length - (intOf i).toNat)
  case atStart => exact ⟨0, [], Nat.zero_le _, rfl, rfl, LikeF.nil _, by have := HR0.out; simpa [mixF] using this, Fb.nil, by rw [hsz0]; exact Nat.le_refl _, (Below.refl _ _).alloc (Nat.le_refl _) _⟩
  case round =>
    obtain ⟨k, es', hk, hk2, rfl, hlike, hrow, hfb, hsz, hB⟩ := hrel
    have HR := Lib.hid hrow
    have HB := Lib.hid hB
    have HK := Lib.hid hlike
    have HF := Lib.hid hfb
    by_cases hlt : k < es.length
    · obtain ⟨b, o, rfl, hb, q0, q1, q2, q3⟩ := (HL.out.below hB (Nat.le_refl _)).at_ hlt
      have hml := mixF_len es' es.length (by omega)
      have hnl := fvs_length (mixF es' es.length)
      obtain ⟨u0, hu0⟩ : ∃ u, wr.cell? ⟨w.heap.size, k * 3, none⟩ = some u := ⟨_, hrow.cell (k := k * 3) (by omega)⟩
      obtain ⟨u1, hu1⟩ : ∃ u, wr.cell? ⟨w.heap.size, k * 3 + 1, none⟩ = some u := ⟨_, hrow.cell (k := k * 3 + 1) (by omega)⟩
      obtain ⟨u2, hu2⟩ : ∃ u, wr.cell? ⟨w.heap.size, k * 3 + 2, none⟩ = some u := ⟨_, hrow.cell (k := k * 3 + 2) (by omega)⟩
      have f0 := hrow.frozen (k * 3)
      have f1 := hrow.frozen (k * 3 + 1)
      have f2 := hrow.frozen (k * 3 + 2)
      have hz := hrow.lt
      have HNS := Lib.hid (fun e => fvs_set (mixF es' es.length) k e (by omega))
      have HC := Lib.hid (fun W (h : Ints .i64 W W.heap.size (es[k]'hlt).ad (es[k]'hlt).l) => toField_any (es[k]'hlt).wd (es[k]'hlt).hg (es[k]'hlt).ad (es[k]'hlt).l (es[k]'hlt).c W h (HSZ.out _ (List.getElem_mem hlt)))
      have HI := Lib.hid (q3.more hB.size)
      clear hrow hB hml hnl q3 hlike hfb
      have hi : (k : Int) < (es.length : Int) := by omega
      have hi0 : (0 : Int) ≤ (k : Int) := by omega
      obtain ⟨E, hE⟩ : ∃ E, es[k] = E := ⟨_, rfl⟩
      rw [hE] at q0 q1 q2 HC HI
      have HE := Lib.hid hE
      clear hE
      go_wp2_with fail
      refine (HC.out wr HI.out).mono ?_
      rintro e w1 ⟨g, hg1, hg2, rfl, hat, b1⟩
      have hu0' : w1.cell? ⟨w.heap.size, k * 3, none⟩ = some u0 := (b1.cell (p := ⟨w.heap.size, k * 3, none⟩) hz).trans hu0
      have hu1' : w1.cell? ⟨w.heap.size, k * 3 + 1, none⟩ = some u1 := (b1.cell (p := ⟨w.heap.size, k * 3 + 1, none⟩) hz).trans hu1
      have hu2' : w1.cell? ⟨w.heap.size, k * 3 + 2, none⟩ = some u2 := (b1.cell (p := ⟨w.heap.size, k * 3 + 2, none⟩) hz).trans hu2
      have f0' : w1.frozen? ⟨w.heap.size, k * 3, none⟩ = false := (b1.frozen (p := ⟨w.heap.size, k * 3, none⟩) hz).trans f0
      have f1' : w1.frozen? ⟨w.heap.size, k * 3 + 1, none⟩ = false := (b1.frozen (p := ⟨w.heap.size, k * 3 + 1, none⟩) hz).trans f1
      have f2' : w1.frozen? ⟨w.heap.size, k * 3 + 2, none⟩ = false := (b1.frozen (p := ⟨w.heap.size, k * 3 + 2, none⟩) hz).trans f2
      have HR1 := Lib.hid (HR.out.of_block (b1.block w.heap.size hz))
      have HB1 := Lib.hid (HB.out.trans (b1.mono HB.out.size))
      have HF1 := Lib.hid (((HF.out.below b1 (Nat.le_refl _)).snoc (e := ⟨E.wd, E.hg, some ⟨g, 0, none⟩, E.l, E.l.length, g⟩) (by show w.heap.size + 1 ≤ g; omega) hg1 hat).more (Nat.le_refl _) (V := w1.heap.size) hg2)
      have hsz1 : w.heap.size + 1 ≤ w1.heap.size := by omega
      have HS := Lib.hid (mixF_step es' es.length ⟨E.wd, E.hg, some ⟨g, 0, none⟩, E.l, E.l.length, g⟩ (by omega))
      have HK1 := Lib.hid (HK.out.snoc (by omega) (e := ⟨E.wd, E.hg, some ⟨g, 0, none⟩, E.l, E.l.length, g⟩) (by have := HE.out; subst hk2; rw [this]) (by have := HE.out; subst hk2; rw [this]) (by have := HE.out; subst hk2; rw [this]) (Nat.le_refl _))
      have HNE := Lib.hid (HNS.out ⟨E.wd, E.hg, some ⟨g, 0, none⟩, E.l, E.l.length, g⟩)
      clear hu0 hu1 hu2 f0 f1 f2 b1 q0 q1 q2 hat HNS
      go_wp2
      go_roundw
      case rel =>
        refine ⟨k + 1, es' ++ [⟨E.wd, E.hg, some ⟨g, 0, none⟩, E.l, E.l.length, g⟩], by omega, by simp [hk2], by go_num, HK1.out, ?_, ?_, by simp [World.setCell]; omega, ((HB1.out.setCell (p := ⟨w.heap.size, k * 3, none⟩) (Nat.le_refl _) _).setCell (p := ⟨w.heap.size, k * 3 + 1, none⟩) (Nat.le_refl _) _).setCell (p := ⟨w.heap.size, k * 3 + 2, none⟩) (Nat.le_refl _) _⟩
        · have h := ((HR1.out.set (k * 3) (.int .i64 E.wd)).set (k * 3 + 1) (.int .i64 E.hg)).set (k * 3 + 2) (.slice (some ⟨g, 0, none⟩) E.l.length E.l.length)
          replace h := (congrArg (Row _ w.heap.size 34) HNE.out).mp h
          have h3 := HS.out
          rw [hk2] at h3
          rw [h3] at h
          exact h
        · have h4 := HF1.out.keep (w' := ((w1.setCell ⟨w.heap.size, k * 3, none⟩ (.int .i64 E.wd)).setCell ⟨w.heap.size, k * 3 + 1, none⟩ (.int .i64 E.hg)).setCell ⟨w.heap.size, k * 3 + 2, none⟩ (.slice (some ⟨g, 0, none⟩) E.l.length E.l.length)) (fun i h1 _ _ => by
            rw [Below.heap_setCell _ _ _ _ (by show i ≠ w.heap.size; omega), Below.heap_setCell _ _ _ _ (by show i ≠ w.heap.size; omega), Below.heap_setCell _ _ _ _ (by show i ≠ w.heap.size; omega)])
          exact h4.more (Nat.le_refl _) (by simp [World.setCell])
      case measure => simp [intOf]; omega
    · obtain rfl : k = es.length := by omega
      have hm := mixF_all es'
      rw [hk2] at hm
      rw [hm] at HR
      have hz := hrow.lt
      clear hrow hB hlike hfb hm
      go_wp2
      go_ret
      exact ⟨es', hk2, HK.out, rfl, ⟨HR.out, Nat.le_refl _, hz, HF.out.more (Nat.le_succ _) (Nat.le_refl _), fun j hj => by have := (HF.out.row j hj).1; omega⟩, HB.out⟩
set_option maxRecDepth 100000 in
set_option maxHeartbeats 1000000 in
theorem eqFields_yes (a a' : Option Addr) (es es' : List FE) (c c' : Nat) (w : World) (hl : Flds w w.heap.size a es) (hl' : Flds w w.heap.size a' es') (hk : es'.map FE.plain = es.map FE.plain) (hn : es.length ≤ 1048576) (hs : ∀ e ∈ es, e.l.length ≤ 1048576) :
    Calls Try.prog 38 #[.slice a es.length c, .slice a' es'.length c'] w fun e w' => e = .returned (.bool true) ∧ Below w.heap.size w w' := by
  have HL := Lib.hid hl
  have HL' := Lib.hid hl'
  have HSZ := Lib.hid hs
  have hlen : es'.length = es.length := by have := congrArg List.length hk; simpa using this
  have HPL := Lib.hid (fun j (h1 : j < es'.length) (h2 : j < es.length) => show es'[j].plain = es[j].plain by
    have := List.getElem_of_eq hk (by rw [List.length_map]; exact h1)
    simpa using this)
  clear hl hl' hs hk
  rw [hlen]
  go_enter Try.func38, Try.ntmps38
  go_wp2
  go_loopw [5] (fun i wr => ∃ k : Nat, k ≤ es.length ∧ i = .int .i64 k ∧ Below w.heap.size w wr) (fun i _ => es.length - (intOf i).toNat)
  case atStart => exact ⟨0, Nat.zero_le _, rfl, Below.refl _ _⟩
  case round =>
    obtain ⟨k, hk, rfl, hB⟩ := hrel
    have HB := Lib.hid hB
    by_cases hlt : k < es.length
    · obtain ⟨b, o, rfl, hb, q0, q1, q2, q3⟩ := (HL.out.below hB (Nat.le_refl _)).at_ hlt
      obtain ⟨b', o', rfl, hb', p0, p1, p2, p3⟩ := (HL'.out.below hB (Nat.le_refl _)).at_ (j := k) (by omega)
      have hpl := HPL.out k (by omega) hlt
      unfold FE.plain at hpl
      simp only [Prod.mk.injEq] at hpl
      obtain ⟨e1, e2, e3⟩ := hpl
      rw [e1] at p0
      rw [e2] at p1
      rw [e3] at p2 p3
      have HI := Lib.hid (q3.more hB.size)
      have HI' := Lib.hid (p3.more hB.size)
      have hk2 : k < es'.length := by omega
      have HC := Lib.hid (fun W (h : Ints .i64 W W.heap.size (es[k]'hlt).ad (es[k]'hlt).l) (h' : Ints .i64 W W.heap.size (es'[k]'hk2).ad (es[k]'hlt).l) => eqField_yes (es[k]'hlt).wd (es[k]'hlt).hg (es[k]'hlt).ad (es'[k]'hk2).ad (es[k]'hlt).l (es[k]'hlt).c (es'[k]'hk2).c W h h' (HSZ.out _ (List.getElem_mem hlt)))
      clear hB q3 p3 e1 e2 e3
      have hi : (k : Int) < (es.length : Int) := by omega
      have hi0 : (0 : Int) ≤ (k : Int) := by omega
      generalize es[k].wd = x0 at *
      generalize es[k].hg = x1 at *
      generalize es[k].ad = x2 at *
      generalize es[k].c = x3 at *
      generalize es[k].l = x4 at *
      generalize es'[k].ad = y2 at *
      generalize es'[k].c = y3 at *
      generalize hln : x4.length = n at *
      have HLN := Lib.hid hln
      clear hln
      go_wp2_with fail
      go_still_tail 8, (by kernel_rfl)
      change wpList _ _ _ _ _ wr.drew
      have HB1 := Lib.hid (HB.out.drew)
      have HJ := Lib.hid (ints_below HI.out (w' := wr.drew) ⟨rfl, rfl, rfl, Nat.le_refl _, fun _ _ => rfl⟩)
      have HJ' := Lib.hid (ints_below HI'.out (w' := wr.drew) ⟨rfl, rfl, rfl, Nat.le_refl _, fun _ _ => rfl⟩)
      generalize wr.drew = w2 at *
      go_wp2_with fail
      refine (HC.out w2 HJ.out HJ'.out).mono ?_
      rintro e w3 ⟨rfl, b3⟩
      have HB3 := Lib.hid (HB1.out.trans (b3.mono HB1.out.size))
      clear b3
      go_wp2
      go_roundw
      case rel => exact ⟨k + 1, by omega, by go_num, HB3.out⟩
      case measure => simp [intOf]; omega
    · have hge : (es.length : Int) ≤ (k : Int) := by omega
      go_wp2
      go_ret
      exact ⟨rfl, HB.out⟩
/-- a field marked with numbers from k on -/
def FE.mark (e : FE) (k : Int) : FE := ⟨k, k + 1, e.ad, marks (k + 2) e.l.length, e.c, e.g⟩
def partF (k0 : Int) (es : List FE) (k : Nat) : List FE := es.mapIdx fun j e => if j < k then e.mark (k0 + (offF es j : Int)) else e
theorem partF_len (k0 : Int) (es : List FE) (k : Nat) : (partF k0 es k).length = es.length := by simp [partF]
theorem partF_get {k0 : Int} {es : List FE} {k j : Nat} (h : j < (partF k0 es k).length) (h2 : j < es.length) : (partF k0 es k)[j] = if j < k then es[j].mark (k0 + (offF es j : Int)) else es[j] := by
  simp [partF]
theorem partF_g {k0 : Int} {es : List FE} {k j : Nat} (h : j < (partF k0 es k).length) : (partF k0 es k)[j].g = (es[j]'(by rwa [partF_len] at h)).g := by
  rw [partF_get h (by rwa [partF_len] at h)]
  split <;> rfl
theorem partF_zero (k0 : Int) (es : List FE) : partF k0 es 0 = es := by
  refine List.ext_getElem (partF_len _ _ _) fun j h1 h2 => ?_
  rw [partF_get h1 h2, if_neg (by omega)]
theorem partF_step {k0 : Int} {es : List FE} {k : Nat} (h : k < es.length) : (partF k0 es k).set k (es[k].mark (k0 + (offF es k : Int))) = partF k0 es (k + 1) := by
  refine List.ext_getElem (by rw [List.length_set, partF_len, partF_len]) fun j h1 h2 => ?_
  have h3 : j < es.length := by rwa [partF_len] at h2
  rw [List.getElem_set]
  by_cases e : k = j
  · subst e
    rw [if_pos rfl, partF_get h2 h3, if_pos (by omega)]
  · rw [if_neg e, partF_get (by rw [partF_len]; exact h3) h3, partF_get h2 h3]
    by_cases e2 : j < k
    · rw [if_pos e2, if_pos (by omega)]
    · rw [if_neg e2, if_neg (by omega)]
theorem fvs_set2 (l : List FE) (k : Nat) (e : FE) (h : k < l.length) (h1 : e.ad = l[k].ad) (h2 : e.l.length = l[k].l.length) (h3 : e.c = l[k].c) : ((fvs l).set (k * 3) (.int .i64 e.wd)).set (k * 3 + 1) (.int .i64 e.hg) = fvs (l.set k e) := by
  rw [← fvs_set l k e h]
  have hl := fvs_length l
  have e3 := (fvs_get l k h).2.2
  refine (List.ext_getElem (by simp) fun j j1 j2 => ?_).symm
  rw [List.getElem_set]
  split
  · rename_i ej
    subst ej
    rw [List.getElem_set_ne (by omega), List.getElem_set_ne (by omega), h1, h2, h3]
    rw [List.getElem?_eq_getElem (by omega)] at e3
    injection e3 with e3
    exact e3.symm
  · rfl
theorem fld_ne_ints {w : World} {g g' : Nat} {vs us : List Value} (h : Row w g 34 vs) (h' : Row w g' 3 us) : g ≠ g' := by
  rintro rfl
  obtain ⟨c1, hc1, _⟩ := h
  obtain ⟨c2, hc2, _⟩ := h'
  rw [hc2] at hc1
  injection hc1 with hc1
  injection hc1 with _ hty
  exact absurd hty (by decide)
set_option maxRecDepth 100000 in
set_option maxHeartbeats 2000000 in
theorem markFields_any (es : List FE) (c B U g : Nat) (k0 : Int) (w : World) (h : OwnFs w B U g es) (hn : es.length ≤ 1048576) (hs : ∀ e ∈ es, e.l.length ≤ 1048576) (h0 : 0 ≤ k0) (h1 : k0 + (offF es es.length : Int) ≤ 8388608) :
    Calls Try.prog 39 #[.slice (some ⟨g, 0, none⟩) es.length c, .int .i64 k0] w fun e w' => e = .returned (.int .i64 (k0 + (offF es es.length : Int))) ∧ OwnFs w' B U g (partF k0 es es.length) ∧ Below B w w' ∧ ∀ i, U ≤ i → i < w.heap.size → w'.heap[i]? = w.heap[i]? := by
  have HT := Lib.hid h
  have HLE := Lib.hid (lenF_le es)
  have HSZ := Lib.hid hs
  have hall := lenF_all es
  have hoff : offF es es.length = 2 * es.length + lenFs es := by unfold offF; rw [hall]
  clear h hs
  go_enter Try.func39, Try.ntmps39
  go_wp2
  go_loopw [1, 5] (fun q i wr => ∃ k : Nat, k ≤ es.length ∧ i = .int .i64 k ∧ q = .int .i64 (k0 + (offF es k : Int)) ∧ OwnFs wr B U g (partF k0 es k) ∧ Below B w wr ∧ ∀ i, U ≤ i → i < w.heap.size → wr.heap[i]? = w.heap[i]?) (fun _ i _ => es.length - (intOf i).toNat)
  case atStart => exact ⟨0, Nat.zero_le _, rfl, by simp [offF, lenF], by rw [partF_zero]; exact HT.out, Below.refl _ _, fun _ _ _ => rfl⟩
  case round =>
    obtain ⟨k, hk, rfl, rfl, ht, hB, hA⟩ := hrel
    have HA := Lib.hid hA
    clear hA
    have hle := HLE.out k
    have hok : offF es k = 2 * k + lenF es k := rfl
    by_cases hlt : k < es.length
    · have hi : (k : Int) < (es.length : Int) := by omega
      have hi0 : (0 : Int) ≤ (k : Int) := by omega
      have hkp : k < (partF k0 es k).length := by rw [partF_len]; exact hlt
      obtain ⟨hb1, hb2, hat⟩ := ht.f.row k hkp
      have hgk : (partF k0 es k)[k] = es[k] := by rw [partF_get hkp hlt, if_neg (by omega)]
      rw [hgk] at hb1 hb2 hat
      have hnl := fvs_length (partF k0 es k)
      have hget := fvs_get (partF k0 es k) k hkp
      rw [hgk, List.getElem?_eq_getElem (by omega), List.getElem?_eq_getElem (by omega), List.getElem?_eq_getElem (by omega)] at hget
      obtain ⟨hv0, hv1, hv2⟩ := hget
      injection hv0 with hv0
      injection hv1 with hv1
      injection hv2 with hv2
      have q0 := ht.r.cell (k := k * 3) (by omega)
      have q1 := ht.r.cell (k := k * 3 + 1) (by omega)
      have q2 := ht.r.cell (k := k * 3 + 2) (by omega)
      rw [hv0] at q0
      rw [hv1] at q1
      rw [hv2] at q2
      have f0 := ht.r.frozen (k * 3)
      have f1 := ht.r.frozen (k * 3 + 1)
      obtain ⟨m, hm⟩ : ∃ m, k0 + (offF es k : Int) = m := ⟨_, rfl⟩
      have hstep := offF_step hlt
      have hle2 := HLE.out (k + 1)
      have hok2 : offF es (k + 1) = 2 * (k + 1) + lenF es (k + 1) := rfl
      have hmb : 0 ≤ m ∧ m ≤ 8388608 := by omega
      have HST := Lib.hid (partF_step (k0 := k0) hlt)
      rw [hm] at HST
      have HNS := Lib.hid (fvs_set2 (partF k0 es k) k (es[k].mark m) hkp (by rw [hgk]; rfl) (by rw [hgk]; simp [FE.mark, marks_length]) (by rw [hgk]; rfl))
      have HLN := Lib.hid (HSZ.out _ (List.getElem_mem hlt))
      have HM := Lib.hid (fun W (h : At W (es[k]'hlt).ad (es[k]'hlt).g (es[k]'hlt).l) => markIntsW_any (es[k]'hlt).ad (es[k]'hlt).l (es[k]'hlt).c (es[k]'hlt).g (m + 1 + 1) W h HLN.out (by omega) (by omega))
      have HTT := Lib.hid ht
      have HB := Lib.hid hB
      have HRE := Lib.hid (show m + 1 + 1 + (es[k].l.length : Int) = k0 + (offF es (k + 1) : Int) by rw [hstep]; push_cast; omega)
      have HGK := Lib.hid hgk
      have HAT := Lib.hid hat
      have hEmark : (es[k].mark m).wd = m ∧ (es[k].mark m).hg = m + 1 ∧ (es[k].mark m).l = marks (m + 1 + 1) es[k].l.length := ⟨rfl, rfl, by show marks (m + 2) _ = _; rw [show m + 2 = m + 1 + 1 by omega]⟩
      have HEM := Lib.hid hEmark
      have s1 : wrap64 (m + 1) = m + 1 := IntWalk.wrap64_in _ (by omega)
      have s2 : wrap64 (m + 1 + 1) = m + 1 + 1 := IntWalk.wrap64_in _ (by omega)
      have HMM := Lib.hid hm
      rw [hm]
      obtain ⟨E, hE⟩ : ∃ E, es[k] = E := ⟨_, rfl⟩
      rw [hE] at q0 q1 q2
      have HE := Lib.hid hE
      clear ht hB hat hgk hEmark hm hstep hle hle2 hok hok2 hv0 hv1 hv2 hE hnl
      have hgne : ∀ W, Row W E.g 3 (iv E.l) → True := fun _ _ => trivial
      go_wp2_with fail
      have HE2 := HE.out
      rw [HE2] at HM HAT HEM HRE HNS HST
      have HATW := Lib.hid (show At ((wr.setCell ⟨g, k * 3, none⟩ (.int .i64 m)).setCell ⟨g, k * 3 + 1, none⟩ (.int .i64 (m + 1))) E.ad E.g E.l from by
        rcases HAT.out with e | ⟨e1, e2⟩
        · exact .inl e
        · have hne := fld_ne_ints HTT.out.r e2
          exact .inr ⟨e1, (e2.other (fun e => hne e.symm) _).other (fun e => hne e.symm) _⟩)
      refine (HM.out _ HATW.out).mono ?_
      rintro e w2 ⟨rfl, hat, ho⟩
      have hgE : g ≠ E.g := by
        have h := HTT.out.n k (by rw [partF_len]; exact hlt)
        rw [HGK.out, HE2] at h
        exact fun e => h e.symm
      have T2 : OwnFs w2 B U g (partF k0 es (k + 1)) := by
        have hgl : g < wr.heap.size := HTT.out.r.lt
        have R1 : Row ((wr.setCell ⟨g, k * 3, none⟩ (.int .i64 m)).setCell ⟨g, k * 3 + 1, none⟩ (.int .i64 (m + 1))) g 34 (fvs (partF k0 es (k + 1))) := by
          have h := (HTT.out.r.set (k * 3) (.int .i64 m)).set (k * 3 + 1) (.int .i64 (m + 1))
          have h2 := HNS.out
          rw [HEM.out.1, HEM.out.2.1] at h2
          rw [h2, HST.out] at h
          exact h
        have hsz : ∀ i, i < wr.heap.size → i < ((wr.setCell ⟨g, k * 3, none⟩ (.int .i64 m)).setCell ⟨g, k * 3 + 1, none⟩ (.int .i64 (m + 1))).heap.size := fun i h => by simpa using h
        refine ⟨R1.of_block (ho.1.block g (hsz g hgl) (by intro e; injection e with e; exact hgE e)), HTT.out.b, HTT.out.u, ⟨fun j j1 => ?_, fun i j i1 j1 hne => ?_⟩, fun j j1 => ?_⟩
        · have j3 : j < es.length := by rwa [partF_len] at j1
          obtain ⟨p1, p2, p3⟩ := HTT.out.f.row j (by rw [partF_len]; exact j3)
          by_cases ej : j = k
          · subst ej
            rw [partF_get j1 j3, if_pos (by omega), HMM.out, HE2]
            rw [HGK.out, HE2] at p1 p2
            exact ⟨p1, p2, by rw [HEM.out.2.2]; exact hat⟩
          · have hn1 := HTT.out.f.ne j k (by rw [partF_len]; exact j3) (by rw [partF_len]; exact hlt) ej
            have hn2 := HTT.out.n j (by rw [partF_len]; exact j3)
            rw [HGK.out, HE2] at hn1
            have hst2 : (partF k0 es (k + 1))[j] = (partF k0 es k)[j]'(by rw [partF_len]; exact j3) := by
              rw [partF_get j1 j3, partF_get (by rw [partF_len]; exact j3) j3]
              by_cases ej2 : j < k
              · rw [if_pos ej2, if_pos (by omega)]
              · rw [if_neg ej2, if_neg (by omega)]
            rw [hst2]
            refine ⟨p1, p2, p3.keep fun hl => ?_⟩
            rw [ho.1.block _ (hsz _ hl) (by intro e; injection e with e; exact hn1 e), Below.heap_setCell _ _ _ _ hn2, Below.heap_setCell _ _ _ _ hn2]
        · have i3 : i < es.length := by rwa [partF_len] at i1
          have j3 : j < es.length := by rwa [partF_len] at j1
          have h := HTT.out.f.ne i j (by rw [partF_len]; exact i3) (by rw [partF_len]; exact j3) hne
          rw [partF_g, partF_g] at h ⊢
          exact h
        · have j3 : j < es.length := by rwa [partF_len] at j1
          have h := HTT.out.n j (by rw [partF_len]; exact j3)
          rw [partF_g] at h ⊢
          exact h
      have HT2 := Lib.hid T2
      have HB2 := Lib.hid (((HB.out.setCell (p := ⟨g, k * 3, none⟩) HTT.out.b (.int .i64 m)).setCell (p := ⟨g, k * 3 + 1, none⟩) HTT.out.b (.int .i64 (m + 1))).trans (ho.below (by have := hb1; rw [HE2] at this; exact this)))
      have HA2 := Lib.hid (fun i (h1 : U ≤ i) (h2 : i < w.heap.size) => show w2.heap[i]? = w.heap[i]? by
        have hsz : i < wr.heap.size := Nat.lt_of_lt_of_le h2 HB.out.size
        have hu := HTT.out.u
        have hb2' : E.g < U := by have := hb2; rw [HE2] at this; exact this
        rw [ho.1.block i (by simpa using hsz) (by intro e; injection e with e; omega), Below.heap_setCell _ _ _ _ (by show i ≠ g; omega), Below.heap_setCell _ _ _ _ (by show i ≠ g; omega)]
        exact HA.out i h1 h2)
      clear hat T2 ho HTT HB q0 q1 q2 f0 f1 hgE
      go_wp2
      go_roundw
      case rel => exact ⟨k + 1, by omega, by go_num, by rw [← HRE.out], HT2.out, HB2.out, HA2.out⟩
      case measure => simp [intOf]; omega
    · obtain rfl : k = es.length := by omega
      have HTT := Lib.hid ht
      have HB := Lib.hid hB
      clear ht hB
      go_wp2
      go_ret
      exact ⟨rfl, HTT.out, HB.out, HA.out⟩
theorem le_lenFs {es : List FE} : ∀ e ∈ es, e.l.length ≤ lenFs es := by
  induction es with
  | nil => intro e h; simp at h
  | cons x r ih =>
    intro e h
    have h9 : lenFs (x :: r) = x.l.length + lenFs r := rfl
    rcases List.mem_cons.1 h with rfl | h
    · omega
    · have := ih e h; omega
theorem lenFs_plain {es es' : List FE} (h : es'.map FE.plain = es.map FE.plain) : lenFs es' = lenFs es := by
  have key : ∀ l : List FE, lenFs l = ((l.map FE.plain).map fun p => p.2.2.length).sum := by intro l; unfold lenFs; rw [List.map_map]; rfl
  rw [key, key, h]
theorem offF_all (es : List FE) : offF es es.length = 2 * es.length + lenFs es := by unfold offF; rw [lenF_all]
theorem eqFields_n (a a' : Option Addr) (es es' : List FE) (n c c' : Nat) (w : World) (hl : Flds w w.heap.size a es) (hl' : Flds w w.heap.size a' es') (h1 : es.length = n) (hk : es'.map FE.plain = es.map FE.plain) (hn : n ≤ 1048576) (hs : lenFs es ≤ 1048576) :
    Calls Try.prog 38 #[.slice a n c, .slice a' n c'] w fun e w' => e = .returned (.bool true) ∧ Below w.heap.size w w' := by
  have hlen : es'.length = es.length := by have := congrArg List.length hk; simpa using this
  have h := eqFields_yes a a' es es' c c' w hl hl' hk (by omega) (fun e he => Nat.le_trans (le_lenFs e he) hs)
  rw [hlen, h1] at h
  exact h
theorem markFields_n (es : List FE) (n c B U g : Nat) (k0 : Int) (w : World) (h : OwnFs w B U g es) (h1 : es.length = n) (hn : n ≤ 1048576) (hs : lenFs es ≤ 1048576) (h0 : 0 ≤ k0) (h2 : k0 ≤ 4194304) :
    Calls Try.prog 39 #[.slice (some ⟨g, 0, none⟩) n c, .int .i64 k0] w fun e w' => e = .returned (.int .i64 (k0 + ((2 * n + lenFs es : Nat) : Int))) ∧ OwnFs w' B U g (partF k0 es es.length) ∧ Below B w w' ∧ ∀ i, U ≤ i → i < w.heap.size → w'.heap[i]? = w.heap[i]? := by
  subst h1
  have h3 := offF_all es
  have h4 := markFields_any es c B U g k0 w h hn (fun e he => Nat.le_trans (le_lenFs e he) hs) h0 (by omega)
  generalize offF es es.length = x at *
  subst h3
  exact h4
end Go.Proofs.Ytggdkibbfmjelaa
namespace Go.Proofs.Ytggdkibbfmjelaa
open Go.RowKit
set_option linter.unusedVariables false
set_option linter.unusedSimpArgs false
/-- moved n times -/
def itM (W H : Nat) (mx my : Int) (l : List Int) : Nat → List Int
  | 0 => l
  | n + 1 => mvR W H (itM W H mx my l n) mx my
/-- the first n forecasts -/
def ncP (wd hg : Int) (l : List Int) (mx my : Int) (n : Nat) : List (Int × Int × List Int) := (List.range n).map fun i => (wd, hg, itM wd.toNat hg.toNat mx my l (i + 1))
theorem ncP_zero (wd hg : Int) (l : List Int) (mx my : Int) : ncP wd hg l mx my 0 = [] := rfl
theorem ncP_step (wd hg : Int) (l : List Int) (mx my : Int) (n : Nat) : ncP wd hg l mx my (n + 1) = ncP wd hg l mx my n ++ [(wd, hg, itM wd.toNat hg.toNat mx my l (n + 1))] := by unfold ncP; rw [List.range_succ, List.map_append]; rfl
theorem it_good {wd hg : Int} {l : List Int} (h : goodB wd hg l = true) (mx my : Int) (n : Nat) : goodB wd hg (itM wd.toNat hg.toNat mx my l n) = true := by
  induction n with
  | zero => exact h
  | succ n ih => exact move_good ih mx my
def ncB (wa ha : Int) (la : List Int) (wb hb : Int) (lb : List Int) (s : Int) : Bool := bsB wa ha la wb hb lb && (decide (1 ≤ s) && decide (s ≤ 6))
def ncR (wa ha : Int) (la : List Int) (wb hb : Int) (lb : List Int) (s : Int) : List (Int × Int × List Int) := if ncB wa ha la wb hb lb s = true then ncP wb hb lb (bsX wa ha la wb hb lb) (bsY wa ha la wb hb lb) s.toNat else []
section
variable {wa ha : Int} {la : List Int} {wb hb : Int} {lb : List Int} {s : Int}
theorem ncR_no (h : ncB wa ha la wb hb lb s = false) : ncR wa ha la wb hb lb s = [] := if_neg (by rw [h]; simp)
theorem ncR_yes (h : ncB wa ha la wb hb lb s = true) : ncR wa ha la wb hb lb s = ncP wb hb lb (bsX wa ha la wb hb lb) (bsY wa ha la wb hb lb) s.toNat := if_pos h
theorem ncB_iff : ncB wa ha la wb hb lb s = true ↔ bsB wa ha la wb hb lb = true ∧ 1 ≤ s ∧ s ≤ 6 := by unfold ncB; simp
theorem best_yes (h : bsB wa ha la wb hb lb = true) : sameB wa ha la wb hb lb = true ∧ motB (bsX wa ha la wb hb lb) (bsY wa ha la wb hb lb) = true := by
  cases hs : sameB wa ha la wb hb lb with
  | false => rw [(best_none (rankR_no hs)).2.2] at h; cases h
  | true =>
    refine ⟨rfl, ?_⟩
    cases hr : rankR wa ha la wb hb lb with
    | nil => rw [(best_none hr).2.2] at h; cases h
    | cons p r =>
      obtain ⟨e1, e2, _⟩ := best_some hr
      rw [e1, e2]
      have hm : p ∈ rankR wa ha la wb hb lb := by rw [hr]; simp
      rw [rankR_yes hs] at hm
      obtain ⟨q, hq, rfl⟩ := List.mem_map.1 hm
      have ho := rk_ok (ma_fine hs).1 (n := 25) (Nat.le_refl _) hq
      exact motB_iff.2 ho.2.2
theorem ncR_len : (ncR wa ha la wb hb lb s).length ≤ 6 := by
  cases h : ncB wa ha la wb hb lb s with
  | false => rw [ncR_no h]; simp
  | true => rw [ncR_yes h]; have := (ncB_iff.1 h).2; simp [ncP]; omega
end
/-- a list of fields returned in memory of the call's own -/
def FsRet (R : List (Int × Int × List Int)) (v : Bool) (w : World) (e : Ending) (w' : World) : Prop :=
  ∃ g c, ∃ es : List FE, e = .returned (.tuple #[.slice (some ⟨g, 0, none⟩) es.length c, .bool v]) ∧ es.map FE.plain = R ∧ OwnFs w' w.heap.size w'.heap.size g es ∧ Below w.heap.size w w'
/-- .. that can be read -/
def RsRet (R : List (Int × Int × List Int)) (v : Bool) (w : World) (e : Ending) (w' : World) : Prop :=
  ∃ a c, ∃ es : List FE, e = .returned (.tuple #[.slice a es.length c, .bool v]) ∧ es.map FE.plain = R ∧ Flds w' w'.heap.size a es ∧ Below w.heap.size w w'
theorem owns_none (w : World) (B : Nat) (hB : B ≤ w.heap.size) : OwnFs (w.alloc (.cells #[] 34)) B (w.alloc (.cells #[] 34)).heap.size w.heap.size [] :=
  ⟨⟨_, heap_alloc_new w _, fun k hk => by simp [fvs] at hk⟩, hB, by simp, Fb.nil, fun j h => by simp at h⟩
end Go.Proofs.Ytggdkibbfmjelaa
namespace Go.Proofs.Ytggdkibbfmjelaa
open Go.RowKit
set_option linter.unusedVariables false
set_option linter.unusedSimpArgs false
theorem Fb.each {w w' : World} {B U : Nat} {es : List FE} (h : Fb w B U es) (k : ∀ j (h : j < es.length), w'.heap[es[j].g]? = w.heap[es[j].g]?) : Fb w' B U es :=
  ⟨fun j h1 => by obtain ⟨a, b, c⟩ := h.row j h1; exact ⟨a, b, c.keep fun _ => k j h1⟩, h.ne⟩
theorem owns_noneE (w : World) (B g : Nat) (hB : B ≤ w.heap.size) (hg : g = w.heap.size) : OwnFs (w.alloc (.cells #[] 34)) B (w.alloc (.cells #[] 34)).heap.size g [] := by subst hg; exact owns_none w B hB
/-- what the loop of a forecast knows: the arguments, the motion's box, the last field's, the list, made in block gR -/
structure Nc (w : World) (wa ha : Int) (aa : Option Addr) (la : List Int) (ca : Nat) (wb hb : Int) (ab : Option Addr) (lb : List Int) (cb : Nat) (mx my : Int) (mb lx gR n : Nat) (es : List FE) (ad : Option Addr) (l : List Int) (c : Nat) (wr : World) : Prop where
  f : Lx2 w wa ha aa la ca wb hb ab lb cb wr
  m : MBox wr mb 24 mx my
  x : Box wr lx 34 (.int .i64 wb) (.int .i64 hb) (.slice ad l.length c)
  i : Ints .i64 wr wr.heap.size ad l
  r : Row wr gR 34 (fvs (mixF es n))
  b : Fb wr (lx + 1) wr.heap.size es
  o : w.heap.size + 2 ≤ mb ∧ mb < gR ∧ gR < lx
section
variable {w wr w2 : World} {wa ha wb hb mx my : Int} {aa ab ad : Option Addr} {la lb l : List Int} {ca cb c mb lx gR n : Nat} {es : List FE}
theorem Nc.step (h : Nc w wa ha aa la ca wb hb ab lb cb mx my mb lx gR n es ad l c wr) (b : Below wr.heap.size wr w2) : Nc w wa ha aa la ca wb hb ab lb cb mx my mb lx gR n es ad l c w2 :=
  ⟨h.f.step b, h.m.below b, h.x.below b, ints_below h.i b, h.r.of_block (b.block gR h.r.lt), (h.b.below b (Nat.le_refl _)).more (Nat.le_refl _) b.size, h.o⟩
/-- the next field is laid into the last one's box and into the list -/
theorem Nc.put {a' : Option Addr} {l' : List Int} {c' : Nat} (h : Nc w wa ha aa la ca wb hb ab lb cb mx my mb lx gR n es ad l c wr) (b : Below wr.heap.size wr w2) (o : OwnI w2 wr.heap.size a' l') (h0 : 0 < l'.length) (hlt : es.length < n) (g : Nat) (hg : wr.heap.size ≤ g) (hgt : At w2 a' g l') :
    Nc w wa ha aa la ca wb hb ab lb cb mx my mb lx gR n (es ++ [⟨wb, hb, a', l', c', g⟩]) a' l' c' ((((((w2.setCell ⟨lx, 0, none⟩ (.int .i64 wb)).setCell ⟨lx, 1, none⟩ (.int .i64 hb)).setCell ⟨lx, 2, none⟩ (.slice a' l'.length c')).setCell ⟨gR, es.length * 3, none⟩ (.int .i64 wb)).setCell ⟨gR, es.length * 3 + 1, none⟩ (.int .i64 hb)).setCell ⟨gR, es.length * 3 + 2, none⟩ (.slice a' l'.length c')) := by
  have h2 := h.step b
  have hzx := h.x.lt
  obtain ⟨o1, o2, o3⟩ := h.o
  have t1 := turn_set3 w2 lx 0 1 2 (.int .i64 wb) (.int .i64 hb) (.slice a' l'.length c')
  have hx3 := h2.x.set3 (.int .i64 wb) (.int .i64 hb) (.slice a' l'.length c')
  have hr3 : Row (((w2.setCell ⟨lx, 0, none⟩ (.int .i64 wb)).setCell ⟨lx, 1, none⟩ (.int .i64 hb)).setCell ⟨lx, 2, none⟩ (.slice a' l'.length c')) gR 34 (fvs (mixF es n)) := h2.r.of_block (t1.block gR h2.r.lt (by intro e; injection e with e; omega))
  have hs3 : (((w2.setCell ⟨lx, 0, none⟩ (.int .i64 wb)).setCell ⟨lx, 1, none⟩ (.int .i64 hb)).setCell ⟨lx, 2, none⟩ (.slice a' l'.length c')).heap.size = w2.heap.size := size_set3 _ _ _ _ _ _ _
  have hf3 := h2.f.turn t1 (by omega)
  have hm3 := h2.m.turn t1 (by omega)
  have hg3 : At _ a' g l' := hgt.turn t1 (by omega)
  have hb3 : Fb _ (lx + 1) wr.heap.size es := (h.b.below b (Nat.le_refl _)).past t1 (Nat.lt_succ_self lx)
  generalize (((w2.setCell ⟨lx, 0, none⟩ (.int .i64 wb)).setCell ⟨lx, 1, none⟩ (.int .i64 hb)).setCell ⟨lx, 2, none⟩ (.slice a' l'.length c')) = w3 at *
  have t2 := turn_set3 w3 gR (es.length * 3) (es.length * 3 + 1) (es.length * 3 + 2) (.int .i64 wb) (.int .i64 hb) (.slice a' l'.length c')
  have hs4 : (((w3.setCell ⟨gR, es.length * 3, none⟩ (.int .i64 wb)).setCell ⟨gR, es.length * 3 + 1, none⟩ (.int .i64 hb)).setCell ⟨gR, es.length * 3 + 2, none⟩ (.slice a' l'.length c')).heap.size = w3.heap.size := size_set3 _ _ _ _ _ _ _
  have hr4 := ((hr3.set (es.length * 3) (.int .i64 wb)).set (es.length * 3 + 1) (.int .i64 hb)).set (es.length * 3 + 2) (.slice a' l'.length c')
  have hml : es.length < (mixF es n).length := by rw [mixF_len es n (by omega)]; exact hlt
  have ef := fvs_set (mixF es n) es.length ⟨wb, hb, a', l', c', g⟩ hml
  simp only at ef
  rw [ef, mixF_step es n _ hlt] at hr4
  have hg4 : At _ a' g l' := hg3.turn t2 (by omega)
  have hgl : g < w3.heap.size := by
    rcases hg3 with h9 | ⟨_, h9⟩
    · rw [h9] at h0; simp at h0
    · exact h9.lt
  exact ⟨hf3.turn t2 (by omega), hm3.turn t2 (by omega), hx3.turn t2 (by omega), hg4.ints, hr4, (Fb.snoc (hb3.past t2 (by omega)) (by show lx + 1 ≤ g; omega) (by show wr.heap.size ≤ g; exact hg) hg4).more (Nat.le_refl _) (by rw [hs4]; exact hgl), h.o⟩
end
set_option maxRecDepth 100000 in
set_option maxHeartbeats 8000000 in
theorem implNow_any (wa ha : Int) (aa : Option Addr) (la : List Int) (ca : Nat) (wb hb : Int) (ab : Option Addr) (lb : List Int) (cb : Nat) (s : Int) (w : World) (h1 : Ints .i64 w w.heap.size aa la) (h2 : Ints .i64 w w.heap.size ab lb) (n1 : la.length ≤ 1048576) (n2 : lb.length ≤ 1048576) :
    Calls Try.prog 37 #[.agg #[.int .i64 wa, .int .i64 ha, .slice aa la.length ca], .agg #[.int .i64 wb, .int .i64 hb, .slice ab lb.length cb], .int .i64 s] w (FsRet (ncR wa ha la wb hb lb s) (ncB wa ha la wb hb lb s) w) := by
  have F0 := Lib.hid (Lx2.new (wd0 := wa) (hg0 := ha) (c0 := ca) (wd1 := wb) (hg1 := hb) (c1 := cb) h1 h2)
  obtain ⟨W0, hW0⟩ : ∃ W, (w.alloc (.cells #[.int .i64 wa, .int .i64 ha, .slice aa la.length ca] 34)).alloc (.cells #[.int .i64 wb, .int .i64 hb, .slice ab lb.length cb] 34) = W := ⟨_, rfl⟩
  rw [hW0] at F0
  have HW := Lib.hid hW0
  have HBM := Lib.hid (fun W i1 i2 => implBest_any wa ha aa la ca wb hb ab lb cb W i1 i2 n1 n2)
  clear h1 h2 hW0
  cases hv : ncB wa ha la wb hb lb s with
  | false =>
    rw [ncR_no hv]
    cases hbs : bsB wa ha la wb hb lb with
    | false =>
      rw [hbs] at HBM
      clear hv hbs
      generalize bsX wa ha la wb hb lb = mx at *
      generalize bsY wa ha la wb hb lb = my at *
      go_enter Try.func37, Try.ntmps37
      go_wp2_with fail
      rw [HW.out]
      refine (HBM.out _ F0.out.i0 F0.out.i1).mono ?_
      rintro e w1 ⟨rfl, b1⟩
      have F1 := Lib.hid (F0.out.step b1)
      have F2 := Lib.hid (F1.out.step (below_all w1 (.cells #[.int .i64 mx, .int .i64 my] 24)))
      have B3 := Lib.hid (below_then F2.out.b (below_all (w1.alloc (.cells #[.int .i64 mx, .int .i64 my] 24)) (.cells #[] 34)))
      clear b1 F0
      go_wp2
      go_ret2
      exact ⟨_, _, [], rfl, rfl, owns_noneE _ _ _ F2.out.b.size (by simp), B3.out⟩
    | true =>
      have hrg : ¬ (1 ≤ s ∧ s ≤ 6) := fun h => by rw [ncB_iff.2 ⟨hbs, h⟩] at hv; cases hv
      rw [hbs] at HBM
      clear hv hbs
      generalize bsX wa ha la wb hb lb = mx at *
      generalize bsY wa ha la wb hb lb = my at *
      by_cases hs1 : s < 1
      · clear hrg
        go_enter Try.func37, Try.ntmps37
        go_wp2_with fail
        rw [HW.out]
        refine (HBM.out _ F0.out.i0 F0.out.i1).mono ?_
        rintro e w1 ⟨rfl, b1⟩
        have F1 := Lib.hid (F0.out.step b1)
        have F2 := Lib.hid (F1.out.step (below_all w1 (.cells #[.int .i64 mx, .int .i64 my] 24)))
        have B3 := Lib.hid (below_then F2.out.b (below_all (w1.alloc (.cells #[.int .i64 mx, .int .i64 my] 24)) (.cells #[] 34)))
        clear b1 F0
        go_wp2
        go_ret2
        exact ⟨_, _, [], rfl, rfl, owns_noneE _ _ _ F2.out.b.size (by simp), B3.out⟩
      · have hs6 : 6 < s := by omega
        clear hrg
        go_enter Try.func37, Try.ntmps37
        go_wp2_with fail
        rw [HW.out]
        refine (HBM.out _ F0.out.i0 F0.out.i1).mono ?_
        rintro e w1 ⟨rfl, b1⟩
        have F1 := Lib.hid (F0.out.step b1)
        have F2 := Lib.hid (F1.out.step (below_all w1 (.cells #[.int .i64 mx, .int .i64 my] 24)))
        have B3 := Lib.hid (below_then F2.out.b (below_all (w1.alloc (.cells #[.int .i64 mx, .int .i64 my] 24)) (.cells #[] 34)))
        clear b1 F0
        go_wp2
        go_ret2
        exact ⟨_, _, [], rfl, rfl, owns_noneE _ _ _ F2.out.b.size (by simp), B3.out⟩
  | true =>
    rw [ncR_yes hv]
    obtain ⟨hbs, s1, s6⟩ := ncB_iff.1 hv
    obtain ⟨hsm, hmt⟩ := best_yes hbs
    obtain ⟨_, gb, ew, eh⟩ := same_iff.1 hsm
    clear ew eh
    rw [hbs] at HBM
    obtain ⟨n, rfl⟩ := Int.eq_ofNat_of_zero_le (show 0 ≤ s by omega)
    simp only [Int.toNat_natCast]
    generalize bsX wa ha la wb hb lb = mx at *
    generalize bsY wa ha la wb hb lb = my at *
    have HG := Lib.hid (fun k => it_good gb mx my k)
    have HLE := Lib.hid (fun k => (good_le (it_good gb mx my k)))
    have HMV : Hid (∀ k a c Wd, Ints .i64 Wd Wd.heap.size a (itM wb.toNat hb.toNat mx my lb k) → Calls Try.prog 21 #[.agg #[.int .i64 wb, .int .i64 hb, .slice a (itM wb.toNat hb.toNat mx my lb k).length c], .agg #[.int .i64 mx, .int .i64 my]] Wd (FRet (some (wb, hb, itM wb.toNat hb.toNat mx my lb (k + 1))) Wd)) := Lib.hid (fun k a c Wd i => by
      have h := implMove_any wb hb a (itM wb.toNat hb.toNat mx my lb k) c mx my Wd i (by have := (good_le (it_good gb mx my k)).2; omega)
      rw [moveR_yes (movB_iff.2 ⟨it_good gb mx my k, hmt⟩)] at h
      exact h)
    have HPS := Lib.hid (fun k => ncP_step wb hb lb mx my k)
    have HI0 := Lib.hid (show itM wb.toNat hb.toNat mx my lb 0 = lb from rfl)
    have HPZ := Lib.hid (ncP_zero wb hb lb mx my)
    have hn6 : n ≤ 6 := by omega
    have hn1 : 1 ≤ n := by omega
    clear hv hbs hsm hmt gb
    unfold FRet at HMV
    simp only [rW, rH, rL, rB] at HMV
    generalize itM wb.toNat hb.toNat mx my lb = L at *
    generalize ncP wb hb lb mx my = P at *
    have hs1 : ¬ (n : Int) < 1 := by omega
    have hs6 : ¬ (6 : Int) < (n : Int) := by omega
    go_enter Try.func37, Try.ntmps37
    go_wp2_with fail
    rw [HW.out]
    refine (HBM.out _ F0.out.i0 F0.out.i1).mono ?_
    rintro e w1 ⟨rfl, b1⟩
    have F1 := Lib.hid (F0.out.step b1)
    obtain ⟨k0, k1, k2⟩ := F1.out.k1.cells
    have q0 := F1.out.k1.lt
    have q1 : w.heap.size + 1 < w1.heap.size := q0
    have q2 : ¬ w.heap.size + 1 = w1.heap.size := by omega
    have q3 : ¬ w.heap.size + 1 = w1.heap.size + 1 := by omega
    have q4 : w.heap.size + 1 < w1.heap.size + 1 := by omega
    have hmk := fun W => run_make_fields n (by omega) W
    clear b1 F0 HBM HW
    go_wp2
    clear hmk k0 k1 k2 q1 q2 q3 q4
    have HN0 : Hid (Nc w wa ha aa la ca wb hb ab lb cb mx my w1.heap.size (w1.heap.size + 1 + 1) (w1.heap.size + 1) n [] ab (L 0) cb (((w1.alloc (.cells #[.int .i64 mx, .int .i64 my] 24)).alloc (.cells (madeCells #[.int .i64 0, .int .i64 0, .slice none 0 0] (n * 3)) 34)).alloc (.cells #[.int .i64 wb, .int .i64 hb, .slice ab lb.length cb] 34))) := Lib.hid (by
      rw [HI0.out]
      have F4 := ((F1.out.step (below_all w1 (.cells #[.int .i64 mx, .int .i64 my] 24))).step (below_all _ (.cells (madeCells #[.int .i64 0, .int .i64 0, .slice none 0 0] (n * 3)) 34))).step (below_all _ (.cells #[.int .i64 wb, .int .i64 hb, .slice ab lb.length cb] 34))
      refine ⟨F4, ((MBox.new w1 24 mx my).below (below_all _ _)).below (below_all _ _), ?_, F4.i1, ?_, Fb.nil, by omega, by omega, by omega⟩
      · have h := Box.new ((w1.alloc (.cells #[.int .i64 mx, .int .i64 my] 24)).alloc (.cells (madeCells #[.int .i64 0, .int .i64 0, .slice none 0 0] (n * 3)) 34)) 34 (.int .i64 wb) (.int .i64 hb) (.slice ab lb.length cb)
        simp only [World.size_alloc] at h
        exact h
      · have h := (row_made_fields n (w1.alloc (.cells #[.int .i64 mx, .int .i64 my] 24))).alloc (.cells #[.int .i64 wb, .int .i64 hb, .slice ab lb.length cb] 34)
        rw [World.size_alloc] at h
        have e : mixF [] n = List.replicate n zeroF := by simp [mixF]
        rw [e]
        exact h)
    generalize w1.heap.size + 1 + 1 = lx at *
    generalize w1.heap.size + 1 = gR at *
    generalize w1.heap.size = mb at *
    clear F1 q0
    go_loopw [35] (fun i wr => ∃ es : List FE, ∃ ad c, es.length ≤ n ∧ i = .int .i64 es.length ∧ es.map FE.plain = P es.length ∧ Nc w wa ha aa la ca wb hb ab lb cb mx my mb lx gR n es ad (L es.length) c wr) (fun i _ => n - (intOf i).toNat)
    case atStart => exact ⟨[], ab, cb, Nat.zero_le _, rfl, by rw [show ([] : List FE).length = 0 from rfl, HPZ.out]; rfl, HN0.out⟩
    case round =>
      clear HN0
      obtain ⟨es, ad, c, hk, rfl, hP, hN⟩ := hrel
      have HN := Lib.hid hN
      have HP := Lib.hid hP
      clear hN hP
      by_cases hlt : es.length < n
      · have hi : (es.length : Int) < (n : Int) := by omega
        have hi0 : (0 : Int) ≤ (es.length : Int) := by omega
        obtain ⟨k0, k1, k2⟩ := HN.out.x.cells
        obtain ⟨m0, m1⟩ := HN.out.m.cells
        have HK := Lib.hid (fun a c Wd i => HMV.out es.length a c Wd i)
        have hLl := (HLE.out (es.length + 1)).1
        go_wp2_with fail
        refine (HK.out _ _ _ HN.out.i).mono ?_
        rintro e w2 ⟨a', c', rfl, o2, b2⟩
        have HN2 := Lib.hid (HN.out.step b2)
        obtain ⟨g, hg, hgt⟩ := o2
        have HN3 := Lib.hid (HN.out.put (c' := c') b2 ⟨g, hg, hgt⟩ hLl hlt g hg hgt)
        clear b2 k0 k1 k2 m0 m1 HK hgt
        obtain ⟨k0, k1, k2⟩ := HN2.out.x.cells
        have f0 := HN2.out.x.frozen 0
        have f1 := HN2.out.x.frozen 1
        have f2 := HN2.out.x.frozen 2
        have hml : (mixF es n).length = n := mixF_len es n hk
        have hfl := fvs_length (mixF es n)
        obtain ⟨u0, hu0⟩ : ∃ u, w2.cell? ⟨gR, es.length * 3, none⟩ = some u := ⟨_, HN2.out.r.cell (k := es.length * 3) (by omega)⟩
        obtain ⟨u1, hu1⟩ : ∃ u, w2.cell? ⟨gR, es.length * 3 + 1, none⟩ = some u := ⟨_, HN2.out.r.cell (k := es.length * 3 + 1) (by omega)⟩
        obtain ⟨u2, hu2⟩ : ∃ u, w2.cell? ⟨gR, es.length * 3 + 2, none⟩ = some u := ⟨_, HN2.out.r.cell (k := es.length * 3 + 2) (by omega)⟩
        have f3 := HN2.out.r.frozen (es.length * 3)
        have f4 := HN2.out.r.frozen (es.length * 3 + 1)
        have f5 := HN2.out.r.frozen (es.length * 3 + 2)
        obtain ⟨o1, o3, o4⟩ := HN2.out.o
        have ne1 : ¬ lx = gR := by omega
        have ne2 : ¬ gR = lx := by omega
        clear hml hfl HN HN2 o1 o3 o4 hg
        go_wp2
        go_roundw
        case rel => exact ⟨es ++ [⟨wb, hb, a', L (es.length + 1), c', g⟩], a', c', by simp; omega, by simp, by rw [List.map_append, HP.out, List.length_append, List.length_singleton, HPS.out]; rfl, by rw [List.length_append, List.length_singleton]; exact HN3.out⟩
        case measure => simp [intOf]; omega
      · have hen : es.length = n := by omega
        have hge : ¬ (es.length : Int) < (n : Int) := by omega
        have HEN := Lib.hid hen
        have HOF : Hid (OwnFs wr w.heap.size wr.heap.size gR es) := Lib.hid (by
          have hr := HN.out.r
          rw [← hen, mixF_all] at hr
          obtain ⟨o1, o3, o4⟩ := HN.out.o
          have hlx := HN.out.x.lt
          exact ⟨hr, by omega, by omega, HN.out.b.more (by omega) (Nat.le_refl _), fun j hj => by have := (HN.out.b.row j hj).1; omega⟩)
        clear hen
        go_wp2
        go_ret2
        exact ⟨gR, n, es, by rw [HEN.out]; rfl, by rw [HP.out, HEN.out], HOF.out, HN.out.f.b⟩
end Go.Proofs.Ytggdkibbfmjelaa
namespace Go.Proofs.Ytggdkibbfmjelaa
open Go.RowKit
set_option linter.unusedVariables false
set_option linter.unusedSimpArgs false
set_option maxHeartbeats 1000000 in
theorem l1Own_any (a : Option Addr) (l : List Int) (c : Nat) (w : World) (hl : Ints .i64 w w.heap.size a l) (hn : l.length ≤ 1048576) (h0 : 0 < l.length) :
    Calls Try.prog 110 #[.slice a l.length c] w (IntsPost l w) := by
  obtain ⟨i0, hi0', hz0, hz1, hz2⟩ := info_parts infoInt
  rcases hl with rfl | ⟨b, o, rfl, hb, hc⟩
  · simp at h0
  · have HC : Hid (∀ j u, (iv l)[j]? = some u → (w.alloc (.cells #[] 3)).cell? ((⟨b, o, none⟩ : Addr).add j) = some u) := by
      refine Lib.hid ?_
      intro j u hu
      obtain ⟨hj, hu⟩ := List.getElem?_eq_some_iff.1 hu
      rw [iv_length] at hj
      have e : (⟨b, o, none⟩ : Addr).add j = ⟨b, o + j, none⟩ := by unfold Addr.add; split <;> simp_all
      rw [e, World.cell?_alloc_lt _ _ _ (by simpa using hb), hc j hj, ← hu, iv_get]
    have HO := Lib.hid (World.ownsRow_made (base := w.heap.size) (e := 3) (size := 1) w #[] 0 (Nat.le_refl _) (by simp) rfl)
    clear hc
    go_enter Try.func110, Try.ntmps110
    go_wp2_with (at_builtin; refine wpList_append_own _ rfl _ _ 30 rfl w.heap.size 3 i0 (.int .i64 0) 1 8 Try.underlying30 hi0' hz0 hz1 hz2 rfl (by decide) _ 0 [] rfl HO.out ⟨b, o, none⟩ l.length c (iv l) rfl (by rw [iv_length]; simp) HC.out (iv_one l) (by unfold maxLen; omega) (by omega) (by simp) ?_; intro v' w1 hown' hgrow _; rw [Nat.zero_add, List.nil_append] at hown'; have HB := Lib.hid ((below_all w _).grown hgrow (by simp) (fun k hk => (HO.out.lt k hk).1)); obtain ⟨a', c', hv, ho⟩ := ownI_of hown' rfl; subst hv; have HO1 := Lib.hid ho; clear hown' hgrow ho)
    go_ret
    exact ⟨a', c', rfl, HO1.out, HB.out⟩
end Go.Proofs.Ytggdkibbfmjelaa
namespace Go.Proofs.Ytggdkibbfmjelaa
open Go.RowKit
set_option linter.unusedVariables false
set_option linter.unusedSimpArgs false
def setR (wd hg : Int) (l : List Int) (x y v : Int) : Option (Int × Int × List Int) := if (goodB wd hg l && inB wd hg x y && cellB v) = true then some (wd, hg, l.set (place wd x y) v) else none
theorem setR_no {wd hg : Int} {l : List Int} {x y v : Int} (h : (goodB wd hg l && inB wd hg x y && cellB v) = false) : setR wd hg l x y v = none := if_neg (by rw [h]; simp)
theorem setR_yes {wd hg : Int} {l : List Int} {x y v : Int} (h : (goodB wd hg l && inB wd hg x y && cellB v) = true) : setR wd hg l x y v = some (wd, hg, l.set (place wd x y) v) := if_pos h
theorem setR_len (wd hg : Int) (l : List Int) (x y v : Int) : (rL (setR wd hg l x y v)).length ≤ 64 := by
  cases h : (goodB wd hg l && inB wd hg x y && cellB v) with
  | false => rw [setR_no h]; simp [rL]
  | true =>
    rw [setR_yes h]
    have hs : goodB wd hg l = true := by simp at h; exact h.1.1
    have := good_le hs
    simp [rL]; omega

set_option maxRecDepth 100000 in
set_option maxHeartbeats 1000000 in
theorem l2Own_any (wd hg : Int) (a : Option Addr) (l : List Int) (c : Nat) (w : World) (hl : Ints .i64 w w.heap.size a l) (hn : l.length ≤ 1048576) (h0 : 0 < l.length) :
    Calls Try.prog 88 #[.agg #[.int .i64 wd, .int .i64 hg, .slice a l.length c]] w (FOne wd hg l w) := by
  have HW := Lib.hid (fun W h => l1Own_any a l c W h hn h0)
  have I0 := Lib.hid (ints_below (ints_alloc (ints_alloc hl (.cells #[.int .i64 wd, .int .i64 hg, .slice a l.length c] 34)) (.cells #[.int .i64 0, .int .i64 0, .slice none 0 0] 34)) ((Drew.more (Drew.refl _) 1).below _))
  have X0 := (Box.new w 34 (.int .i64 wd) (.int .i64 hg) (.slice a l.length c)).alloc (.cells #[.int .i64 0, .int .i64 0, .slice none 0 0] 34)
  have R0 := Box.new (w.alloc (.cells #[.int .i64 wd, .int .i64 hg, .slice a l.length c] 34)) 34 (.int .i64 0) (.int .i64 0) (.slice none 0 0)
  rw [World.size_alloc] at R0
  have B0 := (below_all w (.cells #[.int .i64 wd, .int .i64 hg, .slice a l.length c] 34)).alloc (by simp) (.cells #[.int .i64 0, .int .i64 0, .slice none 0 0] 34)
  clear hl
  go_enter Try.func88, Try.ntmps88
  go_wp2_with fail
  obtain ⟨W, hW⟩ : ∃ W, (w.alloc (.cells #[.int .i64 wd, .int .i64 hg, .slice a l.length c] 34)).alloc (.cells #[.int .i64 0, .int .i64 0, .slice none 0 0] 34) = W := ⟨_, rfl⟩
  have sW : W.heap.size = w.heap.size + 2 := by rw [← hW]; simp
  rw [hW] at I0 X0 R0 B0 ⊢
  have HX := Lib.hid X0
  have HR := Lib.hid R0
  have HB := Lib.hid B0
  obtain ⟨k0, k1, k2⟩ := X0.cells
  clear hW X0 R0 B0
  go_region_held3 (fun w' => w'.cell? ⟨w.heap.size, 0, none⟩ = some (.int .i64 wd) ∧ w'.cell? ⟨w.heap.size, 1, none⟩ = some (.int .i64 hg) ∧ w'.cell? ⟨w.heap.size, 2, none⟩ = some (.slice a l.length c))
    (first | exact X1.cells | go_keep)
    (first
      | (go_at_call 110; refine (HW.out _ I0.out).mono ?_; rintro e w1 ⟨a1, c1, rfl, o1, b1⟩; have X1 := (HX.out.below (w' := W.drew) ((Drew.more (Drew.refl W) 1).below _)).below b1; have R1 := (HR.out.below (w' := W.drew) ((Drew.more (Drew.refl W) 1).below _)).below b1; obtain ⟨r0, r1, r2⟩ := R1.cells; have g0 := R1.frozen 0; have g1 := R1.frozen 1; have g2 := R1.frozen 2; have B1 := Lib.hid (below_then (below_then HB.out ((Drew.more (Drew.refl W) 1).below _)) b1)))
  rename_i hHeld
  clear hHeld
  have HO := Lib.hid (o1.more (C := w.heap.size + 2) (by show w.heap.size + 2 ≤ W.heap.size; omega))
  clear o1 b1 X1 R1 k0 k1 k2
  go_wp2
  refine bodyPost_ret (v := .agg #[.int .i64 wd, .int .i64 hg, .slice a1 l.length c1]) (by simp [results, Try.results88, go_sem, r0, r1, r2]) rfl ⟨a1, c1, rfl, ?_, ?_⟩
  · exact (ownI_set (ownI_set (ownI_set HO.out (by omega) _) (by omega) _) (by omega) _).more (by omega)
  · exact ((B1.out.setCell (by simp) _).setCell (by simp) _).setCell (by simp) _

end Go.Proofs.Ytggdkibbfmjelaa
namespace Go.Proofs.Ytggdkibbfmjelaa
open Go.RowKit
set_option linter.unusedVariables false
set_option linter.unusedSimpArgs false
theorem Bm.retOne {w w1 : World} {ob g c cap : Nat} {wd hg mx my P Q : Int} {a : Option Addr} {l S : List Int} (h : Bm w ob g wd hg a l c mx my P Q S cap w1) {e : Ending} (he : e = .returned (.agg #[.int .i64 P, .int .i64 Q, .slice (some ⟨g, 0, none⟩) S.length cap])) (u0 u1 u2 : Value) :
    FOne P Q S w e (((w1.setCell ⟨w.heap.size + 2, 0, none⟩ u0).setCell ⟨w.heap.size + 2, 1, none⟩ u1).setCell ⟨w.heap.size + 2, 2, none⟩ u2) :=
  ⟨_, _, he, (ownI_set (ownI_set (ownI_set h.own (by simp) _) (by simp) _) (by simp) _).more (by omega), ((h.f.b.setCell (p := ⟨w.heap.size + 2, 0, none⟩) (by simp) _).setCell (p := ⟨w.heap.size + 2, 1, none⟩) (by simp) _).setCell (p := ⟨w.heap.size + 2, 2, none⟩) (by simp) _⟩
set_option maxRecDepth 100000 in
set_option maxHeartbeats 8000000 in
theorem specMv_any (W H : Nat) (a : Option Addr) (l : List Int) (c : Nat) (mx my : Int) (w : World) (hl : Ints .i64 w w.heap.size a l) (hn : l.length ≤ 1048576) (hW : 1 ≤ W ∧ W ≤ 8) (hH : 1 ≤ H ∧ H ≤ 8) (hlw : l.length = W * H) (hm : (-2 ≤ mx ∧ mx ≤ 2) ∧ -2 ≤ my ∧ my ≤ 2) :
    Calls Try.prog 58 #[.agg #[.int .i64 W, .int .i64 H, .slice a l.length c], .agg #[.int .i64 mx, .int .i64 my]] w (FOne W H (mvR W H l mx my) w) := by
  have F0 := Lib.hid (Fm1.new (wd := (W : Int)) (hg := (H : Int)) (c := c) hl mx my)
  obtain ⟨W0, hW0⟩ : ∃ x, ((w.alloc (.cells #[.int .i64 W, .int .i64 H, .slice a l.length c] 34)).alloc (.cells #[.int .i64 mx, .int .i64 my] 24)).alloc (.cells #[.int .i64 0, .int .i64 0, .slice none 0 0] 34) = x := ⟨_, rfl⟩
  rw [hW0] at F0
  have HW := Lib.hid hW0
  obtain ⟨W1, W2⟩ := hW
  obtain ⟨H1, H2⟩ := hH
  obtain ⟨⟨v1, v2⟩, v3, v4⟩ := hm
  have hWH : W * H ≤ 64 := Nat.mul_le_mul W2 H2
  have hWH0 : 0 < W * H := Nat.mul_pos (by omega) (by omega)
  have hsh : shapeB (W : Int) (H : Int) = true := shapeB_iff.2 (by omega)
  have HO := Lib.hid (fun Wd h => l2Own_any (W : Int) (H : Int) a l c Wd h hn (by omega))
  unfold FOne at HO
  have HHAS := Lib.hid (fun x y v Wd h => specHas_is (W : Int) (H : Int) a l.length c x y v Wd hsh h)
  have HPL := Lib.hid (fun x y (h : inB (W : Int) (H : Int) x y = true) => place_int hsh h)
  have HAT := Lib.hid (fun (x y : Int) (k : Nat) Wd i hk hp h0 h1 h2 h3 => specAt_any (W : Int) (H : Int) a l c Wd.heap.size x y k Wd i (Nat.le_refl _) hk hn hp h0 h1 h2 h3)
  have HLW := Lib.hid hlw
  have hql : (mvR W H l mx my).length = l.length := by rw [mvR_len, hlw]
  have HLEN := Lib.hid (fun k hk => takeR_len hql k hk)
  have HST := Lib.hid (fun (k : Nat) (z : Int) (hk : k < l.length) (hz : (mvR W H l mx my).getD k 0 = z) => show (takeR (mvR W H l mx my) l k).set k z = takeR (mvR W H l mx my) l (k + 1) from by rw [getD_at (by omega)] at hz; rw [← hz]; exact takeR_step hql k hk)
  have HC := Lib.hid (fun (x y : Nat) (hx : x < W) (hy : y < H) => show (mvR W H l mx my).getD (y * W + x) 0 = mvC W H l mx my x y from by
    have hlt : y * W + x < W * H := by have := Nat.mul_le_mul_right W (show y + 1 ≤ H by omega); rw [Nat.add_mul, Nat.one_mul] at this; rw [Nat.mul_comm W H]; omega
    rw [mvR_getD l mx my hlt]
    have e : ((y * W + x : Nat) : Int) = (y : Int) * (W : Int) + (x : Int) := by push_cast; rfl
    rw [e, cell_mod (by omega) (by omega), cell_div (by omega) (by omega)])
  have HALL := Lib.hid (takeR_all hql)
  have HZ := Lib.hid (takeR_zero (mvR W H l mx my) l)
  clear hl hW0 hsh hlw hql
  generalize hq : mvR W H l mx my = q at *
  have HQ := Lib.hid hq
  clear hq
  go_enter Try.func58, Try.ntmps58
  have y0 := F0.out.k0.cells.1
  have y1 := F0.out.k0.cells.2.1
  have y2 := F0.out.k0.cells.2.2
  rw [← HW.out] at y0 y1 y2
  go_wp2_with fail
  rw [HW.out]
  clear y0 y1 y2
  refine (HO.out _ F0.out.i0).mono ?_
  rintro e w1 ⟨a1, c1, rfl, o1, b1⟩
  have F1 := Lib.hid (F0.out.step b1)
  have hz1 := F0.out.r.lt
  obtain ⟨g, rfl, hB⟩ := Bm.new (P := (W : Int)) (Q := (H : Int)) (cap := c1) F1.out (o1.more (by omega)) (by rw [HLW.out]; exact hWH0)
  have HB := Lib.hid hB
  have hzr := F1.out.r.lt
  clear b1 F0 o1 hB hz1 HW HO
  obtain ⟨k0, k1, k2⟩ := F1.out.k0.cells
  have q3 : w.heap.size < w1.heap.size := by omega
  have q4 : ¬ w.heap.size = w1.heap.size := by omega
  go_wp2
  generalize w1.heap.size = ob at *
  clear k0 k1 k2 q3 q4 F1 hzr
  go_loopw [6] (fun i wr => ∃ y : Nat, y ≤ H ∧ i = .int .i64 y ∧ Bm w ob g W H a l c mx my W H (takeR q l (y * W)) c1 wr) (fun i _ => H - (intOf i).toNat)
  case atStart => exact ⟨0, Nat.zero_le _, rfl, by rw [Nat.zero_mul, HZ.out]; exact HB.out⟩
  case round =>
    obtain ⟨y, hy, rfl, hS⟩ := hrel
    clear HB
    have HS := Lib.hid hS
    obtain ⟨k0, k1, k2⟩ := hS.f.k0.cells
    by_cases hlt : y < H
    · clear hS
      have hi : (y : Int) < (H : Int) := by omega
      go_wp2
      clear k0 k1 k2
      go_loopw [7] (fun i wr => ∃ x : Nat, x ≤ W ∧ i = .int .i64 x ∧ Bm w ob g W H a l c mx my W H (takeR q l (y * W + x)) c1 wr) (fun i _ => W - (intOf i).toNat)
      case atStart => exact ⟨0, Nat.zero_le _, rfl, HS.out⟩
      case round =>
        clear HS
        obtain ⟨x, hx, rfl, hS⟩ := hrel
        have HS := Lib.hid hS
        obtain ⟨k0, k1, k2⟩ := hS.f.k0.cells
        obtain ⟨n0, n1⟩ := hS.f.m.cells
        clear hS
        by_cases hlt2 : x < W
        · have hi2 : (x : Int) < (W : Int) := by omega
          have hk : y * W + x < W * H := by have := Nat.mul_le_mul_right W (show y + 1 ≤ H by omega); rw [Nat.add_mul, Nat.one_mul] at this; rw [Nat.mul_comm W H]; omega
          have hkl : y * W + x < l.length := by rw [HLW.out]; exact hk
          have hv := HC.out x y hlt2 hlt
          have hTL := HLEN.out (y * W + x) (by omega)
          have hyW : y * W ≤ 64 := by omega
          have wx := IntWalk.i64_in ((x : Int) - mx) (by omega)
          have wy := IntWalk.i64_in ((y : Int) - my) (by omega)
          obtain ⟨p, hp⟩ : ∃ p, y * W = p := ⟨_, rfl⟩
          obtain ⟨n, hn'⟩ : ∃ n, y * W + x = n := ⟨_, rfl⟩
          have e1 : (y : Int) * (W : Int) = (p : Int) := by rw [← hp]; push_cast; rfl
          have e2 : (p : Int) + (x : Int) = (n : Int) := by omega
          have HN1 := Lib.hid (show y * W + (x + 1) = n + 1 by omega)
          rw [hn'] at HS hk hkl hv hTL
          have hp64 : p ≤ 64 := by omega
          have w1' := IntWalk.i64_in (p : Int) (by omega)
          have w2' := IntWalk.i64_in (n : Int) (by omega)
          have hk0 : (0 : Int) ≤ (n : Int) := by omega
          have hk1 : (n : Int) < ((takeR q l n).length : Int) := by rw [hTL]; omega
          clear hp hn' hyW
          have HSTK := Lib.hid (fun z hz => HST.out n z hkl hz)
          unfold mvC at hv
          have HXL := Lib.hid (HLW.out)
          clear hTL
          cases hin : inB (W : Int) (H : Int) ((x : Int) - mx) ((y : Int) - my) with
          | false =>
            rw [if_neg (by rw [hin]; simp)] at hv
            have HT := Lib.hid (HSTK.out _ hv)
            have HC2 := Lib.hid (fun Wd => HHAS.out _ _ false Wd hin)
            clear hin hv
            go_wp2_with fail
            refine (HC2.out _).mono ?_
            rintro e w5 ⟨rfl, b5⟩
            have HB5 := Lib.hid (HS.out.step b5)
            clear b5 k0 k1 k2 n0 n1 HS
            obtain ⟨k0, k1, k2⟩ := HB5.out.f.k0.cells
            obtain ⟨x0, x1, x2⟩ := HB5.out.x.cells
            obtain ⟨ov, hov⟩ : ∃ ov, w5.cell? ⟨g, n, none⟩ = some (.int .i64 ov) := ⟨_, HB5.out.get (j := n) (by omega)⟩
            have hof := HB5.out.o.frozen (n)
            have HPT : Hid (Bm w ob g W H a l c mx my W H (takeR q l (n + 1)) c1 (w5.setCell ⟨g, n, none⟩ (.int .i64 (-9999)))) := Lib.hid (by rw [← HT.out]; exact HB5.out.put _ _)
            go_wp2
            go_roundw
            case rel => exact ⟨x + 1, by omega, by go_num, by rw [HN1.out]; exact HPT.out⟩
            case measure => simp [intOf]; omega
          | true =>
            rw [if_pos hin] at hv
            have HT := Lib.hid (HSTK.out _ hv)
            have HC2 := Lib.hid (fun Wd => HHAS.out _ _ true Wd hin)
            obtain ⟨p1, p2, p3, p4⟩ := HPL.out _ _ hin
            obtain ⟨⟨i1, i2⟩, i3, i4⟩ := inB_iff.1 hin
            rw [← Int.natCast_mul] at p2
            generalize place (W : Int) ((x : Int) - mx) ((y : Int) - my) = j at *
            have hj : j < l.length := by rw [HLW.out]; omega
            rw [getD_at hj] at HT
            have HA2 := Lib.hid (fun Wd i => HAT.out _ _ j Wd i hj p1 p3 p4 (by omega) (by omega))
            generalize l[j] = z at *
            clear hin hv p1
            go_wp2_with fail
            refine (HC2.out _).mono ?_
            rintro e w5 ⟨rfl, b5⟩
            have HB5 := Lib.hid (HS.out.step b5)
            clear b5 k0 k1 k2 n0 n1 HS
            obtain ⟨k0, k1, k2⟩ := HB5.out.f.k0.cells
            obtain ⟨n0, n1⟩ := HB5.out.f.m.cells
            go_wp2_with fail
            refine (HA2.out _ HB5.out.f.i0).mono ?_
            rintro e w6 ⟨rfl, b6⟩
            have HB6 := Lib.hid (HB5.out.step b6)
            clear b6 k0 k1 k2 n0 n1 HB5
            obtain ⟨k0, k1, k2⟩ := HB6.out.f.k0.cells
            obtain ⟨x0, x1, x2⟩ := HB6.out.x.cells
            obtain ⟨ov, hov⟩ : ∃ ov, w6.cell? ⟨g, n, none⟩ = some (.int .i64 ov) := ⟨_, HB6.out.get (j := n) (by omega)⟩
            have hof := HB6.out.o.frozen (n)
            have HPT : Hid (Bm w ob g W H a l c mx my W H (takeR q l (n + 1)) c1 (w6.setCell ⟨g, n, none⟩ (.int .i64 z))) := Lib.hid (by rw [← HT.out]; exact HB6.out.put _ _)
            go_wp2
            go_roundw
            case rel => exact ⟨x + 1, by omega, by go_num, by rw [HN1.out]; exact HPT.out⟩
            case measure => simp [intOf]; omega
        · obtain rfl : x = W := by omega
          have e3 : y * x + x = (y + 1) * x := by rw [Nat.add_mul, Nat.one_mul]
          rw [e3] at HS
          go_wp2
          go_roundw
          case rel => exact ⟨y + 1, by omega, by go_num, HS.out⟩
          case measure => simp [intOf]; omega
    · obtain rfl : y = H := by omega
      clear k0 k1 k2
      rw [Nat.mul_comm y W, ← HLW.out, HALL.out] at hS
      have HBB := Lib.hid hS
      obtain ⟨f0, f1, f2⟩ := hS.f.k0.cells
      obtain ⟨x0, x1, x2⟩ := hS.x.cells
      obtain ⟨r0, r1, r2⟩ := hS.f.r.cells
      have g0 := hS.f.r.frozen 0
      have g1 := hS.f.r.frozen 1
      have g2 := hS.f.r.frozen 2
      have q7 : ¬ w.heap.size + 2 = ob := by have := hS.n; omega
      have q8 : ¬ ob = w.heap.size + 2 := by omega
      clear hS HS
      go_wp2
      refine bodyPost_ret (v := .agg #[.int .i64 W, .int .i64 y, .slice (some ⟨g, 0, none⟩) q.length c1]) (by simp [results, Try.results58, go_sem, r0, r1, r2]) rfl ?_
      exact HBB.out.retOne rfl _ _ _
set_option maxRecDepth 100000 in
set_option maxHeartbeats 4000000 in
theorem specMove_any (wd hg : Int) (a : Option Addr) (l : List Int) (c : Nat) (mx my : Int) (w : World) (hl : Ints .i64 w w.heap.size a l) (hn : l.length ≤ 1048576) :
    Calls Try.prog 19 #[.agg #[.int .i64 wd, .int .i64 hg, .slice a l.length c], .agg #[.int .i64 mx, .int .i64 my]] w (FRet (moveR wd hg l mx my) w) := by
  have F0 := Lib.hid (Fm1.new (wd := wd) (hg := hg) (c := c) hl mx my)
  obtain ⟨W0, hW0⟩ : ∃ W, ((w.alloc (.cells #[.int .i64 wd, .int .i64 hg, .slice a l.length c] 34)).alloc (.cells #[.int .i64 mx, .int .i64 my] 24)).alloc (.cells #[.int .i64 0, .int .i64 0, .slice none 0 0] 34) = W := ⟨_, rfl⟩
  rw [hW0] at F0
  have HW := Lib.hid hW0
  clear hl hW0
  cases hs : goodB wd hg l with
  | false =>
    rw [moveR_no (by unfold movB; rw [hs]; rfl)]
    have HC := Lib.hid (fun W i => specGood_is wd hg a l c _ false W i (Nat.le_refl _) hn hs)
    clear hs
    go_enter Try.func19, Try.ntmps19
    go_wp2_with fail
    rw [HW.out]
    refine (HC.out _ F0.out.i0).mono ?_
    rintro e w1 ⟨rfl, b1⟩
    have F1 := Lib.hid (F0.out.step b1)
    clear b1 F0
    obtain ⟨r0, r1, r2⟩ := F1.out.r.cells
    have g0 := F1.out.r.frozen 0
    have g1 := F1.out.r.frozen 1
    have g2 := F1.out.r.frozen 2
    go_wp2
    refine bodyPost_ret (v := .tuple #[.agg #[.int .i64 0, .int .i64 0, .slice none 0 0], .bool false]) (by simp [results, Try.results19, go_sem, r0, r1, r2]) rfl ⟨none, 0, rfl, OwnI.none_, ?_⟩
    exact ((F1.out.b.setCell (by simp <;> omega) _).setCell (by simp <;> omega) _).setCell (by simp <;> omega) _
  | true =>
    have HC := Lib.hid (fun W i => specGood_is wd hg a l c _ true W i (Nat.le_refl _) hn hs)
    cases hmt : motB mx my with
    | false =>
      rw [moveR_no (by unfold movB; rw [hmt]; simp)]
      have HG := Lib.hid (fun W => specMot_is mx my false W hmt)
      clear hs hmt
      go_enter Try.func19, Try.ntmps19
      go_wp2_with fail
      rw [HW.out]
      refine (HC.out _ F0.out.i0).mono ?_
      rintro e w1 ⟨rfl, b1⟩
      have F1 := Lib.hid (F0.out.step b1)
      clear b1 F0
      obtain ⟨m0, m1⟩ := F1.out.m.cells
      go_wp2_with fail
      refine (HG.out _).mono ?_
      rintro e w2 ⟨rfl, b2⟩
      have F2 := Lib.hid (F1.out.step b2)
      clear b2 F1 m0 m1
      obtain ⟨r0, r1, r2⟩ := F2.out.r.cells
      have g0 := F2.out.r.frozen 0
      have g1 := F2.out.r.frozen 1
      have g2 := F2.out.r.frozen 2
      go_wp2
      refine bodyPost_ret (v := .tuple #[.agg #[.int .i64 0, .int .i64 0, .slice none 0 0], .bool false]) (by simp [results, Try.results19, go_sem, r0, r1, r2]) rfl ⟨none, 0, rfl, OwnI.none_, ?_⟩
      exact ((F2.out.b.setCell (by simp <;> omega) _).setCell (by simp <;> omega) _).setCell (by simp <;> omega) _
    | true =>
      rw [moveR_yes (movB_iff.2 ⟨hs, hmt⟩)]
      have HG := Lib.hid (fun W => specMot_is mx my true W hmt)
      have hsh := good_shape hs
      obtain ⟨⟨s1, s2⟩, s3, s4⟩ := shapeB_iff.1 hsh
      have hmm := motB_iff.1 hmt
      have hlen := good_len hs
      obtain ⟨W, rfl⟩ := Int.eq_ofNat_of_zero_le (show 0 ≤ wd by omega)
      obtain ⟨H, rfl⟩ := Int.eq_ofNat_of_zero_le (show 0 ≤ hg by omega)
      rw [← Int.natCast_mul] at hlen
      simp only [Int.toNat_natCast]
      have HMV := Lib.hid (fun Wd i => specMv_any W H a l c mx my Wd i hn (by omega) (by omega) (by omega) hmm)
      unfold FOne at HMV
      clear hs hmt hsh hlen hmm
      generalize mvR W H l mx my = q at *
      go_enter Try.func19, Try.ntmps19
      go_wp2_with fail
      rw [HW.out]
      refine (HC.out _ F0.out.i0).mono ?_
      rintro e w1 ⟨rfl, b1⟩
      have F1 := Lib.hid (F0.out.step b1)
      clear b1 F0
      obtain ⟨m0, m1⟩ := F1.out.m.cells
      go_wp2_with fail
      refine (HG.out _).mono ?_
      rintro e w2 ⟨rfl, b2⟩
      have F2 := Lib.hid (F1.out.step b2)
      clear b2 F1 m0 m1
      obtain ⟨m0, m1⟩ := F2.out.m.cells
      obtain ⟨k0, k1, k2⟩ := F2.out.k0.cells
      go_wp2_with fail
      refine (HMV.out _ F2.out.i0).mono ?_
      rintro e w3 ⟨a3, c3, rfl, o3, b3⟩
      have F3 := Lib.hid (F2.out.step b3)
      have HO := Lib.hid o3
      have hz := F2.out.r.lt
      clear b3 F2 m0 m1 k0 k1 k2 o3
      obtain ⟨r0, r1, r2⟩ := F3.out.r.cells
      have g0 := F3.out.r.frozen 0
      have g1 := F3.out.r.frozen 1
      have g2 := F3.out.r.frozen 2
      go_wp2
      refine bodyPost_ret (v := .tuple #[.agg #[.int .i64 W, .int .i64 H, .slice a3 q.length c3], .bool true]) (by simp [results, Try.results19, go_sem, r0, r1, r2]) rfl ⟨a3, c3, rfl, ?_, ?_⟩
      · exact (ownI_set (ownI_set (ownI_set HO.out (by first | omega | (simp <;> omega)) _) (by first | omega | (simp <;> omega)) _) (by first | omega | (simp <;> omega)) _).more (by omega)
      · exact ((F3.out.b.setCell (by simp <;> omega) _).setCell (by simp <;> omega) _).setCell (by simp <;> omega) _
end Go.Proofs.Ytggdkibbfmjelaa
namespace Go.Proofs.Ytggdkibbfmjelaa
open Go.RowKit
set_option linter.unusedVariables false
set_option linter.unusedSimpArgs false
theorem At.grownQ {w w' : World} {a : Option Addr} {g bs e n size : Nat} {l : List Int} {v : Value} {xs : List Value} (h : At w a g l) (o : w.ownsRow bs e size v n xs) (he : e ≠ 3) (k : w.grownBy w' v.ownBlock) : At w' a g l := by
  rcases h with h | ⟨h1, h2⟩
  · exact .inl h
  · exact .inr ⟨h1, h2.of_block (k.block g h2.lt (fun e9 => own_ne_row o h2 he e9.symm))⟩
theorem Fb.grownQ {w w' : World} {B U bs e n size : Nat} {es : List FE} {v : Value} {xs : List Value} (h : Fb w B U es) (o : w.ownsRow bs e size v n xs) (he : e ≠ 3) (k : w.grownBy w' v.ownBlock) : Fb w' B U es :=
  ⟨fun j h1 => by obtain ⟨a, b, c⟩ := h.row j h1; exact ⟨a, b, c.grownQ o he k⟩, h.ne⟩
theorem ownRow_past {w w' : World} {base e size n g : Nat} {v : Value} {xs : List Value} (h : w.ownsRow base e size v n xs) (t : w.grownBy w' (some g)) (hne : ∀ j, v.ownBlock = some j → j ≠ g) : w'.ownsRow base e size v n xs :=
  h.kept (row := some g) t (by cases h1 : v.ownBlock with | none => exact .inl rfl | some k => exact .inr (by intro e9; injection e9 with e9; exact hne k h1 e9))
structure Ns (w : World) (wa ha : Int) (aa : Option Addr) (la : List Int) (ca : Nat) (wb hb : Int) (ab : Option Addr) (lb : List Int) (cb : Nat) (mx my : Int) (mb lx : Nat) (q : Value) (es : List FE) (ad : Option Addr) (l : List Int) (c : Nat) (wr : World) : Prop where
  f : Lx2 w wa ha aa la ca wb hb ab lb cb wr
  m : MBox wr mb 24 mx my
  x : Box wr lx 34 (.int .i64 wb) (.int .i64 hb) (.slice ad l.length c)
  i : Ints .i64 wr wr.heap.size ad l
  r : wr.ownsRow (w.heap.size + 2) 34 3 q es.length (fvs es)
  b : Fb wr (lx + 1) wr.heap.size es
  o : w.heap.size + 2 ≤ mb ∧ mb < lx
  q : ∀ j, q.ownBlock = some j → j ≠ lx ∧ j ≠ mb
section
variable {w wr w2 w4 : World} {wa ha wb hb mx my : Int} {aa ab ad : Option Addr} {la lb l : List Int} {ca cb c mb lx : Nat} {q : Value} {es : List FE}
theorem Ns.step (h : Ns w wa ha aa la ca wb hb ab lb cb mx my mb lx q es ad l c wr) (b : Below wr.heap.size wr w2) : Ns w wa ha aa la ca wb hb ab lb cb mx my mb lx q es ad l c w2 :=
  ⟨h.f.step b, h.m.below b, h.x.below b, ints_below h.i b, ownRow_keeps h.r b, (h.b.below b (Nat.le_refl _)).more (Nat.le_refl _) b.size, h.o, h.q⟩
/-- the next field, laid into the last one's box -/
structure Nsm (w : World) (wa ha : Int) (aa : Option Addr) (la : List Int) (ca : Nat) (wb hb : Int) (ab : Option Addr) (lb : List Int) (cb : Nat) (mx my : Int) (mb lx : Nat) (q : Value) (es : List FE) (a' : Option Addr) (l' : List Int) (c' g B : Nat) (w3 : World) : Prop where
  f : Lx2 w wa ha aa la ca wb hb ab lb cb w3
  m : MBox w3 mb 24 mx my
  x : Box w3 lx 34 (.int .i64 wb) (.int .i64 hb) (.slice a' l'.length c')
  r : w3.ownsRow (w.heap.size + 2) 34 3 q es.length (fvs es)
  b : Fb w3 (lx + 1) B es
  a : At w3 a' g l'
  g : lx + 1 ≤ g ∧ B ≤ g ∧ g < w3.heap.size
  o : w.heap.size + 2 ≤ mb ∧ mb < lx
  q : ∀ j, q.ownBlock = some j → j ≠ lx ∧ j ≠ mb
theorem Ns.laid {a' : Option Addr} {l' : List Int} {c' : Nat} (h : Ns w wa ha aa la ca wb hb ab lb cb mx my mb lx q es ad l c wr) (b : Below wr.heap.size wr w2) (h0 : 0 < l'.length) (g : Nat) (hg : wr.heap.size ≤ g) (hgt : At w2 a' g l') :
    Nsm w wa ha aa la ca wb hb ab lb cb mx my mb lx q es a' l' c' g wr.heap.size (((w2.setCell ⟨lx, 0, none⟩ (.int .i64 wb)).setCell ⟨lx, 1, none⟩ (.int .i64 hb)).setCell ⟨lx, 2, none⟩ (.slice a' l'.length c')) := by
  have h2 := h.step b
  have hzx := h.x.lt
  obtain ⟨o1, o2⟩ := h.o
  have t1 := turn_set3 w2 lx 0 1 2 (.int .i64 wb) (.int .i64 hb) (.slice a' l'.length c')
  have hg3 : At _ a' g l' := hgt.turn t1 (by omega)
  refine ⟨h2.f.turn t1 (by omega), h2.m.turn t1 (by omega), h2.x.set3 _ _ _, ownRow_past h2.r t1 (fun j hj => (h2.q j hj).1), (h.b.below b (Nat.le_refl _)).past t1 (Nat.lt_succ_self lx), hg3, ⟨by omega, hg, ?_⟩, h.o, h.q⟩
  rcases hg3 with h9 | ⟨_, h9⟩
  · rw [h9] at h0; simp at h0
  · exact h9.lt
theorem Nsm.add {a' : Option Addr} {l' : List Int} {c' g B : Nat} {q' : Value} (h : Nsm w wa ha aa la ca wb hb ab lb cb mx my mb lx q es a' l' c' g B w2) (ob : Obj) (hr : w4.ownsRow (w.heap.size + 2) 34 3 q' (es.length + 1) (fvs es ++ [.int .i64 wb, .int .i64 hb, .slice a' l'.length c'])) (k : (w2.alloc ob).grownBy w4 q.ownBlock) (hat : q'.ownBlock = q.ownBlock ∨ q'.ownBlock = some (w2.alloc ob).heap.size) :
    Ns w wa ha aa la ca wb hb ab lb cb mx my mb lx q' (es ++ [⟨wb, hb, a', l', c', g⟩]) a' l' c' w4 := by
  obtain ⟨g1, g2, g3⟩ := h.g
  obtain ⟨o1, o2⟩ := h.o
  have hzx := h.x.lt
  have hra := ownRow_keeps h.r (below_all w2 ob)
  have hz : w2.heap.size < (w2.alloc ob).heap.size := by simp
  have hz4 := k.size
  have ha4 : At w4 a' g l' := (h.a.below (below_all w2 ob)).grownQ hra (by decide) k
  refine ⟨h.f.grown4 h.r ob k (Nat.le_refl _), ?_, (h.x.below (below_all w2 ob)).grown k (fun e9 => (h.q _ e9.symm).1 rfl), ha4.ints, ?_, ?_, h.o, ?_⟩
  · exact (k.block mb (by have := h.m.lt; omega) (fun e9 => (h.q _ e9.symm).2 rfl)).trans (h.m.below (below_all w2 ob))
  · rw [List.length_append, fvs_append]; exact hr
  · exact (Fb.snoc ((h.b.below (below_all w2 ob) (by omega)).grownQ hra (by decide) k) g1 g2 ha4).more (Nat.le_refl _) (by show g + 1 ≤ _; omega)
  · intro j hj
    rcases hat with h9 | h9
    · exact h.q j (by rw [← h9]; exact hj)
    · rw [h9] at hj; injection hj with hj; omega
end
theorem set3_new (w2 : World) (p q r : Addr) (u v x : Value) (o : Obj) : ((((w2.setCell p u).setCell q v).setCell r x).alloc o).heap[w2.heap.size]? = some o := by
  have h := heap_alloc_new (((w2.setCell p u).setCell q v).setCell r x) o
  rwa [size_set3] at h
theorem row_of_own3 {w : World} {B n cp g size : Nat} {e : TypeId} {xs : List Value} (h : w.ownsRow B e size (.slice (some ⟨g, 0, none⟩) n cp) n xs) : Row w g e xs := by
  obtain ⟨h1, ⟨h2, h3⟩ | ⟨g', cap, cur, h2, hb, hh, hc, hcm, hcs, hx⟩⟩ := h
  · cases h2
  · injection h2 with e1 e2 e3
    injection e1 with e1
    injection e1 with e1
    subst e1
    refine ⟨cur, hh, fun k hk => ?_⟩
    have e : xs[k]? = cur[k]? := by
      rw [← hx, List.getElem?_take]
      rw [h1] at hk
      rw [if_pos hk]
      simp
    rw [← e]
    exact List.getElem?_eq_getElem hk
theorem Ns.fin {w wr : World} {wa ha wb hb mx my : Int} {aa ab ad : Option Addr} {la lb l : List Int} {ca cb c mb lx : Nat} {q : Value} {es : List FE} (h : Ns w wa ha aa la ca wb hb ab lb cb mx my mb lx q es ad l c wr) (h0 : 0 < es.length) : ∃ a cap, q = .slice a es.length cap ∧ Flds wr wr.heap.size a es := by
  obtain ⟨g, cap, rfl⟩ := ownM_slice h.r h0
  refine ⟨_, cap, rfl, Flds.of_row (row_of_own3 h.r) (row_of_own3 h.r).lt fun e he => ?_⟩
  obtain ⟨j, hj, rfl⟩ := List.getElem_of_mem he
  exact h.b.ints hj
theorem specMv_good {wd hg : Int} {l : List Int} (h : goodB wd hg l = true) {mx my : Int} (hm : motB mx my = true) (a : Option Addr) (c : Nat) (Wd : World) (i : Ints .i64 Wd Wd.heap.size a l) :
    Calls Try.prog 58 #[.agg #[.int .i64 wd, .int .i64 hg, .slice a l.length c], .agg #[.int .i64 mx, .int .i64 my]] Wd (FOne wd hg (mvR wd.toNat hg.toNat l mx my) Wd) := by
  obtain ⟨⟨s1, s2⟩, s3, s4⟩ := shapeB_iff.1 (good_shape h)
  have hl := good_len h
  obtain ⟨W, rfl⟩ := Int.eq_ofNat_of_zero_le (show 0 ≤ wd by omega)
  obtain ⟨H, rfl⟩ := Int.eq_ofNat_of_zero_le (show 0 ≤ hg by omega)
  rw [← Int.natCast_mul] at hl
  have h9 := (good_le h).2
  exact specMv_any W H a l c mx my Wd i (by omega) (by omega) (by omega) (by omega) (motB_iff.1 hm)
set_option maxRecDepth 100000 in
set_option maxHeartbeats 8000000 in
theorem specNow_any (wa ha : Int) (aa : Option Addr) (la : List Int) (ca : Nat) (wb hb : Int) (ab : Option Addr) (lb : List Int) (cb : Nat) (s : Int) (w : World) (h1 : Ints .i64 w w.heap.size aa la) (h2 : Ints .i64 w w.heap.size ab lb) (n1 : la.length ≤ 1048576) (n2 : lb.length ≤ 1048576) :
    Calls Try.prog 36 #[.agg #[.int .i64 wa, .int .i64 ha, .slice aa la.length ca], .agg #[.int .i64 wb, .int .i64 hb, .slice ab lb.length cb], .int .i64 s] w (RsRet (ncR wa ha la wb hb lb s) (ncB wa ha la wb hb lb s) w) := by
  obtain ⟨i0, hi0', hz0, hz1, hz2⟩ := info_parts infoField
  have F0 := Lib.hid ((Lx2.new (wd0 := wa) (hg0 := ha) (c0 := ca) (wd1 := wb) (hg1 := hb) (c1 := cb) h1 h2).step (below_all _ (.cells #[] 34)))
  have OW0 := Lib.hid (World.ownsRow_made (base := w.heap.size + 2) (e := 34) (size := 3) ((w.alloc (.cells #[.int .i64 wa, .int .i64 ha, .slice aa la.length ca] 34)).alloc (.cells #[.int .i64 wb, .int .i64 hb, .slice ab lb.length cb] 34)) #[] 0 (by simp) (by unfold maxLen; omega) rfl)
  have ZW := Lib.hid (show ((w.alloc (.cells #[.int .i64 wa, .int .i64 ha, .slice aa la.length ca] 34)).alloc (.cells #[.int .i64 wb, .int .i64 hb, .slice ab lb.length cb] 34)).heap.size = w.heap.size + 1 + 1 from by simp)
  rw [ZW.out] at OW0
  have zq : w.heap.size + 2 < (((w.alloc (.cells #[.int .i64 wa, .int .i64 ha, .slice aa la.length ca] 34)).alloc (.cells #[.int .i64 wb, .int .i64 hb, .slice ab lb.length cb] 34)).alloc (.cells #[] 34)).heap.size := by simp
  obtain ⟨W0, hW0⟩ : ∃ W, ((w.alloc (.cells #[.int .i64 wa, .int .i64 ha, .slice aa la.length ca] 34)).alloc (.cells #[.int .i64 wb, .int .i64 hb, .slice ab lb.length cb] 34)).alloc (.cells #[] 34) = W := ⟨_, rfl⟩
  rw [hW0] at F0 OW0 zq
  have HW := Lib.hid hW0
  have HBM := Lib.hid (fun W i1 i2 => specBest_any wa ha aa la ca wb hb ab lb cb W i1 i2 n1 n2)
  clear h1 h2 hW0 ZW
  cases hv : ncB wa ha la wb hb lb s with
  | false =>
    rw [ncR_no hv]
    cases hbs : bsB wa ha la wb hb lb with
    | false =>
      rw [hbs] at HBM
      clear hv hbs
      generalize bsX wa ha la wb hb lb = mx at *
      generalize bsY wa ha la wb hb lb = my at *
      go_enter Try.func36, Try.ntmps36
      have y0 := F0.out.k0.cells.1
      go_wp2_with fail
      rw [HW.out]
      refine (HBM.out _ F0.out.i0 F0.out.i1).mono ?_
      rintro e w1 ⟨rfl, b1⟩
      have F1 := Lib.hid (F0.out.step b1)
      have F2 := Lib.hid (F1.out.step (below_all w1 (.cells #[.int .i64 mx, .int .i64 my] 24)))
      clear b1 F0 y0
      go_wp2
      go_ret2
      exact ⟨_, _, [], rfl, rfl, .inl rfl, F2.out.b⟩
    | true =>
      have hrg : (decide (1 ≤ s) && decide (s ≤ 6)) = false := by unfold ncB at hv; rw [hbs] at hv; simpa using hv
      have HIN := Lib.hid (fun W => l1In_is s 1 6 false W hrg)
      rw [hbs] at HBM
      clear hv hbs hrg
      generalize bsX wa ha la wb hb lb = mx at *
      generalize bsY wa ha la wb hb lb = my at *
      go_enter Try.func36, Try.ntmps36
      go_wp2_with fail
      rw [HW.out]
      refine (HBM.out _ F0.out.i0 F0.out.i1).mono ?_
      rintro e w1 ⟨rfl, b1⟩
      have F1 := Lib.hid (F0.out.step b1)
      have F2 := Lib.hid (F1.out.step (below_all w1 (.cells #[.int .i64 mx, .int .i64 my] 24)))
      clear b1 F0
      go_wp2_with fail
      refine (HIN.out _).mono ?_
      rintro e w2 ⟨rfl, rfl⟩
      go_wp2
      go_ret2
      exact ⟨_, _, [], rfl, rfl, .inl rfl, F2.out.b⟩
  | true =>
    rw [ncR_yes hv]
    obtain ⟨hbs, s1, s6⟩ := ncB_iff.1 hv
    obtain ⟨hsm, hmt⟩ := best_yes hbs
    obtain ⟨_, gb, ew, eh⟩ := same_iff.1 hsm
    clear ew eh
    rw [hbs] at HBM
    have HIN := Lib.hid (fun W => l1In_is s 1 6 true W (by simp; omega))
    obtain ⟨n, rfl⟩ := Int.eq_ofNat_of_zero_le (show 0 ≤ s by omega)
    simp only [Int.toNat_natCast]
    generalize bsX wa ha la wb hb lb = mx at *
    generalize bsY wa ha la wb hb lb = my at *
    have HLE := Lib.hid (fun k => (good_le (it_good gb mx my k)))
    have HMV : Hid (∀ k a c Wd, Ints .i64 Wd Wd.heap.size a (itM wb.toNat hb.toNat mx my lb k) → Calls Try.prog 58 #[.agg #[.int .i64 wb, .int .i64 hb, .slice a (itM wb.toNat hb.toNat mx my lb k).length c], .agg #[.int .i64 mx, .int .i64 my]] Wd (FOne wb hb (itM wb.toNat hb.toNat mx my lb (k + 1)) Wd)) := Lib.hid (fun k a c Wd i => specMv_good (it_good gb mx my k) hmt a c Wd i)
    have HPS := Lib.hid (fun k => ncP_step wb hb lb mx my k)
    have HI0 := Lib.hid (show itM wb.toNat hb.toNat mx my lb 0 = lb from rfl)
    have HPZ := Lib.hid (ncP_zero wb hb lb mx my)
    have hn6 : n ≤ 6 := by omega
    have hn1 : 1 ≤ n := by omega
    clear hv hbs hsm hmt gb s1 s6
    unfold FOne at HMV
    generalize itM wb.toNat hb.toNat mx my lb = L at *
    generalize ncP wb hb lb mx my = P at *
    go_enter Try.func36, Try.ntmps36
    go_wp2_with fail
    rw [HW.out]
    refine (HBM.out _ F0.out.i0 F0.out.i1).mono ?_
    rintro e w1 ⟨rfl, b1⟩
    have F1 := Lib.hid (F0.out.step b1)
    have OW1 := Lib.hid (ownRow_keeps OW0.out b1)
    have z1 := b1.size
    clear b1 F0 OW0 HBM HW
    go_wp2_with fail
    refine (HIN.out _).mono ?_
    rintro e w2 ⟨rfl, rfl⟩
    obtain ⟨k0, k1, k2⟩ := F1.out.k1.cells
    have q1 : w.heap.size + 1 < w1.heap.size := F1.out.k1.lt
    have q2 : ¬ w.heap.size + 1 = w1.heap.size := by omega
    go_wp2
    clear k0 k1 k2 q1 q2
    have HN0 : Hid (Ns w wa ha aa la ca wb hb ab lb cb mx my w1.heap.size (w1.heap.size + 1) (.slice (some ⟨w.heap.size + 1 + 1, 0, none⟩) 0 0) [] ab (L 0) cb ((w1.alloc (.cells #[.int .i64 mx, .int .i64 my] 24)).alloc (.cells #[.int .i64 wb, .int .i64 hb, .slice ab lb.length cb] 34))) := Lib.hid (by
      rw [HI0.out]
      have F4 := (F1.out.step (below_all w1 (.cells #[.int .i64 mx, .int .i64 my] 24))).step (below_all _ (.cells #[.int .i64 wb, .int .i64 hb, .slice ab lb.length cb] 34))
      refine ⟨F4, (MBox.new w1 24 mx my).below (below_all _ _), ?_, F4.i1, (ownRow_keeps (ownRow_keeps OW1.out (below_all _ _)) (below_all _ _)), Fb.nil, ⟨by omega, by omega⟩, ?_⟩
      · have h := Box.new (w1.alloc (.cells #[.int .i64 mx, .int .i64 my] 24)) 34 (.int .i64 wb) (.int .i64 hb) (.slice ab lb.length cb)
        simp only [World.size_alloc] at h
        exact h
      · intro j hj
        have hj2 : w.heap.size + 1 + 1 = j := by simpa [Value.ownBlock] using hj
        omega)
    generalize w1.heap.size + 1 = lx at *
    generalize w1.heap.size = mb at *
    clear F1 OW1 HIN
    go_loopw [8, 12] (fun q i wr => ∃ es : List FE, ∃ ad c, es.length ≤ n ∧ i = .int .i64 es.length ∧ es.map FE.plain = P es.length ∧ Ns w wa ha aa la ca wb hb ab lb cb mx my mb lx q es ad (L es.length) c wr) (fun _ i _ => n - (intOf i).toNat)
    case atStart => exact ⟨[], ab, cb, Nat.zero_le _, rfl, by rw [show ([] : List FE).length = 0 from rfl, HPZ.out]; rfl, HN0.out⟩
    case round =>
      clear HN0
      obtain ⟨es, ad, c, hk, rfl, hP, hN⟩ := hrel
      have HN := Lib.hid hN
      have HP := Lib.hid hP
      have hzw := hN.f.b.size
      clear hN hP
      by_cases hlt : es.length < n
      · have hi : (es.length : Int) < (n : Int) := by omega
        obtain ⟨k0, k1, k2⟩ := HN.out.x.cells
        obtain ⟨m0, m1⟩ := HN.out.m.cells
        have HK := Lib.hid (fun a c Wd i => HMV.out es.length a c Wd i)
        have hLl := (HLE.out (es.length + 1)).1
        go_wp2_with fail
        refine (HK.out _ _ _ HN.out.i).mono ?_
        rintro e w2 ⟨a', c', rfl, o2, b2⟩
        have HN2 := Lib.hid (HN.out.step b2)
        obtain ⟨g, hg, hgt⟩ := o2
        have HN3 := Lib.hid (HN.out.laid (c' := c') b2 hLl g hg hgt)
        obtain ⟨k0', k1', k2'⟩ := HN2.out.x.cells
        have f0 := HN2.out.x.frozen 0
        have f1 := HN2.out.x.frozen 1
        have f2 := HN2.out.x.frozen 2
        clear b2 k0 k1 k2 m0 m1 HK hgt HN HN2
        obtain ⟨k0, k1, k2⟩ := HN3.out.x.cells
        have hz3 := HN3.out.f.b.size
        go_wp2_with (at_builtin; go_loud (refine wpList_append_own_at _ rfl _ _ 52 rfl (w.heap.size + 2) 34 i0 (.agg #[.int .i64 0, .int .i64 0, .slice none 0 0]) 3 40 Try.underlying52 hi0' hz0 hz1 hz2 rfl (by decide) u8 es.length (fvs es) rfl (HN3.out.r.alloc _) ⟨_, 0, none⟩ 1 1 [.int .i64 wb, .int .i64 hb, .slice a' (L (es.length + 1)).length c'] rfl rfl (World.news_of_block (set3_new _ _ _ _ _ _ _ _)) (by simp [Value.oneCell']) (by unfold maxLen; omega) (by omega) (by obtain ⟨o1, o2⟩ := HN3.out.o; have h9 := HN3.out.x.lt; rw [World.size_alloc]; omega) ?_); intro q' w4 hown' hgr _ hat; have HN4 := Lib.hid (HN3.out.add _ hown' hgr hat); clear hown' hgr hat)
        go_roundw
        case rel => exact ⟨es ++ [⟨wb, hb, a', L (es.length + 1), c', g⟩], a', c', by simp; omega, by simp, by rw [List.map_append, HP.out, List.length_append, List.length_singleton, HPS.out]; rfl, by rw [List.length_append, List.length_singleton]; exact HN4.out⟩
        case measure => simp [intOf]; omega
      · have hen : es.length = n := by omega
        have hge : ¬ (es.length : Int) < (n : Int) := by omega
        have HEN := Lib.hid hen
        have hpos : 0 < es.length := by omega
        obtain ⟨a9, c9, rfl, hF⟩ := HN.out.fin hpos
        have HF := Lib.hid hF
        clear hen hF
        go_wp2
        go_ret2
        exact ⟨a9, c9, es, rfl, by rw [HP.out, HEN.out], HF.out, HN.out.f.b⟩
end Go.Proofs.Ytggdkibbfmjelaa
namespace Go.Proofs.Ytggdkibbfmjelaa
open Go.RowKit
set_option linter.unusedVariables false
set_option linter.unusedSimpArgs false
set_option maxRecDepth 100000 in
set_option maxHeartbeats 4000000 in
theorem heldFields_any (a : Option Addr) (es : List FE) (c : Nat) (k0 : Int) (w : World) (hl : Flds w w.heap.size a (partF k0 es es.length)) (hn : es.length ≤ 1048576) (hs : lenFs es ≤ 1048576) (h0 : 0 ≤ k0) (h1 : k0 ≤ 1048576) :
    Calls Try.prog 40 #[.slice a es.length c, .int .i64 k0] w fun e w' => e = .returned (.int .i64 (k0 + (offF es es.length : Int))) ∧ w = w' := by
  have HL := Lib.hid hl
  have HLE := Lib.hid (lenF_le es)
  have HST := Lib.hid (fun k (h : k < es.length) => offF_step h)
  have HSZ := Lib.hid (fun e he => Nat.le_trans (le_lenFs (es := es) e he) hs)
  have HOF := Lib.hid (fun k => show offF es k = 2 * k + lenF es k from rfl)
  clear hl
  go_enter Try.func40, Try.ntmps40
  go_wp2
  go_loop [1, 5] (fun q i => ∃ k : Nat, k ≤ es.length ∧ i = .int .i64 k ∧ q = .int .i64 (k0 + (offF es k : Int))) (fun _ i => es.length - (intOf i).toNat)
  case atStart => exact ⟨0, Nat.zero_le _, rfl, by simp [offF, lenF_zero]⟩
  case round =>
    obtain ⟨k, hk, rfl, rfl⟩ := hrel
    have hle := HLE.out k
    have hof := HOF.out k
    by_cases hlt : k < es.length
    · have hkp : k < (partF k0 es es.length).length := by rw [partF_len]; exact hlt
      obtain ⟨b, o, rfl, hb, q0, q1, q2, q3⟩ := HL.out.at_ hkp
      have e9 := partF_get (k0 := k0) (es := es) (k := es.length) hkp hlt
      rw [if_pos hlt] at e9
      rw [e9] at q0 q1 q2 q3
      have hst := HST.out k hlt
      have hsz := HSZ.out _ (List.getElem_mem hlt)
      simp only [FE.mark, marks_length] at q0 q1 q2 q3
      clear e9
      generalize es[k].l.length = n at *
      generalize es[k].ad = ad at *
      generalize es[k].c = c9 at *
      generalize offF es k = f at *
      have HH := Lib.hid (fun W (h : Ints .i64 W W.heap.size ad (marks (k0 + (f : Int) + 2) n)) => heldIntsW_any ad n c9 W.heap.size (k0 + (f : Int) + 2) W h (by omega) (by omega) (by omega))
      have HI := Lib.hid q3
      have hi : (k : Int) < (es.length : Int) := by omega
      have hi0 : (0 : Int) ≤ (k : Int) := by omega
      have w1 := IntWalk.i64_in (k0 + (f : Int) + 1) (by omega)
      have w2 := IntWalk.i64_in (k0 + (f : Int) + 2) (by omega)
      have ea : k0 + (f : Int) + 1 + 1 = k0 + (f : Int) + 2 := by omega
      have hf2 : (offF es (k + 1) : Int) = (f : Int) + 2 + (n : Int) := by omega
      have HF2 := Lib.hid hf2
      have hneg : ¬ k0 + (f : Int) + 2 + (n : Int) < 0 := by omega
      clear hst hof hle q3 hf2
      go_wp2_with (go_at_call 66; (with_reducible refine (HH.out _ HI.out).mono ?_); rintro e w3 ⟨rfl, rfl⟩)
      go_round
      case rel => exact ⟨k + 1, by omega, by go_num, by have := HF2.out; congr 1; omega⟩
      case measure => simp [intOf]; omega
    · obtain rfl : k = es.length := by omega
      go_wp2
      go_ret
      exact ⟨rfl, rfl⟩
end Go.Proofs.Ytggdkibbfmjelaa
namespace Go.Proofs.Ytggdkibbfmjelaa
open Go.RowKit
set_option linter.unusedVariables false
theorem Lw2.past {w w1 w2 : World} {wd0 hg0 wd1 hg1 : Int} {a0 a1 : Option Addr} {l0 l1 : List Int} {c0 c1 : Nat} {B : Nat} (h : Lw2 w wd0 hg0 a0 l0 c0 wd1 hg1 a1 l1 c1 w1) (b : Below B w1 w2) (hB : w.heap.size + 2 ≤ B) : Lw2 w wd0 hg0 a0 l0 c0 wd1 hg1 a1 l1 c1 w2 :=
  have bb : Below w.heap.size w w2 := h.b.trans (b.mono (by omega))
  ⟨bb, h.s0, h.s1, (h.s0.below bb (Nat.le_refl _)).more bb.size, (h.s1.below bb (Nat.le_refl _)).more bb.size, (b.block _ (by omega)).trans h.k0, (b.block _ (by omega)).trans h.k1⟩
/-- how many numbers a list of plain fields has -/
def lenR (R : List (Int × Int × List Int)) : Nat := (R.map fun p => p.2.2.length).sum
theorem lenFs_lenR (es : List FE) : lenFs es = lenR (es.map FE.plain) := by unfold lenFs lenR; rw [List.map_map]; rfl
theorem lenR_le {R : List (Int × Int × List Int)} {k : Nat} (h : ∀ p ∈ R, p.2.2.length ≤ k) : lenR R ≤ R.length * k := by
  induction R with
  | nil => simp [lenR]
  | cons x r ih =>
    have h1 := h x (by simp)
    have h2 := ih fun p hp => h p (by simp [hp])
    have h3 : lenR (x :: r) = x.2.2.length + lenR r := rfl
    rw [h3, List.length_cons, Nat.add_mul, Nat.one_mul]
    omega
/-- a list of n fields, m numbers, returned in memory of the call's own -/
def FsN (n m : Nat) (R : List (Int × Int × List Int)) (v : Bool) (w : World) (e : Ending) (w' : World) : Prop :=
  ∃ g c, ∃ es : List FE, e = .returned (.tuple #[.slice (some ⟨g, 0, none⟩) n c, .bool v]) ∧ es.length = n ∧ lenFs es = m ∧ es.map FE.plain = R ∧ OwnFs w' w.heap.size w'.heap.size g es ∧ Below w.heap.size w w'
def RsN (n m : Nat) (R : List (Int × Int × List Int)) (v : Bool) (w : World) (e : Ending) (w' : World) : Prop :=
  ∃ a c, ∃ es : List FE, e = .returned (.tuple #[.slice a n c, .bool v]) ∧ es.length = n ∧ lenFs es = m ∧ es.map FE.plain = R ∧ Flds w' w'.heap.size a es ∧ Below w.heap.size w w'
theorem FsRet.n {R : List (Int × Int × List Int)} {v : Bool} {w : World} {e : Ending} {w' : World} (h : FsRet R v w e w') : FsN R.length (lenR R) R v w e w' := by
  obtain ⟨g, c, es, h1, h2, h3, h4⟩ := h
  have hl : es.length = R.length := by rw [← h2]; simp
  exact ⟨g, c, es, by rw [h1, hl], hl, by rw [lenFs_lenR, h2], h2, h3, h4⟩
theorem RsRet.n {R : List (Int × Int × List Int)} {v : Bool} {w : World} {e : Ending} {w' : World} (h : RsRet R v w e w') : RsN R.length (lenR R) R v w e w' := by
  obtain ⟨g, c, es, h1, h2, h3, h4⟩ := h
  have hl : es.length = R.length := by rw [← h2]; simp
  exact ⟨g, c, es, by rw [h1, hl], hl, by rw [lenFs_lenR, h2], h2, h3, h4⟩
theorem markFields_nm (es : List FE) (n m c B U g : Nat) (r : Int) (w : World) (h : OwnFs w B U g es) (h1 : es.length = n) (h2 : lenFs es = m) (hn : n ≤ 64) (hm : m ≤ 1048576) (hr : (1 : Int) + ((2 * n + m : Nat) : Int) = r) :
    Calls Try.prog 39 #[.slice (some ⟨g, 0, none⟩) n c, .int .i64 1] w fun e w' => e = .returned (.int .i64 r) ∧ OwnFs w' B U g (partF 1 es es.length) ∧ Below B w w' := by
  subst h2 hr
  exact (markFields_n es n c B U g 1 w h h1 (by omega) hm (by omega) (by omega)).mono fun e w' h => ⟨h.1, h.2.1, h.2.2.1⟩
theorem heldFields_nm (a : Option Addr) (es : List FE) (n m c : Nat) (r : Int) (w : World) (hl : Flds w w.heap.size a (partF 1 es es.length)) (h1 : es.length = n) (h2 : lenFs es = m) (hn : n ≤ 64) (hm : m ≤ 1048576) (hr : (1 : Int) + ((2 * n + m : Nat) : Int) = r) :
    Calls Try.prog 40 #[.slice a n c, .int .i64 1] w fun e w' => e = .returned (.int .i64 r) ∧ w = w' := by
  subst h1 h2 hr
  have h := heldFields_any a es c 1 w hl (by omega) hm (by omega) (by omega)
  rw [offF_all] at h
  exact h
/-- a drawn answer: a list of fields and a bool; what else is known: P -/
def GotL (P : World → Prop) (n m : Nat) (R : List (Int × Int × List Int)) (rb : Bool) (s t : Value) (wx : World) : Prop :=
  ∃ (a : Option Addr) (c : Nat) (es : List FE), s = .slice a n c ∧ t = .bool rb ∧ es.length = n ∧ lenFs es = m ∧ es.map FE.plain = R ∧ Flds wx wx.heap.size a es ∧ P wx
end Go.Proofs.Ytggdkibbfmjelaa
namespace Go.Proofs.Ytggdkibbfmjelaa
theorem ncR_sum {wa ha : Int} {la : List Int} {wb hb : Int} {lb : List Int} {s : Int} : lenR (ncR wa ha la wb hb lb s) ≤ 1048576 := by
  have h1 : ∀ p ∈ ncR wa ha la wb hb lb s, p.2.2.length ≤ 64 := by
    intro p hp
    cases h : ncB wa ha la wb hb lb s with
    | false => rw [ncR_no h] at hp; simp at hp
    | true =>
      rw [ncR_yes h] at hp
      obtain ⟨hbs, s1, s6⟩ := ncB_iff.1 h
      obtain ⟨hsm, hmt⟩ := best_yes hbs
      obtain ⟨_, gb, _, _⟩ := same_iff.1 hsm
      unfold ncP at hp
      obtain ⟨i, hi, rfl⟩ := List.mem_map.1 hp
      exact (good_le (it_good gb _ _ (i + 1))).2
  have h2 := lenR_le h1
  have h3 := ncR_len (wa := wa) (ha := ha) (la := la) (wb := wb) (hb := hb) (lb := lb) (s := s)
  omega
end Go.Proofs.Ytggdkibbfmjelaa
namespace Go.Proofs.Ytggdkibbfmjelaa
open Go.RowKit
set_option linter.unusedVariables false
set_option linter.unusedSimpArgs false
set_option maxRecDepth 100000 in
set_option maxHeartbeats 16000000 in
theorem walk_NcLaw (wd0 hg0 : Int) (a0 : Option Addr) (l0 : List Int) (c0 : Nat) (wd1 hg1 : Int) (a1 : Option Addr) (l1 : List Int) (c1 : Nat) (s : Int) (w : World) (hl0 : Ints .i64 w w.heap.size a0 l0) (hm0 : l0.length ≤ maxLen) (hl1 : Ints .i64 w w.heap.size a1 l1) (hm1 : l1.length ≤ maxLen) :
    Calls Try.prog 9 #[.agg #[.int .i64 wd0, .int .i64 hg0, .slice a0 l0.length c0], .agg #[.int .i64 wd1, .int .i64 hg1, .slice a1 l1.length c1], .int .i64 s] w fun e w' => e = .returned (.bool true) ∧ Below w.heap.size w w' := by
  have hL0 := Lib.hid ((Lw2.new (wd0 := wd0) (hg0 := hg0) (c0 := c0) (wd1 := wd1) (hg1 := hg1) (c1 := c1) hl0 hl1))
  clear hl0 hl1
  have HZ0 := Lib.hid (fun W h0 => szField_any wd0 hg0 a0 l0.length c0 (1048576) W hm0 h0 (by omega))
  have HZ1 := Lib.hid (fun W h0 => szField_any wd1 hg1 a1 l1.length c1 (1048576 - (l0.length : Int)) W hm1 h0 (by omega))
  unfold maxLen at hm0
  unfold maxLen at hm1
  by_cases hn0 : (l0.length : Int) ≤ 1048576
  · rw [if_pos hn0] at HZ0
    by_cases hn1 : (l1.length : Int) ≤ 1048576 - (l0.length : Int)
    · rw [if_pos hn1] at HZ1
      have hq0 : l0.length ≤ 1048576 := by omega
      have hq1 : l1.length ≤ 1048576 := by omega
      have HV := Lib.hid (fun (b0 : Nat) (b1 : Nat) (W : World) (h0 : Ints .i64 W W.heap.size (some ⟨b0, 0, none⟩) l0) (h1 : Ints .i64 W W.heap.size (some ⟨b1, 0, none⟩) l1) => (specNow_any wd0 hg0 (some ⟨b0, 0, none⟩) l0 l0.length wd1 hg1 (some ⟨b1, 0, none⟩) l1 l1.length s W h0 h1 hq0 hq1).mono fun e w' h => h.n)
      have HI := Lib.hid (fun (b0 : Nat) (b1 : Nat) (W : World) (h0 : Ints .i64 W W.heap.size (some ⟨b0, 0, none⟩) l0) (h1 : Ints .i64 W W.heap.size (some ⟨b1, 0, none⟩) l1) => (implNow_any wd0 hg0 (some ⟨b0, 0, none⟩) l0 l0.length wd1 hg1 (some ⟨b1, 0, none⟩) l1 l1.length s W h0 h1 hq0 hq1).mono fun e w' h => h.n)
      have HT0 := Lib.hid (fun (W : World) (h : Ints .i64 W W.heap.size a0 l0) => toField_any wd0 hg0 a0 l0 c0 W h hq0)
      have HT1 := Lib.hid (fun (W : World) (h : Ints .i64 W W.heap.size a1 l1) => toField_any wd1 hg1 a1 l1 c1 W h hq1)
      have hlen : (ncR wd0 hg0 l0 wd1 hg1 l1 s).length ≤ 64 := Nat.le_trans ncR_len (by decide)
      have hsum : lenR (ncR wd0 hg0 l0 wd1 hg1 l1 s) ≤ 1048576 := ncR_sum
      generalize ncR wd0 hg0 l0 wd1 hg1 l1 s = rp at *
      generalize ncB wd0 hg0 l0 wd1 hg1 l1 s = rb at *
      obtain ⟨n9, hn9⟩ : ∃ x, rp.length = x := ⟨_, rfl⟩
      obtain ⟨m9, hm9⟩ : ∃ x, lenR rp = x := ⟨_, rfl⟩
      rw [hn9, hm9] at HV HI
      rw [hn9] at hlen
      rw [hm9] at hsum
      clear hn9 hm9
      unfold RsN at HV
      unfold FsN at HI
      obtain ⟨r9, hr9⟩ : ∃ r : Int, (1 : Int) + ((2 * n9 + m9 : Nat) : Int) = r := ⟨_, rfl⟩
      have hr0 : ¬ r9 < 0 := by omega
      have HR9 := Lib.hid hr9
      clear hr9
      go_enter Try.func9, Try.ntmps9
      go_wp2_with fail
      refine (HZ0.out _ (by omega)).mono ?_
      rintro e w1 ⟨rfl, b⟩
      have z1 := b.size
      simp only [World.size_alloc] at z1
      have hL1 := Lib.hid (hL0.out.step b)
      clear hL0
      clear b HZ0
      obtain ⟨k0, k1, k2⟩ := hL1.out.k1.cells
      go_wp2_with fail
      refine (HZ1.out _ (by omega)).mono ?_
      rintro e w2 ⟨rfl, b⟩
      have z2 := b.size
      have hL2 := Lib.hid (hL1.out.step b)
      clear hL1
      clear b HZ1
      clear k0 k1 k2
      obtain ⟨k0, k1, k2⟩ := hL2.out.k0.cells
      obtain ⟨p0, p1, p2⟩ := hL2.out.k1.cells
      have zl := hL2.out.k1.lt
      go_upto_region 8 with fail
      go_cut [8, 9] (fun s t wx => GotL (fun wx => (Lw2 w wd0 hg0 a0 l0 c0 wd1 hg1 a1 l1 c1 wx)) n9 m9 rp rb s t wx)
      case first =>
        go_region_held3 (fun w' => (w'.cell? ⟨w.heap.size, 0, none⟩ = some (.int .i64 wd0) ∧ w'.cell? ⟨w.heap.size, 1, none⟩ = some (.int .i64 hg0) ∧ w'.cell? ⟨w.heap.size, 2, none⟩ = some (.slice a0 l0.length c0)) ∧ (w'.cell? ⟨w.heap.size + 1, 0, none⟩ = some (.int .i64 wd1) ∧ w'.cell? ⟨w.heap.size + 1, 1, none⟩ = some (.int .i64 hg1) ∧ w'.cell? ⟨w.heap.size + 1, 2, none⟩ = some (.slice a1 l1.length c1)))
          (first | (with_reducible exact ⟨hL103.out.k0.cells, hL103.out.k1.cells⟩) | (with_reducible exact ⟨hL102.out.k0.cells, hL102.out.k1.cells⟩) | (with_reducible exact ⟨hL101.out.k0.cells, hL101.out.k1.cells⟩) | (with_reducible exact ⟨(hL2.out.k0.below (drew_below _)).cells, (hL2.out.k1.below (drew_below _)).cells⟩) | go_keep)
          (first | (go_at_call 20; (with_reducible refine (HT0.out _ ?_).mono ?_); (first | ((with_reducible exact (ints_below hL2.out.i0 (drew_below _))); rintro e w101 ⟨v0, hv0, hy0, rfl, at0, b101⟩; have bb : Below w2.heap.size w2 w101 := below_then (drew_below _) b101; have z101 := bb.size; have hL101 := Lib.hid (hL2.out.step bb); have hA0101 := Lib.hid at0; clear at0 b101 bb))) | (go_at_call 20; (with_reducible refine (HT1.out _ ?_).mono ?_); (first | ((with_reducible exact hL101.out.i1); rintro e w102 ⟨v1, hv1, hy1, rfl, at1, b102⟩; have bb : Below w101.heap.size w101 w102 := b102; have z102 := bb.size; have hL102 := Lib.hid (hL101.out.step bb); have hA0102 := Lib.hid (hA0101.out.below bb); have hA1102 := Lib.hid at1; clear at1 b102 bb))) | (go_at_call 36; (with_reducible refine (HV.out _ _ _ ?_ ?_).mono ?_); (first | ((with_reducible exact hA0102.out.ints); (with_reducible exact hA1102.out.ints); rintro e w103 ⟨a9, c9, es9, rfl, q1, q2, q3, o9, b103⟩; have bb : Below w102.heap.size w102 w103 := b103; have z103 := bb.size; have hL103 := Lib.hid (hL102.out.step bb); have hO := Lib.hid o9; have hQ1 := Lib.hid q1; have hQ2 := Lib.hid q2; have hQ3 := Lib.hid q3; clear o9 q1 q2 q3; clear b103 bb))))
        all_goals (go_wp2_with fail; go_meet)
        all_goals exact ⟨_, c9, es9, rfl, rfl, hQ1.out, hQ2.out, hQ3.out, hO.out, hL103.out⟩
      case rest =>
        obtain ⟨aD, cD, esD, rfl, rfl, u1D, u2D, u3D, xiD, gL⟩ := hcut
        have hLD := Lib.hid gL
        have zcD := hLD.out.k1.lt
        clear gL hL2
        clear k0 k1 k2
        clear p0 p1 p2
        clear HV
        obtain ⟨a3, rfl⟩ : ∃ x, x = aD := ⟨_, rfl⟩
        obtain ⟨c3, rfl⟩ : ∃ x, x = cD := ⟨_, rfl⟩
        obtain ⟨es3, rfl⟩ : ∃ x, x = esD := ⟨_, rfl⟩
        obtain ⟨nD, hnD⟩ : ∃ x, wc.heap.size = x := ⟨_, rfl⟩
        have zD : nD ≤ wc.heap.size := by omega
        have hDFD : Hid (Flds wc nD a3 es3) := Lib.hid (by rw [← hnD]; exact xiD)
        have hE3 := Lib.hid u3D
        clear xiD hnD u1D u2D u3D
        obtain ⟨k0, k1, k2⟩ := hLD.out.k0.cells
        go_wp2_with fail
        refine (HT0.out _ hLD.out.i0).mono ?_
        rintro e wx0 ⟨gx0, hgx0, hzx0, rfl, atx, bx⟩
        have zx0 := bx.size
        clear k0 k1 k2
        obtain ⟨WX0, hW⟩ : ∃ x, wx0.alloc (.cells #[.int .i64 wd0, .int .i64 hg0, .slice (some ⟨gx0, 0, none⟩) l0.length l0.length] 34) = x := ⟨_, rfl⟩
        have sWX0 : WX0.heap.size = wx0.heap.size + 1 := by rw [← hW]; simp
        have BX : Box WX0 wx0.heap.size 34 (.int .i64 wd0) (.int .i64 hg0) (.slice (some ⟨gx0, 0, none⟩) l0.length l0.length) := by rw [← hW]; exact Box.new _ _ _ _ _
        have aX : Below wx0.heap.size wx0 WX0 := by rw [← hW]; exact below_all _ _
        obtain ⟨k0, k1, k2⟩ := (hLD.out.step bx).k1.cells
        have qk1 : w.heap.size + 1 < wx0.heap.size := by omega
        have qk2 : ¬ w.heap.size + 1 = wx0.heap.size := by omega
        have bx' := below_then bx aX
        have hLx0 := Lib.hid (hLD.out.step bx')
        have hDFx0 := Lib.hid (hDFD.out.below bx' (by omega))
        clear hLD hDFD
        have hX0x0 := Lib.hid BX
        have hXA0x0 := Lib.hid (atx.below aX)
        have eX0 := Lib.hid hW
        clear hW bx bx' atx aX BX
        go_wp2_with fail
        rw [eX0.out]
        refine (HT1.out _ hLx0.out.i1).mono ?_
        rintro e wx1 ⟨gx1, hgx1, hzx1, rfl, atx, bx⟩
        have zx1 := bx.size
        clear k0 k1 k2
        clear qk1 qk2
        obtain ⟨WX1, hW⟩ : ∃ x, wx1.alloc (.cells #[.int .i64 wd1, .int .i64 hg1, .slice (some ⟨gx1, 0, none⟩) l1.length l1.length] 34) = x := ⟨_, rfl⟩
        have sWX1 : WX1.heap.size = wx1.heap.size + 1 := by rw [← hW]; simp
        have BX : Box WX1 wx1.heap.size 34 (.int .i64 wd1) (.int .i64 hg1) (.slice (some ⟨gx1, 0, none⟩) l1.length l1.length) := by rw [← hW]; exact Box.new _ _ _ _ _
        have aX : Below wx1.heap.size wx1 WX1 := by rw [← hW]; exact below_all _ _
        obtain ⟨x00, x01, x02⟩ := (hX0x0.out.below bx).cells
        have qx01 : wx0.heap.size < wx1.heap.size := by omega
        have qx02 : ¬ wx0.heap.size = wx1.heap.size := by omega
        have bx' := below_then bx aX
        have hLx1 := Lib.hid (hLx0.out.step bx')
        have hDFx1 := Lib.hid (hDFx0.out.below bx' (by omega))
        have hX0x1 := Lib.hid (hX0x0.out.below bx')
        have hXA0x1 := Lib.hid (hXA0x0.out.below bx')
        clear hLx0 hDFx0 hX0x0 hXA0x0
        have hX1x1 := Lib.hid BX
        have hXA1x1 := Lib.hid (atx.below aX)
        have eX1 := Lib.hid hW
        clear hW bx bx' atx aX BX eX0
        go_wp2_with fail
        rw [eX1.out]
        refine (HI.out _ _ _ hXA0x1.out.ints hXA1x1.out.ints).mono ?_
        rintro e wG ⟨g5, c5, es5, rfl, u1, u2, u3, o5, b5⟩
        have zG := b5.size
        have HL5 := Lib.hid u1
        have HM5 := Lib.hid u2
        have HK5 := Lib.hid (hE3.out.trans u3.symm)
        have hLG := Lib.hid (hLx1.out.step b5)
        have hDFG := Lib.hid (hDFx1.out.below b5 (by omega))
        have hX0G := Lib.hid (hX0x1.out.below b5)
        have hXA0G := Lib.hid (hXA0x1.out.below b5)
        have hX1G := Lib.hid (hX1x1.out.below b5)
        have hXA1G := Lib.hid (hXA1x1.out.below b5)
        clear hLx1 hDFx1 hX0x1 hXA0x1 hX1x1 hXA1x1
        have hGFG := Lib.hid o5
        clear b5 o5 u1 u2 u3 eX1 x00 x01 x02 qx01 qx02
        go_wp2_with fail
        refine (eqFields_n _ a3 es5 es3 n9 c5 c3 _ (hGFG.out.flds.more (by omega)) (hDFG.out.more (by omega)) HL5.out HK5.out (by omega) (by rw [HM5.out]; omega)).mono ?_
        rintro e w20 ⟨rfl, b⟩
        have z20 := b.size
        have hL20 := Lib.hid (hLG.out.step b)
        have hDF20 := Lib.hid (hDFG.out.below b (by omega))
        have hX020 := Lib.hid (hX0G.out.below b)
        have hXA020 := Lib.hid (hXA0G.out.below b)
        have hX120 := Lib.hid (hX1G.out.below b)
        have hXA120 := Lib.hid (hXA1G.out.below b)
        have hGF20 := Lib.hid (hGFG.out.below b (by omega))
        clear hLG hDFG hX0G hXA0G hX1G hXA1G hGFG
        clear b
        have er0 : (rb != rb) = false := by simp
        go_wp2_with fail
        obtain ⟨k0, k1, k2⟩ := hL20.out.k0.cells
        obtain ⟨x0, x1, x2⟩ := hX020.out.cells
        have bd : Below w20.heap.size w20 w20.drew := ⟨rfl, rfl, rfl, Nat.le_refl _, fun _ _ => rfl⟩
        have hL20d := Lib.hid (hL20.out.step bd)
        have hDF20d := Lib.hid (hDF20.out.below bd (by omega))
        have hX020d := Lib.hid (hX020.out.below bd)
        have hXA020d := Lib.hid (hXA020.out.below bd)
        have hX120d := Lib.hid (hX120.out.below bd)
        have hXA120d := Lib.hid (hXA120.out.below bd)
        have hGF20d := Lib.hid (hGF20.out.below bd (by omega))
        clear hL20 hDF20 hX020 hXA020 hX120 hXA120 hGF20
        have z20d : w20.heap.size ≤ w20.drew.heap.size := Nat.le_refl _
        clear bd
        go_region_held3 (fun w' => (w'.cell? ⟨w.heap.size, 0, none⟩ = some (.int .i64 wd0) ∧ w'.cell? ⟨w.heap.size, 1, none⟩ = some (.int .i64 hg0) ∧ w'.cell? ⟨w.heap.size, 2, none⟩ = some (.slice a0 l0.length c0)) ∧ (w'.cell? ⟨wx0.heap.size, 0, none⟩ = some (.int .i64 wd0) ∧ w'.cell? ⟨wx0.heap.size, 1, none⟩ = some (.int .i64 hg0) ∧ w'.cell? ⟨wx0.heap.size, 2, none⟩ = some (.slice (some ⟨gx0, 0, none⟩) l0.length l0.length)))
          (first | exact ⟨hL22.out.k0.cells, hX022.out.cells⟩ | exact ⟨hL21.out.k0.cells, hX021.out.cells⟩ | go_keep)
          (first | (go_at_call 20; (with_reducible refine (HT0.out _ hL20d.out.i0).mono ?_); rintro e w21 ⟨gz0, hgz0, hzz0, rfl, atz, bb⟩; have z21 := bb.size; have hL21 := Lib.hid (hL20d.out.step bb); have hDF21 := Lib.hid (hDF20d.out.below bb (by omega)); have hX021 := Lib.hid (hX020d.out.below bb); have hXA021 := Lib.hid (hXA020d.out.below bb); have hX121 := Lib.hid (hX120d.out.below bb); have hXA121 := Lib.hid (hXA120d.out.below bb); have hGF21 := Lib.hid (hGF20d.out.below bb (by omega)); have hz0 := Lib.hid atz; clear atz; clear bb) | (go_at_call 22; (with_reducible refine (eqField_yes wd0 hg0 _ _ l0 _ _ _ hXA021.out.ints hz0.out.ints hq0).mono ?_); rintro e w22 ⟨rfl, bb⟩; have z22 := bb.size; have hL22 := Lib.hid (hL21.out.step bb); have hDF22 := Lib.hid (hDF21.out.below bb (by omega)); have hX022 := Lib.hid (hX021.out.below bb); have hXA022 := Lib.hid (hXA021.out.below bb); have hX122 := Lib.hid (hX121.out.below bb); have hXA122 := Lib.hid (hXA121.out.below bb); have hGF22 := Lib.hid (hGF21.out.below bb (by omega)); clear bb))
        clear hL20d hDF20d hX020d hXA020d hX120d hXA120d hGF20d hL21 hDF21 hX021 hXA021 hX121 hXA121 hGF21 hz0
        clear k0 k1 k2
        clear x0 x1 x2
        rename_i hHeld
        clear hHeld
        go_wp2_with fail
        obtain ⟨k0, k1, k2⟩ := hL22.out.k1.cells
        obtain ⟨x0, x1, x2⟩ := hX122.out.cells
        have bd : Below w22.heap.size w22 w22.drew := ⟨rfl, rfl, rfl, Nat.le_refl _, fun _ _ => rfl⟩
        have hL22d := Lib.hid (hL22.out.step bd)
        have hDF22d := Lib.hid (hDF22.out.below bd (by omega))
        have hX022d := Lib.hid (hX022.out.below bd)
        have hXA022d := Lib.hid (hXA022.out.below bd)
        have hX122d := Lib.hid (hX122.out.below bd)
        have hXA122d := Lib.hid (hXA122.out.below bd)
        have hGF22d := Lib.hid (hGF22.out.below bd (by omega))
        clear hL22 hDF22 hX022 hXA022 hX122 hXA122 hGF22
        have z22d : w22.heap.size ≤ w22.drew.heap.size := Nat.le_refl _
        clear bd
        go_region_held3 (fun w' => (w'.cell? ⟨w.heap.size + 1, 0, none⟩ = some (.int .i64 wd1) ∧ w'.cell? ⟨w.heap.size + 1, 1, none⟩ = some (.int .i64 hg1) ∧ w'.cell? ⟨w.heap.size + 1, 2, none⟩ = some (.slice a1 l1.length c1)) ∧ (w'.cell? ⟨wx1.heap.size, 0, none⟩ = some (.int .i64 wd1) ∧ w'.cell? ⟨wx1.heap.size, 1, none⟩ = some (.int .i64 hg1) ∧ w'.cell? ⟨wx1.heap.size, 2, none⟩ = some (.slice (some ⟨gx1, 0, none⟩) l1.length l1.length)))
          (first | exact ⟨hL24.out.k1.cells, hX124.out.cells⟩ | exact ⟨hL23.out.k1.cells, hX123.out.cells⟩ | go_keep)
          (first | (go_at_call 20; (with_reducible refine (HT1.out _ hL22d.out.i1).mono ?_); rintro e w23 ⟨gz1, hgz1, hzz1, rfl, atz, bb⟩; have z23 := bb.size; have hL23 := Lib.hid (hL22d.out.step bb); have hDF23 := Lib.hid (hDF22d.out.below bb (by omega)); have hX023 := Lib.hid (hX022d.out.below bb); have hXA023 := Lib.hid (hXA022d.out.below bb); have hX123 := Lib.hid (hX122d.out.below bb); have hXA123 := Lib.hid (hXA122d.out.below bb); have hGF23 := Lib.hid (hGF22d.out.below bb (by omega)); have hz1 := Lib.hid atz; clear atz; clear bb) | (go_at_call 22; (with_reducible refine (eqField_yes wd1 hg1 _ _ l1 _ _ _ hXA123.out.ints hz1.out.ints hq1).mono ?_); rintro e w24 ⟨rfl, bb⟩; have z24 := bb.size; have hL24 := Lib.hid (hL23.out.step bb); have hDF24 := Lib.hid (hDF23.out.below bb (by omega)); have hX024 := Lib.hid (hX023.out.below bb); have hXA024 := Lib.hid (hXA023.out.below bb); have hX124 := Lib.hid (hX123.out.below bb); have hXA124 := Lib.hid (hXA123.out.below bb); have hGF24 := Lib.hid (hGF23.out.below bb (by omega)); clear bb))
        clear hL22d hDF22d hX022d hXA022d hX122d hXA122d hGF22d hL23 hDF23 hX023 hXA023 hX123 hXA123 hGF23 hz1
        clear k0 k1 k2
        clear x0 x1 x2
        rename_i hHeld
        clear hHeld
        obtain ⟨x0, x1, x2⟩ := hX024.out.cells
        go_wp2_with fail
        refine (markFieldB_any wd0 hg0 _ l0 _ gx0 (1) _ hXA024.out hq0 (by omega) (by omega)).mono ?_
        rintro e w25 ⟨rfl, atm, t⟩
        have z25 := t.size
        have hL25 := Lib.hid (hL24.out.turn t (by omega))
        have hDF25 := Lib.hid (hDF24.out.turn t (by omega) (by omega))
        have hX125 := Lib.hid (hX124.out.turn t (by omega))
        have hXA125 := Lib.hid (hXA124.out.turn t (by omega))
        have hGF25 := Lib.hid (hGF24.out.past t (by omega))
        clear hL24 hDF24 hX024 hXA024 hX124 hXA124 hGF24
        clear atm t x0 x1 x2
        obtain ⟨x0, x1, x2⟩ := hX125.out.cells
        go_wp2_with fail
        refine (markFieldB_any wd1 hg1 _ l1 _ gx1 (1 + (l0.length : Int)) _ hXA125.out hq1 (by omega) (by omega)).mono ?_
        rintro e w26 ⟨rfl, atm, t⟩
        have z26 := t.size
        have hL26 := Lib.hid (hL25.out.turn t (by omega))
        have hDF26 := Lib.hid (hDF25.out.turn t (by omega) (by omega))
        have hGF26 := Lib.hid (hGF25.out.past t (by omega))
        clear hL25 hDF25 hX125 hXA125 hGF25
        clear atm t x0 x1 x2
        go_wp2_with fail
        refine (eqFields_n _ a3 es5 es3 n9 c5 c3 _ (hGF26.out.flds.more (by omega)) (hDF26.out.more (by omega)) HL5.out HK5.out (by omega) (by rw [HM5.out]; omega)).mono ?_
        rintro e w27 ⟨rfl, b⟩
        have z27 := b.size
        have hL27 := Lib.hid (hL26.out.step b)
        have hDF27 := Lib.hid (hDF26.out.below b (by omega))
        have hGF27 := Lib.hid (hGF26.out.below b (by omega))
        clear hL26 hDF26 hGF26
        clear b
        go_wp2_with fail
        refine (markFields_nm es5 n9 m9 c5 _ _ g5 r9 _ hGF27.out HL5.out HM5.out (by omega) (by omega) HR9.out).mono ?_
        rintro e w28 ⟨rfl, om, bm⟩
        have z28 := bm.size
        have hL28 := Lib.hid (hL27.out.past bm (by omega))
        have hDF28 := Lib.hid (hDF27.out.below bm (by omega))
        obtain ⟨es6, he6⟩ : ∃ x, partF 1 es5 es5.length = x := ⟨_, rfl⟩
        rw [he6] at om
        have hGF28 := Lib.hid om
        have HE6 := Lib.hid he6
        clear he6 om bm hL27 hDF27 hGF27
        go_wp2_with fail
        refine (heldFields_nm _ es5 n9 m9 c5 r9 _ (by rw [HE6.out]; exact hGF28.out.flds.more (by omega)) HL5.out HM5.out (by omega) (by omega) HR9.out).mono ?_
        rintro e w29 ⟨rfl, rfl⟩
        obtain ⟨k0, k1, k2⟩ := hL28.out.k0.cells
        obtain ⟨p0, p1, p2⟩ := hL28.out.k1.cells
        have zl := hL28.out.k1.lt
        go_upto_region 31 with fail
        go_cut [17, 18] (fun s t wx => GotL (fun wx => (Lw2 w wd0 hg0 a0 l0 c0 wd1 hg1 a1 l1 c1 wx) ∧ (Flds wx nD a3 es3) ∧ (OwnFs wx WX1.heap.size wG.heap.size g5 es6) ∧ wG.heap.size ≤ wx.heap.size) n9 m9 rp rb s t wx)
        case first =>
          go_region_held3 (fun w' => (w'.cell? ⟨w.heap.size, 0, none⟩ = some (.int .i64 wd0) ∧ w'.cell? ⟨w.heap.size, 1, none⟩ = some (.int .i64 hg0) ∧ w'.cell? ⟨w.heap.size, 2, none⟩ = some (.slice a0 l0.length c0)) ∧ (w'.cell? ⟨w.heap.size + 1, 0, none⟩ = some (.int .i64 wd1) ∧ w'.cell? ⟨w.heap.size + 1, 1, none⟩ = some (.int .i64 hg1) ∧ w'.cell? ⟨w.heap.size + 1, 2, none⟩ = some (.slice a1 l1.length c1)))
            (first | (with_reducible exact ⟨hL203.out.k0.cells, hL203.out.k1.cells⟩) | (with_reducible exact ⟨hL202.out.k0.cells, hL202.out.k1.cells⟩) | (with_reducible exact ⟨hL201.out.k0.cells, hL201.out.k1.cells⟩) | (with_reducible exact ⟨(hL28.out.k0.below (drew_below _)).cells, (hL28.out.k1.below (drew_below _)).cells⟩) | go_keep)
            (first | (go_at_call 20; (with_reducible refine (HT0.out _ ?_).mono ?_); (first | ((with_reducible exact (ints_below hL28.out.i0 (drew_below _))); rintro e w201 ⟨v0, hv0, hy0, rfl, at0, b201⟩; have bb : Below w28.heap.size w28 w201 := below_then (drew_below _) b201; have z201 := bb.size; have hL201 := Lib.hid (hL28.out.step bb); have hDF201 := Lib.hid (hDF28.out.below bb (by omega)); have hGF201 := Lib.hid (hGF28.out.below bb (by omega)); have hA0201 := Lib.hid at0; clear at0 b201 bb))) | (go_at_call 20; (with_reducible refine (HT1.out _ ?_).mono ?_); (first | ((with_reducible exact hL201.out.i1); rintro e w202 ⟨v1, hv1, hy1, rfl, at1, b202⟩; have bb : Below w201.heap.size w201 w202 := b202; have z202 := bb.size; have hL202 := Lib.hid (hL201.out.step bb); have hDF202 := Lib.hid (hDF201.out.below bb (by omega)); have hGF202 := Lib.hid (hGF201.out.below bb (by omega)); have hA0202 := Lib.hid (hA0201.out.below bb); have hA1202 := Lib.hid at1; clear at1 b202 bb))) | (go_at_call 37; (with_reducible refine (HI.out _ _ _ ?_ ?_).mono ?_); (first | ((with_reducible exact hA0202.out.ints); (with_reducible exact hA1202.out.ints); rintro e w203 ⟨a9, c9, es9, rfl, q1, q2, q3, o9, b203⟩; have bb : Below w202.heap.size w202 w203 := b203; have z203 := bb.size; have hL203 := Lib.hid (hL202.out.step bb); have hDF203 := Lib.hid (hDF202.out.below bb (by omega)); have hGF203 := Lib.hid (hGF202.out.below bb (by omega)); have hO := Lib.hid o9; have hQ1 := Lib.hid q1; have hQ2 := Lib.hid q2; have hQ3 := Lib.hid q3; clear o9 q1 q2 q3; clear b203 bb))))
          all_goals (go_wp2_with fail; go_meet)
          all_goals exact ⟨_, c9, es9, rfl, rfl, hQ1.out, hQ2.out, hQ3.out, hO.out.flds, hL203.out, hDF203.out, hGF203.out, by omega⟩
        case rest =>
          obtain ⟨aH, cH, esH, rfl, rfl, u1H, u2H, u3H, xiH, gL, gDF, gGF, zN⟩ := hcut
          have hLH := Lib.hid gL
          have hDFH := Lib.hid gDF
          have hGFH := Lib.hid gGF
          have zcH := hLH.out.k1.lt
          clear gL gDF gGF hL28 hDF28 hGF28
          clear k0 k1 k2
          clear p0 p1 p2
          clear HI
          have hJ := Lib.hid xiH
          have HLH := Lib.hid u1H
          have HMH := Lib.hid u2H
          have HKH := Lib.hid (hE3.out.trans u3H.symm)
          clear xiH u1H u2H u3H
          go_wp2_with fail
          refine (eqFields_n aH a3 esH es3 n9 cH c3 _ hJ.out (hDFH.out.more (by omega)) HLH.out HKH.out (by omega) (by rw [HMH.out]; omega)).mono ?_
          rintro e w60 ⟨rfl, b⟩
          have z60 := b.size
          have hL60 := Lib.hid (hLH.out.step b)
          have hDF60 := Lib.hid (hDFH.out.below b (by omega))
          have hGF60 := Lib.hid (hGFH.out.below b (by omega))
          clear hLH hDFH hGFH
          clear b hJ
          go_wp2_with fail
          refine (heldFields_nm _ es5 n9 m9 c5 r9 _ (by rw [HE6.out]; exact hGF60.out.flds.more (by omega)) HL5.out HM5.out (by omega) (by omega) HR9.out).mono ?_
          rintro e w61 ⟨rfl, rfl⟩
          go_wp2
          go_ret
          exact ⟨rfl, hL60.out.b⟩
    · rw [if_neg hn1] at HZ1
      go_enter Try.func9, Try.ntmps9
      go_wp2_with fail
      refine (HZ0.out _ (by omega)).mono ?_
      rintro e w1 ⟨rfl, b⟩
      have z1 := b.size
      simp only [World.size_alloc] at z1
      have hL1 := Lib.hid (hL0.out.step b)
      clear hL0
      clear b HZ0
      obtain ⟨k0, k1, k2⟩ := hL1.out.k1.cells
      go_wp2_with fail
      refine (HZ1.out _ (by omega)).mono ?_
      rintro e w2 ⟨rfl, b⟩
      have z2 := b.size
      have hL2 := Lib.hid (hL1.out.step b)
      clear hL1
      clear b HZ1
      clear k0 k1 k2
      go_wp2
      go_ret
      exact ⟨rfl, hL2.out.b⟩
  · rw [if_neg hn0] at HZ0
    go_enter Try.func9, Try.ntmps9
    go_wp2_with fail
    refine (HZ0.out _ (by omega)).mono ?_
    rintro e w1 ⟨rfl, b⟩
    have z1 := b.size
    simp only [World.size_alloc] at z1
    have hL1 := Lib.hid (hL0.out.step b)
    clear hL0
    clear b HZ0
    obtain ⟨k0, k1, k2⟩ := hL1.out.k1.cells
    go_wp2
    go_ret
    exact ⟨rfl, hL1.out.b⟩
end Go.Proofs.Ytggdkibbfmjelaa
