/- Sets of points: a map from points to bools that the call itself has made. -/
import Derived.Test.YthceffkkokgpnaaChecked
import Derived.Test.YthceffkkokgpnaaDrew
import Derived.Maps.OwnSet
import Derived.DeepKeys4
namespace Go.Proofs.Ythceffkkokgpnaa
open Go.RowKit Go.Maps
set_option linter.unusedVariables false
theorem ptLaidOut : laidOutB Try.prog = true := by kernel_rfl
theorem ptRow : (152 : TypeId) < Try.prog.types.size := of_decide_eq_true (by kernel_rfl)
theorem ptKeyed : Keyed Try.prog 152 := Keyed.of_law (deep_law_laid ptLaidOut (m := 2) (by omega) ptRow (by kernel_rfl) (by rw [Try.underlying152]))
theorem zeroBool (w : World) : (zeroValue 4).run Try.prog w = .ok (.bool false) w := by kernel_rfl
theorem ptKeyType : Try.prog.keyType 152 = true := by kernel_rfl
theorem ptCells : Try.prog.cellsOf 152 = 2 := by kernel_rfl
theorem intCells : Try.prog.cellsOf 3 = 1 := by kernel_rfl
theorem tySize : ∃ m, Try.prog.types.size = m + 2 := ⟨Try.prog.types.size - 2, by have : 2 ≤ Try.prog.types.size := of_decide_eq_true (by kernel_rfl); omega⟩
def okI (x : Int) : Prop := -9223372036854775808 ≤ x ∧ x ≤ 9223372036854775807
theorem okI_wf {x : Int} (h : okI x) : (Lit.int .i64 x).wf = true := by unfold okI at h; exact WalkArith.wf_i64 (by omega)
def pkey (x y : Int) : Lit := .string (keyBytes [.int .i64 x, .int .i64 y])
theorem pkey_is {x y : Int} (hx : okI x) (hy : okI y) : keyOf Try.prog 152 (.agg #[.int .i64 x, .int .i64 y]) = some (pkey x y) := by
  have hwx := okI_wf hx
  have hwy := okI_wf hy
  obtain ⟨m, hm⟩ := tySize
  unfold keyOf
  simp only [Try.underlying152]
  rw [if_pos (by simp [ptKeyType, Value.formed, Try.underlying152, ptCells]), hm]
  unfold Program.keyLits
  simp only [Try.underlying152, Value.cells]
  rw [if_pos (by simp [ptCells])]
  simp [intCells, Program.keyLits, Try.underlying3, hwx, hwy, pkey]
theorem pkey_inj {x y x' y' : Int} (hx : okI x) (hy : okI y) (hx' : okI x') (hy' : okI y') (h : pkey x y = pkey x' y') : x = x' ∧ y = y' := by
  have h1 := pkey_is hx hy
  have h2 := pkey_is hx' hy'
  rw [← h] at h2
  have e := ptKeyed.inj h1 h2
  simpa using e
theorem plainElem_bool_inv {H : Type} {P : Program} {e : TypeId} (he : P.underlying e = some .bool) {v : Value} {z : DataW H × List MemPlace} (h : plainElem P e v = some z) : ∃ x, v = .bool x ∧ z = (.lit (.bool x), []) := by
  unfold plainElem at h
  rw [he] at h
  cases v <;> simp at h
  exact ⟨_, rfl, h.symm⟩
/-- block b is a map of at most n entries, made by the call; at the point (x, y) it holds S x y -/
def PSet (w : World) (b n : Nat) (S : Int → Int → Bool) : Prop :=
  ∃ D : DataW Unit, w.ownsMap Try.prog 152 (plainElem Try.prog 4) b n D ∧ ∀ x y, okI x → okI y → D.atKey (pkey x y) (.lit (.bool false)) = .lit (.bool (S x y))
section
variable {w w' : World} {b n : Nat} {S : Int → Int → Bool}
theorem PSet.made (w : World) : PSet (w.alloc (.map #[] 0)) w.heap.size 0 (fun _ _ => false) :=
  ⟨.map [], World.ownsMap_made _ _ _ _, fun x y _ _ => rfl⟩
theorem PSet.lt (h : PSet w b n S) : b < w.heap.size := by obtain ⟨D, h1, _⟩ := h; exact h1.lt
theorem PSet.mono {m : Nat} (h : PSet w b n S) (hm : n ≤ m) : PSet w b m S := by obtain ⟨D, h1, h2⟩ := h; exact ⟨D, h1.mono hm, h2⟩
theorem PSet.kept {row : Option Nat} (h : PSet w b n S) (hg : w.grownBy w' row) (hne : some b ≠ row) : PSet w' b n S := by obtain ⟨D, h1, h2⟩ := h; exact ⟨D, h1.kept hg hne, h2⟩
theorem PSet.below {B : Nat} (h : PSet w b n S) (hb : Below B w w') (hB : b < B) : PSet w' b n S := by
  obtain ⟨D, ⟨es, clock, h3, h4⟩, h2⟩ := h
  exact ⟨D, ⟨es, clock, (hb.block b hB).trans h3, h4⟩, h2⟩
theorem PSet.alloc (h : PSet w b n S) (o : Obj) : PSet (w.alloc o) b n S := by obtain ⟨D, h1, h2⟩ := h; exact ⟨D, h1.alloc o, h2⟩
theorem PSet.drew (h : PSet w b n S) (d : Drew w w') : PSet w' b n S := by obtain ⟨m, rfl⟩ := d; exact h
theorem PSet.setCell (h : PSet w b n S) {a : Addr} (ha : b ≠ a.block) (u : Value) : PSet (w.setCell a u) b n S := by obtain ⟨D, h1, h2⟩ := h; exact ⟨D, h1.setCell ha u, h2⟩
theorem PSet.congr {S' : Int → Int → Bool} (h : PSet w b n S) (e : ∀ x y, okI x → okI y → S x y = S' x y) : PSet w b n S' := by
  obtain ⟨D, h1, h2⟩ := h; exact ⟨D, h1, fun x y hx hy => by rw [h2 x y hx hy, e x y hx hy]⟩
theorem PSet.look {t : TypeId} (h : PSet w b n S) (ht : Try.prog.underlying t = some (.map 152 4)) {x y : Int} (hx : okI x) (hy : okI y) :
    (Instr.lookup t (.map (some b)) (.agg #[.int .i64 x, .int .i64 y]) false).run Try.prog w = .ok (.bool (S x y)) w := by
  obtain ⟨D, h1, h2⟩ := h
  obtain ⟨v, ps, hr, hv⟩ := h1.lookup ptKeyed ht (zeroBool w) (plainElem_bool Try.underlying4 false) (pkey_is hx hy)
  rw [h2 x y hx hy] at hv
  obtain ⟨x', rfl, hz⟩ := plainElem_bool_inv Try.underlying4 hv
  simp only [Prod.mk.injEq, DataW.lit.injEq, Lit.bool.injEq] at hz
  rw [hr, hz.1]
theorem PSet.put {t : TypeId} (h : PSet w b n S) (ht : Try.prog.underlying t = some (.map 152 4)) (hn : n < maxLen) {x y : Int} (hx : okI x) (hy : okI y) (v : Bool) :
    ∃ w', (Instr.mapUpdate t (.map (some b)) (.agg #[.int .i64 x, .int .i64 y]) (.bool v)).run Try.prog w = .ok () w' ∧ PSet w' b (n + 1) (fun p q => if p = x ∧ q = y then v else S p q) ∧ w.grownBy w' (some b) ∧ w'.heap.size = w.heap.size := by
  obtain ⟨D, h1, h2⟩ := h
  obtain ⟨w', hr, h3, h4⟩ := h1.store ptKeyed ht hn (pkey_is hx hy) (plainElem_bool Try.underlying4 v)
  refine ⟨w', hr, ⟨_, h3, fun p q hp hq => ?_⟩, h4.grown, ?_⟩
  · show _ = DataW.lit (.bool (if p = x ∧ q = y then v else S p q))
    by_cases e : p = x ∧ q = y
    · rw [if_pos e]
      obtain ⟨rfl, rfl⟩ := e
      exact atKey_put_same h1.isMap (ptKeyed.key (pkey_is hp hq)) _ _
    · rw [if_neg e, ← h2 p q hp hq]
      exact atKey_put_other (fun e2 => e (pkey_inj hp hq hx hy e2)) _ _
  · obtain ⟨es, clock, es', clock', _, rfl⟩ := h4; simp [ChangeMaps.setBlock]
theorem PSet.del {t : TypeId} (h : PSet w b n S) (ht : Try.prog.underlying t = some (.map 152 4)) {x y : Int} (hx : okI x) (hy : okI y) (ty : TypeId) :
    ∃ w', (Builtin.delete_ #[t, 152] ty #[.map (some b), .agg #[.int .i64 x, .int .i64 y]]).run Try.prog w = .ok (.tuple #[]) w' ∧ PSet w' b n (fun p q => if p = x ∧ q = y then false else S p q) ∧ w.grownBy w' (some b) ∧ w'.heap.size = w.heap.size := by
  obtain ⟨D, h1, h2⟩ := h
  obtain ⟨w', hr, h3, h4⟩ := h1.drop ptKeyed ht (pkey_is hx hy) ty
  refine ⟨w', hr, ⟨_, h3, fun p q hp hq => ?_⟩, h4.grown, ?_⟩
  · show _ = DataW.lit (.bool (if p = x ∧ q = y then false else S p q))
    by_cases e : p = x ∧ q = y
    · rw [if_pos e]
      obtain ⟨rfl, rfl⟩ := e
      exact atKey_del_same _
    · rw [if_neg e, ← h2 p q hp hq]
      exact atKey_del_other (fun e2 => e (pkey_inj hp hq hx hy e2)) _
  · obtain ⟨es, clock, es', clock', _, rfl⟩ := h4; simp [ChangeMaps.setBlock]
end
section
variable (w : World) {ops : Array Oper} {rest : List Oper} {o : Oper} {a : Act} {Q : Exit → Act → World → Prop}
/-- 'm[p]', p a point, at the operation -/
theorem wpList_look_set (hg : o.guard = none) (m x : Operand) (t : TypeId) (hop : o.op = Op.lookup t m x false) (ht : Try.prog.underlying t = some (.map 152 4)) (b n : Nat) (S : Int → Int → Bool) (hm : a.eval m = .map (some b)) (hs : PSet w b n S)
    (p q : Int) (hx : a.eval x = .agg #[.int .i64 p, .int .i64 q]) (hp : okI p) (hq : okI q) (v : Bool) (hv : S p q = v) (hK : wpList Try.prog ops Q rest (a.put o.dst (.bool v)) w) : wpList Try.prog ops Q (o :: rest) a w := by
  refine wpList_plain hg fun K' hK' => ?_
  have hr := hs.look ht hp hq
  rw [hv] at hr
  unfold Oper.wp
  simp [execOp, hop, hm, hx, hr, Result.andThen]
  exact hK' _ _ hK
/-- 'm[p] = v' at the operation -/
theorem wpList_put_set (hg : o.guard = none) (m x y : Operand) (t : TypeId) (hop : o.op = Op.mapUpdate t m x y) (ht : Try.prog.underlying t = some (.map 152 4)) (b n : Nat) (S : Int → Int → Bool) (hm : a.eval m = .map (some b)) (hs : PSet w b n S) (hn : n < maxLen)
    (p q : Int) (hx : a.eval x = .agg #[.int .i64 p, .int .i64 q]) (hp : okI p) (hq : okI q) (v : Bool) (hv : a.eval y = .bool v)
    (hK : ∀ w', PSet w' b (n + 1) (fun p' q' => if p' = p ∧ q' = q then v else S p' q') → w.grownBy w' (some b) → w'.heap.size = w.heap.size → wpList Try.prog ops Q rest (a.put o.dst undef) w') : wpList Try.prog ops Q (o :: rest) a w := by
  refine wpList_plain hg fun K' hK' => ?_
  obtain ⟨w', hr, h1, h2, h3⟩ := hs.put ht hn hp hq v
  unfold Oper.wp
  simp [execOp, hop, hm, hx, hv, hr, Result.andThen]
  exact hK' _ _ (hK w' h1 h2 h3)
/-- 'delete(m, p)' at the operation -/
theorem wpList_del_set (hg : o.guard = none) (m x : Operand) (t : TypeId) (hop : o.op = Op.call { callee := Callee.builtin Builtin.delete, args := #[m, x], argTypes := #[t, 152] }) (ht : Try.prog.underlying t = some (.map 152 4)) (b n : Nat) (S : Int → Int → Bool) (hm : a.eval m = .map (some b)) (hs : PSet w b n S)
    (p q : Int) (hx : a.eval x = .agg #[.int .i64 p, .int .i64 q]) (hp : okI p) (hq : okI q)
    (hK : ∀ w', PSet w' b n (fun p' q' => if p' = p ∧ q' = q then false else S p' q') → w.grownBy w' (some b) → w'.heap.size = w.heap.size → wpList Try.prog ops Q rest (a.put o.dst (.tuple #[])) w') : wpList Try.prog ops Q (o :: rest) a w := by
  refine wpList_plain hg fun K' hK' => ?_
  obtain ⟨w', hr, h1, h2, h3⟩ := hs.del ht hp hq o.type
  unfold Oper.wp
  simp [execOp, hop, resolve, invoke, builtin, hm, hx, hr, Result.andThen]
  exact hK' _ _ (hK w' h1 h2 h3)
end
end Go.Proofs.Ythceffkkokgpnaa
