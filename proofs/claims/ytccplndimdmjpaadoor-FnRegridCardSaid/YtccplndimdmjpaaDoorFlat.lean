/- A package-level table of plain data (numbers, strings, structs and arrays of such): what its listed datum says of its cells. -/
import Derived.LaidLaws
import Derived.LaidMore
import Derived.Lib.LaidTab
import Derived.WalkKit
import Derived.Below
namespace Go.Proofs.YtccplndimdmjpaaDoor
open Go.RowKit
/-- the cells of the parts that lie one behind the other from 'off' on -/
def flatParts {H : Type} (rc : TypeId → DataW H → Option (List Value)) : Nat → List (TypeId × Nat × Nat) → List (DataW H) → Option (List Value)
  | off, (t, o, n) :: L, d :: ds => if o = off then (rc t d).bind fun l => if l.length = n then (flatParts rc (off + n) L ds).map fun r => l ++ r else none else none
  | _, [], [] => some []
  | _, _, _ => none
def fieldsOf (P : Program) (fs : Array Field) : List (TypeId × Nat × Nat) := fs.toList.map fun f => (f.type, f.offset, P.cellsOf f.type)
def rowsOf (P : Program) (n : Nat) (e : TypeId) : List (TypeId × Nat × Nat) := (List.range n).map fun i => (e, i * P.cellsOf e, P.cellsOf e)
/-- the cells that a plain datum lays -/
def flatL {H : Type} (P : Program) : Nat → TypeId → DataW H → Option (List Value)
  | 0, _, _ => none
  | f + 1, t, d => match P.underlying t, d with
    | some (.int _), .lit (.int k n) => some [.int k n]
    | some .string, .lit (.string s) => some [.string ⟨s.toArray⟩]
    | some (.struct fs), .agg ds => (flatParts (flatL P f) 0 (fieldsOf P fs) ds).bind fun l => if l.length = P.cellsOf t then some l else none
    | some (.array n e), .agg ds => (flatParts (flatL P f) 0 (rowsOf P n e) ds).bind fun l => if l.length = P.cellsOf t then some l else none
    | _, _ => none

theorem parts_cells {H : Type} (tr : TypeId → List Value → Option (DataW H × List MemPlace)) (rc : TypeId → DataW H → Option (List Value)) (cs : List Value)
    (hrec : ∀ t d l c p, tr t c = some (d, p) → rc t d = some l → c = l) :
    ∀ (L : List (TypeId × Nat × Nat)) (off : Nat) (ds : List (DataW H)) (l : List Value) (xs : List (DataW H × List MemPlace)),
      L.mapM (fun x => tr x.1 ((cs.drop x.2.1).take x.2.2)) = some xs → xs.map (·.1) = ds → flatParts rc off L ds = some l → cs.length = off + l.length → cs.drop off = l := by
  intro L
  induction L with
  | nil =>
    intro off ds l xs hm hx hf hl
    simp at hm
    subst hm
    simp at hx
    subst hx
    simp [flatParts] at hf
    subst hf
    simp at hl
    simp [hl]
  | cons x L ih =>
    intro off ds l xs hm hx hf hl
    obtain ⟨t, o, n⟩ := x
    simp only [List.mapM_cons, Option.bind_eq_bind, Option.bind_eq_some_iff, Option.pure_def, Option.some.injEq] at hm
    obtain ⟨y, hy, ys, hys, rfl⟩ := hm
    obtain ⟨d, p⟩ := y
    simp only [List.map_cons] at hx
    subst hx
    simp only [flatParts] at hf
    split at hf
    · rename_i ho
      subst ho
      obtain ⟨l0, h0, h1⟩ := Option.bind_eq_some_iff.1 hf
      split at h1
      · rename_i hn
        obtain ⟨r, hr, rfl⟩ := Option.map_eq_some_iff.1 h1
        have e0 := hrec _ _ _ _ _ hy h0
        have e1 := ih (o + n) _ r ys hys rfl hr (by rw [List.length_append] at hl; omega)
        have e2 : cs.drop o = (cs.drop o).take n ++ (cs.drop o).drop n := (List.take_append_drop _ _).symm
        rw [e2, List.drop_drop, e1]
        congr 1
      · cases h1
    · cases hf

theorem flat_cells {H : Type} {enc : TypeId × Value → H} {P : Program} {w : World} {base : Nat} {sp : Nat → Bool} {held : Bool} :
    ∀ (f fuel : Nat) (t : TypeId) (d : DataW H) (l cs : List Value) (p : List MemPlace), DataW.trod enc P w base sp held fuel t cs = some (d, p) → flatL P f t d = some l → cs = l := by
  intro f
  induction f with
  | zero => intro fuel t d l cs p _ h; simp [flatL] at h
  | succ f ih =>
    intro fuel t d l cs p h hf
    cases fuel with
    | zero => simp [DataW.trod] at h
    | succ fuel =>
      unfold flatL at hf
      split at hf
      · rename_i k0 k n hu
        obtain ⟨z, hc, he, _⟩ := DataW.trod_int hu h
        injection hf with hf
        subst hf
        obtain ⟨⟨rfl, rfl⟩, _⟩ : (k = k0 ∧ n = z) ∧ p = [] := by simpa using he
        exact hc
      · rename_i s hu
        injection hf with hf
        subst hf
        unfold DataW.trod at h
        rw [hu] at h
        split at h <;> try (simp at *; done)
        rename_i s' _ hs
        split at h
        · injection h with h
          injection h with h _
          injection h with h
          injection h with h
          subst h
          rfl
        · cases h
      · rename_i fs ds hu
        simp only [DataW.trod, hu] at h
        split at h
        · rename_i hlen
          obtain ⟨xs, hm, hx⟩ := Option.map_eq_some_iff.1 h
          obtain ⟨l', hl', hll⟩ := Option.bind_eq_some_iff.1 hf
          split at hll
          · rename_i hn
            injection hll with hll
            subst hll
            have hxs : xs.map (·.1) = ds := by
              have := congrArg Prod.fst hx
              simpa using this
            have := parts_cells (DataW.trod enc P w base sp held fuel) (flatL P f) cs (fun t d l c p a b => ih fuel t d l c p a b) (fieldsOf P fs) 0 ds l' xs (by unfold fieldsOf; rw [List.mapM_map]; exact hm) hxs hl' (by omega)
            simpa using this
          · cases hll
        · cases h
      · rename_i n e ds hu
        simp only [DataW.trod, hu] at h
        split at h
        · rename_i hlen
          obtain ⟨xs, hm, hx⟩ := Option.map_eq_some_iff.1 h
          obtain ⟨l', hl', hll⟩ := Option.bind_eq_some_iff.1 hf
          split at hll
          · rename_i hn
            injection hll with hll
            subst hll
            have hxs : xs.map (·.1) = ds := by
              have := congrArg Prod.fst hx
              simpa using this
            have := parts_cells (DataW.trod enc P w base sp held fuel) (flatL P f) cs (fun t d l c p a b => ih fuel t d l c p a b) (rowsOf P n e) 0 ds l' xs (by unfold rowsOf; rw [List.mapM_map]; exact hm) hxs hl' (by omega)
            simpa using this
          · cases hll
        · cases h
      · cases hf

/-- the table's block, out of the list's head -/
def BlockIs (w : World) (g : Nat) (cs : Array Value) : Prop := ∃ t, w.heap[g]? = some (.cells cs t (0, 0))
theorem BlockIs.below {w w' : World} {g : Nat} {cs : Array Value} (h : BlockIs w g cs) (hb : Below w.heap.size w w') : BlockIs w' g cs := by
  obtain ⟨t, h⟩ := h
  rcases Nat.lt_or_ge g w.heap.size with hlt | hge
  · exact ⟨t, by rw [hb.block _ hlt]; exact h⟩
  · rw [Array.getElem?_eq_none hge] at h; cases h
theorem block_of_head {P : Program} {W : World} {name : String} {D : DataW Unit} {rest : List (String × DataW Unit)} {g : Nat} {t : TypeId} {l : List Value}
    (hg : P.globalNamed name = some g) (hty : (P.globals[g]?).map (·.type) = some t) (hl : flatL P 4 t D = some l) (hpos : 0 < l.length)
    (h : laidMet P ((name, D) :: rest) W) : BlockIs W g l.toArray := by
  obtain ⟨ps, ⟨g', t', cs, fuel, p, q, hg', ht', hvar, hd, _, hps⟩, _, hall⟩ := h
  obtain rfl := Option.some.inj (hg.symm.trans hg')
  obtain rfl := Option.some.inj (hty.symm.trans ht')
  have e := flat_cells 4 fuel t D l cs.toList p hd hl
  have ec : cs = l.toArray := by rw [← e]
  have hm : MemPlace.cell g 0 ∈ ps := by
    rw [hps]
    have : 0 < cs.size := by rw [ec]; simpa using hpos
    simp [MemPlace.row]
    exact .inl this
  obtain ⟨⟨c, t2, hb⟩, _⟩ := hall g 0 hm
  refine ⟨t2, ?_⟩
  unfold World.var? at hvar
  rw [hg] at hvar
  simp only [Option.bind_some, hb] at hvar
  simp at hvar
  rw [hb, hvar, ec]
end Go.Proofs.YtccplndimdmjpaaDoor
