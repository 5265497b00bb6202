/- Trees of expressions in memory; slices.Clone of a row of trees. -/
import Derived.Test.YtnomcnlmlignbaaDoorForm
import Derived.Test.YtnomcnlmlignbaaDoorMemRow
import Derived.Test.YtnomcnlmlignbaaDoorBox
import Derived.Maps.AppendAt
import Derived.Laws.Cover3
namespace Go.Proofs.YtnomcnlmlignbaaDoor
open Go.RowKit
set_option linter.unusedVariables false
set_option linter.unusedSimpArgs false
/-- the cells of a node of a tree -/
def tcells (k v : Int) (a : Option Addr) (n c : Nat) : Array Value := #[.int .i64 k, .int .i64 v, .int .i64 (fmK k), .int .i64 (fmT k), .int .i64 (fmM k), .int .i64 (fmO k), .string (fmA k), .string (fmB k), .string (fmC k), .slice a n c]
/-- a tree lies in memory, all its blocks in P -/
def TreeAt (w : World) (P : Nat → Prop) : ET → Nat → Prop
  | .n0 k v, b => P b ∧ ∃ a c, BoxC w b 142 (tcells k v a 0 c)
  | .n1 k v x, b => P b ∧ ∃ ga c bx, P ga ∧ BoxC w b 142 (tcells k v (some ⟨ga, 0, none⟩) 1 c) ∧ w.cell? ⟨ga, 0, none⟩ = some (.pointer (some ⟨bx, 0, none⟩)) ∧ TreeAt w P x bx
  | .n2 k v x y, b => P b ∧ ∃ ga c bx bz, P ga ∧ BoxC w b 142 (tcells k v (some ⟨ga, 0, none⟩) 2 c) ∧ w.cell? ⟨ga, 0, none⟩ = some (.pointer (some ⟨bx, 0, none⟩)) ∧ w.cell? ⟨ga, 1, none⟩ = some (.pointer (some ⟨bz, 0, none⟩)) ∧ TreeAt w P x bx ∧ TreeAt w P y bz
theorem cell_lt {w : World} {g o : Nat} {v : Value} (h : w.cell? ⟨g, o, none⟩ = some v) : g < w.heap.size := by
  rcases Nat.lt_or_ge g w.heap.size with h1 | h1
  · exact h1
  · simp [World.cell?, Array.getElem?_eq_none h1] at h
theorem TreeAt.keep {w w' : World} {P P' : Nat → Prop} (hk : ∀ i, P i → i < w.heap.size → w'.heap[i]? = w.heap[i]?) (hp : ∀ i, P i → i < w.heap.size → P' i) : ∀ (t : ET) (b : Nat), TreeAt w P t b → TreeAt w' P' t b := by
  intro t
  induction t with
  | n0 k v =>
    rintro b ⟨h1, a, c, h2⟩
    exact ⟨hp b h1 h2.lt, a, c, (hk b h1 h2.lt).trans h2⟩
  | n1 k v x ih =>
    rintro b ⟨h1, ga, c, bx, h2, h3, h4, h5⟩
    have hg := cell_lt h4
    exact ⟨hp b h1 h3.lt, ga, c, bx, hp ga h2 hg, (hk b h1 h3.lt).trans h3, (World.cell?_of_block (hk ga h2 hg)).trans h4, ih bx h5⟩
  | n2 k v x y ih1 ih2 =>
    rintro b ⟨h1, ga, c, bx, bz, h2, h3, h4, h5, h6, h7⟩
    have hg := cell_lt h4
    exact ⟨hp b h1 h3.lt, ga, c, bx, bz, hp ga h2 hg, (hk b h1 h3.lt).trans h3, (World.cell?_of_block (hk ga h2 hg)).trans h4, (World.cell?_of_block (hk ga h2 hg)).trans h5, ih1 bx h6, ih2 bz h7⟩
theorem treeAt_mk {w : World} {P : Nat → Prop} {k v : Int} {args : List ET} {bs : List Nat} {b : Nat} {a : Option Addr} {c : Nat} (h2 : args.length ≤ 2) (hl : bs.length = args.length) (hP : P b)
    (hb : BoxC w b 142 (tcells k v a args.length c)) (hrow : args.length = 0 ∨ ∃ ga, a = some ⟨ga, 0, none⟩ ∧ P ga ∧ ∀ j (h : j < bs.length), w.cell? ⟨ga, j, none⟩ = some (.pointer (some ⟨bs[j], 0, none⟩)))
    (ht : ∀ j (h : j < args.length) (h' : j < bs.length), TreeAt w P args[j] bs[j]) : TreeAt w P (mkT k v args) b := by
  match args, bs, h2, hl, hb, hrow, ht with
  | [], [], _, _, hb, _, _ => exact ⟨hP, a, c, hb⟩
  | [x], [bx], _, _, hb, hrow, ht =>
    rcases hrow with h | ⟨ga, rfl, h1, h3⟩
    · simp at h
    · exact ⟨hP, ga, c, bx, h1, hb, h3 0 (by simp), ht 0 (by simp) (by simp)⟩
  | [x, y], [bx, bz], _, _, hb, hrow, ht =>
    rcases hrow with h | ⟨ga, rfl, h1, h3⟩
    · simp at h
    · exact ⟨hP, ga, c, bx, bz, h1, hb, h3 0 (by simp), h3 1 (by simp), ht 0 (by simp) (by simp), ht 1 (by simp) (by simp)⟩
  | _ :: _ :: _ :: _, _, h2, _, _, _, _ => simp at h2
/-- a stack of trees and their blocks -/
def SK (w : World) (P : Nat → Prop) (st : List ET) (bs : List Nat) : Prop := bs.length = st.length ∧ ∀ j (h : j < st.length) (h' : j < bs.length), TreeAt w P st[j] bs[j]
theorem SK.keep {w w' : World} {P P' : Nat → Prop} {st : List ET} {bs : List Nat} (h : SK w P st bs) (hk : ∀ i, P i → i < w.heap.size → w'.heap[i]? = w.heap[i]?) (hp : ∀ i, P i → i < w.heap.size → P' i) : SK w' P' st bs :=
  ⟨h.1, fun j h1 h2 => TreeAt.keep hk hp _ _ (h.2 j h1 h2)⟩
theorem SK.below {w w' : World} {P : Nat → Prop} {st : List ET} {bs : List Nat} (h : SK w P st bs) (hb : Below w.heap.size w w') : SK w' P st bs := h.keep (fun i _ hi => hb.block i hi) (fun _ h _ => h)
theorem SK.take {w : World} {P : Nat → Prop} {st : List ET} {bs : List Nat} (h : SK w P st bs) (k : Nat) : SK w P (st.take k) (bs.take k) :=
  ⟨by rw [List.length_take, List.length_take, h.1], fun j h1 h2 => by
    rw [List.length_take] at h1 h2
    rw [List.getElem_take, List.getElem_take]
    exact h.2 j (by omega) (by omega)⟩
theorem SK.snoc {w : World} {P : Nat → Prop} {st : List ET} {bs : List Nat} {t : ET} {b : Nat} (h : SK w P st bs) (ht : TreeAt w P t b) : SK w P (st ++ [t]) (bs ++ [b]) := by
  obtain ⟨h1, h2⟩ := h
  refine ⟨by rw [List.length_append, List.length_append, h1]; rfl, fun j hj hj' => ?_⟩
  rw [List.length_append, List.length_singleton] at hj
  by_cases hlt : j < st.length
  · rw [List.getElem_append_left hlt, List.getElem_append_left (by omega)]
    exact h2 j hlt (by omega)
  · have e : j = st.length := by omega
    subst e
    rw [List.getElem_append_right (Nat.le_refl _), List.getElem_append_right (by omega)]
    rw [List.getElem_singleton, List.getElem_singleton]
    exact ht
theorem SK.push {w : World} {P : Nat → Prop} {st : List ET} {bs : List Nat} {p : Nd} {a b : Nat} (h : SK w P st bs) (ht : TreeAt w P (mkT p.1 p.2 (st.drop (st.length - a))) b) : SK w P (pushT st p a) (bs.take (st.length - a) ++ [b]) := by
  unfold pushT
  exact (h.take _).snoc ht
def ptrs (bs : List Nat) : List Value := bs.map fun b => .pointer (some ⟨b, 0, none⟩)
theorem ptrs_len (bs : List Nat) : (ptrs bs).length = bs.length := by simp [ptrs]
theorem ptrs_get (bs : List Nat) (j : Nat) (h : j < (ptrs bs).length) : (ptrs bs)[j] = .pointer (some ⟨bs[j]'(by rwa [ptrs_len] at h), 0, none⟩) := by simp [ptrs]
theorem ptrs_one (bs : List Nat) : ∀ u ∈ ptrs bs, u.oneCell' = true := by
  intro u hu
  unfold ptrs at hu
  obtain ⟨b, _, rfl⟩ := List.mem_map.1 hu
  rfl
theorem ptrs_drop (bs : List Nat) (k : Nat) : ptrs (bs.drop k) = (ptrs bs).drop k := by simp [ptrs, List.map_drop]
theorem ptrs_take (bs : List Nat) (k : Nat) : ptrs (bs.take k) = (ptrs bs).take k := by simp [ptrs, List.map_take]
theorem ptrs_snoc (bs : List Nat) (b : Nat) : ptrs (bs ++ [b]) = ptrs bs ++ [.pointer (some ⟨b, 0, none⟩)] := by simp [ptrs]
/-- the front of an own row -/
theorem own_front {w : World} {base e n k : Nat} {g cp : Nat} {xs : List Value} (h : w.ownsRow base e 1 (.slice (some ⟨g, 0, none⟩) n cp) n xs) (hk : k ≤ n) : w.ownsRow base e 1 (.slice (some ⟨g, 0, none⟩) k cp) k (xs.take k) := by
  obtain ⟨hl, h | ⟨g', cap, cur, hv, h2, h3, h4, h5, h6, h7⟩⟩ := h
  · cases h.1
  · injection hv with e1 e2 e3
    injection e1 with e1
    injection e1 with e1
    subst e1 e3
    refine ⟨by rw [List.length_take, hl]; omega, .inr ⟨g, cp, cur, rfl, h2, h3, by omega, h5, h6, ?_⟩⟩
    rw [← h7, List.take_take]
    congr 1
    omega
theorem infoPtr : (Tryd.prog.info? 115).map (fun i => (i.zero, i.size, i.bytes)) = some (some (.pointer none), 1, 8) := by kernel_rfl
set_option maxRecDepth 100000 in
set_option maxHeartbeats 1000000 in
theorem cloneT_any (ad : Addr) (bs : List Nat) (c : Nat) (w : World) (hc : ∀ j u, (ptrs bs)[j]? = some u → w.cell? (ad.add j) = some u) (hn : bs.length ≤ 1000) :
    Calls Tryd.prog 119 #[.slice (some ad) bs.length c] w fun e w' => ∃ a' c', e = .returned (.slice a' bs.length c') ∧ w'.ownsRow w.heap.size 115 1 (.slice a' bs.length c') bs.length (ptrs bs) ∧ Below w.heap.size w w' := by
  obtain ⟨i0, hi0', hz0, hz1, hz2⟩ := info_parts infoPtr
  have hlen := ptrs_len bs
  have HC : Hid (∀ j u, (ptrs bs)[j]? = some u → (w.alloc (.cells #[] 115)).cell? (ad.add j) = some u) := by
    refine Lib.hid fun j u hu => ?_
    have h1 := hc j u hu
    have hb : (ad.add j).block < w.heap.size := by
      rcases Nat.lt_or_ge (ad.add j).block w.heap.size with h | h
      · exact h
      · simp [World.cell?, Array.getElem?_eq_none h] at h1
    rw [World.cell?_alloc_lt _ _ _ hb]
    exact h1
  have HO := Lib.hid (World.ownsRow_made (base := w.heap.size) (e := 115) (size := 1) w #[] 0 (Nat.le_refl _) (by simp) rfl)
  have heq : ∀ W : World, (binOp .eql 135 (.slice (some ad) bs.length c) (.slice none 0 0)).run Tryd.prog W = .ok (.bool false) W := fun W => by
    simp [binOp, run_equal_slice_nil (P := Tryd.prog) W 135 115 (some ad) bs.length c Tryd.underlying135]
  clear hc
  go_enter Tryd.func119, Tryd.ntmps119
  go_wp2_with (at_builtin; refine wpList_append_own _ rfl _ _ 135 rfl w.heap.size 115 i0 (.pointer none) 1 8 Tryd.underlying135 hi0' hz0 hz1 hz2 rfl (by decide) _ 0 [] rfl HO.out ad bs.length c (ptrs bs) rfl (by rw [hlen]; simp) HC.out (ptrs_one bs) (by unfold maxLen; omega) (by omega) (by simp) ?_; intro v' w1 hown' hgrow _; rw [Nat.zero_add, List.nil_append] at hown'; have HB := Lib.hid ((below_all w _).grown hgrow (by simp) (fun k hk => (HO.out.lt k hk).1)); obtain ⟨a', c', hv⟩ : ∃ a' c', v' = .slice a' bs.length c' := (by rcases hown'.2 with ⟨h1, h2⟩ | ⟨g', cap, cur, h1, _⟩; exact ⟨none, 0, by rw [h1, h2]⟩; exact ⟨_, _, h1⟩); subst hv; have HO1 := Lib.hid hown'; clear hown' hgrow)
  go_ret
  exact ⟨a', c', rfl, HO1.out, HB.out⟩
end Go.Proofs.YtnomcnlmlignbaaDoor
