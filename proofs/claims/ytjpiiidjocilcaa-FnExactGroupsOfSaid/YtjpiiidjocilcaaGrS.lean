/- The model's l10Groups: a stack of groups, each with a slice of its own. -/
import Derived.Test.YtjpiiidjocilcaaCalC
import Derived.Test.YtjpiiidjocilcaaLate
import Derived.Test.YtjpiiidjocilcaaOwnS
import Derived.Deep.RegionHeld3
namespace Go.Proofs.Ytjpiiidjocilcaa
open Go.RowKit
set_option linter.unusedVariables false
set_option linter.unusedSimpArgs false
/-- a group in the model's memory: where its classes lie -/
structure GE where
  g : Gr
  b : Nat
  c : Nat
def gev (es : List GE) : List Value := es.flatMap fun e => [.slice (some ⟨e.b, 0, none⟩) e.g.cs.length e.c, .int .i64 e.g.ca, .int .i64 e.g.hi]
theorem gev_append (l r : List GE) : gev (l ++ r) = gev l ++ gev r := by unfold gev; rw [List.flatMap_append]
theorem gev_length (l : List GE) : (gev l).length = l.length * 3 := by
  induction l with
  | nil => rfl
  | cons q r ih =>
    show (_ :: _ :: _ :: gev r).length = _
    simp only [List.length_cons, ih]
    omega
theorem gev_get (l : List GE) : ∀ (k : Nat) (h : k < l.length), (gev l)[k * 3]? = some (.slice (some ⟨l[k].b, 0, none⟩) l[k].g.cs.length l[k].c) ∧ (gev l)[k * 3 + 1]? = some (.int .i64 l[k].g.ca) ∧ (gev l)[k * 3 + 2]? = some (.int .i64 l[k].g.hi) := by
  induction l with
  | nil => intro k h; simp at h
  | cons q r ih =>
    intro k h
    cases k with
    | zero => exact ⟨rfl, rfl, rfl⟩
    | succ k =>
      have h1 := ih k (by simpa using h)
      have e : (k + 1) * 3 = k * 3 + 1 + 1 + 1 := by omega
      rw [e]
      exact h1
/-- the classes of an entry lie in a row of numbers -/
def GeR (w : World) (b : Nat) (cs : List Int) : Prop := Row w b 3 (iv cs)
theorem Row.far {w : World} {b k : Nat} {t t' : TypeId} {vs : List Value} {cur : Array Value} {z : Nat × Nat} (h : Row w b t vs) (hk : w.heap[k]? = some (.cells cur t' z)) (hne : t ≠ t') : b ≠ k := by
  intro e
  subst e
  obtain ⟨c, h1, _⟩ := h
  rw [h1] at hk
  injection hk with hk
  injection hk with _ hk _
  exact hne hk
theorem Row.far_own {w : World} {b base size n : Nat} {t t' : TypeId} {vs xs : List Value} {v : Value} (h : Row w b t vs) (ho : w.ownsRow base t' size v n xs) (hne : t ≠ t') : v.ownBlock ≠ some b := by
  rcases ho.2 with ⟨h1, _⟩ | ⟨g, cap, cur, h1, h2, h3, _⟩
  · rw [h1]; simp [Value.ownBlock]
  · rw [h1]
    intro e
    simp only [Value.ownBlock, Option.some.injEq] at e
    exact h.far h3 hne e.symm
theorem Row.grown {w w' : World} {b : Nat} {t : TypeId} {vs : List Value} {row : Option Nat} (h : Row w b t vs) (hg : w.grownBy w' row) (hne : row ≠ some b) : Row w' b t vs := h.of_block (hg.block b h.lt (fun e => hne e.symm))
/-- the stack of groups in memory -/
structure GrI (B : Nat) (w0 : World) (S : List GE) (v : Value) (wr : World) : Prop where
  ok : ∀ x ∈ S.map GE.g, okG x
  sum : sumC (S.map GE.g) ≤ 11000
  flat : (flatC (S.map GE.g)).length ≤ 11
  len : S.length ≤ 11
  own : wr.ownsRow B 92 3 v S.length (gev S.reverse)
  rows : ∀ e ∈ S, GeR wr e.b e.g.cs ∧ B ≤ e.b
  bel : Below B w0 wr
theorem GrI.later {B : Nat} {w0 wr w' : World} {S : List GE} {v : Value} (h : GrI B w0 S v wr) (hB : B ≤ wr.heap.size) (hb : Below wr.heap.size wr w') : GrI B w0 S v w' :=
  ⟨h.ok, h.sum, h.flat, h.len, h.own.kept (gb_none hb) (by rcases e : v.ownBlock with _ | k; exact .inl rfl; exact .inr (by simp)), fun e he => ⟨(h.rows e he).1.grown (gb_none hb) (by simp), (h.rows e he).2⟩, h.bel.trans (hb.mono hB)⟩
theorem infoGr : (Try.prog.info? 92).map (fun i => (i.zero, i.size, i.bytes)) = some (some (.agg #[.slice none 0 0, .int .i64 0, .int .i64 0]), 3, 40) := by kernel_rfl
theorem ge_take (L r : List GE) : (gev (L ++ r)).take (L.length * 3) = gev L := by rw [gev_append, ← gev_length, List.take_left]
/-- the last one is taken off -/
theorem GrI.pop {B g n cap : Nat} {w0 wr : World} {e : GE} {S : List GE} (h : GrI B w0 (e :: S) (.slice (some ⟨g, 0, none⟩) (n + 1) cap) wr) (hn : S.length = n) : GrI B w0 S (.slice (some ⟨g, 0, none⟩) n cap) wr := by
  refine ⟨fun x hx => h.ok x (List.mem_cons_of_mem _ hx), ?_, ?_, by have := h.len; simp at this; omega, ?_, fun x hx => h.rows x (List.mem_cons_of_mem _ hx), h.bel⟩
  · have h1 := (h.ok e.g (by simp)).1
    have h2 : e.g.ca + sumC (S.map GE.g) ≤ 11000 := h.sum
    omega
  · have h2 : (flatC (S.map GE.g) ++ e.g.cs).length ≤ 11 := h.flat
    rw [List.length_append] at h2
    omega
  · have h1 := h.own
    have e1 : (e :: S).length = n + 1 := by simp [hn]
    rw [e1] at h1
    have h2 := own_shrink (m := n) h1 (by omega)
    rw [List.reverse_cons, ← hn, ← List.length_reverse, ge_take, List.length_reverse, hn] at h2
    rw [hn]
    exact h2
def GrPost (L : List Gr) (w : World) (e : Ending) (w' : World) : Prop :=
  ∃ (S : List GE) (a : Option Addr) (c : Nat), e = .returned (.slice a S.length c) ∧ S.map GE.g = L ∧ (S = [] ∨ ∃ g, a = some ⟨g, 0, none⟩ ∧ w.heap.size ≤ g ∧ ∃ cur, w'.heap[g]? = some (.cells cur 92 (0, 0)) ∧ ∀ k (h : k < (gev S.reverse).length), cur[k]? = some (gev S.reverse)[k]) ∧ (∀ e ∈ S, GeR w' e.b e.g.cs ∧ w.heap.size ≤ e.b) ∧ Below w.heap.size w w'

theorem geR_of_own {w : World} {B g n cap : Nat} {l : List Int} (h : w.ownsRow B 3 1 (.slice (some ⟨g, 0, none⟩) n cap) n (iv l)) : GeR w g l := by
  rcases h.2 with ⟨h1, h2⟩ | ⟨g', cap', cur, h1, h2, h3, h4, h5, h6, h7⟩
  · cases h1
  · cases h1
    refine ⟨cur, h3, fun k hk => ?_⟩
    have e : cur.toList.take (n * 1) = iv l := h7
    have h8 : (cur.toList.take (n * 1))[k]? = some (iv l)[k] := by rw [e, List.getElem?_eq_getElem hk]
    rw [List.getElem?_take] at h8
    split at h8
    · rw [← h8]; simp
    · cases h8
theorem GeR.cells {w : World} {b : Nat} {l : List Int} (h : GeR w b l) : ∀ (j : Nat) (u : Value), (iv l)[j]? = some u → w.cell? ((⟨b, 0, none⟩ : Addr).add j) = some u := by
  intro j u hu
  have hadd : (⟨b, 0, none⟩ : Addr).add j = ⟨b, j, none⟩ := by unfold Addr.add; split <;> simp_all
  obtain ⟨hj, e⟩ := List.getElem?_eq_some_iff.1 hu
  rw [hadd, Row.cell h hj, e]
theorem GeR.ints {w : World} {b : Nat} {l : List Int} (h : GeR w b l) : Ints .i64 w w.heap.size (some ⟨b, 0, none⟩) l := by
  refine .inr ⟨b, 0, rfl, Row.lt h, fun j hj => ?_⟩
  have h1 := Row.cell (k := j) h (by rw [iv_length]; exact hj)
  rw [iv_get] at h1
  rw [Nat.zero_add]
  exact h1
/-- the model's copy of a row, as a row that can be appended to -/
theorem l1OwnR_any (b : Nat) (l : List Int) (c : Nat) (w : World) (hl : GeR w b l) (hn : l.length ≤ 1048576) (h0 : 0 < l.length) :
    Calls Try.prog 70 #[.slice (some ⟨b, 0, none⟩) l.length c] w fun e w' => ∃ g c', e = .returned (.slice (some ⟨g, 0, none⟩) l.length c') ∧ w'.ownsRow w.heap.size 3 1 (.slice (some ⟨g, 0, none⟩) l.length c') l.length (iv l) ∧ Below w.heap.size w w' := by
  obtain ⟨i0, hi0', hz0, hz1, hz2⟩ := info_parts infoInt
  have hb := Row.lt hl
  have HC : Hid (∀ j u, (iv l)[j]? = some u → (w.alloc (.cells #[] 3)).cell? ((⟨b, 0, none⟩ : Addr).add j) = some u) := by
    refine Lib.hid fun j u hu => ?_
    rw [World.cell?_alloc_lt _ _ _ (by have e : ((⟨b, 0, none⟩ : Addr).add j).block = b := (by unfold Addr.add; split <;> rfl); rw [e]; exact hb)]
    exact hl.cells j u hu
  have HO := Lib.hid (World.ownsRow_made (base := w.heap.size) (e := 3) (size := 1) w #[] 0 (Nat.le_refl _) (by simp) rfl)
  clear hl
  go_enter Try.func70, Try.ntmps70
  go_wp2_with (at_builtin; refine wpList_append_own _ rfl _ _ 22 rfl w.heap.size 3 i0 (.int .i64 0) 1 8 Try.underlying22 hi0' hz0 hz1 hz2 rfl (by decide) _ 0 [] rfl HO.out ⟨b, 0, none⟩ l.length c (iv l) rfl (by rw [iv_length]; simp) HC.out (iv_one l) (by unfold maxLen; omega) (by omega) (by simp) ?_; intro v' w1 hown' hgrow _; rw [Nat.zero_add, List.nil_append] at hown'; have HB := Lib.hid ((below_all w _).grown hgrow (by simp) (fun k hk => (HO.out.lt k hk).1)); obtain ⟨g', c', hv, _, _⟩ := hown'.form h0; subst hv; have HO1 := Lib.hid hown'; clear hown' hgrow)
  go_ret
  exact ⟨g', c', rfl, HO1.out, HB.out⟩
/-- the stack and the group that is to be laid on it -/
structure GrJ (B bx : Nat) (w0 : World) (S : List GE) (gr : Gr) (bg cg : Nat) (v : Value) (wi : World) : Prop where
  st : GrI B w0 S v wi
  far : ∀ q, v.ownBlock = some q → q < bx
  box : Box wi bx 92 (.slice (some ⟨bg, 0, none⟩) gr.cs.length cg) (.int .i64 gr.ca) (.int .i64 gr.hi)
  row : GeR wi bg gr.cs
  lo : B ≤ bg ∧ B ≤ bx
  ok : okG gr
  sum : gr.ca + sumC (S.map GE.g) ≤ 11000
  flat : (flatC (S.map GE.g)).length + gr.cs.length ≤ 11
  n : S.length ≤ 10
theorem GrJ.small {B bx bg cg : Nat} {w0 wi : World} {S : List GE} {gr : Gr} {v : Value} (h : GrJ B bx w0 S gr bg cg v wi) : gr.ca ≤ 11000 := by
  have h1 := sum_nonneg _ h.st.ok
  have h2 := h.sum
  omega
/-- what is known where the last group falls -/
theorem GrJ.last {B bx bg cg n : Nat} {w0 wi : World} {S : List GE} {q : GE} {gr : Gr} {v : Value} (h : GrJ B bx w0 (q :: S) gr bg cg v wi) (hn : S.length = n) :
    ∃ go cap, v = .slice (some ⟨go, 0, none⟩) (n + 1) cap ∧ go < bx ∧ wi.cell? ⟨go, n * 3, none⟩ = some (.slice (some ⟨q.b, 0, none⟩) q.g.cs.length q.c) ∧ wi.cell? ⟨go, n * 3 + 1, none⟩ = some (.int .i64 q.g.ca) ∧ wi.cell? ⟨go, n * 3 + 2, none⟩ = some (.int .i64 q.g.hi) := by
  have e1 : (q :: S).length = n + 1 := by simp [hn]
  have ho := h.st.own
  rw [e1] at ho
  obtain ⟨go, cap, ev, _, _⟩ := ho.form (by omega)
  subst ev
  have hl : (q :: S).reverse.length = n + 1 := by simp [hn]
  have e2 : (q :: S).reverse[n]'(by omega) = q := by
    simp only [List.reverse_cons]
    rw [List.getElem_append_right (by simp [hn])]
    simp [hn]
  have hg := gev_get (q :: S).reverse n (by omega)
  rw [e2] at hg
  refine ⟨go, cap, rfl, h.far go rfl, ?_, ?_, ?_⟩
  · exact (ho.cellAt (n * 3) (by omega)).trans hg.1
  · exact (ho.cellAt (n * 3 + 1) (by omega)).trans hg.2.1
  · exact (ho.cellAt (n * 3 + 2) (by omega)).trans hg.2.2
/-- laid on the stack -/
theorem GrJ.push {B bx bg cg : Nat} {w0 wi w' : World} {S : List GE} {gr : Gr} {v v' : Value} (h : GrJ B bx w0 S gr bg cg v wi) (hB : B ≤ wi.heap.size)
    (ho : w'.ownsRow B 92 3 v' (S.length + 1) (gev S.reverse ++ [.slice (some ⟨bg, 0, none⟩) gr.cs.length cg, .int .i64 gr.ca, .int .i64 gr.hi])) (o : Obj) (hg : (wi.alloc o).grownBy w' v.ownBlock) :
    GrI B w0 (⟨gr, bg, cg⟩ :: S) v' w' := by
  have hlater := h.st.later hB (below_all wi o)
  have hb2 : B ≤ (wi.alloc o).heap.size := by simp; omega
  refine ⟨fun x hx => ?_, h.sum, ?_, by have := h.n; simp; omega, ?_, fun e he => ?_, hlater.bel.grown hg hb2 (fun k hk => (hlater.own.lt k hk).1)⟩
  · rcases List.mem_cons.1 hx with rfl | hx
    · exact h.ok
    · exact h.st.ok x hx
  · show (flatC (S.map GE.g) ++ gr.cs).length ≤ 11
    rw [List.length_append]
    exact h.flat
  · rw [List.reverse_cons, gev_append]
    exact ho
  · have key : ∀ b cs, GeR (wi.alloc o) b cs → GeR w' b cs := fun b cs hr => Row.grown hr hg (Row.far_own hr hlater.own (by decide))
    rcases List.mem_cons.1 he with rfl | he
    · exact ⟨key _ _ (Row.grown h.row (World.grownBy_alloc wi o none) (by simp)), h.lo.1⟩
    · exact ⟨key _ _ (hlater.rows e he).1, (hlater.rows e he).2⟩

theorem GrJ.later {B bx bg cg : Nat} {w0 wi w' : World} {S : List GE} {gr : Gr} {v : Value} (h : GrJ B bx w0 S gr bg cg v wi) (hB : B ≤ wi.heap.size) (hb : Below wi.heap.size wi w') : GrJ B bx w0 S gr bg cg v w' :=
  ⟨h.st.later hB hb, h.far, h.box.below hb, Row.grown h.row (gb_none hb) (by simp), h.lo, h.ok, h.sum, h.flat, h.n⟩
theorem GrI.box {B bx : Nat} {w0 wi w' : World} {S : List GE} {v v0 v1 v2 : Value} (h : GrI B w0 S v wi) (hx : Box wi bx 92 v0 v1 v2) (hf : ∀ q, v.ownBlock = some q → q < bx) (hlo : B ≤ bx) (hB : B ≤ wi.heap.size) (hg : wi.grownBy w' (some bx)) : GrI B w0 S v w' :=
  ⟨h.ok, h.sum, h.flat, h.len, h.own.kept hg (by
      rcases e : v.ownBlock with _ | k
      · exact .inl rfl
      · right; intro e2; injection e2 with e2; have := hf k e; omega),
    fun e he => ⟨Row.grown (h.rows e he).1 hg (by intro e2; injection e2 with e2; exact Row.far (h.rows e he).1 hx (by decide) e2.symm), (h.rows e he).2⟩,
    h.bel.grown hg hB (fun j hj => by injection hj with hj; omega)⟩
theorem heap_put {w : World} {b k : Nat} {t : TypeId} {cs : Array Value} {z : Nat × Nat} (h : w.heap[b]? = some (.cells cs t z)) (u : Value) : (w.setCell ⟨b, k, none⟩ u).heap[b]? = some (.cells (cs.setIfInBounds k u) t z) := by
  simp [World.setCell, Array.getElem?_modify, h]
theorem Box.put3 {w : World} {b : Nat} {t : TypeId} {a0 a1 a2 : Value} (h : Box w b t a0 a1 a2) (u0 u1 u2 : Value) : Box (((w.setCell ⟨b, 0, none⟩ u0).setCell ⟨b, 1, none⟩ u1).setCell ⟨b, 2, none⟩ u2) b t u0 u1 u2 :=
  heap_put (heap_put (heap_put h u0) u1) u2
theorem only3 (w : World) (b : Nat) (u0 u1 u2 : Value) : w.grownBy (((w.setCell ⟨b, 0, none⟩ u0).setCell ⟨b, 1, none⟩ u1).setCell ⟨b, 2, none⟩ u2) (some b) := ((((Only.refl b w).setCell 0 u0).setCell 1 u1).setCell 2 u2).1
/-- two groups joined, the last one taken off the stack -/
theorem GrJ.join {B bx bg cg go n cap b2 c2 : Nat} {w0 wi : World} {Q : List GE} {q : GE} {gr : Gr} (h : GrJ B bx w0 (q :: Q) gr bg cg (.slice (some ⟨go, 0, none⟩) (n + 1) cap) wi) (hn : Q.length = n) (hB : B ≤ wi.heap.size)
    (hr : GeR wi b2 (q.g.cs ++ gr.cs)) (hb2 : B ≤ b2) (u0 u1 u2 : Value) (e0 : u0 = .slice (some ⟨b2, 0, none⟩) (q.g.join gr).cs.length c2) (e1 : u1 = .int .i64 (q.g.join gr).ca) (e2 : u2 = .int .i64 (q.g.join gr).hi) :
    GrJ B bx w0 Q (q.g.join gr) b2 c2 (.slice (some ⟨go, 0, none⟩) n cap) (((wi.setCell ⟨bx, 0, none⟩ u0).setCell ⟨bx, 1, none⟩ u1).setCell ⟨bx, 2, none⟩ u2) := by
  subst e0 e1 e2
  have hg := only3 wi bx (.slice (some ⟨b2, 0, none⟩) (q.g.join gr).cs.length c2) (.int .i64 (q.g.join gr).ca) (.int .i64 (q.g.join gr).hi)
  have hf : ∀ k, (Value.slice (some ⟨go, 0, none⟩) n cap).ownBlock = some k → k < bx := fun k hk => h.far k hk
  refine ⟨(h.st.pop hn).box h.box hf h.lo.2 hB hg, hf, h.box.put3 _ _ _, Row.grown hr hg (by intro e; injection e with e; exact Row.far hr h.box (by decide) e.symm), ⟨hb2, h.lo.2⟩, ok_join (h.st.ok _ (by simp)) h.ok, ?_, ?_, by have := h.n; simp at this; omega⟩
  · have h1 : gr.ca + (q.g.ca + sumC (Q.map GE.g)) ≤ 11000 := h.sum
    show q.g.ca + gr.ca + sumC (Q.map GE.g) ≤ 11000
    omega
  · have h1 : (flatC (Q.map GE.g) ++ q.g.cs).length + gr.cs.length ≤ 11 := h.flat
    show (flatC (Q.map GE.g)).length + (q.g.cs ++ gr.cs).length ≤ 11
    rw [List.length_append] at h1 ⊢
    omega
theorem geR_new (w : World) (z : Int) : GeR (w.alloc (.cells #[.int .i64 z] 3)) w.heap.size [z] := ⟨_, heap_alloc_new w _, fun k hk => by
  have : k = 0 := by simp [iv] at hk; exact hk
  subst this
  rfl⟩
theorem grj_a {B : Nat} {w0 wr : World} {S : List GE} {g0 : Gr} {v : Value} {z x y : Int} (h : GrI B w0 S v wr) (hB : B ≤ wr.heap.size) (e : g0 = ⟨[z], x, y⟩) (ok : okG g0) (h1 : g0.ca + sumC (S.map GE.g) ≤ 11000) (h2 : (flatC (S.map GE.g)).length + 1 ≤ 11) (h3 : S.length ≤ 10) :
    GrJ B (wr.heap.size + 1) w0 S g0 wr.heap.size 1 v ((wr.alloc (.cells #[.int .i64 z] 3)).alloc (.cells #[.slice (some ⟨wr.heap.size, 0, none⟩) 1 1, .int .i64 x, .int .i64 y] 92)).drew := by
  subst e
  have hx := Box.new (wr.alloc (.cells #[.int .i64 z] 3)) 92 (.slice (some ⟨wr.heap.size, 0, none⟩) 1 1) (.int .i64 x) (.int .i64 y)
  rw [World.size_alloc] at hx
  refine ⟨h.later hB ((((Below.refl _ _).alloc (Nat.le_refl _) _).alloc (by simp) _).drew), fun q hq => by have := (h.own.lt q hq).2; omega, hx, ?_, ⟨hB, by omega⟩, ok, h1, h2, h3⟩
  exact Row.grown (geR_new wr z) (gb_none (((Below.refl _ _).alloc (Nat.le_refl _) _).drew)) (by simp)
theorem grj_b {B : Nat} {w0 wr : World} {S : List GE} {g0 : Gr} {v : Value} {z x y : Int} (h : GrI B w0 S v wr) (hB : B ≤ wr.heap.size) (e : g0 = ⟨[z], x, y⟩) (ok : okG g0) (h1 : g0.ca + sumC (S.map GE.g) ≤ 11000) (h2 : (flatC (S.map GE.g)).length + 1 ≤ 11) (h3 : S.length ≤ 10) :
    GrJ B wr.heap.size w0 S g0 (wr.heap.size + 1) 1 v ((wr.alloc (.cells #[.slice (some ⟨wr.heap.size + 1, 0, none⟩) 1 1, .int .i64 x, .int .i64 y] 92)).alloc (.cells #[.int .i64 z] 3)).drew := by
  subst e
  have hr := geR_new (wr.alloc (.cells #[.slice (some ⟨wr.heap.size + 1, 0, none⟩) 1 1, .int .i64 x, .int .i64 y] 92)) z
  rw [World.size_alloc] at hr
  refine ⟨h.later hB ((((Below.refl _ _).alloc (Nat.le_refl _) _).alloc (by simp) _).drew), fun q hq => (h.own.lt q hq).2, ?_, hr, ⟨by omega, hB⟩, ok, h1, h2, h3⟩
  exact (Box.new wr 92 (.slice (some ⟨wr.heap.size + 1, 0, none⟩) 1 1) (.int .i64 x) (.int .i64 y)).alloc _
end Go.Proofs.Ytjpiiidjocilcaa
