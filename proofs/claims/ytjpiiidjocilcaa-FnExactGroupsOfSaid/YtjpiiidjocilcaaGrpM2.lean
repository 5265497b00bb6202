/- The groups one after another, as the model goes; an append as a step, with where it lies. -/
import Derived.Test.YtjpiiidjocilcaaGrpI
import Derived.Test.YtjpiiidjocilcaaShrS
import Derived.Maps.AppendAt
namespace Go.Proofs.Ytjpiiidjocilcaa
open Go.RowKit
set_option linter.unusedVariables false
set_option linter.unusedSimpArgs false
theorem step_own_at {P : Program} {w : World} {ops : Array Oper} {o : Oper} {a : Act} {K : Act → World → Prop} {Q : Exit → Act → World → Prop} {E : Prop} (hgd : o.guard = none) (s x : Operand) (t : TypeId)
    (ho : o.op = .call { callee := .builtin .append, args := #[s, x], argTypes := #[t, t] })
    (base : Nat) (e : TypeId) (i : TypeInfo) (z : Value) (size bytes : Nat) (ht : P.underlying t = some (.slice e)) (hi : P.info? e = some i) (hz : i.zero = some z)
    (hsize : i.size = size) (hby : i.bytes = bytes) (hzs : z.cells.size = size) (hsz : 0 < size)
    (v : Value) (n : Nat) (xs : List Value) (hs : a.eval s = v) (hown : w.ownsRow base e size v n xs)
    (ad : Addr) (m c : Nat) (news : List Value) (hx : a.eval x = .slice (some ad) m c) (hl : news.length = m * size) (hnews : ∀ j u, news[j]? = some u → w.cell? (ad.add j) = some u) (h1 : ∀ u ∈ news, u.oneCell' = true)
    (h63 : n + m ≤ maxLen) (hbytes : (n + m) * bytes ≤ 140737488355328) (hbase : base ≤ w.heap.size)
    (h : ∀ v' w', w'.ownsRow base e size v' (n + m) (xs ++ news) → w.grownBy w' v.ownBlock → (v'.ownBlock = v.ownBlock ∨ v'.ownBlock = some w.heap.size) → K (a.put o.dst v') w') :
    if Region.wanted o (yielded ops a.tmps) = true then Oper.wp P o a w K Q else E := by
  rw [if_pos (by simp [Region.wanted, hgd])]
  obtain ⟨v', w', hr, h2, h3, h4, h5⟩ := run_append_own_at (P := P) w base t o.type e i z size bytes ht hi hz hsize hby hzs hsz v n xs hown ad m c news hl hnews h1 h63 hbytes hbase
  unfold Oper.wp execOp
  simp only [ho, resolve, invoke, builtin, Sem.run_bind, Sem.run_pure, Result.andThen_ok, List.map_toArray, List.map_cons, List.map_nil, hs, hx, hr]
  exact h v' w' h2 h3 h5
theorem own_baseN {w : World} {B C e n : Nat} {v : Value} {xs : List Value} (h : w.ownsRow C e 1 v n xs) (hB : B ≤ C) : w.ownsRow B e 1 v n xs := by
  obtain ⟨h1, h2 | ⟨g, cap, cur, h2, h3, h4⟩⟩ := h
  · exact ⟨h1, .inl h2⟩
  · exact ⟨h1, .inr ⟨g, cap, cur, h2, Nat.le_trans hB h3, h4⟩⟩
/-- a list of the call's own, in a block that is known -/
structure OutL (w : World) (s : List Int) (g cap : Nat) (wr : World) : Prop where
  o : wr.ownsRow w.heap.size 3 1 (.slice (some ⟨g, 0, none⟩) s.length cap) s.length (iv s)
  b : Below w.heap.size w wr
theorem Tabl.keep {w w' : World} {B U : Nat} {a : Option Addr} {E : List (Nat × Nat)} {R : List (List Int)} (h : Tabl w B U a E R) (hk : ∀ k, B ≤ k → k < w.heap.size → w'.heap[k]? = w.heap[k]?) : Tabl w' B U a E R :=
  ⟨h.t.keep fun k h1 _ h3 _ => hk k h1 h3, h.o.imp_right fun ⟨k, h1, h2, h3, h4⟩ => ⟨k, h1, h2, h3, h4.of_block (hk k h2 h4.lt)⟩⟩
theorem mrg_ne : ∀ st : List Gr, st ≠ [] → mrgS st ≠ []
  | [], h => absurd rfl h
  | [g], _ => by simp [mrgS]
  | g :: p :: r, _ => by
    show (if sameG p g = true then apL (mrgS (p :: r)) g.cs else mrgS (p :: r) ++ [g.cs]) ≠ []
    split
    · unfold apL; simp
    · simp
theorem mrg_all : ∀ st : List Gr, (∀ g ∈ st, okG g) → (mrgS st).flatten = flatC st ∧ ∀ s ∈ mrgS st, s ≠ []
  | [], _ => ⟨rfl, fun s h => by simp [mrgS] at h⟩
  | [g], hok => ⟨by show [g.cs].flatten = [] ++ g.cs; simp, fun s h => by
      have h1 : s = g.cs := by simpa [mrgS] using h
      rw [h1]; exact (hok g (by simp)).2.2.2⟩
  | g :: p :: r, hok => by
    obtain ⟨i1, i2⟩ := mrg_all (p :: r) fun x hx => hok x (List.mem_cons_of_mem _ hx)
    have hg := (hok g (by simp)).2.2.2
    have em : mrgS (g :: p :: r) = if sameG p g = true then apL (mrgS (p :: r)) g.cs else mrgS (p :: r) ++ [g.cs] := rfl
    have e : flatC (g :: p :: r) = flatC (p :: r) ++ g.cs := rfl
    rw [em, e, ← i1]
    obtain ⟨R, s, hR⟩ : ∃ R s, mrgS (p :: r) = R ++ [s] := ⟨_, _, (List.dropLast_concat_getLast (mrg_ne (p :: r) (by simp))).symm⟩
    rw [hR] at i2 ⊢
    split
    · rw [apL_snoc]
      refine ⟨by simp, fun t ht => ?_⟩
      rcases List.mem_append.1 ht with h | h
      · exact i2 t (List.mem_append_left _ h)
      · rw [List.mem_singleton] at h
        rw [h]
        intro e9
        exact hg (List.append_eq_nil_iff.1 e9).2
    · refine ⟨by simp, fun t ht => ?_⟩
      rcases List.mem_append.1 ht with h | h
      · exact i2 t h
      · rw [List.mem_singleton] at h; rw [h]; exact hg
/-- the table behind the first i groups -/
def rT (Ls : List Gr) (i : Nat) : List (List Int) := mrgS (Ls.take i).reverse
theorem flatC_rev (L : List Gr) : flatC L.reverse = (L.map Gr.cs).flatten := by
  have key : ∀ M : List Gr, flatC M = ((M.reverse).map Gr.cs).flatten := by
    intro M
    induction M with
    | nil => rfl
    | cons g r ih =>
      show flatC r ++ g.cs = _
      rw [ih]
      simp
  rw [key, List.reverse_reverse]
theorem rT_small {Ls : List Gr} (hok : ∀ g ∈ Ls, okG g) (h11 : (flatC Ls.reverse).length ≤ 11) (i : Nat) : (rT Ls i).flatten.length ≤ 11 ∧ (rT Ls i).length ≤ 11 ∧ ∀ s ∈ rT Ls i, s ≠ [] := by
  obtain ⟨h1, h2⟩ := mrg_all (Ls.take i).reverse (fun g hg => hok g (List.mem_of_mem_take (List.mem_reverse.1 hg)))
  have h3 : (rT Ls i).flatten.length ≤ 11 := by
    unfold rT
    rw [h1, flatC_rev]
    rw [flatC_rev] at h11
    have e := congrArg (fun L => ((L.map Gr.cs).flatten).length) (List.take_append_drop i Ls)
    simp only [List.map_append, List.flatten_append, List.length_append] at e
    omega
  refine ⟨h3, ?_, h2⟩
  have := flat_ge (rT Ls i) h2
  omega
theorem rT_succ {Ls : List Gr} {i : Nat} (hi : i < Ls.length) : rT Ls (i + 1) = mrgS (Ls[i] :: (Ls.take i).reverse) := by
  unfold rT
  rw [List.take_succ_eq_append_getElem hi, List.reverse_append]
  rfl
theorem rT_first {Ls : List Gr} (hi : 0 < Ls.length) : rT Ls 0 = [] ∧ rT Ls 1 = [] ++ [Ls[0].cs] := ⟨rfl, by rw [rT_succ hi]; rfl⟩
theorem rT_next {Ls : List Gr} {j : Nat} (hi : j + 1 < Ls.length) :
    rT Ls (j + 2) = if Ls[j].hi * Ls[j + 1].ca = Ls[j + 1].hi * Ls[j].ca then apL (rT Ls (j + 1)) Ls[j + 1].cs else rT Ls (j + 1) ++ [Ls[j + 1].cs] := by
  have e1 : (Ls.take (j + 1)).reverse = Ls[j] :: (Ls.take j).reverse := by rw [List.take_succ_eq_append_getElem (by omega), List.reverse_append]; rfl
  have e2 : rT Ls (j + 1) = mrgS (Ls[j] :: (Ls.take j).reverse) := rT_succ (by omega)
  rw [rT_succ hi, e1, e2]
  show (if sameG Ls[j] Ls[j + 1] = true then _ else _) = _
  unfold sameG
  simp only [decide_eq_true_eq]
theorem rT_cons {Ls : List Gr} {j : Nat} (hi : j < Ls.length) : rT Ls (j + 1) ≠ [] := by
  rw [rT_succ hi]
  exact mrg_ne _ (by simp)
theorem rT_end {Ls : List Gr} : rT Ls Ls.length = mrgS Ls.reverse := by unfold rT; rw [List.take_length]
theorem ca_sum : ∀ (st : List Gr), (∀ x ∈ st, okG x) → ∀ g ∈ st, g.ca ≤ sumC st
  | [], _, g, h => by simp at h
  | q :: r, hok, g, h => by
    have h1 := sum_nonneg r (fun x hx => hok x (List.mem_cons_of_mem _ hx))
    have e : sumC (q :: r) = q.ca + sumC r := rfl
    have hq := (hok q (by simp)).1
    rcases List.mem_cons.1 h with rfl | h
    · omega
    · have := ca_sum r (fun x hx => hok x (List.mem_cons_of_mem _ hx)) g h
      omega
/-- the groups as l10Groups leaves them, with their block -/
def GrOut2 (Ls : List Gr) (w : World) (e : Ending) (w' : World) : Prop :=
  ∃ (E : List GE) (a : Option Addr) (c gt : Nat), e = .returned (.slice a E.length c) ∧ E.map GE.g = Ls ∧ (E = [] ∨ (a = some ⟨gt, 0, none⟩ ∧ Row w' gt 92 (gev E))) ∧ (∀ e ∈ E, GeR w' e.b e.g.cs) ∧ Below w.heap.size w w'
theorem GrPost.out2 {L : List Gr} {w w' : World} {e : Ending} (h : GrPost L w e w') : GrOut2 L.reverse w e w' := by
  obtain ⟨S, a, c, h1, h2, h3, h4, h5⟩ := h
  rcases h3 with rfl | ⟨g, e1, _, cur, h6, h7⟩
  · exact ⟨[], a, c, 0, h1, by rw [← h2]; rfl, .inl rfl, fun e he => by simp at he, h5⟩
  · exact ⟨S.reverse, a, c, g, by rw [h1, List.length_reverse], by rw [← h2, List.map_reverse], .inr ⟨e1, cur, h6, h7⟩, fun e he => (h4 e (List.mem_reverse.1 he)).1, h5⟩
theorem gr_cells {w : World} {gt : Nat} {E : List GE} (h : Row w gt 92 (gev E)) {k : Nat} (hk : k < E.length) :
    w.cell? ⟨gt, k * 3, none⟩ = some (.slice (some ⟨E[k].b, 0, none⟩) E[k].g.cs.length E[k].c) ∧ w.cell? ⟨gt, k * 3 + 1, none⟩ = some (.int .i64 E[k].g.ca) ∧ w.cell? ⟨gt, k * 3 + 2, none⟩ = some (.int .i64 E[k].g.hi) := by
  have hl := gev_length E
  have hg := gev_get E k hk
  have key : ∀ o, o < (gev E).length → w.cell? ⟨gt, o, none⟩ = (gev E)[o]? := fun o ho => by rw [Row.cell h ho, List.getElem?_eq_getElem ho]
  exact ⟨(key _ (by omega)).trans hg.1, (key _ (by omega)).trans hg.2.1, (key _ (by omega)).trans hg.2.2⟩
end Go.Proofs.Ytjpiiidjocilcaa
