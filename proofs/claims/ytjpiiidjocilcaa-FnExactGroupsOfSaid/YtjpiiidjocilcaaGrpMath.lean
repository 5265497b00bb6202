/- Groups of one share: the mathematics of GroupsOf. -/
import Derived.Test.YtjpiiidjocilcaaClf
namespace Go.Proofs.Ytjpiiidjocilcaa
open Go.RowKit
set_option linter.unusedVariables false
set_option linter.unusedSimpArgs false
theorem snoc_ind {P : List Int → Prop} (h0 : P []) (h1 : ∀ L c, P L → P (L ++ [c])) : ∀ L, P L := by
  have key : ∀ L : List Int, P L.reverse := by
    intro L
    induction L with
    | nil => exact h0
    | cons c L ih => rw [List.reverse_cons]; exact h1 _ c ih
  intro L
  have := key L.reverse
  rwa [List.reverse_reverse] at this
/-- x onto the last list -/
def apL (o : List (List Int)) (x : List Int) : List (List Int) := o.dropLast ++ [o.getLastD [] ++ x]
theorem apL_snoc (R : List (List Int)) (s x : List Int) : apL (R ++ [s]) x = R ++ [s ++ x] := by simp [apL]
def sameG (p g : Gr) : Bool := decide (p.hi * g.ca = g.hi * p.ca)
/-- the model: group after group -/
def mrgS : List Gr → List (List Int)
  | [] => []
  | [g] => [g.cs]
  | g :: p :: r => if sameG p g = true then apL (mrgS (p :: r)) g.cs else mrgS (p :: r) ++ [g.cs]
/-- the program: class after class -/
def stepC (σ : Int → ShT) (o : List (List Int)) (c : Int) : List (List Int) := if o ≠ [] ∧ σ ((o.getLastD []).headD 0) = σ c then apL o [c] else o ++ [[c]]
def pgF (σ : Int → ShT) (L : List Int) : List (List Int) := L.foldl (stepC σ) []
theorem pgF_snoc (σ : Int → ShT) (L : List Int) (c : Int) : pgF σ (L ++ [c]) = stepC σ (pgF σ L) c := by simp [pgF]
theorem step_mem (σ : Int → ShT) (o : List (List Int)) (c : Int) (P : Int → Prop) (h : ∀ s ∈ o, s ≠ [] ∧ ∀ z ∈ s, P z) (hc : P c) : ∀ s ∈ stepC σ o c, s ≠ [] ∧ ∀ z ∈ s, P z := by
  intro s hs
  unfold stepC at hs
  split at hs
  · rename_i hx
    obtain ⟨R, t, rfl⟩ : ∃ R t, o = R ++ [t] := ⟨o.dropLast, o.getLast hx.1, (List.dropLast_concat_getLast hx.1).symm⟩
    rw [apL_snoc] at hs
    rcases List.mem_append.1 hs with h1 | h1
    · exact h s (List.mem_append_left _ h1)
    · rw [List.mem_singleton] at h1
      subst h1
      have ht := h t (by simp)
      refine ⟨by simp, fun z hz => ?_⟩
      rcases List.mem_append.1 hz with h2 | h2
      · exact ht.2 z h2
      · rw [List.mem_singleton] at h2; subst h2; exact hc
  · rcases List.mem_append.1 hs with h1 | h1
    · exact h s h1
    · rw [List.mem_singleton] at h1
      subst h1
      exact ⟨by simp, fun z hz => by rw [List.mem_singleton] at hz; subst hz; exact hc⟩
theorem pgF_mem (σ : Int → ShT) (P : Int → Prop) : ∀ (L : List Int), (∀ c ∈ L, P c) → ∀ s ∈ pgF σ L, s ≠ [] ∧ ∀ z ∈ s, P z := by
  refine snoc_ind (P := fun L => (∀ c ∈ L, P c) → ∀ s ∈ pgF σ L, s ≠ [] ∧ ∀ z ∈ s, P z) ?_ ?_
  · intro _ s hs; simp [pgF] at hs
  · intro L c ih h
    rw [pgF_snoc]
    exact step_mem σ _ c P (ih fun x hx => h x (List.mem_append_left _ hx)) (h c (by simp))
theorem stepC_flat (σ : Int → ShT) (o : List (List Int)) (c : Int) : (stepC σ o c).flatten = o.flatten ++ [c] := by
  unfold stepC
  split
  · rename_i hx
    obtain ⟨R, t, rfl⟩ : ∃ R t, o = R ++ [t] := ⟨o.dropLast, o.getLast hx.1, (List.dropLast_concat_getLast hx.1).symm⟩
    rw [apL_snoc]
    simp
  · simp
theorem pgF_flat (σ : Int → ShT) (L : List Int) : (pgF σ L).flatten = L := by
  refine snoc_ind (P := fun L => (pgF σ L).flatten = L) rfl ?_ L
  intro L c ih
  rw [pgF_snoc, stepC_flat, ih]
/-- the classes of a group, one after another, onto a list that ends in its share -/
theorem fold_same (σ : Int → ShT) (v : ShT) : ∀ (cs : List Int) (R : List (List Int)) (s : List Int), s ≠ [] → σ (s.headD 0) = v → (∀ c ∈ cs, σ c = v) → cs.foldl (stepC σ) (R ++ [s]) = R ++ [s ++ cs]
  | [], R, s, _, _, _ => by simp
  | c :: cs, R, s, hs, hv, h => by
    have hc := h c (List.mem_cons_self ..)
    have e : stepC σ (R ++ [s]) c = R ++ [s ++ [c]] := by
      unfold stepC
      rw [if_pos ⟨by simp, by rw [hc]; simpa using hv⟩, apL_snoc]
    rw [List.foldl_cons, e, fold_same σ v cs R (s ++ [c]) (by simp) ?_ fun x hx => h x (List.mem_cons_of_mem _ hx)]
    · simp
    · cases s with
      | nil => exact absurd rfl hs
      | cons a t => exact hv
theorem fold_group (σ : Int → ShT) (v : ShT) (cs : List Int) (o : List (List Int)) (hne : cs ≠ []) (h : ∀ c ∈ cs, σ c = v) :
    cs.foldl (stepC σ) o = if o ≠ [] ∧ σ ((o.getLastD []).headD 0) = v then apL o cs else o ++ [cs] := by
  obtain ⟨c, t, rfl⟩ : ∃ c t, cs = c :: t := by
    cases cs with
    | nil => exact absurd rfl hne
    | cons c t => exact ⟨c, t, rfl⟩
  have hc := h c (List.mem_cons_self ..)
  rw [List.foldl_cons]
  have e : stepC σ o c = if o ≠ [] ∧ σ ((o.getLastD []).headD 0) = v then apL o [c] else o ++ [[c]] := by unfold stepC; rw [hc]
  rw [e]
  by_cases hx : o ≠ [] ∧ σ ((o.getLastD []).headD 0) = v
  · rw [if_pos hx, if_pos hx]
    obtain ⟨R, s, rfl⟩ : ∃ R s, o = R ++ [s] := ⟨o.dropLast, o.getLast hx.1, (List.dropLast_concat_getLast hx.1).symm⟩
    rw [apL_snoc, apL_snoc]
    have hv : σ (s.headD 0) = v := by simpa using hx.2
    by_cases hs : s = []
    · subst hs
      rw [List.nil_append, List.nil_append]
      exact fold_same σ v t R [c] (by simp) hc (fun x hx => h x (List.mem_cons_of_mem _ hx))
    · rw [fold_same σ v t R (s ++ [c]) (by simp) ?_ (fun x hx => h x (List.mem_cons_of_mem _ hx))]
      · simp
      · cases s with
        | nil => exact absurd rfl hs
        | cons a b => exact hv
  · rw [if_neg hx, if_neg hx]
    exact fold_same σ v t o [c] (by simp) hc (fun x hx => h x (List.mem_cons_of_mem _ hx))
theorem same_share {p g : Gr} (hp : okG p) (hg : okG g) : sameG p g = true ↔ shOf (cgOf p) = shOf (cgOf g) := by
  unfold sameG shOf cgOf
  have h := red_same (a := p.hi) (b := p.ca) (c := g.hi) (d := g.ca) hp.2.1 (by have := hp.1; omega) hg.2.1 (by have := hg.1; omega)
  constructor
  · intro h1
    have h2 := h.2 (of_decide_eq_true h1)
    exact Prod.ext h2.1 h2.2
  · intro h1
    have h2 := h.1 ⟨congrArg Prod.fst h1, congrArg Prod.snd h1⟩
    exact decide_eq_true h2
/-- both ways give the same -/
theorem groups_same (σ : Int → ShT) : ∀ (st : List Gr), (∀ g ∈ st, okG g) → (∀ g ∈ st, ∀ c ∈ g.cs, σ c = shOf (cgOf g)) →
    pgF σ (flatC st) = mrgS st ∧ ∀ g r, st = g :: r → mrgS st ≠ [] ∧ σ (((mrgS st).getLastD []).headD 0) = shOf (cgOf g)
  | [], _, _ => ⟨rfl, fun g r h => by cases h⟩
  | [g], hok, hs => by
    have hne := (hok g (by simp)).2.2.2
    have e : flatC [g] = g.cs := by show [] ++ g.cs = g.cs; rfl
    refine ⟨?_, fun g' r h => ?_⟩
    · rw [e]
      unfold pgF
      rw [fold_group σ (shOf (cgOf g)) g.cs [] hne (hs g (by simp)), if_neg (by simp)]
      rfl
    · injection h with h1 h2
      subst h1
      refine ⟨by simp [mrgS], ?_⟩
      show σ (g.cs.headD 0) = _
      refine hs g (by simp) _ ?_
      cases hcs : g.cs with
      | nil => exact absurd hcs hne
      | cons a t => simp
  | g :: p :: r, hok, hs => by
    obtain ⟨i1, i2⟩ := groups_same σ (p :: r) (fun x hx => hok x (List.mem_cons_of_mem _ hx)) (fun x hx => hs x (List.mem_cons_of_mem _ hx))
    obtain ⟨j1, j2⟩ := i2 p r rfl
    have hne := (hok g (by simp)).2.2.2
    have hsg := hs g (by simp)
    have hss := same_share (hok p (by simp)) (hok g (by simp))
    have e : flatC (g :: p :: r) = flatC (p :: r) ++ g.cs := rfl
    have em : mrgS (g :: p :: r) = if sameG p g = true then apL (mrgS (p :: r)) g.cs else mrgS (p :: r) ++ [g.cs] := rfl
    have hhd : σ (g.cs.headD 0) = shOf (cgOf g) := by
      refine hsg _ ?_
      cases hcs : g.cs with
      | nil => exact absurd hcs hne
      | cons a t => simp
    refine ⟨?_, fun g' r' h => ?_⟩
    · rw [e]
      unfold pgF at i1 ⊢
      rw [List.foldl_append, i1, fold_group σ (shOf (cgOf g)) g.cs _ hne hsg, j2, em]
      by_cases h : sameG p g = true
      · rw [if_pos h, if_pos ⟨j1, hss.1 h⟩]
      · rw [if_neg h, if_neg (fun h2 => h (hss.2 h2.2))]
    · injection h with h1 h2
      subst h1
      rw [em]
      by_cases h : sameG p g = true
      · rw [if_pos h]
        obtain ⟨R, s, hR⟩ : ∃ R s, mrgS (p :: r) = R ++ [s] := ⟨_, _, (List.dropLast_concat_getLast j1).symm⟩
        rw [hR] at j2 ⊢
        rw [apL_snoc]
        have hv : σ (s.headD 0) = shOf (cgOf p) := by simpa using j2
        refine ⟨by simp, ?_⟩
        rw [← hss.1 h]
        cases s with
        | nil =>
          have h3 : σ ((g.cs).headD 0) = shOf (cgOf p) := by rw [hhd, ← hss.1 h]
          simpa using h3
        | cons a b => simpa using hv
      · rw [if_neg h]
        exact ⟨by simp, by simpa using hhd⟩
/-- the share of a class, from the stack -/
def shC : List Gr → Int → ShT
  | [], _ => (0, 0)
  | [g], _ => shOf (cgOf g)
  | g :: p :: r, c => if (cgOf g).1 ≤ c then shOf (cgOf g) else shC (p :: r) c
theorem best_front (G H : List CgT) (c : Int) : ∀ n, n ≤ G.length → bestI (G ++ H) c n = bestI G c n
  | 0, _ => rfl
  | n + 1, h => by
    unfold bestI
    have e : (G ++ H).getD n (0, 0, 0) = G.getD n (0, 0, 0) := by rw [List.getD_eq_getElem?_getD, List.getD_eq_getElem?_getD, List.getElem?_append_left (by omega)]
    rw [e, best_front G H c n (by omega)]
theorem shC_is : ∀ (st : List Gr) (c : Int), st ≠ [] → shOf ((cgL st).getD (bestI (cgL st) c (cgL st).length) (0, 0, 0)) = shC st c
  | [], _, h => absurd rfl h
  | [g], c, _ => by
    have e : bestI (cgL [g]) c (cgL [g]).length = 0 := by
      have := bestI_lt (cgL [g]) c (cgL [g]).length (by simp [cgL])
      rw [cgL_len] at this ⊢
      have h1 : ([g] : List Gr).length = 1 := rfl
      rw [h1] at this ⊢
      omega
    rw [e]
    rfl
  | g :: p :: r, c, _ => by
    have ih := shC_is (p :: r) c (by simp)
    have hl : (cgL (g :: p :: r)).length = (cgL (p :: r)).length + 1 := by rw [cgL_len, cgL_len]; rfl
    have hlast : (cgL (g :: p :: r)).getD (cgL (p :: r)).length (0, 0, 0) = cgOf g := by
      rw [cgL_cons g (p :: r), List.getD_eq_getElem?_getD, List.getElem?_append_right (Nat.le_refl _)]
      simp
    rw [hl]
    have hb : bestI (cgL (g :: p :: r)) c ((cgL (p :: r)).length + 1) = if ((cgL (g :: p :: r)).getD (cgL (p :: r)).length (0, 0, 0)).1 ≤ c then (cgL (p :: r)).length else bestI (cgL (g :: p :: r)) c (cgL (p :: r)).length := rfl
    rw [hb, hlast]
    have es : shC (g :: p :: r) c = if (cgOf g).1 ≤ c then shOf (cgOf g) else shC (p :: r) c := rfl
    rw [es]
    by_cases h : (cgOf g).1 ≤ c
    · rw [if_pos h, if_pos h, hlast]
    · rw [if_neg h, if_neg h, ← ih]
      have hlt := bestI_lt (cgL (p :: r)) c (cgL (p :: r)).length (by rw [cgL_len]; simp)
      rw [cgL_cons g (p :: r), best_front _ _ c _ (Nat.le_refl _)]
      congr 1
      rw [List.getD_eq_getElem?_getD, List.getD_eq_getElem?_getD, List.getElem?_append_left hlt]
theorem shC_at : ∀ (st : List Gr), (∀ g ∈ st, okG g) → (flatC st).Pairwise (· < ·) → ∀ g ∈ st, ∀ c ∈ g.cs, shC st c = shOf (cgOf g)
  | [], _, _, g, hg, _, _ => by simp at hg
  | [g], _, _, g', hg, c, _ => by rw [List.mem_singleton] at hg; subst hg; rfl
  | g :: p :: r, hok, ha, g', hg, c, hc => by
    have ha' : (flatC (p :: r) ++ g.cs).Pairwise (· < ·) := ha
    rw [List.pairwise_append] at ha'
    have es : shC (g :: p :: r) c = if (cgOf g).1 ≤ c then shOf (cgOf g) else shC (p :: r) c := rfl
    rw [es]
    have hne := (hok g (by simp)).2.2.2
    rcases List.mem_cons.1 hg with rfl | hg
    · rw [if_pos]
      show g'.cs.headD 0 ≤ c
      cases hcs : g'.cs with
      | nil => exact absurd hcs hne
      | cons a t =>
        have hp := ha'.2.1
        rw [hcs] at hp hc
        rcases List.mem_cons.1 hc with h | h
        · show a ≤ c; omega
        · have := (List.pairwise_cons.1 hp).1 c h
          show a ≤ c; omega
    · rw [if_neg]
      · exact shC_at (p :: r) (fun x hx => hok x (List.mem_cons_of_mem _ hx)) ha'.1 g' hg c hc
      · have h1 := flat_in (p :: r) g' hg c hc
        have h2 : g.cs.headD 0 ∈ g.cs := by
          cases hcs : g.cs with
          | nil => exact absurd hcs hne
          | cons a t => simp
        have := ha'.2.2 c h1 _ h2
        show ¬ g.cs.headD 0 ≤ c
        omega
/-- the answer -/
def grpR (l r : List Int) : List (List Int) := if tlB l r = true then mrgS (calG l r 11) else []
/-- the share of class c in the program's list -/
def sigC (l r : List Int) (c : Int) : ShT := (calL l r).getD c.toNat (0, 0)
theorem grpR_is {l r : List Int} (h : tlB l r = true) : grpR l r = pgF (sigC l r) (usedC l 11) := by
  unfold grpR
  rw [if_pos h, ← cal_flat l r 11]
  have hok := (cal_ok h 11 (by omega)).1
  refine (groups_same (sigC l r) (calG l r 11) hok fun g hg c hc => ?_).1.symm
  have hasc : (flatC (calG l r 11)).Pairwise (· < ·) := by rw [cal_flat]; exact used_asc l 11
  have hcm := flat_in _ g hg c hc
  rw [cal_flat] at hcm
  have hu := used_mem hcm
  rw [← shC_at _ hok hasc g hg c hc]
  have hne : calG l r 11 ≠ [] := fun e => by rw [e] at hg; simp at hg
  rw [← shC_is _ c hne]
  unfold sigC
  rw [calL_yes h]
  unfold calT
  rw [if_neg (fun e => hne (List.eq_nil_of_length_eq_zero e))]
  unfold calS
  obtain ⟨n, rfl⟩ := Int.eq_ofNat_of_zero_le hu.1
  rw [List.getD_eq_getElem?_getD, List.getElem?_map, List.getElem?_range (by omega)]
  rfl
theorem grp_flat (l r : List Int) : (grpR l r).flatten.length ≤ 11 := by
  cases h : tlB l r with
  | false => unfold grpR; rw [h]; simp
  | true => rw [grpR_is h, pgF_flat]; exact used_len l 11
theorem grp_rows (l r : List Int) : ∀ s ∈ grpR l r, 0 < s.length ∧ s.length ≤ 11 := by
  cases h : tlB l r with
  | false => unfold grpR; rw [h]; intro s hs; simp at hs
  | true =>
    intro s hs
    have h1 := grp_flat l r
    rw [grpR_is h] at hs h1
    refine ⟨List.length_pos_iff.2 (pgF_mem _ (fun _ => True) _ (fun _ _ => trivial) s hs).1, ?_⟩
    have : s.length ≤ ((pgF (sigC l r) (usedC l 11)).flatten).length := (List.sublist_flatten_of_mem hs).length_le
    omega
theorem grp_len (l r : List Int) : (grpR l r).length ≤ 11 := by
  have h1 := grp_flat l r
  have h2 := grp_rows l r
  have key : ∀ (R : List (List Int)), (∀ s ∈ R, 0 < s.length) → R.length ≤ R.flatten.length := by
    intro R
    induction R with
    | nil => intro _; simp
    | cons a t ih =>
      intro h
      have h3 := h a (List.mem_cons_self ..)
      have h4 := ih fun s hs => h s (List.mem_cons_of_mem _ hs)
      simp only [List.flatten_cons, List.length_append, List.length_cons]
      omega
  have := key _ (fun s hs => (h2 s hs).1)
  omega
end Go.Proofs.Ytjpiiidjocilcaa
