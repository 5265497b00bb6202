/- The mathematics of RegionParts: chains, the part of a cell, the parts of a region. -/
import Derived.Test.YthceffkkokgpnaaRgnMath
namespace Go.Proofs.Ythceffkkokgpnaa
set_option linter.unusedVariables false
set_option linter.unusedSimpArgs false
/-- reached from f by a chain of cells of l, each beside the one before -/
inductive Ch (wd : Int) (l : List Int) (f : Int) : Int → Prop
  | here : f ∈ l → Ch wd l f f
  | step {b c : Int} : Ch wd l f b → c ∈ l → besB wd b c = true → Ch wd l f c
theorem Ch.mem {wd f b : Int} {l : List Int} (h : Ch wd l f b) : b ∈ l := by cases h <;> assumption
theorem bes_comm (wd a b : Int) : besB wd a b = besB wd b a := by
  unfold besB
  have e1 : ∀ x y : Int, (x - y) * (x - y) = (y - x) * (y - x) := fun x y => by
    rw [← Int.neg_sub y x, Int.neg_mul_neg]
  rw [e1 (a % wd), e1 (a / wd)]
/-- the part of f -/
noncomputable def compL (wd : Int) (l : List Int) (f : Int) : List Int := l.filter fun b => @decide (Ch wd l f b) (Classical.propDecidable _)
theorem mem_comp {wd f b : Int} {l : List Int} : b ∈ compL wd l f ↔ Ch wd l f b := by
  unfold compL
  rw [List.mem_filter]
  exact ⟨fun h => @of_decide_eq_true _ (Classical.propDecidable _) h.2, fun h => ⟨h.mem, @decide_eq_true _ (Classical.propDecidable _) h⟩⟩
theorem comp_of {wd f : Int} {l S : List Int} (h1 : ∀ b ∈ S, Ch wd l f b) (hf : f ∈ S) (h2 : ∀ b ∈ S, ∀ c ∈ l, besB wd b c = true → c ∈ S) (b : Int) : b ∈ S ↔ b ∈ compL wd l f := by
  rw [mem_comp]
  constructor
  · exact h1 b
  · intro h
    induction h with
    | here _ => exact hf
    | step _ hc hb ih => exact h2 _ ih _ hc hb
theorem asc_ext : ∀ {a b : List Int}, a.Pairwise (· < ·) → b.Pairwise (· < ·) → (∀ x, x ∈ a ↔ x ∈ b) → a = b
  | [], [], _, _, _ => rfl
  | [], y :: b, _, _, h => absurd ((h y).2 (by simp)) (by simp)
  | x :: a, [], _, _, h => absurd ((h x).1 (by simp)) (by simp)
  | x :: a, y :: b, ha, hb, h => by
    rw [List.pairwise_cons] at ha hb
    have e : x = y := by
      have h1 := (h x).1 (by simp)
      have h2 := (h y).2 (by simp)
      rcases List.mem_cons.1 h1 with e | h1
      · exact e
      · rcases List.mem_cons.1 h2 with e | h2
        · exact e.symm
        · have := hb.1 x h1; have := ha.1 y h2; omega
    subst e
    rw [asc_ext ha.2 hb.2 fun z => ?_]
    constructor
    · intro hz
      rcases List.mem_cons.1 ((h z).1 (List.mem_cons_of_mem _ hz)) with e | h1
      · subst e; have := ha.1 z hz; omega
      · exact h1
    · intro hz
      rcases List.mem_cons.1 ((h z).2 (List.mem_cons_of_mem _ hz)) with e | h1
      · subst e; have := hb.1 z hz; omega
      · exact h1
theorem comp_asc {wd f : Int} {l : List Int} (h : l.Pairwise (· < ·)) : (compL wd l f).Pairwise (· < ·) := h.filter _
theorem asc_nodup {l : List Int} (h : l.Pairwise (· < ·)) : l.Nodup := h.imp fun h => Int.ne_of_lt h
theorem sort_is {P S : List Int} (hn : P.Nodup) (hs : S.Pairwise (· < ·)) (h : ∀ x, x ∈ P ↔ x ∈ S) : (P.mergeSort fun x y => decide (x ≤ y)) = S := by
  have h1 := List.pairwise_mergeSort (le := fun x y : Int => decide (x ≤ y)) (fun a b c h1 h2 => by simp only [decide_eq_true_eq] at *; omega) (fun a b => by simp only [Bool.or_eq_true, decide_eq_true_eq]; omega) P
  have h2 := (List.mergeSort_perm P (fun x y : Int => decide (x ≤ y))).nodup_iff.2 hn
  refine asc_ext ?_ hs fun x => by rw [List.mem_mergeSort]; exact h x
  refine (h1.and h2).imp fun ⟨a, b⟩ => ?_
  simp only [decide_eq_true_eq] at a
  omega
/-- a part that is taken: those that stand in it, those that wait, and those that are left -/
structure Tk (wd : Int) (R : List Int) (f : Int) (P Q L : List Int) : Prop where
  all : ∀ b, b ∈ R ↔ b ∈ P ∨ b ∈ Q ∨ b ∈ L
  nd : (P ++ Q).Nodup
  ndL : L.Nodup
  dis : ∀ b ∈ L, b ∉ P ∧ b ∉ Q
  ch : ∀ b, b ∈ P ∨ b ∈ Q → Ch wd R f b
  fst : f ∈ P ∨ f ∈ Q
  clo : ∀ b ∈ P, ∀ c ∈ R, besB wd b c = true → c ∈ P ∨ c ∈ Q
  len : P.length + Q.length + L.length = R.length
theorem Tk.start {wd f : Int} {R : List Int} (hf : f ∈ R) (hn : R.Nodup) : Tk wd R f [] [f] (R.erase f) := by
  refine ⟨fun b => ?_, by simp, hn.erase f, fun b hb => ?_, fun b hb => ?_, by simp, (fun b hb => by cases hb), ?_⟩
  · rw [hn.mem_erase_iff, List.mem_singleton]
    constructor
    · intro h; by_cases e : b = f
      · exact .inr (.inl e)
      · exact .inr (.inr ⟨e, h⟩)
    · rintro (h | rfl | h)
      · cases h
      · exact hf
      · exact h.2
  · rw [hn.mem_erase_iff] at hb
    exact ⟨by simp, by rw [List.mem_singleton]; exact hb.1⟩
  · rcases hb with hb | hb
    · cases hb
    · rw [List.mem_singleton] at hb; subst hb; exact .here hf
  · rw [List.length_erase_of_mem hf]
    have := List.length_pos_of_mem hf
    simp; omega
/-- .. while the neighbors of its newest cell c are asked, of which j are done -/
structure Tj (wd : Int) (R : List Int) (f : Int) (P : List Int) (c : Int) (Q L : List Int) (j : Nat) : Prop where
  all : ∀ b, b ∈ R ↔ b ∈ P ++ [c] ∨ b ∈ Q ∨ b ∈ L
  nd : (P ++ [c] ++ Q).Nodup
  ndL : L.Nodup
  dis : ∀ b ∈ L, b ∉ P ++ [c] ∧ b ∉ Q
  ch : ∀ b, b ∈ P ++ [c] ∨ b ∈ Q → Ch wd R f b
  fst : f ∈ P ++ [c] ∨ f ∈ Q
  clo : ∀ b ∈ P, ∀ c' ∈ R, besB wd b c' = true → c' ∈ P ++ [c] ∨ c' ∈ Q
  nei : ∀ d, d < j → inP wd L (nbX (c % wd) d) (nbY (c / wd) d) = false
  len : P.length + 1 + Q.length + L.length = R.length
theorem Tk.pop {wd f c : Int} {R P Q L : List Int} (h : Tk wd R f P (c :: Q) L) : Tj wd R f P c Q L 0 := by
  have e : P ++ c :: Q = P ++ [c] ++ Q := by simp
  have m : ∀ b, (b ∈ P ∨ b ∈ c :: Q) ↔ (b ∈ P ++ [c] ∨ b ∈ Q) := fun b => by
    rw [← List.mem_append, ← List.mem_append, e]
  refine ⟨fun b => ?_, by rw [← e]; exact h.nd, h.ndL, fun b hb => ?_, fun b hb => h.ch b ((m b).2 hb), (m f).1 h.fst, fun b hb c' hc hh => (m c').1 (h.clo b hb c' hc hh), fun d hd => by omega, by have := h.len; simp at this; omega⟩
  · rw [h.all b, ← or_assoc, m b, or_assoc]
  · have h1 := h.dis b hb
    constructor
    · intro h2; rcases List.mem_append.1 h2 with h3 | h3
      · exact h1.1 h3
      · rw [List.mem_singleton] at h3; subst h3; exact h1.2 (by simp)
    · intro h2; exact h1.2 (List.mem_cons_of_mem _ h2)
theorem Tj.miss {wd f c : Int} {R P Q L : List Int} {j : Nat} (h : Tj wd R f P c Q L j) (hn : inP wd L (nbX (c % wd) j) (nbY (c / wd) j) = false) : Tj wd R f P c Q L (j + 1) :=
  ⟨h.all, h.nd, h.ndL, h.dis, h.ch, h.fst, h.clo, fun d hd => by
    rcases Nat.lt_or_ge d j with h1 | h1
    · exact h.nei d h1
    · have : d = j := by omega
      subst this; exact hn, h.len⟩
theorem inP_erase {wd c : Int} {L : List Int} (hn : L.Nodup) (p q : Int) : inP wd (L.erase c) p q = (inP wd L p q && !decide (p = c % wd ∧ q = c / wd)) := by
  rw [Bool.eq_iff_iff]
  simp only [Bool.and_eq_true, Bool.not_eq_true', decide_eq_false_iff_not, inP_iff]
  constructor
  · rintro ⟨i, hi, h1, h2⟩
    rw [hn.mem_erase_iff] at hi
    refine ⟨⟨i, hi.2, h1, h2⟩, fun ⟨h3, h4⟩ => hi.1 ?_⟩
    have a := cell_back (wd := wd) (i := i)
    have b := cell_back (wd := wd) (i := c)
    rw [← h3, ← h4] at b
    rw [h1, h2] at a
    omega
  · rintro ⟨⟨i, hi, h1, h2⟩, h3⟩
    refine ⟨i, ?_, h1, h2⟩
    rw [hn.mem_erase_iff]
    exact ⟨fun e => h3 (by subst e; exact ⟨h1.symm, h2.symm⟩), hi⟩
theorem nb_bes {wd c c' : Int} {j : Nat} (hj : j < 4) (h1 : c' % wd = nbX (c % wd) j) (h2 : c' / wd = nbY (c / wd) j) : besB wd c c' = true := by
  unfold besB
  rw [decide_eq_true_eq, h1, h2]
  rcases (by omega : j = 0 ∨ j = 1 ∨ j = 2 ∨ j = 3) with rfl | rfl | rfl | rfl <;> simp only [nbX, nbY] <;> simp <;> (try rw [show c / wd - (c / wd - 1) = 1 by omega]) <;> (try rw [show c / wd - (c / wd + 1) = -1 by omega]) <;> (try rw [show c % wd - (c % wd - 1) = 1 by omega]) <;> (try rw [show c % wd - (c % wd + 1) = -1 by omega]) <;> rfl
theorem bes_nb {wd c c' : Int} (h : besB wd c c' = true) : ∃ j, j < 4 ∧ c' % wd = nbX (c % wd) j ∧ c' / wd = nbY (c / wd) j := by
  unfold besB at h
  rw [decide_eq_true_eq] at h
  rcases sq_one h with ⟨h1, h2 | h2⟩ | ⟨h1, h2 | h2⟩
  · exact ⟨0, by omega, by simp [nbX]; omega, by simp [nbY]; omega⟩
  · exact ⟨2, by omega, by simp [nbX]; omega, by simp [nbY]; omega⟩
  · exact ⟨3, by omega, by simp [nbX]; omega, by simp [nbY]; omega⟩
  · exact ⟨1, by omega, by simp [nbX]; omega, by simp [nbY]; omega⟩
theorem Tj.hit {wd f c c' : Int} {R P Q L : List Int} {j : Nat} (h : Tj wd R f P c Q L j) (hj : j < 4) (hc : c' ∈ L) (h1 : c' % wd = nbX (c % wd) j) (h2 : c' / wd = nbY (c / wd) j) : Tj wd R f P c (Q ++ [c']) (L.erase c') (j + 1) := by
  have hd := h.dis c' hc
  have hR : c' ∈ R := (h.all c').2 (.inr (.inr hc))
  have hin : c ∈ P ++ [c] := by simp
  refine ⟨fun b => ?_, ?_, h.ndL.erase c', fun b hb => ?_, fun b hb => ?_, h.fst.imp_right fun h => List.mem_append_left _ h, fun b hb x hx hh => (h.clo b hb x hx hh).imp_right fun h => List.mem_append_left _ h, fun d hdj => ?_, ?_⟩
  · rw [h.all b, h.ndL.mem_erase_iff, List.mem_append (s := Q), List.mem_singleton]
    constructor
    · rintro (h3 | h3 | h3)
      · exact .inl h3
      · exact .inr (.inl (.inl h3))
      · by_cases e : b = c'
        · exact .inr (.inl (.inr e))
        · exact .inr (.inr ⟨e, h3⟩)
    · rintro (h3 | (h3 | h3) | h3)
      · exact .inl h3
      · exact .inr (.inl h3)
      · subst h3; exact .inr (.inr hc)
      · exact .inr (.inr h3.2)
  · rw [← List.append_assoc, List.nodup_append]
    refine ⟨h.nd, by simp, fun a ha b hb => ?_⟩
    rw [List.mem_singleton] at hb
    subst hb
    intro e
    subst e
    rcases List.mem_append.1 ha with h3 | h3
    · exact hd.1 h3
    · exact hd.2 h3
  · rw [h.ndL.mem_erase_iff] at hb
    have h3 := h.dis b hb.2
    refine ⟨h3.1, fun h4 => ?_⟩
    rcases List.mem_append.1 h4 with h5 | h5
    · exact h3.2 h5
    · rw [List.mem_singleton] at h5; exact hb.1 h5
  · rcases hb with hb | hb
    · exact h.ch b (.inl hb)
    · rcases List.mem_append.1 hb with h3 | h3
      · exact h.ch b (.inr h3)
      · rw [List.mem_singleton] at h3
        subst h3
        exact .step (h.ch c (.inl hin)) hR (nb_bes hj h1 h2)
  · rw [inP_erase h.ndL]
    rcases Nat.lt_or_ge d j with h3 | h3
    · rw [h.nei d h3]; rfl
    · have : d = j := by omega
      subst this
      rw [h1, h2]; simp
  · rw [List.length_erase_of_mem hc]
    have := List.length_pos_of_mem hc
    have := h.len
    simp; omega
theorem Tj.done {wd f c : Int} {R P Q L : List Int} (h : Tj wd R f P c Q L 4) : Tk wd R f (P ++ [c]) Q L := by
  refine ⟨h.all, h.nd, h.ndL, h.dis, h.ch, h.fst, fun b hb x hx hh => ?_, by have := h.len; simp; omega⟩
  rcases List.mem_append.1 hb with h1 | h1
  · exact h.clo b h1 x hx hh
  · rw [List.mem_singleton] at h1
    subst h1
    rcases (h.all x).1 hx with h2 | h2 | h2
    · exact .inl h2
    · exact .inr h2
    · obtain ⟨j, hj, e1, e2⟩ := bes_nb hh
      have h3 := h.nei j hj
      rw [← e1, ← e2] at h3
      have h4 : inP wd L (x % wd) (x / wd) = true := inP_iff.2 ⟨x, h2, rfl, rfl⟩
      rw [h3] at h4; cases h4
theorem Tk.comp {wd f : Int} {R P L : List Int} (h : Tk wd R f P [] L) (b : Int) : b ∈ P ↔ b ∈ compL wd R f :=
  comp_of (fun b hb => h.ch b (.inl hb)) (by simpa using h.fst) (fun b hb c hc hh => by simpa using h.clo b hb c hc hh) b
theorem Tk.sorted {wd f : Int} {R P L : List Int} (h : Tk wd R f P [] L) (ha : R.Pairwise (· < ·)) : (P.mergeSort fun x y => decide (x ≤ y)) = compL wd R f :=
  sort_is (by simpa using h.nd) (comp_asc ha) h.comp
theorem Tk.left {wd f : Int} {R P L : List Int} (h : Tk wd R f P [] L) (b : Int) : b ∈ L ↔ b ∈ R ∧ b ∉ compL wd R f := by
  rw [← h.comp b, h.all b]
  have h1 := h.dis b
  constructor
  · intro h2; exact ⟨.inr (.inr h2), (h1 h2).1⟩
  · rintro ⟨h2 | h2 | h2, h3⟩
    · exact absurd h2 h3
    · cases h2
    · exact h2
/-- the parts of the cells of l before the one at k -/
noncomputable def partsP (wd : Int) (l : List Int) : Nat → List (List Int)
  | 0 => []
  | k + 1 => if l.getD k 0 ∈ (partsP wd l k).flatten then partsP wd l k else partsP wd l k ++ [compL wd l (l.getD k 0)]
theorem partsP_old {wd : Int} {l : List Int} {k : Nat} (hk : k < l.length) (h : l[k] ∈ (partsP wd l k).flatten) : partsP wd l (k + 1) = partsP wd l k := by
  have e : l.getD k 0 = l[k] := by simp [hk]
  rw [partsP, e, if_pos h]
theorem partsP_new {wd : Int} {l : List Int} {k : Nat} (hk : k < l.length) (h : l[k] ∉ (partsP wd l k).flatten) : partsP wd l (k + 1) = partsP wd l k ++ [compL wd l l[k]] := by
  have e : l.getD k 0 = l[k] := by simp [hk]
  rw [partsP, e, if_neg h]
theorem parts_each {wd : Int} {l : List Int} : ∀ k, ∀ r ∈ partsP wd l k, ∃ f, r = compL wd l f
  | 0, r, h => by cases h
  | k + 1, r, h => by
    rw [partsP] at h
    split at h
    · exact parts_each k r h
    · rcases List.mem_append.1 h with h | h
      · exact parts_each k r h
      · rw [List.mem_singleton] at h; exact ⟨_, h⟩
/-- a cell beside one of the parts is in them -/
theorem parts_closed {wd : Int} {l : List Int} {k : Nat} {b c : Int} (hb : b ∈ (partsP wd l k).flatten) (hc : c ∈ l) (h : besB wd b c = true) : c ∈ (partsP wd l k).flatten := by
  obtain ⟨r, hr, hbr⟩ := List.mem_flatten.1 hb
  obtain ⟨f, rfl⟩ := parts_each k r hr
  exact List.mem_flatten.2 ⟨_, hr, mem_comp.2 (.step (mem_comp.1 hbr) hc h)⟩
theorem parts_len {wd : Int} {l : List Int} : ∀ k, (partsP wd l k).length ≤ k
  | 0 => Nat.le_refl _
  | k + 1 => by
    have := parts_len (wd := wd) (l := l) k
    rw [partsP]
    split
    · omega
    · rw [List.length_append, List.length_singleton]; omega
/-- the cells that are left when the parts before k are taken -/
noncomputable def restP (wd : Int) (l : List Int) (k : Nat) : List Int := l.filter fun b => decide (b ∉ (partsP wd l k).flatten)
theorem mem_rest {wd b : Int} {l : List Int} {k : Nat} : b ∈ restP wd l k ↔ b ∈ l ∧ b ∉ (partsP wd l k).flatten := by
  unfold restP; rw [List.mem_filter, decide_eq_true_eq]
theorem rest_asc {wd : Int} {l : List Int} {k : Nat} (h : l.Pairwise (· < ·)) : (restP wd l k).Pairwise (· < ·) := h.filter _
theorem comp_rest {wd f : Int} {l : List Int} {k : Nat} (ha : l.Pairwise (· < ·)) (hf : f ∈ restP wd l k) : compL wd (restP wd l k) f = compL wd l f := by
  refine asc_ext (comp_asc (rest_asc ha)) (comp_asc ha) fun b => ?_
  rw [mem_comp, mem_comp]
  constructor
  · intro h
    induction h with
    | here h => exact .here (mem_rest.1 h).1
    | step _ hc hb ih => exact .step ih (mem_rest.1 hc).1 hb
  · intro h
    induction h with
    | here h => exact .here hf
    | step _ hc hb ih =>
      refine .step ih (mem_rest.2 ⟨hc, fun h => ?_⟩) hb
      rw [bes_comm] at hb
      exact (mem_rest.1 ih.mem).2 (parts_closed h (mem_rest.1 ih.mem).1 hb)
theorem rest_next {wd : Int} {l : List Int} {k : Nat} (ha : l.Pairwise (· < ·)) (hk : k < l.length) (hf : l[k] ∉ (partsP wd l k).flatten) (b : Int) : b ∈ restP wd l (k + 1) ↔ b ∈ restP wd l k ∧ b ∉ compL wd (restP wd l k) l[k] := by
  rw [comp_rest ha (mem_rest.2 ⟨List.getElem_mem hk, hf⟩), mem_rest, mem_rest, partsP_new hk hf]
  simp only [List.flatten_append, List.mem_append, List.flatten_cons, List.flatten_nil, List.append_nil, not_or, and_assoc]
theorem inP_ext {wd : Int} {l l' : List Int} (h : ∀ b, b ∈ l ↔ b ∈ l') (x y : Int) : inP wd l x y = inP wd l' x y := by
  rw [Bool.eq_iff_iff, inP_iff, inP_iff]
  constructor
  · rintro ⟨i, h1, h2⟩; exact ⟨i, (h i).1 h1, h2⟩
  · rintro ⟨i, h1, h2⟩; exact ⟨i, (h i).2 h1, h2⟩
theorem inP_self {wd i : Int} {l : List Int} : inP wd l (i % wd) (i / wd) = decide (i ∈ l) := by
  rw [Bool.eq_iff_iff, inP_iff, decide_eq_true_eq]
  constructor
  · rintro ⟨k, hk, h1, h2⟩
    have a := cell_back (wd := wd) (i := i)
    have b := cell_back (wd := wd) (i := k)
    rw [← h1, ← h2] at a
    rw [← a, b]; exact hk
  · intro h; exact ⟨i, h, rfl, rfl⟩
theorem reg_asc {wd hg : Int} {l : List Int} (h : regB wd hg l = true) : l.Pairwise (· < ·) := by
  rw [List.pairwise_iff_getElem]
  intro i j hi hj hij
  exact reg_lt h i j hij hj
noncomputable def partsR (wd hg : Int) (l : List Int) : List (List Int) := if regB wd hg l = true then partsP wd l l.length else []
theorem partsR_no {wd hg : Int} {l : List Int} (h : regB wd hg l = false) : partsR wd hg l = [] := if_neg (by rw [h]; simp)
theorem partsR_yes {wd hg : Int} {l : List Int} (h : regB wd hg l = true) : partsR wd hg l = partsP wd l l.length := if_pos h
end Go.Proofs.Ythceffkkokgpnaa
