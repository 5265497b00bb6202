/- The shares of all classes, from the groups: the mathematics; what a function that returns shares returns. -/
import Derived.Test.YtjpiiidjocilcaaCalMath
import Derived.Test.YtjpiiidjocilcaaCgs
import Derived.Test.YtjpiiidjocilcaaShs
import Derived.Test.YtjpiiidjocilcaaFrac
import Derived.Test.YtjpiiidjocilcaaMake
namespace Go.Proofs.Ytjpiiidjocilcaa
open Go.RowKit
set_option linter.unusedVariables false
set_option linter.unusedSimpArgs false
/-- a group in the program: its first class, its cases, its hits -/
def cgOf (g : Gr) : CgT := (g.cs.headD 0, g.ca, g.hi)
def cgL (st : List Gr) : List CgT := st.reverse.map cgOf
theorem cgL_cons (g : Gr) (r : List Gr) : cgL (g :: r) = cgL r ++ [cgOf g] := by simp [cgL]
theorem cgL_len (st : List Gr) : (cgL st).length = st.length := by simp [cgL]
/-- the group of class c among the first n -/
def bestI (G : List CgT) (c : Int) : Nat → Nat
  | 0 => 0
  | n + 1 => if (G.getD n (0, 0, 0)).1 ≤ c then n else bestI G c n
def shOf (p : CgT) : ShT := (redN p.2.2 p.2.1, redD p.2.2 p.2.1)
/-- the shares of the first m classes -/
def calS (G : List CgT) (m : Nat) : List ShT := (List.range m).map fun (c : Nat) => shOf (G.getD (bestI G (c : Int) G.length) (0, 0, 0))
theorem calS_len (G : List CgT) (m : Nat) : (calS G m).length = m := by simp [calS]
theorem calS_succ (G : List CgT) (m : Nat) : calS G (m + 1) = calS G m ++ [shOf (G.getD (bestI G (m : Int) G.length) (0, 0, 0))] := by simp [calS, List.range_succ]
def calL (l r : List Int) : List ShT := if tlB l r = true then (if (calG l r 11).length = 0 then [] else calS (cgL (calG l r 11)) 11) else []
def calB (l r : List Int) : Bool := tlB l r && !((calG l r 11).length == 0)
theorem calL_len (l r : List Int) : (calL l r).length ≤ 11 := by
  unfold calL
  split
  · split
    · simp
    · rw [calS_len]; exact Nat.le_refl _
  · simp
/-- the first classes ascend -/
theorem firsts : ∀ (st : List Gr), (∀ x ∈ st, okG x) → (flatC st).Pairwise (· < ·) → (cgL st).Pairwise (fun p q => p.1 < q.1) ∧ ∀ p ∈ cgL st, p.1 ∈ flatC st
  | [], _, _ => ⟨List.Pairwise.nil, fun p hp => by simp [cgL] at hp⟩
  | g :: r, h, hp => by
    have hp' : (flatC r ++ g.cs).Pairwise (· < ·) := hp
    rw [List.pairwise_append] at hp'
    obtain ⟨i1, i2⟩ := firsts r (fun y hy => h y (List.mem_cons_of_mem _ hy)) hp'.1
    have hne := (h g (List.mem_cons_self ..)).2.2.2
    have hd : g.cs.headD 0 ∈ g.cs := by
      cases e : g.cs with
      | nil => exact absurd e hne
      | cons a s => exact List.mem_cons_self ..
    refine ⟨?_, fun p hp2 => ?_⟩
    · rw [cgL_cons, List.pairwise_append]
      refine ⟨i1, List.pairwise_singleton _ _, fun a ha b hb => ?_⟩
      rw [List.mem_singleton] at hb
      subst hb
      exact hp'.2.2 _ (i2 a ha) _ hd
    · rw [cgL_cons] at hp2
      show p.1 ∈ flatC r ++ g.cs
      rcases List.mem_append.1 hp2 with h1 | h1
      · exact List.mem_append_left _ (i2 p h1)
      · rw [List.mem_singleton] at h1
        subst h1
        exact List.mem_append_right _ hd
theorem cg_ok {l r : List Int} (h : tlB l r = true) : ∀ p ∈ cgL (calG l r 11), (1 ≤ p.2.1 ∧ 0 ≤ p.2.2 ∧ p.2.2 ≤ p.2.1 ∧ p.2.1 ≤ 11000) ∧ 0 ≤ p.1 ∧ p.1 ≤ 10 := by
  intro p hp
  obtain ⟨i1, i2⟩ := cal_ok h 11 (by omega)
  have hf := (firsts _ i1 (by rw [cal_flat]; exact used_asc l 11)).2 p hp
  rw [cal_flat] at hf
  have hm := used_mem hf
  unfold cgL at hp
  rw [List.mem_map] at hp
  obtain ⟨g, hg, rfl⟩ := hp
  rw [List.mem_reverse] at hg
  have h1 := i1 g hg
  have h2 := sum_mem _ i1 g hg
  refine ⟨⟨h1.1, h1.2.1, h1.2.2.1, ?_⟩, by omega, by omega⟩
  show g.ca ≤ 11000
  omega
theorem cg_asc {l r : List Int} (h : tlB l r = true) : (cgL (calG l r 11)).Pairwise (fun p q => p.1 < q.1) :=
  (firsts _ (cal_ok h 11 (by omega)).1 (by rw [cal_flat]; exact used_asc l 11)).1
theorem best_is {G : List CgT} {c : Int} {i : Nat} (h1 : i = 0 ∨ ∃ h : i < G.length, G[i].1 ≤ c) (h2 : ∀ j (h : j < G.length), i < j → c < G[j].1) : ∀ n, i < n → n ≤ G.length → bestI G c n = i
  | 0, h, _ => by omega
  | n + 1, h, hn => by
    have e : G.getD n (0, 0, 0) = G[n]'(by omega) := by rw [List.getD_eq_getElem?_getD, List.getElem?_eq_getElem (by omega)]; rfl
    unfold bestI
    rw [e]
    by_cases hi : i = n
    · subst hi
      by_cases hc : (G[i]'(by omega)).1 ≤ c
      · rw [if_pos hc]
      · rw [if_neg hc]
        rcases h1 with h1 | ⟨h3, h1⟩
        · subst h1; rfl
        · exact absurd h1 hc
    · have := h2 n (by omega) (by omega)
      rw [if_neg (by omega)]
      exact best_is h1 h2 n (by omega) (by omega)
/-- where the classes of the group before i end -/
def endI (G : List CgT) (i : Nat) : Nat := if i = 0 then 0 else if i < G.length then (G.getD i (0, 0, 0)).1.toNat else 11
theorem cal_next {G : List CgT} (ha : G.Pairwise (fun p q => p.1 < q.1)) (h0 : ∀ p ∈ G, 0 ≤ p.1 ∧ p.1 ≤ 10) {i m : Nat} (hi : i < G.length) (h1 : endI G i ≤ m) (h2 : m < endI G (i + 1)) :
    calS G (m + 1) = calS G m ++ [shOf G[i]] := by
  have gd : ∀ j (h : j < G.length), G.getD j (0, 0, 0) = G[j] := fun j h => by rw [List.getD_eq_getElem?_getD, List.getElem?_eq_getElem h]; rfl
  have hb : bestI G (m : Int) G.length = i := by
    refine best_is ?_ ?_ G.length hi (Nat.le_refl _)
    · by_cases h : i = 0
      · exact .inl h
      · right
        refine ⟨hi, ?_⟩
        unfold endI at h1
        rw [if_neg h, if_pos hi, gd i hi] at h1
        have := h0 _ (List.getElem_mem hi)
        omega
    · intro j hj hij
      have hi1 : i + 1 < G.length := by omega
      unfold endI at h2
      rw [if_neg (by omega), if_pos hi1, gd _ hi1] at h2
      have h3 := h0 _ (List.getElem_mem hi1)
      rcases Nat.lt_or_ge (i + 1) j with h | h
      · have := List.pairwise_iff_getElem.1 ha (i + 1) j hi1 hj h
        omega
      · obtain rfl : j = i + 1 := by omega
        omega
  rw [calS_succ, hb, gd i hi]
theorem endI_le {G : List CgT} (h0 : ∀ p ∈ G, 0 ≤ p.1 ∧ p.1 ≤ 10) (i : Nat) : endI G i ≤ 11 := by
  unfold endI
  by_cases h : i = 0
  · rw [if_pos h]; omega
  · rw [if_neg h]
    by_cases h2 : i < G.length
    · rw [if_pos h2, show G.getD i (0, 0, 0) = G[i] by rw [List.getD_eq_getElem?_getD, List.getElem?_eq_getElem h2]; rfl]
      have := h0 _ (List.getElem_mem h2)
      omega
    · rw [if_neg h2]; exact Nat.le_refl _
theorem endI_up {G : List CgT} (ha : G.Pairwise (fun p q => p.1 < q.1)) (h0 : ∀ p ∈ G, 0 ≤ p.1 ∧ p.1 ≤ 10) {i : Nat} (hi : i < G.length) : endI G i ≤ endI G (i + 1) := by
  have gd : ∀ j (h : j < G.length), G.getD j (0, 0, 0) = G[j] := fun j h => by rw [List.getD_eq_getElem?_getD, List.getElem?_eq_getElem h]; rfl
  by_cases h1 : i + 1 < G.length
  · by_cases h : i = 0
    · subst h; unfold endI; rw [if_pos rfl]; omega
    · unfold endI
      rw [if_neg h, if_pos hi, if_neg (by omega), if_pos h1, gd i hi, gd _ h1]
      have := List.pairwise_iff_getElem.1 ha i (i + 1) hi h1 (by omega)
      omega
  · have h2 := endI_le h0 i
    have e : endI G (i + 1) = 11 := by unfold endI; rw [if_neg (by omega), if_neg h1]
    omega
/-- shares and a bool returned, the shares in own memory -/
def SRet (S : List ShT) (v : Bool) (w : World) (e : Ending) (w' : World) : Prop := ∃ a c, e = .returned (.tuple #[.slice a S.length c, .bool v]) ∧ OwnSh w' w.heap.size a S ∧ Below w.heap.size w w'
theorem OwnSh.of_own {w : World} {B n cap : Nat} {a : Option Addr} {l : List ShT} (h : w.ownsRow B 38 2 (.slice a n cap) n (shv l)) : OwnSh w B a l := by
  rcases h.2 with ⟨h1, h2⟩ | ⟨g, cap', cur, h1, h2, h3, h4, h5, h6, h7⟩
  · have h9 := h.1
    rw [h2, shv_length] at h9
    have : l = [] := List.eq_nil_of_length_eq_zero (by omega)
    subst this
    exact OwnSh.none_
  · injection h1 with h1 _ _
    subst h1
    refine ⟨g, h2, .inr ⟨rfl, cur, h3, fun k hk => ?_⟩⟩
    have e : cur.toList.take (n * 2) = shv l := h7
    have hk2 : k < (cur.toList.take (n * 2)).length := by rw [e]; exact hk
    have h8 : (cur.toList.take (n * 2))[k]? = some (shv l)[k] := by rw [e, List.getElem?_eq_getElem hk]
    rw [List.getElem?_take] at h8
    split at h8
    · rw [← h8]; simp
    · cases h8
end Go.Proofs.Ytjpiiidjocilcaa
