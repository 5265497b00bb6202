/- Any single changed byte of a sealed text is detected. -/
import Derived.Test.YtdgbhogbapbbgaaDoorVerify
import Derived.Test.YtdgbhogbapbbgaaDoorParseMath
namespace Go.Proofs.YtdgbhogbapbbgaaDoor
set_option linter.unusedVariables false
theorem step_bd (a : Int) (c : UInt8) : 0 ≤ ckStep a c ∧ ckStep a c < 999979 := by unfold ckStep; omega
theorem step_inj {a a' : Int} {c : UInt8} (h0 : 0 ≤ a) (h1 : a < 999979) (h2 : 0 ≤ a') (h3 : a' < 999979) (h : ckStep a c = ckStep a' c) : a = a' := by
  unfold ckStep at h; omega
theorem fold_inj (q : List UInt8) : ∀ a a' : Int, 0 ≤ a → a < 999979 → 0 ≤ a' → a' < 999979 → q.foldl ckStep a = q.foldl ckStep a' → a = a' := by
  induction q with
  | nil => intro a a' _ _ _ _ h; exact h
  | cons c r ih =>
    intro a a' h0 h1 h2 h3 h
    rw [List.foldl_cons, List.foldl_cons] at h
    have b1 := step_bd a c
    have b2 := step_bd a' c
    exact step_inj h0 h1 h2 h3 (ih _ _ b1.1 b1.2 b2.1 b2.2 h)
theorem ck_set {l : List UInt8} {k : Nat} {v : UInt8} (hk : k < l.length) (h : ck (l.set k v) = ck l) : v = l[k] := by
  have e1 : l = l.take k ++ l[k] :: l.drop (k + 1) := by simp
  have e2 : l.set k v = l.take k ++ v :: l.drop (k + 1) := List.set_eq_take_append_cons_drop .. ▸ (by rw [if_pos hk])
  rw [e2] at h
  conv at h => rhs; rw [e1]
  unfold ck at h
  rw [List.foldl_append, List.foldl_append, List.foldl_cons, List.foldl_cons] at h
  generalize (l.take k).foldl ckStep 7 = a at h
  have b1 := step_bd a v
  have b2 := step_bd a l[k]
  have h3 := fold_inj _ _ _ b1.1 b1.2 b2.1 b2.2 h
  unfold ckStep at h3
  have c1 := v.toNat_lt
  have c2 := l[k].toNat_lt
  exact UInt8.toNat_inj.1 (by omega)
theorem itoa_free (n : Int) : ∀ c ∈ Lib.itoa n, c ≠ 35 := by
  intro c hc e
  subst e
  by_cases hn : n < 0
  · obtain ⟨u, rfl⟩ : ∃ u : Nat, n = -(u : Int) := ⟨n.natAbs, by omega⟩
    rw [Lib.itoa_neg u (by omega)] at hc
    rcases List.mem_cons.1 hc with h | h
    · cases h
    · have := (dec_val u).2.1 35 h; simp at this
  · obtain ⟨u, rfl⟩ : ∃ u : Nat, n = (u : Int) := ⟨n.toNat, by omega⟩
    rw [Lib.itoa_nonneg] at hc
    have := (dec_val u).2.1 35 hc; simp at this
theorem free_of {l : List UInt8} (h : hasB l 35 = false) : ∀ c ∈ l, c ≠ 35 := by
  intro c hc e
  subst e
  unfold hasB at h
  rw [List.any_eq_false] at h
  exact h 35 hc (by decide)
/-- in a sealed list the mark stands at one place alone -/
theorem mark_at {h d : List UInt8} (hh : ∀ c ∈ h, c ≠ 35) (hd : ∀ c ∈ d, c ≠ 35) {i : Nat} (hi : (h ++ 35 :: d)[i]? = some 35) : i = h.length := by
  rcases Nat.lt_trichotomy i h.length with h1 | h1 | h1
  · rw [List.getElem?_append_left h1] at hi
    exact absurd rfl (hh 35 (List.mem_of_getElem? hi))
  · exact h1
  · rw [List.getElem?_append_right (by omega)] at hi
    obtain ⟨m, hm⟩ : ∃ m, i - h.length = m + 1 := ⟨i - h.length - 1, by omega⟩
    rw [hm, List.getElem?_cons_succ] at hi
    exact absurd rfl (hd 35 (List.mem_of_getElem? hi))
theorem detect_list {X h : List UInt8} {k : Nat} {v : UInt8} (hX : ∀ c ∈ X, c ≠ 35) (hh : ∀ c ∈ h, c ≠ 35) (hk : k < (sealL X).length) (hv : (sealL X)[k] ≠ v) : sealL h ≠ (sealL X).set k v := by
  intro e
  have sX : sealL X = X ++ 35 :: Lib.itoa (ck X) := by simp [sealL]
  have sh : sealL h = h ++ 35 :: Lib.itoa (ck h) := by simp [sealL]
  have fX := itoa_free (ck X)
  have fh := itoa_free (ck h)
  have hset : ∀ i, i ≠ k → ((sealL X).set k v)[i]? = (sealL X)[i]? := fun i hi => by rw [List.getElem?_set]; simp [Ne.symm hi]
  have hatk : ((sealL X).set k v)[k]? = some v := by rw [List.getElem?_set]; simp [hk]
  have mX : (sealL X)[X.length]? = some 35 := by rw [sX, List.getElem?_append_right (Nat.le_refl _)]; simp
  have mh : (sealL h)[h.length]? = some 35 := by rw [sh, List.getElem?_append_right (Nat.le_refl _)]; simp
  have hlen : h.length = X.length ∧ k ≠ X.length := by
    by_cases hkx : k = X.length
    · exfalso
      by_cases e2 : h.length = k
      · rw [e, e2, hatk] at mh
        injection mh with mh
        subst mh
        have : (sealL X)[k]? = some 35 := by rw [hkx]; exact mX
        rw [List.getElem?_eq_getElem hk] at this
        injection this with this
        exact hv this
      · rw [e, hset _ e2] at mh
        rw [sX] at mh
        have := mark_at hX fX mh
        omega
    · have h1 : (sealL h)[X.length]? = some 35 := by rw [e, hset _ (Ne.symm hkx)]; exact mX
      rw [sh] at h1
      exact ⟨(mark_at hh fh h1).symm, hkx⟩
  obtain ⟨hl, hkx⟩ := hlen
  have hnum : ∀ m n : Int, Lib.itoa m = Lib.itoa n → m = n := fun m n h => by rw [← readZ_itoa m, ← readZ_itoa n, h]
  by_cases hlt : k < X.length
  · have e3 : (sealL X).set k v = X.set k v ++ 35 :: Lib.itoa (ck X) := by rw [sX, List.set_append_left _ _ hlt]
    rw [sh, e3] at e
    obtain ⟨e4, e5⟩ := List.append_inj e (by rw [List.length_set]; exact hl)
    injection e5 with _ e5
    have e6 := hnum _ _ e5
    rw [e4] at e6
    have e7 := ck_set hlt e6
    apply hv
    have h8 : (sealL X)[k]? = some X[k] := by rw [sX, List.getElem?_append_left hlt]; simp [hlt]
    rw [List.getElem?_eq_getElem hk] at h8
    injection h8 with h8
    rw [h8, e7]
  · have e3 : (sealL X).set k v = X ++ (35 :: Lib.itoa (ck X)).set (k - X.length) v := by rw [sX, List.set_append_right _ _ (by omega)]
    rw [sh, e3] at e
    obtain ⟨e4, e5⟩ := List.append_inj e hl
    rw [e4] at e5
    have h9 : ((sealL X).set k v) = sealL X := by rw [e3, ← e5, sX]
    rw [h9, List.getElem?_eq_getElem hk] at hatk
    injection hatk with hatk
    exact hv hatk
theorem ver_changed {x : ByteArray} (hx : apB x = true) {k : Nat} {v : UInt8} (hk : k < (apS x).size) (hv : (apS x)[k] ≠ v) (y : ByteArray) (hy : y.data.toList = (apS x).data.toList.set k v) : vB y = false := by
  have hf : hasB x.data.toList 35 = false := by
    cases e : hasB x.data.toList 35 with
    | false => rfl
    | true => rw [apB_has e] at hx; cases hx
  have ha : (apS x).data.toList = sealL x.data.toList := by rw [apS_yes hx]
  refine vB_other ?_
  rw [hy, ha]
  have hk' : k < (sealL x.data.toList).length := by rw [← ha]; simpa using hk
  refine detect_list (free_of hf) (free_of (headL_free _)) hk' ?_
  have h1 : (sealL x.data.toList)[k] = (apS x)[k] := by
    have h2 : (apS x).data.toList[k]? = some (apS x)[k] := by rw [List.getElem?_eq_getElem (by simpa using hk)]; rfl
    rw [ha, List.getElem?_eq_getElem hk'] at h2
    injection h2
  rw [h1]; exact hv
theorem ver_sealed {x : ByteArray} (hx : apB x = true) : vB (apS x) = true ∧ vS (apS x) = x := by
  have hf : hasB x.data.toList 35 = false := by
    cases e : hasB x.data.toList 35 with
    | false => rfl
    | true => rw [apB_has e] at hx; cases hx
  have ha : (apS x).data.toList = sealL x.data.toList := by rw [apS_yes hx]
  have hh : headL (sealL x.data.toList) = x.data.toList := by
    unfold headL sealL
    rw [List.append_assoc, List.takeWhile_append_of_pos (fun c hc => by have := free_of hf c hc; simp; intro e; exact this (UInt8.toNat_inj.1 (by show c.toNat = 35; omega)))]
    simp
  have hsz : (apS x).size ≤ 4000 := by
    have h1 : (sealL x.data.toList).length ≤ 4000 := by
      rcases Nat.lt_or_ge 4000 (sealL x.data.toList).length with h | h
      · rw [apB_out h] at hx; cases hx
      · exact h
    have h2 : (apS x).data.toList.length = (apS x).size := by simp
    rw [← h2, ha]; exact h1
  have hb : vB (apS x) = true := vB_yes hsz (by rw [ha, hh])
  refine ⟨hb, ?_⟩
  rw [vS_yes hb, ha, hh]
theorem fmt_parse {n : Int} (h : inR n = true) : pB (fmtS n) = true ∧ pN (fmtS n) = n := by
  have h1 := of_decide_eq_true h
  exact pB_of h1.1 h1.2 (by rw [fmtS_yes h])
end Go.Proofs.YtdgbhogbapbbgaaDoor
