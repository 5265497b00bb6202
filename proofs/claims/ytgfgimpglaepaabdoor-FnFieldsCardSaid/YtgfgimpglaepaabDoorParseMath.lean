/- Plain mathematics of reading a decimal text back. -/
import Derived.Test.YtgfgimpglaepaabDoorMath
import Derived.Lib.ItoaNum
import Derived.Lib.ItoaMem
import Derived.Lib.ItoaLen
import Derived.Lib.AtoiAll
namespace Go.Proofs.YtgfgimpglaepaabDoor
/-- a further digit -/
def dStep (a : Nat) (c : UInt8) : Nat := a * 10 + (c.toNat - 48)
def val (l : List UInt8) : Nat := l.foldl dStep 0
/-- every byte is a digit -/
def Dig (l : List UInt8) : Prop := ∀ c ∈ l, 48 ≤ c.toNat ∧ c.toNat ≤ 57
theorem val_snoc (l : List UInt8) (c : UInt8) : val (l ++ [c]) = val l * 10 + (c.toNat - 48) := by
  unfold val; rw [List.foldl_append]; rfl
theorem Dig.snoc {l : List UInt8} {c : UInt8} (h : Dig l) (hc : 48 ≤ c.toNat ∧ c.toNat ≤ 57) : Dig (l ++ [c]) := by
  intro x hx
  rcases List.mem_append.1 hx with h1 | h1
  · exact h x h1
  · rw [List.mem_singleton.1 h1]; exact hc
theorem digit_toNat (d : Nat) (h : d < 10) : (UInt8.ofNat (48 + d)).toNat = 48 + d := by
  rw [UInt8.toNat_ofNat']; omega
theorem dec_val (u : Nat) : val (Lib.decDigits u) = u ∧ Dig (Lib.decDigits u) ∧ 1 ≤ (Lib.decDigits u).length := by
  induction u using Nat.strongRecOn with
  | _ u ih =>
    by_cases h : u < 10
    · rw [Lib.decDigits_one h]
      refine ⟨?_, ?_, by simp⟩
      · show 0 * 10 + ((UInt8.ofNat (48 + u)).toNat - 48) = u
        rw [digit_toNat u h]; omega
      · intro c hc
        rw [List.mem_singleton.1 hc, digit_toNat u h]; omega
    · obtain ⟨h1, h2, h3⟩ := ih (u / 10) (by omega)
      rw [Lib.decDigits, dif_neg h]
      have hd := digit_toNat (u % 10) (by omega)
      refine ⟨?_, h2.snoc (by rw [hd]; omega), by simp⟩
      rw [val_snoc, h1, hd]; omega
theorem nDig_le (k : Nat) : ∀ u, u < 10 ^ k → 1 ≤ k → Lib.nDigits u ≤ k := by
  induction k with
  | zero => intro u _ h; omega
  | succ k ih =>
    intro u hu _
    by_cases h : u < 10
    · rw [Lib.nDigits_small h]; omega
    · rw [Lib.nDigits_big h]
      have h1 : u / 10 < 10 ^ k := by rw [Nat.pow_succ] at hu; omega
      rcases Nat.eq_zero_or_pos k with h0 | h0
      · subst h0; simp at hu; omega
      · have := ih (u / 10) h1 h0; omega
theorem dec_len (u : Nat) (h : u ≤ 999999) : (Lib.decDigits u).length ≤ 6 := by
  rw [Lib.decDigits_length]; exact nDig_le 6 u (by omega) (by omega)
theorem val_le (l : List UInt8) (hd : Dig l) : val l < 10 ^ l.length := by
  suffices h : ∀ n, n ≤ l.length → val (l.take n) < 10 ^ n by
    have := h l.length (Nat.le_refl _); rwa [List.take_of_length_le (Nat.le_refl _)] at this
  intro n
  induction n with
  | zero => intro _; simp [val]
  | succ n ih =>
    intro hn
    rw [List.take_succ_eq_append_getElem (by omega), val_snoc, Nat.pow_succ]
    have h1 := ih (by omega)
    have h2 := hd _ (List.getElem_mem (show n < l.length by omega))
    omega
/-- the number that a text with or without a sign spells -/
def readZ (l : List UInt8) : Int := if l.head? = some 45 then -(val l.tail : Int) else (val l : Int)
theorem dec_head (u : Nat) : (Lib.decDigits u).head? ≠ some 45 := by
  obtain ⟨_, h2, h3⟩ := dec_val u
  cases h : Lib.decDigits u with
  | nil => simp
  | cons a r =>
    rw [h] at h2
    have := h2 a (by simp)
    simp only [List.head?_cons, ne_eq, Option.some.injEq]
    intro e; subst e; simp at this
theorem readZ_itoa (n : Int) : readZ (Lib.itoa n) = n := by
  by_cases hn : n < 0
  · obtain ⟨u, rfl⟩ : ∃ u : Nat, n = -(u : Int) := ⟨n.natAbs, by omega⟩
    rw [Lib.itoa_neg u (by omega)]
    simp [readZ, (dec_val u).1]
  · obtain ⟨u, rfl⟩ : ∃ u : Nat, n = (u : Int) := ⟨n.toNat, by omega⟩
    rw [Lib.itoa_nonneg]
    unfold readZ
    rw [if_neg (dec_head u), (dec_val u).1]
theorem fold_ge (l : List UInt8) : ∀ a, a ≤ l.foldl dStep a := by
  induction l with
  | nil => intro a; exact Nat.le_refl _
  | cons c r ih => intro a; rw [List.foldl_cons]; have := ih (dStep a c); unfold dStep at *; omega
theorem parse_dig (l : List UInt8) : ∀ a, Dig l → l.foldl dStep a ≤ 999999 → Lib.parseUint10 a l = .ok (l.foldl dStep a) := by
  induction l with
  | nil => intro a _ _; rfl
  | cons c r ih =>
    intro a hd hb
    rw [List.foldl_cons] at hb ⊢
    have h1 := hd c (by simp)
    have h2 := fold_ge r (dStep a c)
    have h3 : dStep a c = a * 10 + (c.toNat - 48) := rfl
    unfold Lib.parseUint10
    rw [if_pos h1, if_neg (by omega), if_neg (by omega)]
    exact ih (dStep a c) (fun x hx => hd x (by simp [hx])) hb
theorem atoi_itoa (n : Int) (h0 : -999999 ≤ n) (h1 : n ≤ 999999) : Lib.atoiAll (Lib.itoa n) = .ok n := by
  by_cases hn : n < 0
  · obtain ⟨u, rfl⟩ : ∃ u : Nat, n = -(u : Int) := ⟨n.natAbs, by omega⟩
    rw [Lib.itoa_neg u (by omega)]
    obtain ⟨e1, e2, e3⟩ := dec_val u
    have hp : Lib.parseMag (Lib.decDigits u) = .ok u := by
      unfold Lib.parseMag
      rw [if_neg (by intro e; rw [e] at e3; simp at e3), parse_dig _ 0 e2 (by show val _ ≤ _; rw [e1]; omega)]
      show Lib.NumEnd.ok (val _) = _; rw [e1]
    simp [Lib.atoiAll, hp]
    omega
  · obtain ⟨u, rfl⟩ : ∃ u : Nat, n = (u : Int) := ⟨n.toNat, by omega⟩
    rw [Lib.itoa_nonneg]
    obtain ⟨e1, e2, e3⟩ := dec_val u
    have hp : Lib.parseMag (Lib.decDigits u) = .ok u := by
      unfold Lib.parseMag
      rw [if_neg (by intro e; rw [e] at e3; simp at e3), parse_dig _ 0 e2 (by show val _ ≤ _; rw [e1]; omega)]
      show Lib.NumEnd.ok (val _) = _; rw [e1]
    cases h : Lib.decDigits u with
    | nil => rw [h] at e3; simp at e3
    | cons a r =>
      have h2 := e2 a (by rw [h]; simp)
      rw [h] at hp
      unfold Lib.atoiAll
      rw [show (a :: r) = (if a.toNat = 43 ∨ a.toNat = 45 then r else a :: r) from by rw [if_neg (by omega)]] at hp
      simp only [hp]
      rw [if_neg (by omega), if_neg (by omega), if_neg (by omega)]
/-- whether a text is the text of a number in range, and that number -/
def pB (s : ByteArray) : Bool := decide ((-999999 ≤ readZ s.data.toList ∧ readZ s.data.toList ≤ 999999) ∧ Lib.itoa (readZ s.data.toList) = s.data.toList)
def pN (s : ByteArray) : Int := if pB s = true then readZ s.data.toList else 0
theorem pN_no {s : ByteArray} (h : pB s = false) : pN s = 0 := if_neg (by rw [h]; simp)
theorem pN_yes {s : ByteArray} (h : pB s = true) : pN s = readZ s.data.toList := if_pos h
theorem pB_of {s : ByteArray} {n : Int} (h0 : -999999 ≤ n) (h1 : n ≤ 999999) (h : Lib.itoa n = s.data.toList) : pB s = true ∧ pN s = n := by
  have hr : readZ s.data.toList = n := by rw [← h]; exact readZ_itoa n
  have hb : pB s = true := decide_eq_true (by rw [hr]; exact ⟨⟨h0, h1⟩, h⟩)
  exact ⟨hb, by rw [pN_yes hb, hr]⟩
theorem pB_get {s : ByteArray} (h : pB s = true) : ∃ n, -999999 ≤ n ∧ n ≤ 999999 ∧ Lib.itoa n = s.data.toList ∧ pN s = n := by
  have h1 := of_decide_eq_true h
  exact ⟨_, h1.1.1, h1.1.2, h1.2, pN_yes h⟩
theorem pB_not {s : ByteArray} (h : ∀ n, -999999 ≤ n → n ≤ 999999 → Lib.itoa n ≠ s.data.toList) : pB s = false := by
  cases e : pB s with
  | false => rfl
  | true => obtain ⟨n, a, b, c, _⟩ := pB_get e; exact absurd c (h n a b)

/-- a text of a number in range that has no sign -/
theorem itoa_form_pos {l : List UInt8} {n : Int} (hneg : ¬ (1 < l.length ∧ l.head? = some 45)) (h0 : -999999 ≤ n) (h1 : n ≤ 999999) (e : Lib.itoa n = l) : Dig l ∧ 1 ≤ l.length ∧ l.length ≤ 6 ∧ n = (val l : Int) := by
  by_cases hn : n < 0
  · obtain ⟨u, rfl⟩ : ∃ u : Nat, n = -(u : Int) := ⟨n.natAbs, by omega⟩
    rw [Lib.itoa_neg u (by omega)] at e
    have := (dec_val u).2.2
    subst e
    exact absurd ⟨by simp; omega, rfl⟩ hneg
  · obtain ⟨u, rfl⟩ : ∃ u : Nat, n = (u : Int) := ⟨n.toNat, by omega⟩
    rw [Lib.itoa_nonneg] at e
    subst e
    obtain ⟨e1, e2, e3⟩ := dec_val u
    exact ⟨e2, e3, dec_len u (by omega), by rw [e1]⟩
/-- a text of a number in range that has a sign -/
theorem itoa_form_neg {r : List UInt8} {n : Int} (h0 : -999999 ≤ n) (h1 : n ≤ 999999) (e : Lib.itoa n = 45 :: r) : Dig r ∧ 1 ≤ r.length ∧ r.length ≤ 6 ∧ n = -(val r : Int) := by
  by_cases hn : n < 0
  · obtain ⟨u, rfl⟩ : ∃ u : Nat, n = -(u : Int) := ⟨n.natAbs, by omega⟩
    rw [Lib.itoa_neg u (by omega)] at e
    injection e with _ e
    subst e
    obtain ⟨e1, e2, e3⟩ := dec_val u
    exact ⟨e2, e3, dec_len u (by omega), by rw [e1]⟩
  · obtain ⟨u, rfl⟩ : ∃ u : Nat, n = (u : Int) := ⟨n.toNat, by omega⟩
    rw [Lib.itoa_nonneg] at e
    have := dec_head u
    rw [e] at this
    exact absurd rfl this
theorem Dig.take {l : List UInt8} (h : Dig l) (k : Nat) : Dig (l.take k) := fun c hc => h c (List.mem_of_mem_take hc)
theorem val_small {l : List UInt8} (h : Dig l) (hl : l.length ≤ 6) : val l ≤ 999999 := by
  have h1 := val_le l h
  have h2 : 10 ^ l.length ≤ 10 ^ 6 := Nat.pow_le_pow_right (by omega) hl
  omega
theorem not_dig_at {s : ByteArray} {k : Nat} (h : k < s.size) (hc : ¬ (48 ≤ s[k].toNat ∧ s[k].toNat ≤ 57)) : ¬ Dig s.data.toList := fun hd => hc (hd _ (Array.getElem_mem_toList (h := h)))
end Go.Proofs.YtgfgimpglaepaabDoor
