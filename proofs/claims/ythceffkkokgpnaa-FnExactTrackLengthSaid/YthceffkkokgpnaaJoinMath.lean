/- Plain mathematics of joining: whether a byte stands in a text, the joined text, when it may be joined. -/
import Derived.Test.YthceffkkokgpnaaMath
namespace Go.Proofs.Ythceffkkokgpnaa
/-- whether the byte of value c stands in l -/
def hasB (l : List UInt8) (c : Int) : Bool := l.any (fun x => (x.toNat : Int) == c)
theorem hasB_nil (c : Int) : hasB [] c = false := rfl
theorem hasB_snoc (l : List UInt8) (x : UInt8) (c : Int) : hasB (l ++ [x]) c = (hasB l c || ((x.toNat : Int) == c)) := by
  simp [hasB, List.any_append]
theorem hasB_take (l : List UInt8) (k : Nat) (c : Int) (h : hasB l c = false) : hasB (l.take k) c = false := by
  unfold hasB at *
  rw [List.any_eq_false] at *
  exact fun x hx => h x (List.mem_of_mem_take hx)
theorem hasB_of_get (s : ByteArray) (k : Nat) (h : k < s.size) (c : Int) (e : (s[k].toNat : Int) = c) : hasB s.data.toList c = true := by
  unfold hasB
  rw [List.any_eq_true]
  exact ⟨s[k], Array.getElem_mem_toList (h := h), by simpa using e⟩

/-- the texts joined: between two of them the separator -/
def joinL (sep : List UInt8) : List (List UInt8) → List UInt8
  | [] => []
  | x :: r => x ++ r.flatMap (fun y => sep ++ y)
theorem joinL_nil (sep : List UInt8) : joinL sep [] = [] := rfl
theorem joinL_one (sep x : List UInt8) : joinL sep [x] = x := by simp [joinL]
theorem joinL_snoc (sep : List UInt8) (l : List (List UInt8)) (x : List UInt8) (h : l ≠ []) : joinL sep (l ++ [x]) = joinL sep l ++ sep ++ x := by
  cases l with
  | nil => exact absurd rfl h
  | cons a r => simp [joinL, List.flatMap_append]
/-- the sum of the lengths -/
def lenS : List (List UInt8) → Nat
  | [] => 0
  | x :: r => x.length + lenS r
theorem lenS_append (a b : List (List UInt8)) : lenS (a ++ b) = lenS a + lenS b := by
  induction a with
  | nil => simp [lenS]
  | cons x r ih => simp [lenS, ih]; omega
theorem lenS_snoc (a : List (List UInt8)) (x : List UInt8) : lenS (a ++ [x]) = lenS a + x.length := by
  rw [lenS_append]; simp [lenS]
theorem lenS_take (a : List (List UInt8)) (k : Nat) : lenS (a.take k) ≤ lenS a := by
  have h := lenS_append (a.take k) (a.drop k)
  rw [List.take_append_drop] at h; omega
theorem joinL_len (sep : List UInt8) (hs : sep.length = 1) (l : List (List UInt8)) (h : l ≠ []) : (joinL sep l).length + 1 = lenS l + l.length := by
  cases l with
  | nil => exact absurd rfl h
  | cons a r =>
    have : ∀ r : List (List UInt8), (r.flatMap (fun y => sep ++ y)).length = lenS r + r.length := by
      intro r
      induction r with
      | nil => rfl
      | cons y q ih => simp [List.flatMap_cons, lenS, ih, hs]; omega
    simp [joinL, lenS, this]; omega
/-- every text is free of c -/
def freeL (l : List (List UInt8)) (c : Int) : Bool := l.all (fun x => !hasB x c)
theorem freeL_snoc (l : List (List UInt8)) (x : List UInt8) (c : Int) : freeL (l ++ [x]) c = (freeL l c && !hasB x c) := by
  simp [freeL, List.all_append]
theorem freeL_take (l : List (List UInt8)) (k : Nat) (c : Int) (h : freeL l c = true) : freeL (l.take k) c = true := by
  unfold freeL at *
  rw [List.all_eq_true] at *
  exact fun x hx => h x (List.mem_of_mem_take hx)
/-- when the texts may be joined -/
def okJoin (l : List (List UInt8)) (c : Int) : Bool := decide (l ≠ []) && freeL l c && decide (lenS l + l.length ≤ 4001)
theorem okJoin_of {l : List (List UInt8)} {c : Int} (h0 : l ≠ []) (h1 : freeL l c = true) (h2 : lenS l + l.length ≤ 4001) : okJoin l c = true := by
  simp [okJoin, h0, h1, h2]
theorem okJoin_not_free {l : List (List UInt8)} {c : Int} (k : Nat) (h1 : freeL (l.take k) c = false) : okJoin l c = false := by
  cases h : freeL l c with
  | false => simp [okJoin, h]
  | true => rw [freeL_take l k c h] at h1; cases h1
theorem okJoin_not_len {l : List (List UInt8)} {c : Int} (h1 : 4001 < lenS l + l.length) : okJoin l c = false := by
  have : decide (lenS l + l.length ≤ 4001) = false := by simp; omega
  simp only [okJoin, this, Bool.and_false]
theorem okJoin_not_take {l : List (List UInt8)} {c : Int} (k : Nat) (hk : k ≤ l.length) (h1 : 4001 < lenS (l.take k) + k) : okJoin l c = false :=
  okJoin_not_len (by have := lenS_take l k; omega)
theorem snoc_take {α : Type} (l : List α) (k : Nat) (h : k < l.length) : l.take (k + 1) = l.take k ++ [l[k]] := List.take_succ_eq_append_getElem h
end Go.Proofs.Ythceffkkokgpnaa
