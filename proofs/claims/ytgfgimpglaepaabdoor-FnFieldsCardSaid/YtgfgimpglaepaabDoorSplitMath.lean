/- Plain mathematics of splitting a text at a byte. -/
import Derived.Test.YtgfgimpglaepaabDoorJoinMath
namespace Go.Proofs.YtgfgimpglaepaabDoor
/-- the closed pieces and the open one, a byte further -/
def spStep (c : Int) (st : List (List UInt8) × List UInt8) (b : UInt8) : List (List UInt8) × List UInt8 :=
  if (b.toNat : Int) = c then (st.1 ++ [st.2], []) else (st.1, st.2 ++ [b])
def spSt (l : List UInt8) (c : Int) : List (List UInt8) × List UInt8 := l.foldl (spStep c) ([], [])
/-- the pieces between the separators -/
def splitL (l : List UInt8) (c : Int) : List (List UInt8) := (spSt l c).1 ++ [(spSt l c).2]
theorem spSt_nil (c : Int) : spSt [] c = ([], []) := rfl
theorem spSt_snoc (l : List UInt8) (b : UInt8) (c : Int) : spSt (l ++ [b]) c = spStep c (spSt l c) b := by
  unfold spSt; rw [List.foldl_append]; rfl
theorem spSt_hit {l : List UInt8} {b : UInt8} {c : Int} (h : (b.toNat : Int) = c) : spSt (l ++ [b]) c = ((spSt l c).1 ++ [(spSt l c).2], []) := by
  rw [spSt_snoc]; exact if_pos h
theorem spSt_miss {l : List UInt8} {b : UInt8} {c : Int} (h : ¬ (b.toNat : Int) = c) : spSt (l ++ [b]) c = ((spSt l c).1, (spSt l c).2 ++ [b]) := by
  rw [spSt_snoc]; exact if_neg h
theorem spSt_count (l : List UInt8) (c : Int) : (spSt l c).1.length ≤ l.length := by
  suffices h : ∀ n, n ≤ l.length → (spSt (l.take n) c).1.length ≤ n by
    have := h l.length (Nat.le_refl _); rwa [List.take_of_length_le (Nat.le_refl _)] at this
  intro n
  induction n with
  | zero => intro _; simp [spSt]
  | succ n ih =>
    intro hn
    rw [snoc_take l n (by omega), spSt_snoc]
    have := ih (by omega)
    unfold spStep
    split <;> simp <;> omega
theorem splitL_length (l : List UInt8) (c : Int) : (splitL l c).length ≤ l.length + 1 := by
  have := spSt_count l c
  simp [splitL]; omega
theorem ext_list (s : ByteArray) (f i : Nat) : s.extract f i = ⟨((s.data.toList.take i).drop f).toArray⟩ := by
  apply ByteArray.ext
  rw [ByteArray.data_extract]
  apply Array.ext'
  rw [Array.toList_extract, List.extract_eq_take_drop, List.drop_take]
/-- the same pieces, from the left; cur is the open one -/
def pc (c : Int) : List UInt8 → List UInt8 → List (List UInt8)
  | cur, [] => [cur]
  | cur, b :: r => if (b.toNat : Int) = c then cur :: pc c [] r else pc c (cur ++ [b]) r
theorem pc_fold (c : Int) (l : List UInt8) : ∀ (o : List (List UInt8)) (cur : List UInt8), (l.foldl (spStep c) (o, cur)).1 ++ [(l.foldl (spStep c) (o, cur)).2] = o ++ pc c cur l := by
  induction l with
  | nil => intro o cur; rfl
  | cons b r ih =>
    intro o cur
    rw [List.foldl_cons]
    unfold pc
    by_cases e : (b.toNat : Int) = c
    · rw [show spStep c (o, cur) b = (o ++ [cur], []) from if_pos e, ih, if_pos e]; simp
    · rw [show spStep c (o, cur) b = (o, cur ++ [b]) from if_neg e, ih, if_neg e]
theorem splitL_pc (l : List UInt8) (c : Int) : splitL l c = pc c [] l := by
  have := pc_fold c l [] []
  simpa [splitL, spSt] using this
theorem pc_head (c : Int) (l : List UInt8) : ∀ cur, (pc c cur l).head? = some (cur ++ l.takeWhile (fun b => !decide ((b.toNat : Int) = c))) := by
  induction l with
  | nil => intro cur; simp [pc]
  | cons b r ih =>
    intro cur
    unfold pc
    by_cases e : (b.toNat : Int) = c
    · simp [e]
    · rw [if_neg e, ih]; simp [e]
/-- the first piece ends at the first separator -/
theorem splitL_head (l : List UInt8) (c : Int) : (splitL l c).head? = some (l.takeWhile (fun b => !decide ((b.toNat : Int) = c))) := by
  rw [splitL_pc, pc_head]; rfl
theorem splitL_pos (l : List UInt8) (c : Int) : 0 < (splitL l c).length := by simp [splitL]
end Go.Proofs.YtgfgimpglaepaabDoor
