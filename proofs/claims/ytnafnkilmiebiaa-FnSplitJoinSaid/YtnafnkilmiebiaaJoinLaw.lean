/- FnExactJoinStrings: model and program give the same joined text; the argument is left alone. -/
import Derived.Test.YtnafnkilmiebiaaImplJoin
namespace Go.Proofs.Ytnafnkilmiebiaa
open Go.RowKit
set_option linter.unusedVariables false
def sepc (s : ByteArray) : Int := (s.data.toList.headD 0).toNat
theorem sepc_one (s : ByteArray) (h0 : 0 < s.size) (h1 : s.size ≤ 1) : sepc s = s[0].toNat := by
  unfold sepc; rw [one_byte s h0 h1]; rfl
/-- whether JoinStrings succeeds, and its text -/
def joinB (l : List ByteArray) (sep : ByteArray) : Bool := decide (sep.size = 1) && okJoin (bs l) (sepc sep)
def joinS (l : List ByteArray) (sep : ByteArray) : ByteArray := if joinB l sep = true then ⟨(joinL sep.data.toList (bs l)).toArray⟩ else ⟨#[]⟩
theorem join_not {l : List ByteArray} {sep : ByteArray} (h : joinB l sep = false) : joinS l sep = ⟨#[]⟩ := if_neg (by rw [h]; simp)
theorem joinB_bad {l : List ByteArray} {sep : ByteArray} (h : sep.size ≠ 1 ∨ l = []) : joinB l sep = false := by
  rcases h with h | rfl
  · have : decide (sep.size = 1) = false := decide_eq_false h
    unfold joinB; rw [this]; rfl
  · simp [joinB, okJoin, bs]
theorem joinB_one (l : List ByteArray) (sep : ByteArray) (h0 : 0 < sep.size) (h1 : sep.size ≤ 1) : joinB l sep = okJoin (bs l) sep[0].toNat := by
  have : decide (sep.size = 1) = true := decide_eq_true (by omega)
  unfold joinB; rw [this, sepc_one sep h0 h1]; rfl
theorem joinV_eq (l : List ByteArray) (sep : ByteArray) (h0 : 0 < sep.size) (h1 : sep.size ≤ 1) : joinV l sep[0] = .tuple #[.string (joinS l sep), .bool (joinB l sep)] := by
  have hb := joinB_one l sep h0 h1
  have h2 := one_byte sep h0 h1
  cases h : okJoin (bs l) sep[0].toNat with
  | true => rw [joinV_yes h, hb, h]; unfold joinS; rw [hb, h, if_pos rfl, h2]
  | false => rw [joinV_no h, hb, h]; unfold joinS; rw [hb, h]; rfl
theorem specJoin_all (a : Option Addr) (l : List ByteArray) (c B : Nat) (sep : ByteArray) (w : World) (hl : Strs w B a l) (hn : l.length ≤ 1048576) (hsz : ∀ s ∈ l, s.size ≤ 1048576) (hs : sep.size ≤ maxLen) :
    Calls Try.prog 12 #[.slice a l.length c, .string sep] w fun e w' => e = .returned (.tuple #[.string (joinS l sep), .bool (joinB l sep)]) ∧ Drew w w' := by
  by_cases h : sep.size ≠ 1 ∨ l = []
  · have hb := joinB_bad h
    rw [hb, join_not hb]
    exact (specJoin_bad a l c sep w hn hs h).mono fun _ _ ⟨x, y⟩ => ⟨x, y ▸ Drew.refl _⟩
  · have h1 : sep.size = 1 := Classical.byContradiction fun e => h (.inl e)
    have h2 : 0 < l.length := Nat.pos_of_ne_zero fun e => h (.inr (List.eq_nil_of_length_eq_zero e))
    rw [← joinV_eq l sep (by omega) (by omega)]
    exact specJoin_any a l c B sep w hl hn h2 hsz (by omega) (by omega)
theorem implJoin_all (a : Option Addr) (l : List ByteArray) (c : Nat) (sep : ByteArray) (w : World) (hl : Strs w w.heap.size a l) (hn : l.length ≤ 1048576) (hsz : ∀ s ∈ l, s.size ≤ 1048576) (hs : sep.size ≤ maxLen) :
    Calls Try.prog 11 #[.slice a l.length c, .string sep] w fun e w' => e = .returned (.tuple #[.string (joinS l sep), .bool (joinB l sep)]) ∧ Below w.heap.size w w' := by
  by_cases h : sep.size = 1
  · have h0 : 0 < sep.size := by omega
    have h1 : sep.size ≤ 1 := by omega
    rw [← joinV_eq l sep h0 h1]
    cases hk : okJoin (bs l) sep[0].toNat with
    | true => rw [joinV_yes hk]; exact implJoin_yes a l c sep w hl hn hsz h0 h1 hk
    | false => rw [joinV_no hk]; exact (implJoin_no a l c _ sep w hl hn hsz h0 h1 hk).mono fun _ _ ⟨x, y⟩ => ⟨x, y ▸ Below.refl _ _⟩
  · have hb := joinB_bad (l := l) (.inl h)
    rw [hb, join_not hb]
    exact (implJoin_bad a l.length c sep w hs h).mono fun _ _ ⟨x, y⟩ => ⟨x, y ▸ Below.refl _ _⟩
theorem szR_neg {l : List ByteArray} {left : Int} (h : left < (l.length : Int) + (lenS (bs l) : Int)) : szR l left = -1 :=
  szR_over l left l.length (by rw [List.take_of_length_le (Nat.le_refl _)]; exact h)
theorem size_of_mem {l : List ByteArray} {s : ByteArray} (h : s ∈ l) : s.size ≤ lenS (bs l) := by
  induction l with
  | nil => cases h
  | cons x r ih =>
    have : lenS (bs (x :: r)) = x.size + lenS (bs r) := by simp [bs, lenS]
    rcases List.mem_cons.1 h with rfl | h
    · omega
    · have := ih h; omega

end Go.Proofs.Ytnafnkilmiebiaa
