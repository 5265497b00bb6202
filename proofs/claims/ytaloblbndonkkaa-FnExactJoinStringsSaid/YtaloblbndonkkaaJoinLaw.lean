/- FnExactJoinStrings: model and program give the same joined text; the argument is left alone. -/
import Derived.Test.YtaloblbndonkkaaImplJoin
namespace Go.Proofs.Ytaloblbndonkkaa
open Go.RowKit
set_option linter.unusedVariables false
def sepc (s : ByteArray) : Int := (s.data.toList.headD 0).toNat
theorem sepc_one (s : ByteArray) (h0 : 0 < s.size) (h1 : s.size ≤ 1) : sepc s = s[0].toNat := by
  unfold sepc; rw [one_byte s h0 h1]; rfl
/-- whether JoinStrings succeeds, and its text -/
def joinB (l : List ByteArray) (sep : ByteArray) : Bool := decide (sep.size = 1) && okJoin (bs l) (sepc sep)
def joinS (l : List ByteArray) (sep : ByteArray) : ByteArray := if joinB l sep = true then ⟨(joinL sep.data.toList (bs l)).toArray⟩ else ⟨#[]⟩
theorem join_not {l : List ByteArray} {sep : ByteArray} (h : joinB l sep = false) : joinS l sep = ⟨#[]⟩ := if_neg (by rw [h]; simp)
theorem joinB_bad {l : List ByteArray} {sep : ByteArray} (h : sep.size ≠ 1 ∨ l = []) : joinB l sep = false := by
  rcases h with h | rfl
  · have : decide (sep.size = 1) = false := decide_eq_false h
    unfold joinB; rw [this]; rfl
  · simp [joinB, okJoin, bs]
theorem joinB_one (l : List ByteArray) (sep : ByteArray) (h0 : 0 < sep.size) (h1 : sep.size ≤ 1) : joinB l sep = okJoin (bs l) sep[0].toNat := by
  have : decide (sep.size = 1) = true := decide_eq_true (by omega)
  unfold joinB; rw [this, sepc_one sep h0 h1]; rfl
theorem joinV_eq (l : List ByteArray) (sep : ByteArray) (h0 : 0 < sep.size) (h1 : sep.size ≤ 1) : joinV l sep[0] = .tuple #[.string (joinS l sep), .bool (joinB l sep)] := by
  have hb := joinB_one l sep h0 h1
  have h2 := one_byte sep h0 h1
  cases h : okJoin (bs l) sep[0].toNat with
  | true => rw [joinV_yes h, hb, h]; unfold joinS; rw [hb, h, if_pos rfl, h2]
  | false => rw [joinV_no h, hb, h]; unfold joinS; rw [hb, h]; rfl
theorem specJoin_all (a : Option Addr) (l : List ByteArray) (c B : Nat) (sep : ByteArray) (w : World) (hl : Strs w B a l) (hn : l.length ≤ 1048576) (hsz : ∀ s ∈ l, s.size ≤ 1048576) (hs : sep.size ≤ maxLen) :
    Calls Try.prog 13 #[.slice a l.length c, .string sep] w fun e w' => e = .returned (.tuple #[.string (joinS l sep), .bool (joinB l sep)]) ∧ Drew w w' := by
  by_cases h : sep.size ≠ 1 ∨ l = []
  · have hb := joinB_bad h
    rw [hb, join_not hb]
    exact (specJoin_bad a l c sep w hn hs h).mono fun _ _ ⟨x, y⟩ => ⟨x, y ▸ Drew.refl _⟩
  · have h1 : sep.size = 1 := Classical.byContradiction fun e => h (.inl e)
    have h2 : 0 < l.length := Nat.pos_of_ne_zero fun e => h (.inr (List.eq_nil_of_length_eq_zero e))
    rw [← joinV_eq l sep (by omega) (by omega)]
    exact specJoin_any a l c B sep w hl hn h2 hsz (by omega) (by omega)
theorem implJoin_all (a : Option Addr) (l : List ByteArray) (c : Nat) (sep : ByteArray) (w : World) (hl : Strs w w.heap.size a l) (hn : l.length ≤ 1048576) (hsz : ∀ s ∈ l, s.size ≤ 1048576) (hs : sep.size ≤ maxLen) :
    Calls Try.prog 12 #[.slice a l.length c, .string sep] w fun e w' => e = .returned (.tuple #[.string (joinS l sep), .bool (joinB l sep)]) ∧ Below w.heap.size w w' := by
  by_cases h : sep.size = 1
  · have h0 : 0 < sep.size := by omega
    have h1 : sep.size ≤ 1 := by omega
    rw [← joinV_eq l sep h0 h1]
    cases hk : okJoin (bs l) sep[0].toNat with
    | true => rw [joinV_yes hk]; exact implJoin_yes a l c sep w hl hn hsz h0 h1 hk
    | false => rw [joinV_no hk]; exact (implJoin_no a l c _ sep w hl hn hsz h0 h1 hk).mono fun _ _ ⟨x, y⟩ => ⟨x, y ▸ Below.refl _ _⟩
  · have hb := joinB_bad (l := l) (.inl h)
    rw [hb, join_not hb]
    exact (implJoin_bad a l.length c sep w hs h).mono fun _ _ ⟨x, y⟩ => ⟨x, y ▸ Below.refl _ _⟩
theorem szR_neg {l : List ByteArray} {left : Int} (h : left < (l.length : Int) + (lenS (bs l) : Int)) : szR l left = -1 :=
  szR_over l left l.length (by rw [List.take_of_length_le (Nat.le_refl _)]; exact h)
theorem size_of_mem {l : List ByteArray} {s : ByteArray} (h : s ∈ l) : s.size ≤ lenS (bs l) := by
  induction l with
  | nil => cases h
  | cons x r ih =>
    have : lenS (bs (x :: r)) = x.size + lenS (bs r) := by simp [bs, lenS]
    rcases List.mem_cons.1 h with rfl | h
    · omega
    · have := ih h; omega

set_option maxHeartbeats 1000000 in
theorem join_walk (a : Option Addr) (l : List ByteArray) (c : Nat) (sep : ByteArray) (w : World) (hl : Strs w w.heap.size a l) (hn : l.length ≤ maxLen) (hsz : ∀ s ∈ l, s.size ≤ maxLen) (hs : sep.size ≤ maxLen) :
    Calls Try.prog 5 #[.slice a l.length c, .string sep] w fun e w' => e = .returned (.bool true) ∧ Below w.heap.size w w' := by
  have hs' := hs
  unfold maxLen at hs
  by_cases hbig : (1048576 : Int) < (sep.size : Int)
  · go_enter Try.func5, Try.ntmps5
    go_wp2
    go_ret
    exact ⟨rfl, Below.refl _ _⟩
  · have HZ := Lib.hid (szStrings_any a l c _ 1048576 w hl hn hsz (by omega) (by omega))
    by_cases hover : (1048576 : Int) < (l.length : Int) + (lenS (bs l) : Int)
    · have HR := Lib.hid (szR_neg hover)
      rw [HR.out] at HZ
      clear hl hn hsz HR hover
      go_enter Try.func5, Try.ntmps5
      go_wp2_with (go_at_call 21; refine HZ.out.mono ?_; rintro e w' ⟨rfl, rfl⟩)
      go_ret
      exact ⟨rfl, Below.refl _ _⟩
    · have hfit := szR_fit l 1048576 (by omega)
      rw [hfit] at HZ
      have hn1 : l.length ≤ 1048576 := by omega
      have HS1 := Lib.hid (fun s (h : s ∈ l) => (by have := size_of_mem h; omega : s.size ≤ 1048576))
      have HL := Lib.hid hl
      have hr0 : 0 ≤ (1048576 : Int) - (l.length : Int) - (lenS (bs l) : Int) := by omega
      generalize (1048576 : Int) - (l.length : Int) - (lenS (bs l) : Int) = rest at *
      clear hl hn hsz hfit hover
      go_enter Try.func5, Try.ntmps5
      go_wp2_with (go_at_call 21; refine HZ.out.mono ?_; rintro e w' ⟨rfl, rfl⟩)
      refine (toStrings_any a l c _ HL.out hn1).mono ?_
      rintro e w1 ⟨rfl, h1, b1, z1⟩
      have H1 := Lib.hid h1
      have HB1 := Lib.hid b1
      clear h1 b1
      go_wp2_with fail
      refine (specJoin_all _ l _ _ sep _ H1.out hn1 HS1.out hs').mono ?_
      rintro e w2 ⟨rfl, d2⟩
      have HD2 := Lib.hid d2
      have hz2 : w.heap.size < w2.heap.size := by rw [HD2.out.size]; exact z1
      have HB2 := Lib.hid (HB1.out.trans (HD2.out.below _))
      have HL2 := Lib.hid ((HL.out.below HB2.out (Nat.le_refl _)).more (C := w2.heap.size) (by omega))
      clear d2
      go_wp2_with fail
      refine (toStrings_any a l c _ HL2.out hn1).mono ?_
      rintro e w3 ⟨rfl, h3, b3, z3⟩
      have H3 := Lib.hid h3
      have HB3 := Lib.hid b3
      clear h3 b3
      go_wp2_with fail
      refine (implJoin_all _ l _ sep _ (H3.out.more (by omega)) hn1 HS1.out hs').mono ?_
      rintro e w4 ⟨rfl, b4⟩
      have HB4 := Lib.hid b4
      clear b4
      have hz4 := HB4.out.size
      have HBt := Lib.hid ((HB2.out.trans (HB3.out.mono (by omega))).trans (HB4.out.mono (B' := w.heap.size) (by omega)))
      have HL4 := Lib.hid ((HL.out.below HBt.out (Nat.le_refl _)).more (C := w4.heap.size) (by omega))
      have H34 := Lib.hid (H3.out.below HB4.out (by omega))
      generalize joinS l sep = JS at *
      generalize joinB l sep = JB at *
      go_wp2_with fail
      refine (toStrings_any a l c _ HL4.out hn1).mono ?_
      rintro e w5 ⟨rfl, h5, b5, z5⟩
      have H5 := Lib.hid h5
      have HB5 := Lib.hid b5
      clear h5 b5
      go_wp2_with fail
      refine (eqStrings_yes _ _ l _ _ _ _ _ (H34.out.below HB5.out (by omega)) H5.out hn1).mono ?_
      rintro e w6 ⟨rfl, d6⟩
      have HD6 := Lib.hid d6
      clear d6
      go_wp2
      go_ret
      exact ⟨rfl, (HBt.out.trans (HB5.out.mono (by omega))).trans (HD6.out.below _)⟩
end Go.Proofs.Ytaloblbndonkkaa
