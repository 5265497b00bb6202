/- Fields and rows of numbers that a call makes: its own memory. -/
import Derived.Test.YthceffkkokgpnaaBox
import Derived.OwnWalk
import Derived.Maps.AppendAt
import Derived.IntWalk
namespace Go.Proofs.Ythceffkkokgpnaa
open Go.RowKit
set_option linter.unusedVariables false
set_option linter.unusedSimpArgs false
theorem iv_snoc (l : List Int) (z : Int) : iv (l ++ [z]) = iv l ++ [.int .i64 z] := by simp [iv]
theorem ownI_of {w : World} {B n : Nat} {v : Value} {l : List Int} (h : w.ownsRow B 3 1 v n (iv l)) (hn : n = l.length) : ∃ a c, v = .slice a l.length c ∧ OwnI w B a l := by
  subst hn
  have h' := h
  obtain ⟨h1, ⟨h2, h3⟩ | ⟨g, cap, cur, h2, _⟩⟩ := h
  · refine ⟨none, 0, by rw [h2, h3], ?_⟩
    have : l = [] := List.eq_nil_of_length_eq_zero h3
    subst this
    exact OwnI.none_
  · subst h2
    exact ⟨_, _, rfl, OwnI.of_own h'⟩
/-- a slice of numbers of the call's own -/
def IntsPost (r : List Int) (w : World) (e : Ending) (w' : World) : Prop := ∃ a c, e = .returned (.slice a r.length c) ∧ OwnI w' w.heap.size a r ∧ Below w.heap.size w w'

/-- a field or none is returned, in memory of the call's own -/
def FRet (r : Option (Int × Int × List Int)) (w : World) (e : Ending) (w' : World) : Prop :=
  ∃ a c, e = .returned (.tuple #[.agg #[.int .i64 (rW r), .int .i64 (rH r), .slice a (rL r).length c], .bool (rB r)]) ∧ OwnI w' w.heap.size a (rL r) ∧ Below w.heap.size w w'
/-- a field is returned -/
def FOne (wd hg : Int) (l : List Int) (w : World) (e : Ending) (w' : World) : Prop :=
  ∃ a c, e = .returned (.agg #[.int .i64 wd, .int .i64 hg, .slice a l.length c]) ∧ OwnI w' w.heap.size a l ∧ Below w.heap.size w w'
theorem OwnI.pick {w : World} {B : Nat} {a : Option Addr} {l : List Int} (h : OwnI w B a l) (hB : B ≤ w.heap.size) : ∃ g, B ≤ g ∧ g ≠ w.heap.size ∧ At w a g l := by
  obtain ⟨g, h1, h2⟩ := h
  rcases h2 with rfl | ⟨h3, h4⟩
  · exact ⟨w.heap.size + 1, by omega, by omega, .inl rfl⟩
  · exact ⟨g, h1, by have := h4.lt; omega, .inr ⟨h3, h4⟩⟩
theorem Box.set {w : World} {b : Nat} {t : TypeId} {v0 v1 v2 : Value} (h : Box w b t v0 v1 v2) (u : Value) : Box (w.setCell ⟨b, 2, none⟩ u) b t v0 v1 u := by
  unfold Box at *
  simp [World.setCell, Array.getElem?_modify, h]
theorem Box.other {w : World} {b : Nat} {t : TypeId} {v0 v1 v2 : Value} (h : Box w b t v0 v1 v2) {p : Addr} (hp : b ≠ p.block) (u : Value) : Box (w.setCell p u) b t v0 v1 v2 := (Below.heap_setCell w p u b hp).trans h
theorem Box.grown {w w' : World} {b : Nat} {t : TypeId} {v0 v1 v2 : Value} {row : Option Nat} (h : Box w b t v0 v1 v2) (hg : w.grownBy w' row) (hne : some b ≠ row) : Box w' b t v0 v1 v2 := (hg.block b h.lt hne).trans h
theorem Box.frozen {w : World} {b : Nat} {t : TypeId} {v0 v1 v2 : Value} (h : Box w b t v0 v1 v2) (i : Nat) : w.frozen? ⟨b, i, none⟩ = false := by
  unfold Box at h
  simp [World.frozen?, h]
theorem own_ne_box {w : World} {b base e n : Nat} {t : TypeId} {v0 v1 v2 v : Value} {xs : List Value} (h : w.ownsRow base e 1 v n xs) (hb : Box w b t v0 v1 v2) (hne : e ≠ t) : v.ownBlock ≠ some b := by
  rcases h.2 with ⟨rfl, _⟩ | ⟨g', cap, cur, rfl, _, hh, _⟩
  · simp [Value.ownBlock]
  · intro he
    have : g' = b := by simpa [Value.ownBlock] using he
    subst this
    unfold Box at hb
    rw [hb] at hh
    injection hh with hh
    injection hh with _ ht
    exact hne ht.symm
theorem own_setBox {w : World} {b base e n : Nat} {v : Value} {xs : List Value} (h : w.ownsRow base e 1 v n xs) (hb : v.ownBlock ≠ some b) (i : Nat) (u : Value) : (w.setCell ⟨b, i, none⟩ u).ownsRow base e 1 v n xs :=
  h.kept (row := some b) ⟨rfl, rfl, rfl, by simp [World.setCell], fun j hj hne => Below.heap_setCell w ⟨b, i, none⟩ u j (fun e => hne (by rw [e]))⟩ (.inr hb)
theorem own_keeps {w w' : World} {base e n : Nat} {v : Value} {xs : List Value} (h : w.ownsRow base e 1 v n xs) (hb : Below w.heap.size w w') : w'.ownsRow base e 1 v n xs :=
  h.kept (row := none) ⟨hb.os, hb.tape, hb.output, hb.size, fun i hi _ => hb.block i hi⟩ (by cases h1 : v.ownBlock with | none => exact .inl rfl | some k => exact .inr (by simp))
theorem own_slice {w : World} {base e n : Nat} {v : Value} {xs : List Value} (h : w.ownsRow base e 1 v n xs) (hn : 0 < n) : ∃ g cap, v = .slice (some ⟨g, 0, none⟩) n cap := by
  rcases h.2 with ⟨_, h1⟩ | ⟨g, cap, cur, h1, _⟩
  · omega
  · exact ⟨g, cap, h1⟩
theorem ownI_set {w : World} {B : Nat} {a : Option Addr} {l : List Int} (h : OwnI w B a l) {b i : Nat} (hb : b < B) (u : Value) : OwnI (w.setCell ⟨b, i, none⟩ u) B a l := by
  obtain ⟨g, h1, h2⟩ := h
  exact ⟨g, h1, h2.other (by simp; omega) u⟩

theorem iv_one (l : List Int) : ∀ u ∈ iv l, u.oneCell' = true := by intro u hu; simp [iv] at hu; obtain ⟨z, _, rfl⟩ := hu; rfl
end Go.Proofs.Ythceffkkokgpnaa
