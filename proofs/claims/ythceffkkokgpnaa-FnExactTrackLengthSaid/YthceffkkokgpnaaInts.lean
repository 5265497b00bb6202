/- A slice of integers in memory. -/
import Derived.Below
import Derived.Test.YthceffkkokgpnaaDrew
namespace Go.Proofs.Ythceffkkokgpnaa
open Go.RowKit
/-- the slice's address leads to the numbers l of kind k, in a block below B; of an empty list nothing is asked -/
def Ints (k : IntKind) (w : World) (B : Nat) (a : Option Addr) (l : List Int) : Prop :=
  l = [] ∨ ∃ b o, a = some ⟨b, o, none⟩ ∧ b < B ∧ ∀ j (h : j < l.length), w.cell? ⟨b, o + j, none⟩ = some (.int k l[j])
theorem Ints.at_ {k : IntKind} {w : World} {B : Nat} {a : Option Addr} {l : List Int} (h : Ints k w B a l) {j : Nat} (hj : j < l.length) :
    ∃ b o, a = some ⟨b, o, none⟩ ∧ b < B ∧ w.cell? ⟨b, o + j, none⟩ = some (.int k l[j]) := by
  rcases h with rfl | ⟨b, o, e, hb, hc⟩
  · simp at hj
  · exact ⟨b, o, e, hb, hc j hj⟩
theorem Ints.keep {k : IntKind} {w w' : World} {B : Nat} {a : Option Addr} {l : List Int} (h : Ints k w B a l) (hk : ∀ p : Addr, p.block < B → w'.cell? p = w.cell? p) : Ints k w' B a l := by
  rcases h with rfl | ⟨b, o, e, hb, hc⟩
  · exact .inl rfl
  · exact .inr ⟨b, o, e, hb, fun j hj => (hk ⟨b, o + j, none⟩ hb).trans (hc j hj)⟩
theorem Ints.below {k : IntKind} {w w' : World} {B C : Nat} {a : Option Addr} {l : List Int} (h : Ints k w B a l) (hb : Below C w w') (hB : B ≤ C) : Ints k w' B a l :=
  h.keep fun p hp => hb.cell (by omega)
theorem Ints.more {k : IntKind} {w : World} {B C : Nat} {a : Option Addr} {l : List Int} (h : Ints k w B a l) (hB : B ≤ C) : Ints k w C a l := by
  rcases h with rfl | ⟨b, o, e, hb, hc⟩
  · exact .inl rfl
  · exact .inr ⟨b, o, e, by omega, hc⟩
theorem ints_of {k : IntKind} {W : World} {x : Addr} {len : Nat} {zs : List Int} (hl : len ≤ zs.length) (hcell : ∀ i, i < zs.length → W.cell? (x.add i) = some (.int k (zs.getD i 0))) :
    Ints k W W.heap.size (some x) (zs.take len) := by
  rcases Nat.eq_zero_or_pos len with h0 | h0
  · subst h0; exact .inl rfl
  · obtain ⟨b, off, spot⟩ := x
    have hc := hcell 0 (by omega)
    have hspot : spot = none := by simpa [Addr.add] using World.cell?_spot hc
    subst hspot
    have hb : b < W.heap.size := by
      have h1 : W.cell? ⟨b, off, none⟩ = some (.int k (zs.getD 0 0)) := by simpa [Addr.add] using hc
      rcases Nat.lt_or_ge b W.heap.size with h | h
      · exact h
      · simp [World.cell?, Array.getElem?_eq_none h] at h1
    refine .inr ⟨b, off, rfl, hb, fun j hj => ?_⟩
    have hj' : j < zs.length := by rw [List.length_take] at hj; omega
    have h2 := hcell j hj'
    have h3 : (⟨b, off, none⟩ : Addr).add j = ⟨b, off + j, none⟩ := by unfold Addr.add; split <;> simp_all
    rw [h3] at h2
    rw [h2]
    simp [hj']
end Go.Proofs.Ythceffkkokgpnaa
