/- The draws of FnMasks. -/
import Derived.Test.YtdkffljnfemngaaAlgDraws
import Derived.Test.YtdkffljnfemngaaAlgSpecOne
import Derived.Deep.DeepCutAuto
import Derived.Deep.RegionHeld3
import Derived.Deep.QuietTactic
import Derived.BigQuiet
import Derived.WalkKit
namespace Go.Proofs.Ytdkffljnfemngaa
open Go.RowKit
set_option linter.unusedVariables false
set_option linter.unusedSimpArgs false
theorem box_set3 {w : World} {b : Nat} {t : TypeId} {v0 v1 v2 : Value} (h : Box w b t v0 v1 v2) (u0 u1 u2 : Value) : Box (((w.setCell ⟨b, 0, none⟩ u0).setCell ⟨b, 1, none⟩ u1).setCell ⟨b, 2, none⟩ u2) b t u0 u1 u2 := by
  unfold Box at *
  simp [World.setCell, Array.getElem?_modify, h]
theorem box_other3 {w : World} {b g : Nat} {t : TypeId} {v0 v1 v2 : Value} (h : Box w b t v0 v1 v2) (hne : b ≠ g) (u0 u1 u2 : Value) : Box (((w.setCell ⟨g, 0, none⟩ u0).setCell ⟨g, 1, none⟩ u1).setCell ⟨g, 2, none⟩ u2) b t v0 v1 v2 :=
  ((h.other (p := ⟨g, 0, none⟩) hne _).other (p := ⟨g, 1, none⟩) hne _).other (p := ⟨g, 2, none⟩) hne _
theorem below_set3 {w w1 : World} {g B : Nat} (h : Below B w w1) (hg : B ≤ g) (u0 u1 u2 : Value) : Below B w (((w1.setCell ⟨g, 0, none⟩ u0).setCell ⟨g, 1, none⟩ u1).setCell ⟨g, 2, none⟩ u2) :=
  ((h.setCell (p := ⟨g, 0, none⟩) hg _).setCell (p := ⟨g, 1, none⟩) hg _).setCell (p := ⟨g, 2, none⟩) hg _
theorem own2_set3 {w : World} {B g : Nat} {a : Option Addr} {L : List Int} (h : Own2 w B a L) (hg : g < B) (u0 u1 u2 : Value) : Own2 (((w.setCell ⟨g, 0, none⟩ u0).setCell ⟨g, 1, none⟩ u1).setCell ⟨g, 2, none⟩ u2) B a L :=
  ((h.set hg _).set hg _).set hg _
theorem own2_up {w : World} {B : Nat} {a : Option Addr} {L : List Int} (h : Own2 w B a L) : L = [] ∨ ∀ gr o, a = some ⟨gr, o, none⟩ → gr < w.heap.size := by
  rcases h with h | ⟨gr, o, h1, h2, h3, h4⟩
  · exact .inl h
  · refine .inr fun gr' o' e => ?_
    rw [h1] at e
    injection e with e
    injection e with e1 e2
    omega
theorem own2_set3_at {w : World} {B g U : Nat} {a : Option Addr} {L : List Int} (h : Own2 w B a L) (hu : L = [] ∨ ∀ gr o, a = some ⟨gr, o, none⟩ → gr < U) (hg : U ≤ g) (u0 u1 u2 : Value) : Own2 (((w.setCell ⟨g, 0, none⟩ u0).setCell ⟨g, 1, none⟩ u1).setCell ⟨g, 2, none⟩ u2) B a L := by
  rcases hu with hu | hu
  · exact .inl hu
  · rcases h with h | ⟨gr, o, h1, h2, h3, h4, cur, h5⟩
    · exact .inl h
    · have hne : gr ≠ g := by have := hu gr o h1; omega
      have k : ∀ (W : World) (i : Nat) (u : Value), (W.setCell ⟨g, i, none⟩ u).heap[gr]? = W.heap[gr]? := fun W i u => Below.heap_setCell W ⟨g, i, none⟩ u gr hne
      refine .inr ⟨gr, o, h1, h2, by simpa [World.setCell] using h3, fun j hj => ?_, cur, by rw [k, k, k]; exact h5⟩
      have e := h4 j hj
      unfold World.cell? at e ⊢
      rw [k, k, k]
      exact e
theorem own2_drew {w : World} {B : Nat} {a : Option Addr} {L : List Int} (h : Own2 w B a L) : Own2 w.drew B a L := h.below ((Drew.more (Drew.refl w) 1).below _)
theorem Box.set_three {w : World} {b g : Nat} {t : TypeId} {v0 v1 v2 u0 u1 u2 : Value} (h : Box w b t v0 v1 v2) (hne : b ≠ g) : Box (((w.setCell ⟨g, 0, none⟩ u0).setCell ⟨g, 1, none⟩ u1).setCell ⟨g, 2, none⟩ u2) b t v0 v1 v2 := box_other3 h hne _ _ _
/-- a field and one like it, each in a box; n result boxes below, the cursor above them -/
structure Md (n : Nat) (w : World) (a : Option Addr) (l : List Int) (c K fb yb : Nat) (wd hg : Int) (a1 : Addr) (L : List Int) (c1 : Nat) (wd2 hg2 : Int) (a2 : Option Addr) (L2 : List Int) (c2 : Nat) (w1 : World) : Prop where
  rs : ∀ i, i < n → Box w1 (w.heap.size + i) 26 (.int .i64 0) (.int .i64 0) (.slice none 0 0)
  bx : Box w1 fb 26 (.int .i64 wd) (.int .i64 hg) (.slice (some a1) L.length c1)
  bz : Box w1 yb 26 (.int .i64 wd2) (.int .i64 hg2) (.slice a2 L2.length c2)
  bl : Below w.heap.size w w1
  cu : CurIs w1 (w.heap.size + n) a l c K
  o1 : Own2 w1 (w.heap.size + n + 1) (some a1) L
  o2 : Own2 w1 (w.heap.size + n + 1) a2 L2
  up : L = [] ∨ ∀ gr o, some a1 = some ⟨gr, o, none⟩ → gr < yb
  f0 : w.heap.size + n < fb
  f1 : fb < yb
section
variable {n : Nat} {w : World} {a : Option Addr} {l : List Int} {c K K' fb yb : Nat} {wd hg : Int} {a1 : Addr} {L : List Int} {c1 : Nat} {wd2 hg2 : Int} {a2 : Option Addr} {L2 : List Int} {c2 : Nat} {w1 w2 : World}
theorem Md.step (h : Md n w a l c K fb yb wd hg a1 L c1 wd2 hg2 a2 L2 c2 w1) (b : Below w1.heap.size w1 w2) : Md n w a l c K fb yb wd hg a1 L c1 wd2 hg2 a2 L2 c2 w2 :=
  ⟨fun i hi => (h.rs i hi).below b, h.bx.below b, h.bz.below b, below_then h.bl b, h.cu.below b, h.o1.below b, h.o2.below b, h.up, h.f0, h.f1⟩
theorem Md.turn (h : Md n w a l c K fb yb wd hg a1 L c1 wd2 hg2 a2 L2 c2 w1) (hc : CurIs w2 (w.heap.size + n) a l c K') (t : w1.grownBy w2 (some (w.heap.size + n))) : Md n w a l c K' fb yb wd hg a1 L c1 wd2 hg2 a2 L2 c2 w2 :=
  have f0 := h.f0
  have f1 := h.f1
  ⟨fun i hi => (h.rs i hi).turn t (by omega), h.bx.turn t (by omega), h.bz.turn t (by omega), below_grown h.bl t (by omega), hc, h.o1.turn t (by omega), h.o2.turn t (by omega), h.up, f0, f1⟩
theorem Md.more (h : Md n w a l c K fb yb wd hg a1 L c1 wd2 hg2 a2 L2 c2 w1) (hk : K ≤ K') : Md n w a l c K' fb yb wd hg a1 L c1 wd2 hg2 a2 L2 c2 w1 :=
  ⟨h.rs, h.bx, h.bz, h.bl, h.cu.more hk, h.o1, h.o2, h.up, h.f0, h.f1⟩
/-- the second field is put in anew -/
theorem Md.put (h : Md n w a l c K fb yb wd hg a1 L c1 wd2 hg2 a2 L2 c2 w1) {B : Nat} {wd3 hg3 : Int} {a3 : Option Addr} {L3 : List Int} {c3 m : Nat} (o : OwnI w1 B a3 L3) (hB : yb < B) (hm : m = L3.length) :
    Md n w a l c K fb yb wd hg a1 L c1 wd3 hg3 a3 L3 c3 (((w1.setCell ⟨yb, 0, none⟩ (.int .i64 wd3)).setCell ⟨yb, 1, none⟩ (.int .i64 hg3)).setCell ⟨yb, 2, none⟩ (.slice a3 m c3)) := by
  have f0 := h.f0
  have f1 := h.f1
  subst hm
  exact ⟨fun i hi => box_other3 (h.rs i hi) (by omega) _ _ _, box_other3 h.bx (by omega) _ _ _, box_set3 h.bz _ _ _, below_set3 h.bl (by omega) _ _ _, ((h.cu.setOther (by omega) _ _).setOther (by omega) _ _).setOther (by omega) _ _,
    own2_set3_at h.o1 h.up (Nat.le_refl _) _ _ _, (own2_set3 (Own2.of_own o) hB _ _ _).more (by omega), h.up, f0, f1⟩
end
theorem own2_box {w : World} {B b : Nat} {a : Option Addr} {L : List Int} (h : Own2 w B a L) (hb : b < B) (u0 u1 u2 : Value) : Own2 (((w.setCell ⟨b, 0, none⟩ u0).setCell ⟨b, 1, none⟩ u1).setCell ⟨b, 2, none⟩ u2) b a L := (own2_set3 h hb u0 u1 u2).more (by omega)
end Go.Proofs.Ytdkffljnfemngaa
