/- A table that grows in its last row, or by a row: in memory of the call's own. -/
import Derived.Test.YtjpiiidjocilcaaTabPost
import Derived.Test.YtjpiiidjocilcaaGrpMath
import Derived.Test.YtjpiiidjocilcaaTlOwn
namespace Go.Proofs.Ytjpiiidjocilcaa
open Go.RowKit
set_option linter.unusedVariables false
set_option linter.unusedSimpArgs false
section
variable {w w' : World} {B U : Nat} {E : List (Nat × Nat)} {R : List (List Int)}
theorem Tb.init {e : Nat × Nat} {s : List Int} (h : Tb w B U (E ++ [e]) (R ++ [s])) : Tb w B U E R ∧ (∀ j (hj : j < E.length), E[j].1 ≠ e.1) ∧ B ≤ e.1 ∧ e.1 < U ∧ Row w e.1 3 (iv s) := by
  have hl : E.length = R.length := by have := h.len; simp at this; exact this
  have hE : (E ++ [e]).length = E.length + 1 := by simp
  have hlast : (E ++ [e])[E.length]'(by omega) = e := by simp
  refine ⟨⟨hl, fun j h1 h2 => ?_, fun i j hi hj hne => ?_⟩, fun j hj => ?_, ?_⟩
  · have h3 := h.row j (by simp; omega) (by simp; omega)
    rw [List.getElem_append_left h1, List.getElem_append_left h2] at h3
    exact h3
  · have h3 := h.ne i j (by simp; omega) (by simp; omega) hne
    rw [List.getElem_append_left hi, List.getElem_append_left hj] at h3
    exact h3
  · have h3 := h.ne j E.length (by simp; omega) (by simp) (by omega)
    rw [List.getElem_append_left hj, hlast] at h3
    exact h3
  · have h3 := h.row E.length (by simp) (by simp [hl])
    rw [hlast] at h3
    have h4 : (R ++ [s])[E.length]'(by simp [hl]) = s := by simp [hl]
    rw [h4] at h3
    exact h3
theorem Tb.snocN {g c : Nat} {l : List Int} (h : Tb w B U E R) (hB : B ≤ g) (hU : g < U) (hn : ∀ j (hj : j < E.length), E[j].1 ≠ g) (hr : Row w g 3 (iv l)) : Tb w B U (E ++ [(g, c)]) (R ++ [l]) := by
  have hE : (E ++ [(g, c)]).length = E.length + 1 := by simp
  have last : ∀ k (hk : k < (E ++ [(g, c)]).length), ¬ k < E.length → (E ++ [(g, c)])[k].1 = g := by
    intro k hk h1
    have hk2 : k < E.length + 1 := by simpa using hk
    rw [List.getElem_append_right (by omega)]
    simp only [show k - E.length = 0 by omega, List.getElem_singleton]
  refine ⟨by simp [h.len], fun j h1 h2 => ?_, fun i j hi hj hne => ?_⟩
  · rw [List.length_append, List.length_singleton] at h1 h2
    by_cases e : j < E.length
    · have e2 : j < R.length := by have := h.len; omega
      rw [List.getElem_append_left e, List.getElem_append_left e2]
      exact h.row j e e2
    · have e2 : j = E.length := by omega
      have e3 : j = R.length := by have := h.len; omega
      rw [List.getElem_append_right (by omega), List.getElem_append_right (by omega)]
      simp only [show j - E.length = 0 by omega, show j - R.length = 0 by omega, List.getElem_singleton]
      exact ⟨hB, hU, hr⟩
  · by_cases e : i < E.length <;> by_cases e2 : j < E.length
    · rw [List.getElem_append_left e, List.getElem_append_left e2]; exact h.ne i j e e2 hne
    · rw [last j hj e2, List.getElem_append_left e]; exact hn i e
    · rw [last i hi e, List.getElem_append_left e2]; exact (hn j e2).symm
    · rw [hE] at hi hj; omega
end
/-- the table while it grows -/
structure Tg (B : Nat) (w0 : World) (E : List (Nat × Nat)) (R : List (List Int)) (out : Value) (wr : World) : Prop where
  o : wr.ownsRow B 22 1 out R.length (tabV E R)
  t : Tb wr B wr.heap.size E R
  l : ∀ E0 g c R0 s, E = E0 ++ [(g, c)] → R = R0 ++ [s] → wr.ownsRow B 3 1 (.slice (some ⟨g, 0, none⟩) s.length c) s.length (iv s)
  b : Below B w0 wr
  z : B ≤ wr.heap.size
section
variable {B : Nat} {w0 wr w1 w2 w4 : World} {E E0 : List (Nat × Nat)} {R R0 : List (List Int)} {out out' : Value}
theorem Tg.later (h : Tg B w0 E R out wr) (k : Below wr.heap.size wr w1) : Tg B w0 E R out w1 :=
  ⟨own_keeps h.o k, (h.t.below k (Nat.le_refl _)).more (Nat.le_refl _) k.size, fun E0 g c R0 s e1 e2 => own_keeps (h.l E0 g c R0 s e1 e2) k, h.b.trans (k.mono h.z), Nat.le_trans h.z k.size⟩
/-- a new row behind the others -/
theorem Tg.put {g c : Nat} {s : List Int} {ob : Obj} (h : Tg B w0 E R out wr) (hr : wr.ownsRow B 3 1 (.slice (some ⟨g, 0, none⟩) s.length c) s.length (iv s)) (hne : ∀ j (hj : j < E.length), E[j].1 ≠ g) (hs : 0 < s.length) (hgr : (wr.alloc ob).grownBy w4 out.ownBlock)
    (ho : w4.ownsRow B 22 1 out' (R.length + 1) (tabV E R ++ [.slice (some ⟨g, 0, none⟩) s.length c])) : Tg B w0 (E ++ [(g, c)]) (R ++ [s]) out' w4 := by
  have h1 := h.later (below_all wr ob)
  have hr1 := own_keeps hr (below_all wr ob)
  obtain ⟨_, g', e', hb', hrow, _⟩ := Row.of_own hr1 hs
  injection e' with e1 e2 e3
  injection e1 with e1
  injection e1 with e1
  subst e1
  have hfar : ∀ k vs, Row (wr.alloc ob) k 3 vs → out.ownBlock ≠ some k := fun k vs hk => own_ne_row h1.o hk (by decide)
  have hlt := hrow.lt
  have hs1 := hgr.size
  have hz1 : B ≤ (wr.alloc ob).heap.size := h1.z
  have t2 : Tb w4 B w4.heap.size E R := (h1.t.keep fun j _ _ h3 ⟨vs, h4⟩ => hgr.block j h3 (Ne.symm (hfar j vs h4))).more (Nat.le_refl _) hs1
  have hr4 : Row w4 g 3 (iv s) := hrow.of_block (hgr.block g hlt (Ne.symm (hfar g _ hrow)))
  refine ⟨by rw [tabV_snoc h.t.len, List.length_append]; exact ho, t2.snocN hb' (Nat.lt_of_lt_of_le hlt hs1) hne hr4, fun E1 g1 c1 R1 s1 e1 e2 => ?_, h1.b.grown hgr hz1 (fun k hk => (h1.o.lt k hk).1), Nat.le_trans hz1 hs1⟩
  have e3 := List.append_inj' e1 rfl
  have e4 := List.append_inj' e2 rfl
  have e5 : (g, c) = (g1, c1) := by simpa using e3.2
  have e6 : s = s1 := by simpa using e4.2
  injection e5 with e7 e8
  subst e7 e8 e6
  exact hr1.kept hgr (.inr (by simp only [Value.ownBlock]; exact Ne.symm (hfar g _ hrow)))
/-- the last row grew, its slice was stored back -/
theorem Tg.add {go cap g c g2 c2 : Nat} {s x : List Int} (h : Tg B w0 (E0 ++ [(g, c)]) (R0 ++ [s]) (.slice (some ⟨go, 0, none⟩) (R0.length + 1) cap) w1) (hx : 0 < s.length + x.length) (hgr : w1.grownBy w2 (some g))
    (hr : w2.ownsRow B 3 1 (.slice (some ⟨g2, 0, none⟩) (s.length + x.length) c2) (s.length + x.length) (iv (s ++ x))) (hat : g2 = g ∨ g2 = w1.heap.size) :
    Tg B w0 (E0 ++ [(g2, c2)]) (R0 ++ [s ++ x]) (.slice (some ⟨go, 0, none⟩) (R0.length + 1) cap) (w2.setCell ⟨go, R0.length, none⟩ (.slice (some ⟨g2, 0, none⟩) (s.length + x.length) c2)) := by
  obtain ⟨t0, hne, hbg, hug, hrg⟩ := h.t.init
  have hl0 := t0.len
  have ho := h.o
  have hlen : (R0 ++ [s]).length = R0.length + 1 := by simp
  rw [hlen] at ho
  have hgo := ho.lt go rfl
  have hgne : go ≠ g := fun e => own_ne_row ho hrg (by decide) (by simp only [Value.ownBlock]; rw [e])
  have o2 := ho.kept hgr (.inr (by simp only [Value.ownBlock]; intro e; injection e with e; exact hgne e))
  obtain ⟨_, g', e', hb', hrow, _⟩ := Row.of_own hr hx
  injection e' with e1 e2 e3
  injection e1 with e1
  injection e1 with e1
  subst e1
  have hgo2 : g2 ≠ go := fun e => own_ne_row o2 hrow (by decide) (by simp only [Value.ownBlock]; rw [e])
  have hs1 := hgr.size
  have hlt2 := hrow.lt
  have t2 : Tb w2 B w2.heap.size E0 R0 := (show Tb w2 B w1.heap.size E0 R0 from ⟨hl0, fun j h1 h2 => by
      obtain ⟨k1, k2, k3⟩ := t0.row j h1 h2
      exact ⟨k1, k2, k3.of_block (hgr.block _ k3.lt (by intro e; injection e with e; exact hne j h1 e))⟩, t0.ne⟩).more (Nat.le_refl _) hs1
  have hne2 : ∀ j (hj : j < E0.length), E0[j].1 ≠ g2 := fun j hj => by
    rcases hat with e | e
    · rw [e]; exact hne j hj
    · have := (t0.row j hj (by omega)).2.1; omega
  have t3 : Tb (w2.setCell ⟨go, R0.length, none⟩ (.slice (some ⟨g2, 0, none⟩) (s.length + x.length) c2)) B (w2.setCell ⟨go, R0.length, none⟩ (.slice (some ⟨g2, 0, none⟩) (s.length + x.length) c2)).heap.size E0 R0 := by
    rw [World.size_setCell]
    exact ⟨hl0, fun j h1 h2 => by
      obtain ⟨k1, k2, k3⟩ := t2.row j h1 h2
      exact ⟨k1, k2, k3.other (fun e => own_ne_row o2 k3 (by decide) (by simp only [Value.ownBlock]; rw [e])) _⟩, t2.ne⟩
  have hr3 : Row (w2.setCell ⟨go, R0.length, none⟩ (.slice (some ⟨g2, 0, none⟩) (s.length + x.length) c2)) g2 3 (iv (s ++ x)) := hrow.other hgo2 _
  refine ⟨?_, t3.snocN hb' (by rw [World.size_setCell]; exact hlt2) hne2 hr3, fun E1 g1 c1 R1 s1 e1 e2 => ?_, (h.b.grown hgr h.z (fun k hk => by injection hk with hk; omega)).setCell hgo.1 _, by rw [World.size_setCell]; exact Nat.le_trans h.z hs1⟩
  · have h9 := (o2.stored R0.length (.slice (some ⟨g2, 0, none⟩) (s.length + x.length) c2)).1
    rw [tabV_snoc hl0] at h9
    rw [tabV_snoc hl0]
    have e9 : (tabV E0 R0 ++ [entV (g, c) s]).set R0.length (.slice (some ⟨g2, 0, none⟩) (s.length + x.length) c2) = tabV E0 R0 ++ [entV (g2, c2) (s ++ x)] := by
      rw [List.set_append_right _ _ (by rw [tabV_len hl0]; exact Nat.le_refl _), tabV_len hl0, Nat.sub_self]
      show tabV E0 R0 ++ [_] = tabV E0 R0 ++ [_]
      unfold entV
      rw [List.length_append]
    rw [e9] at h9
    have : (R0 ++ [s ++ x]).length = R0.length + 1 := by simp
    rw [this]
    exact h9
  · have e3 := List.append_inj' e1 rfl
    have e4 := List.append_inj' e2 rfl
    have e5 : (g2, c2) = (g1, c1) := by simpa using e3.2
    have e6 : s ++ x = s1 := by simpa using e4.2
    injection e5 with e7 e8
    subst e7 e8 e6
    rw [List.length_append]
    exact own_setBox hr (by simp only [Value.ownBlock]; intro e; injection e with e; exact hgo2 e) _ _
theorem Tg.post {b : Bool} {w : World} (h : Tg B w0 E R out wr) (hw : Below w.heap.size w w0) (hB : w.heap.size ≤ B) : TabPost R b w (.returned (.tuple #[out, .bool b])) wr := by
  obtain ⟨a1, c1, rfl, ht⟩ := tabl_of h.o h.t (Nat.le_refl _)
  exact ⟨a1, c1, E, rfl, ht.more hB (Nat.le_refl _), hw.trans (h.b.mono hB)⟩
end
end Go.Proofs.Ytjpiiidjocilcaa
