/- Tallies in boxes and in own memory; the model's l10Own. -/
import Derived.Test.YtjpiiidjocilcaaGrS
import Derived.Test.YtjpiiidjocilcaaFreq
import Derived.Test.YtjpiiidjocilcaaAlgMath
namespace Go.Proofs.Ytjpiiidjocilcaa
open Go.RowKit
set_option linter.unusedVariables false
set_option linter.unusedSimpArgs false
/-- a tally and a bool returned, both lists in own memory, apart -/
def TRet (p q : List Int) (v : Bool) (w : World) (e : Ending) (w' : World) : Prop :=
  ∃ a c f d g h, e = .returned (.tuple #[.agg #[.slice a p.length c, .slice f q.length d], .bool v]) ∧ w.heap.size ≤ g ∧ w.heap.size ≤ h ∧ g ≠ h ∧ g < w'.heap.size ∧ h < w'.heap.size ∧ At w' a g p ∧ At w' f h q ∧ Below w.heap.size w w'
section
variable {w w' : World} {b : Nat} {t : TypeId} {v0 v1 : Value}
theorem Box2.lt (h : Box2 w b t v0 v1) : b < w.heap.size := (Array.getElem?_eq_some_iff.1 h).1
theorem Box2.cells (h : Box2 w b t v0 v1) : w.cell? ⟨b, 0, none⟩ = some v0 ∧ w.cell? ⟨b, 1, none⟩ = some v1 := by
  unfold Box2 at h
  constructor <;> simp [World.cell?, h]
theorem Box2.new (w : World) (t : TypeId) (v0 v1 : Value) : Box2 (w.alloc (.cells #[v0, v1] t)) w.heap.size t v0 v1 := heap_alloc_new w _
theorem Box2.below (h : Box2 w b t v0 v1) (hb : Below w.heap.size w w') : Box2 w' b t v0 v1 := (hb.block b h.lt).trans h
theorem Box2.alloc (h : Box2 w b t v0 v1) (o : Obj) : Box2 (w.alloc o) b t v0 v1 := (Below.heap_alloc w o b h.lt).trans h
theorem Box2.other (h : Box2 w b t v0 v1) {p : Addr} (hp : b ≠ p.block) (u : Value) : Box2 (w.setCell p u) b t v0 v1 := (Below.heap_setCell w p u b hp).trans h
theorem Box2.frozen (h : Box2 w b t v0 v1) (i : Nat) : w.frozen? ⟨b, i, none⟩ = false := by
  unfold Box2 at h
  simp [World.frozen?, h]
theorem Box2.put2 (h : Box2 w b t v0 v1) (u0 u1 : Value) : Box2 ((w.setCell ⟨b, 0, none⟩ u0).setCell ⟨b, 1, none⟩ u1) b t u0 u1 := heap_put (heap_put h u0) u1
end
theorem GeR.below {w w' : World} {b : Nat} {l : List Int} (h : GeR w b l) (hb : Below w.heap.size w w') : GeR w' b l := Row.grown h (gb_none hb) (by simp)
theorem GeR.at_ {w : World} {b : Nat} {l : List Int} (h : GeR w b l) : At w (some ⟨b, 0, none⟩) b l := .inr ⟨rfl, h⟩
theorem GeR.other {w : World} {b : Nat} {l : List Int} (h : GeR w b l) {p : Addr} (hp : b ≠ p.block) (u : Value) : GeR (w.setCell p u) b l := Row.other h hp u
theorem GeR.put {w : World} {b : Nat} {l : List Int} (h : GeR w b l) (k : Nat) (z : Int) : GeR (w.setCell ⟨b, k, none⟩ (.int .i64 z)) b (l.set k z) := by
  have h1 := Row.set h k (.int .i64 z)
  rw [iv_set] at h1
  exact h1
theorem l1OwnI_any (a : Option Addr) (l : List Int) (c : Nat) (w : World) (hl : Ints .i64 w w.heap.size a l) (hn : l.length ≤ 1048576) (h0 : 0 < l.length) :
    Calls Try.prog 70 #[.slice a l.length c] w fun e w' => ∃ g c', e = .returned (.slice (some ⟨g, 0, none⟩) l.length c') ∧ w.heap.size ≤ g ∧ GeR w' g l ∧ Below w.heap.size w w' :=
  (l1Own_any a l c w hl hn h0).mono fun e w' ⟨a', c', h1, ⟨g, hg, hat⟩, hb⟩ => by
    rcases hat with h2 | ⟨h2, h3⟩
    · rw [h2] at h0; simp at h0
    · exact ⟨g, c', by rw [h1, h2], hg, h3, hb⟩
set_option maxRecDepth 100000 in
set_option maxHeartbeats 4000000 in
theorem l10Own_any (a b : Option Addr) (l r : List Int) (c d : Nat) (w : World) (hl : Ints .i64 w w.heap.size a l) (hr : Ints .i64 w w.heap.size b r) (hn : l.length ≤ 1048576) (hm : r.length ≤ 1048576) (h0 : 0 < l.length) (h1 : 0 < r.length) :
    Calls Try.prog 58 #[.agg #[.slice a l.length c, .slice b r.length d]] w fun e w' => ∃ g h c' d', e = .returned (.agg #[.slice (some ⟨g, 0, none⟩) l.length c', .slice (some ⟨h, 0, none⟩) r.length d']) ∧ w.heap.size ≤ g ∧ w.heap.size ≤ h ∧ g ≠ h ∧ GeR w' g l ∧ GeR w' h r ∧ Below w.heap.size w w' := by
  have HL := Lib.hid (fun W (G : Below w.heap.size w W) => l1OwnI_any a l c W ((hl.below G (Nat.le_refl _)).more G.size) hn h0)
  have HR := Lib.hid (fun W (G : Below w.heap.size w W) => l1OwnI_any b r d W ((hr.below G (Nat.le_refl _)).more G.size) hm h1)
  have B0 := Lib.hid (((Below.refl w.heap.size w).alloc (Nat.le_refl _) (.cells #[.slice a l.length c, .slice b r.length d] 27)).alloc (by simp) (.cells #[.slice none 0 0, .slice none 0 0] 27))
  have X0 := Lib.hid ((Box2.new w 27 (.slice a l.length c) (.slice b r.length d)).alloc (.cells #[.slice none 0 0, .slice none 0 0] 27))
  have R0 := Box2.new (w.alloc (.cells #[.slice a l.length c, .slice b r.length d] 27)) 27 (.slice none 0 0) (.slice none 0 0)
  rw [World.size_alloc] at R0
  have R0 := Lib.hid R0
  clear hl hr
  go_enter Try.func58, Try.ntmps58
  go_wp2_with fail
  have hs0 : ((w.alloc (.cells #[.slice a l.length c, .slice b r.length d] 27)).alloc (.cells #[.slice none 0 0, .slice none 0 0] 27)).heap.size = w.heap.size + 2 := by simp
  have HS0 := Lib.hid hs0
  clear hs0
  generalize (w.alloc (.cells #[.slice a l.length c, .slice b r.length d] 27)).alloc (.cells #[.slice none 0 0, .slice none 0 0] 27) = W at *
  have Xq := Lib.hid (X0.out.below ((Below.refl W.heap.size W).drew))
  have Rq := Lib.hid (R0.out.below ((Below.refl W.heap.size W).drew))
  have Bq := Lib.hid (B0.out.drew)
  have Eq := Lib.hid ((Below.refl W.heap.size W).drew)
  obtain ⟨k0, k1⟩ := Xq.out.cells
  go_region_held3 (fun w' => w'.cell? ⟨w.heap.size, 0, none⟩ = some (.slice a l.length c) ∧ w'.cell? ⟨w.heap.size, 1, none⟩ = some (.slice b r.length d))
    (first | exact X4.out.cells | exact X2.out.cells | exact X3.out.cells | go_keep)
    (first
      | (go_at_call 70; (with_reducible refine (HL.out _ B3.out).mono ?_); rintro e w4 ⟨g, c', rfl, hg4, r4, b4⟩; have G4 := Lib.hid r4; have H4 := Lib.hid (H3.out.below b4); have B4 := Lib.hid (B3.out.trans (b4.mono B3.out.size)); have E4 := Lib.hid (E3.out.trans (b4.mono E3.out.size)); have X4 := Lib.hid (X3.out.below b4); have R4 := Lib.hid (R3.out.below b4); have NE := Lib.hid (show g ≠ h from by have := Row.lt H3.out; omega); obtain ⟨t0, t1⟩ := R4.out.cells; have f0 := R4.out.frozen 0; have f1 := R4.out.frozen 1; have z4 := R4.out.lt; clear r4 b4)
      | (go_at_call 70; (with_reducible refine (HR.out _ B2.out).mono ?_); rintro e w4 ⟨h, d', rfl, hh4, r4, b4⟩; have H4 := Lib.hid r4; have G4 := Lib.hid (G2.out.below b4); have B4 := Lib.hid (B2.out.trans (b4.mono B2.out.size)); have E4 := Lib.hid (E2.out.trans (b4.mono E2.out.size)); have X4 := Lib.hid (X2.out.below b4); have R4 := Lib.hid (R2.out.below b4); have NE := Lib.hid (show g ≠ h from by have := Row.lt G2.out; omega); obtain ⟨t0, t1⟩ := R4.out.cells; have f0 := R4.out.frozen 0; have f1 := R4.out.frozen 1; have z4 := R4.out.lt; clear r4 b4)
      | (go_at_call 70; (with_reducible refine (HL.out _ Bq.out).mono ?_); rintro e w2 ⟨g, c', rfl, hg2, r2, b2⟩; have G2 := Lib.hid r2; have B2 := Lib.hid (Bq.out.trans (b2.mono Bq.out.size)); have E2 := Lib.hid (Eq.out.trans (b2.mono Eq.out.size)); have X2 := Lib.hid (Xq.out.below b2); have R2 := Lib.hid (Rq.out.below b2); clear r2 b2)
      | (go_at_call 70; (with_reducible refine (HR.out _ Bq.out).mono ?_); rintro e w3 ⟨h, d', rfl, hh3, r3, b3⟩; have H3 := Lib.hid r3; have B3 := Lib.hid (Bq.out.trans (b3.mono Bq.out.size)); have E3 := Lib.hid (Eq.out.trans (b3.mono Eq.out.size)); have X3 := Lib.hid (Xq.out.below b3); have R3 := Lib.hid (Rq.out.below b3); clear r3 b3))
  all_goals
    go_wp2
    have hsW := HS0.out
    have hsd : W.drew.heap.size = W.heap.size := rfl
    refine bodyPost_ret (v := .agg #[.slice (some ⟨g, 0, none⟩) l.length c', .slice (some ⟨h, 0, none⟩) r.length d']) (by simp [results, Try.results58, go_sem, t0, t1, f0, f1, z4]) rfl ⟨g, h, c', d', rfl, ?_, ?_, NE.out, ?_, ?_, ?_⟩
    · first | omega | (have := B2.out.size; have := B3.out.size; omega) | (have := B3.out.size; omega) | (have := B2.out.size; omega)
    · first | omega | (have := B2.out.size; omega) | (have := B3.out.size; omega)
    · have e1 : g ≠ w.heap.size + 1 := by first | omega | (have := E3.out.size; omega) | (have := E2.out.size; omega)
      exact (G4.out.other (by simpa using e1) _).other (by simpa using e1) _
    · have e1 : h ≠ w.heap.size + 1 := by first | omega | (have := E3.out.size; omega) | (have := E2.out.size; omega)
      exact (H4.out.other (by simpa using e1) _).other (by simpa using e1) _
    · exact (B4.out.setCell (by simp) _).setCell (by simp) _
end Go.Proofs.Ytjpiiidjocilcaa
