/- The draws of FnUnits. -/
import Derived.Test.YtnomcnlmlignbaaDoorDraw3
import Derived.Test.YtnomcnlmlignbaaDoorSpoilt
import Derived.Test.YtnomcnlmlignbaaDoorQuant
import Derived.Test.YtnomcnlmlignbaaDoorPQSplit
namespace Go.Proofs.YtnomcnlmlignbaaDoor
open Go.RowKit
set_option linter.unusedVariables false
set_option linter.unusedSimpArgs false
def TenUnit (w : World) (e : Ending) (w' : World) : Prop := ∃ x u : Int, -100000 ≤ x ∧ x ≤ 100000 ∧ 0 ≤ u ∧ u ≤ 9 ∧ e = .returned (.tuple #[.int .i64 x, .int .i64 u]) ∧ Below w.heap.size w w'
def UnitUnit (w : World) (e : Ending) (w' : World) : Prop := ∃ x u : Int, 0 ≤ x ∧ x ≤ 9 ∧ 0 ≤ u ∧ u ≤ 9 ∧ e = .returned (.tuple #[.int .i64 x, .int .i64 u]) ∧ Below w.heap.size w w'
def TextD (n : Nat) (w : World) (e : Ending) (w' : World) : Prop := ∃ s : ByteArray, s.size ≤ n ∧ e = .returned (.string s) ∧ Below w.heap.size w w'
theorem cur_start {w : World} {a : Option Addr} {l : List Int} {c : Nat} (hi : Ints .u8 w w.heap.size a l) (hb : ∀ z ∈ l, 0 ≤ z ∧ z ≤ 255) (hl : l.length ≤ 1048576) : ∃ W0, w.alloc (.cells #[.slice a l.length c, .int .i64 0, .int .u64 0] 64) = W0 ∧ CurIs W0 w.heap.size a l c 0 ∧ Below w.heap.size w W0 := ⟨_, rfl, cur_new w a l c hi hb hl, below_all w _⟩
theorem below_g {w w1 w2 : World} {g : Nat} (h : Below w.heap.size w w1) (t : w1.grownBy w2 (some g)) (hg : w.heap.size ≤ g) : Below w.heap.size w w2 := h.grown t h.size (fun j e => by injection e with e; omega)
theorem cur_past {w w' : World} {g : Nat} {a : Option Addr} {l : List Int} {c K : Nat} (h : CurIs w g a l c K) (hb : Below w.heap.size w w') : CurIs w' g a l c K := by
  have hlt := h.lt
  obtain ⟨h1, p, s, h2, h3⟩ := h
  exact ⟨⟨h1.1.keep fun q hq => hb.cell (by omega), h1.2⟩, p, s, h2, (hb.block g hlt).trans h3⟩
set_option maxRecDepth 100000 in
set_option maxHeartbeats 1000000 in
theorem drawQT_any (w : World) (a : Option Addr) (l : List Int) (c : Nat) (hi : Ints .u8 w w.heap.size a l) (hb : ∀ z ∈ l, 0 ≤ z ∧ z ≤ 255) (hl : l.length ≤ 1048576) :
    Calls Tryd.prog 20 #[.slice a l.length c] w (TenUnit w) := by
  obtain ⟨W0, hW0, hcn, hB⟩ := cur_start (c := c) hi hb hl
  have C0 := Lib.hid hcn
  have B0 := Lib.hid hB
  clear hi hb hcn hB
  go_enter Tryd.func20, Tryd.ntmps20
  go_wp2_with fail
  refine (tenths_any _ w.heap.size a l c 0 (by omega) C0.out).mono ?_
  rintro e w1 ⟨v, ⟨x, hx0, hx1, rfl⟩, rfl, hc, ho⟩
  have C1 := Lib.hid hc
  have B1 := Lib.hid (below_g B0.out ho (Nat.le_refl _))
  clear hc ho C0 B0 hW0
  go_wp2_with fail
  refine (unit_any _ w.heap.size a l c _ (by omega) C1.out).mono ?_
  rintro e w2 ⟨v, ⟨u, hu0, hu1, rfl⟩, rfl, hc, ho⟩
  have B2 := Lib.hid (below_g B1.out ho (Nat.le_refl _))
  clear hc ho C1 B1
  go_wp2
  go_ret2
  exact ⟨x, u, hx0, hx1, hu0, hu1, rfl, B2.out⟩
set_option maxRecDepth 100000 in
set_option maxHeartbeats 1000000 in
theorem drawSK_any (w : World) (a : Option Addr) (l : List Int) (c : Nat) (hi : Ints .u8 w w.heap.size a l) (hb : ∀ z ∈ l, 0 ≤ z ∧ z ≤ 255) (hl : l.length ≤ 1048576) :
    Calls Tryd.prog 29 #[.slice a l.length c] w (UnitUnit w) := by
  obtain ⟨W0, hW0, hcn, hB⟩ := cur_start (c := c) hi hb hl
  have C0 := Lib.hid hcn
  have B0 := Lib.hid hB
  clear hi hb hcn hB
  go_enter Tryd.func29, Tryd.ntmps29
  go_wp2_with fail
  refine (unit_any _ w.heap.size a l c 0 (by omega) C0.out).mono ?_
  rintro e w1 ⟨v, ⟨x, hx0, hx1, rfl⟩, rfl, hc, ho⟩
  have C1 := Lib.hid hc
  have B1 := Lib.hid (below_g B0.out ho (Nat.le_refl _))
  clear hc ho C0 B0 hW0
  go_wp2_with fail
  refine (unit_any _ w.heap.size a l c _ (by omega) C1.out).mono ?_
  rintro e w2 ⟨v, ⟨u, hu0, hu1, rfl⟩, rfl, hc, ho⟩
  have B2 := Lib.hid (below_g B1.out ho (Nat.le_refl _))
  clear hc ho C1 B1
  go_wp2
  go_ret2
  exact ⟨x, u, hx0, hx1, hu0, hu1, rfl, B2.out⟩
theorem qtS_size (x u : Int) : (if qtB x u = true then qS x u else (⟨#[]⟩ : ByteArray)).size ≤ 20 := by
  split
  · rename_i h
    unfold qtB at h
    rw [Bool.and_eq_true] at h
    exact qS_size h.1
  · decide
set_option maxRecDepth 100000 in
set_option maxHeartbeats 1000000 in
theorem drawPQ_any (w : World) (a : Option Addr) (l : List Int) (c : Nat) (hi : Ints .u8 w w.heap.size a l) (hb : ∀ z ∈ l, 0 ≤ z ∧ z ≤ 255) (hl : l.length ≤ 1048576) :
    Calls Tryd.prog 27 #[.slice a l.length c] w (TextD 21 w) := by
  obtain ⟨W0, hW0, hcn, hB⟩ := cur_start (c := c) hi hb hl
  have C0 := Lib.hid hcn
  have B0 := Lib.hid hB
  clear hi hb hcn hB
  go_enter Tryd.func27, Tryd.ntmps27
  go_wp2_with fail
  refine (tenths_any _ w.heap.size a l c 0 (by omega) C0.out).mono ?_
  rintro e w1 ⟨v, ⟨x, hx0, hx1, rfl⟩, rfl, hc, ho⟩
  have C1 := Lib.hid hc
  have B1 := Lib.hid (below_g B0.out ho (Nat.le_refl _))
  clear hc ho C0 B0 hW0
  go_wp2_with fail
  refine (unit_any _ w.heap.size a l c _ (by omega) C1.out).mono ?_
  rintro e w2 ⟨v, ⟨u, hu0, hu1, rfl⟩, rfl, hc, ho⟩
  have C2 := Lib.hid hc
  have B2 := Lib.hid (below_g B1.out ho (Nat.le_refl _))
  clear hc ho C1 B1
  have HQ := Lib.hid (fun W => specQT_any x u W)
  have hs := qtS_size x u
  rw [qtT_parts] at HQ
  generalize (if qtB x u = true then qS x u else (⟨#[]⟩ : ByteArray)) = s at *
  generalize qtB x u = q at *
  go_wp2_with fail
  refine (HQ.out _).mono ?_
  rintro e w3 ⟨rfl, b3⟩
  have C3 := Lib.hid (cur_past C2.out b3)
  have B3 := Lib.hid (below_then B2.out b3)
  clear b3 C2 B2
  go_wp2_with fail
  refine (one_any _ w.heap.size a l c _ 3 (by omega) (by omega) (by omega) C3.out).mono ?_
  rintro e w4 ⟨v, ⟨b, rfl⟩, rfl, hc, ho⟩
  have C4 := Lib.hid hc
  have B4 := Lib.hid (below_g B3.out ho.1 (Nat.le_refl _))
  clear hc ho C3 B3
  cases b with
  | false =>
    go_wp2
    go_ret
    exact ⟨s, by omega, rfl, B4.out⟩
  | true =>
    go_wp2_with fail
    refine (spoilt_any _ w.heap.size a l c _ s ⟨#[45, 48, 46, 32, 67]⟩ (by omega) (by omega) (by decide) (by decide) C4.out).mono ?_
    rintro e w5 ⟨v, ⟨t, ht, rfl⟩, rfl, hc, ho⟩
    have B5 := Lib.hid (below_g B4.out ho.1 (Nat.le_refl _))
    clear hc ho C4 B4
    go_wp2
    go_ret
    exact ⟨t, by omega, rfl, B5.out⟩
end Go.Proofs.YtnomcnlmlignbaaDoor
