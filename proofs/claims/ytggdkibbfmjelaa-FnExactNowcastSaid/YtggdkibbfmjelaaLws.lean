/- What a law of one, two or three fields knows of a later world; the box of an answer that a drawn region lays. -/
import Derived.Test.YtggdkibbfmjelaaFr
import Derived.Deep.RegionHeld3
import Derived.Deep.DeepCutAuto
namespace Go.Proofs.Ytggdkibbfmjelaa
open Go.RowKit
set_option linter.unusedVariables false
structure Lw1 (w : World) (wd0 hg0 : Int) (a0 : Option Addr) (l0 : List Int) (c0 : Nat) (w' : World) : Prop where
  b : Below w.heap.size w w'
  s0 : Ints .i64 w w.heap.size a0 l0
  i0 : Ints .i64 w' w'.heap.size a0 l0
  k0 : Box w' (w.heap.size) 32 (.int .i64 wd0) (.int .i64 hg0) (.slice a0 l0.length c0)
theorem Lw1.new {w : World} {wd0 hg0 : Int} {a0 : Option Addr} {l0 : List Int} {c0 : Nat} (h0 : Ints .i64 w w.heap.size a0 l0) : Lw1 w wd0 hg0 a0 l0 c0 (w.alloc (.cells #[.int .i64 wd0, .int .i64 hg0, .slice a0 l0.length c0] 32)) := by
  constructor
  · exact ((Below.refl w.heap.size w).alloc (by simp <;> omega) _)
  · exact h0
  · exact (ints_alloc h0 _)
  · have h := (Box.new w 32 (.int .i64 wd0) (.int .i64 hg0) (.slice a0 l0.length c0))
    try simp only [World.size_alloc] at h
    exact h
section
variable {w w1 w2 : World} {wd0 hg0 : Int} {a0 : Option Addr} {l0 : List Int} {c0 : Nat}
theorem Lw1.step (h : Lw1 w wd0 hg0 a0 l0 c0 w1) (b : Below w1.heap.size w1 w2) : Lw1 w wd0 hg0 a0 l0 c0 w2 :=
  ⟨below_then h.b b, h.s0, ints_below h.i0 b, h.k0.below b⟩
theorem Lw1.turn {g : Nat} (h : Lw1 w wd0 hg0 a0 l0 c0 w1) (t : w1.grownBy w2 (some g)) (hg : w.heap.size + 1 ≤ g) : Lw1 w wd0 hg0 a0 l0 c0 w2 :=
  ⟨below_turn h.b t h.b.size (by omega), h.s0, ints_turn h.s0 h.b t (by omega), h.k0.turn t (by omega)⟩
end
structure Lw2 (w : World) (wd0 hg0 : Int) (a0 : Option Addr) (l0 : List Int) (c0 : Nat) (wd1 hg1 : Int) (a1 : Option Addr) (l1 : List Int) (c1 : Nat) (w' : World) : Prop where
  b : Below w.heap.size w w'
  s0 : Ints .i64 w w.heap.size a0 l0
  s1 : Ints .i64 w w.heap.size a1 l1
  i0 : Ints .i64 w' w'.heap.size a0 l0
  i1 : Ints .i64 w' w'.heap.size a1 l1
  k0 : Box w' (w.heap.size) 32 (.int .i64 wd0) (.int .i64 hg0) (.slice a0 l0.length c0)
  k1 : Box w' (w.heap.size + 1) 32 (.int .i64 wd1) (.int .i64 hg1) (.slice a1 l1.length c1)
theorem Lw2.new {w : World} {wd0 hg0 wd1 hg1 : Int} {a0 a1 : Option Addr} {l0 l1 : List Int} {c0 c1 : Nat} (h0 : Ints .i64 w w.heap.size a0 l0) (h1 : Ints .i64 w w.heap.size a1 l1) : Lw2 w wd0 hg0 a0 l0 c0 wd1 hg1 a1 l1 c1 ((w.alloc (.cells #[.int .i64 wd0, .int .i64 hg0, .slice a0 l0.length c0] 32)).alloc (.cells #[.int .i64 wd1, .int .i64 hg1, .slice a1 l1.length c1] 32)) := by
  constructor
  · exact (((Below.refl w.heap.size w).alloc (by simp <;> omega) _).alloc (by simp <;> omega) _)
  · exact h0
  · exact h1
  · exact (ints_alloc (ints_alloc h0 _) _)
  · exact (ints_alloc (ints_alloc h1 _) _)
  · have h := ((Box.new w 32 (.int .i64 wd0) (.int .i64 hg0) (.slice a0 l0.length c0)).alloc (.cells #[.int .i64 wd1, .int .i64 hg1, .slice a1 l1.length c1] 32))
    try simp only [World.size_alloc] at h
    exact h
  · have h := (Box.new (w.alloc (.cells #[.int .i64 wd0, .int .i64 hg0, .slice a0 l0.length c0] 32)) 32 (.int .i64 wd1) (.int .i64 hg1) (.slice a1 l1.length c1))
    try simp only [World.size_alloc] at h
    exact h
section
variable {w w1 w2 : World} {wd0 hg0 wd1 hg1 : Int} {a0 a1 : Option Addr} {l0 l1 : List Int} {c0 c1 : Nat}
theorem Lw2.step (h : Lw2 w wd0 hg0 a0 l0 c0 wd1 hg1 a1 l1 c1 w1) (b : Below w1.heap.size w1 w2) : Lw2 w wd0 hg0 a0 l0 c0 wd1 hg1 a1 l1 c1 w2 :=
  ⟨below_then h.b b, h.s0, h.s1, ints_below h.i0 b, ints_below h.i1 b, h.k0.below b, h.k1.below b⟩
theorem Lw2.turn {g : Nat} (h : Lw2 w wd0 hg0 a0 l0 c0 wd1 hg1 a1 l1 c1 w1) (t : w1.grownBy w2 (some g)) (hg : w.heap.size + 2 ≤ g) : Lw2 w wd0 hg0 a0 l0 c0 wd1 hg1 a1 l1 c1 w2 :=
  ⟨below_turn h.b t h.b.size (by omega), h.s0, h.s1, ints_turn h.s0 h.b t (by omega), ints_turn h.s1 h.b t (by omega), h.k0.turn t (by omega), h.k1.turn t (by omega)⟩
end
structure Lw3 (w : World) (wd0 hg0 : Int) (a0 : Option Addr) (l0 : List Int) (c0 : Nat) (wd1 hg1 : Int) (a1 : Option Addr) (l1 : List Int) (c1 : Nat) (wd2 hg2 : Int) (a2 : Option Addr) (l2 : List Int) (c2 : Nat) (w' : World) : Prop where
  b : Below w.heap.size w w'
  s0 : Ints .i64 w w.heap.size a0 l0
  s1 : Ints .i64 w w.heap.size a1 l1
  s2 : Ints .i64 w w.heap.size a2 l2
  i0 : Ints .i64 w' w'.heap.size a0 l0
  i1 : Ints .i64 w' w'.heap.size a1 l1
  i2 : Ints .i64 w' w'.heap.size a2 l2
  k0 : Box w' (w.heap.size) 32 (.int .i64 wd0) (.int .i64 hg0) (.slice a0 l0.length c0)
  k1 : Box w' (w.heap.size + 1) 32 (.int .i64 wd1) (.int .i64 hg1) (.slice a1 l1.length c1)
  k2 : Box w' (w.heap.size + 1 + 1) 32 (.int .i64 wd2) (.int .i64 hg2) (.slice a2 l2.length c2)
theorem Lw3.new {w : World} {wd0 hg0 wd1 hg1 wd2 hg2 : Int} {a0 a1 a2 : Option Addr} {l0 l1 l2 : List Int} {c0 c1 c2 : Nat} (h0 : Ints .i64 w w.heap.size a0 l0) (h1 : Ints .i64 w w.heap.size a1 l1) (h2 : Ints .i64 w w.heap.size a2 l2) : Lw3 w wd0 hg0 a0 l0 c0 wd1 hg1 a1 l1 c1 wd2 hg2 a2 l2 c2 (((w.alloc (.cells #[.int .i64 wd0, .int .i64 hg0, .slice a0 l0.length c0] 32)).alloc (.cells #[.int .i64 wd1, .int .i64 hg1, .slice a1 l1.length c1] 32)).alloc (.cells #[.int .i64 wd2, .int .i64 hg2, .slice a2 l2.length c2] 32)) := by
  constructor
  · exact ((((Below.refl w.heap.size w).alloc (by simp <;> omega) _).alloc (by simp <;> omega) _).alloc (by simp <;> omega) _)
  · exact h0
  · exact h1
  · exact h2
  · exact (ints_alloc (ints_alloc (ints_alloc h0 _) _) _)
  · exact (ints_alloc (ints_alloc (ints_alloc h1 _) _) _)
  · exact (ints_alloc (ints_alloc (ints_alloc h2 _) _) _)
  · have h := (((Box.new w 32 (.int .i64 wd0) (.int .i64 hg0) (.slice a0 l0.length c0)).alloc (.cells #[.int .i64 wd1, .int .i64 hg1, .slice a1 l1.length c1] 32)).alloc (.cells #[.int .i64 wd2, .int .i64 hg2, .slice a2 l2.length c2] 32))
    try simp only [World.size_alloc] at h
    exact h
  · have h := ((Box.new (w.alloc (.cells #[.int .i64 wd0, .int .i64 hg0, .slice a0 l0.length c0] 32)) 32 (.int .i64 wd1) (.int .i64 hg1) (.slice a1 l1.length c1)).alloc (.cells #[.int .i64 wd2, .int .i64 hg2, .slice a2 l2.length c2] 32))
    try simp only [World.size_alloc] at h
    exact h
  · have h := (Box.new ((w.alloc (.cells #[.int .i64 wd0, .int .i64 hg0, .slice a0 l0.length c0] 32)).alloc (.cells #[.int .i64 wd1, .int .i64 hg1, .slice a1 l1.length c1] 32)) 32 (.int .i64 wd2) (.int .i64 hg2) (.slice a2 l2.length c2))
    try simp only [World.size_alloc] at h
    exact h
section
variable {w w1 w2 : World} {wd0 hg0 wd1 hg1 wd2 hg2 : Int} {a0 a1 a2 : Option Addr} {l0 l1 l2 : List Int} {c0 c1 c2 : Nat}
theorem Lw3.step (h : Lw3 w wd0 hg0 a0 l0 c0 wd1 hg1 a1 l1 c1 wd2 hg2 a2 l2 c2 w1) (b : Below w1.heap.size w1 w2) : Lw3 w wd0 hg0 a0 l0 c0 wd1 hg1 a1 l1 c1 wd2 hg2 a2 l2 c2 w2 :=
  ⟨below_then h.b b, h.s0, h.s1, h.s2, ints_below h.i0 b, ints_below h.i1 b, ints_below h.i2 b, h.k0.below b, h.k1.below b, h.k2.below b⟩
theorem Lw3.turn {g : Nat} (h : Lw3 w wd0 hg0 a0 l0 c0 wd1 hg1 a1 l1 c1 wd2 hg2 a2 l2 c2 w1) (t : w1.grownBy w2 (some g)) (hg : w.heap.size + 3 ≤ g) : Lw3 w wd0 hg0 a0 l0 c0 wd1 hg1 a1 l1 c1 wd2 hg2 a2 l2 c2 w2 :=
  ⟨below_turn h.b t h.b.size (by omega), h.s0, h.s1, h.s2, ints_turn h.s0 h.b t (by omega), ints_turn h.s1 h.b t (by omega), ints_turn h.s2 h.b t (by omega), h.k0.turn t (by omega), h.k1.turn t (by omega), h.k2.turn t (by omega)⟩
end
theorem turn_set3 (w : World) (g i j k : Nat) (u v x : Value) : w.grownBy (((w.setCell ⟨g, i, none⟩ u).setCell ⟨g, j, none⟩ v).setCell ⟨g, k, none⟩ x) (some g) := turn_trans (turn_trans (turn_set _ _ _ _) (turn_set _ _ _ _)) (turn_set _ _ _ _)
theorem Box.set3 {w : World} {b : Nat} {t : TypeId} {v0 v1 v2 : Value} (h : Box w b t v0 v1 v2) (u0 u1 u2 : Value) : Box (((w.setCell ⟨b, 0, none⟩ u0).setCell ⟨b, 1, none⟩ u1).setCell ⟨b, 2, none⟩ u2) b t u0 u1 u2 := by
  unfold Box at *
  simp [World.setCell, Array.getElem?_modify, h]
theorem ints_own3 {w : World} {B b i j k : Nat} {a : Option Addr} {l : List Int} {u v x : Value} (h : OwnI w B a l) (hb : b < B) : Ints .i64 (((w.setCell ⟨b, i, none⟩ u).setCell ⟨b, j, none⟩ v).setCell ⟨b, k, none⟩ x) (((w.setCell ⟨b, i, none⟩ u).setCell ⟨b, j, none⟩ v).setCell ⟨b, k, none⟩ x).heap.size a l :=
  (ownI_set (ownI_set (ownI_set h hb _) hb _) hb _).ints
theorem size_set3 (w : World) (p q r : Addr) (u v x : Value) : (((w.setCell p u).setCell q v).setCell r x).heap.size = w.heap.size := by simp [World.setCell]
/-- the box of an answer may lie already -/
def MayBox (w : World) : Option Nat → Prop
  | none => True
  | some b => Box w b 34 (.int .i64 0) (.int .i64 0) (.slice none 0 0)
def cellAt (w : World) (i : Nat) (v : Value) : Option Nat → Prop
  | none => True
  | some b => w.cell? ⟨b, i, none⟩ = some v
def softAt (w : World) (i : Nat) : Option Nat → Prop
  | none => True
  | some b => w.frozen? ⟨b, i, none⟩ = false
theorem MayBox.below {w w' : World} {o : Option Nat} (h : MayBox w o) (b : Below w.heap.size w w') : MayBox w' o := by
  cases o with
  | none => trivial
  | some b' => exact Box.below h b
theorem MayBox.made {w w' : World} (b : Below (w.alloc (.cells #[.int .i64 0, .int .i64 0, .slice none 0 0] 34)).heap.size (w.alloc (.cells #[.int .i64 0, .int .i64 0, .slice none 0 0] 34)) w') : MayBox w' (some w.heap.size) := (Box.new w _ _ _ _).below b
theorem Box.set_other3 {w : World} {b g i j k : Nat} {t : TypeId} {v0 v1 v2 u v x : Value} (h : Box w b t v0 v1 v2) (hne : b ≠ g) : Box (((w.setCell ⟨g, i, none⟩ u).setCell ⟨g, j, none⟩ v).setCell ⟨g, k, none⟩ x) b t v0 v1 v2 := ((h.other (p := ⟨g, i, none⟩) hne u).other (p := ⟨g, j, none⟩) hne v).other (p := ⟨g, k, none⟩) hne x
theorem At.turnOr {w w' : World} {a : Option Addr} {g g' n : Nat} {k : Int} (h : At w a g (marks k n)) (o : w.grownBy w' (some g')) (hne : n = 0 ∨ g ≠ g') : At w' a g (marks k n) := by
  rcases hne with h0 | h0
  · subst h0; exact .inl rfl
  · exact h.turn o h0
theorem At.small {w : World} {a : Option Addr} {g : Nat} {l : List Int} (h : At w a g l) : l.length = 0 ∨ g < w.heap.size := by
  rcases h with h | ⟨_, h⟩
  · left; rw [h]; rfl
  · exact .inr h.lt
theorem drew_below (w : World) : Below w.heap.size w w.drew := ⟨rfl, rfl, rfl, Nat.le_refl _, fun _ _ => rfl⟩
theorem MayBox.made0 {w w' : World} (b : Below (w.alloc (.cells #[.int .i64 0, .int .i64 0, .slice none 0 0] 34)).drew.heap.size (w.alloc (.cells #[.int .i64 0, .int .i64 0, .slice none 0 0] 34)).drew w') : MayBox w' (some w.heap.size) := ((Box.new w _ _ _ _).below (drew_below _)).below b
theorem MayBox.facts {w : World} {o : Option Nat} (h : MayBox w o) : cellAt w 0 (.int .i64 0) o ∧ cellAt w 1 (.int .i64 0) o ∧ cellAt w 2 (.slice none 0 0) o ∧ softAt w 0 o ∧ softAt w 1 o ∧ softAt w 2 o := by
  cases o with
  | none => exact ⟨trivial, trivial, trivial, trivial, trivial, trivial⟩
  | some b' =>
    obtain ⟨h0, h1, h2⟩ := Box.cells h
    exact ⟨h0, h1, h2, Box.frozen h 0, Box.frozen h 1, Box.frozen h 2⟩
/-- a drawn answer: a field in a box of its own, and a bool; what else is known: P -/
def Got (P : World → Prop) (lo : Nat) (rw' rh : Int) (rl : List Int) (rb : Bool) (s t : Value) (wx : World) : Prop :=
  ∃ (bD : Nat) (a : Option Addr) (c : Nat), s = .pointer (some ⟨bD, 0, none⟩) ∧ t = .bool rb ∧ Box wx bD 34 (.int .i64 rw') (.int .i64 rh) (.slice a rl.length c) ∧ Ints .i64 wx wx.heap.size a rl ∧ lo ≤ bD ∧ bD < wx.heap.size ∧ P wx
/-! the marks once more, from a greater first number on -/
set_option maxHeartbeats 400000 in
theorem markIntsB_any (a : Option Addr) (l : List Int) (c g : Nat) (k0 : Int) (w : World) (hl : At w a g l) (hn : l.length ≤ 1048576) (h0 : 0 ≤ k0) (h1 : k0 ≤ 16777216) :
    Calls Try.prog 65 #[.slice a l.length c, .int .i64 k0] w fun e w' => e = .returned (.int .i64 (k0 + (l.length : Int))) ∧ At w' a g (marks k0 l.length) ∧ Only g w w' := by
  have HL := Lib.hid hl
  clear hl
  go_enter Try.func65, Try.ntmps65
  go_wp2
  go_loopw [1, 5] (fun q i wr => ∃ k : Nat, k ≤ l.length ∧ i = .int .i64 k ∧ q = .int .i64 (k0 + (k : Int)) ∧ At wr a g (part k0 l k) ∧ Only g w wr) (fun _ i _ => l.length - (intOf i).toNat)
  case atStart => exact ⟨0, Nat.zero_le _, rfl, by simp, by rw [part_zero]; exact HL.out, Only.refl g w⟩
  case round =>
    obtain ⟨k, hk, rfl, rfl, hat, ho⟩ := hrel
    have hpl := part_length k0 l k hk
    by_cases hlt : k < l.length
    · rcases hat with hat | ⟨rfl, hrow⟩
      · rw [hat] at hpl; simp at hpl; omega
      · obtain ⟨z, hc⟩ : ∃ z, wr.cell? ⟨g, k, none⟩ = some (.int .i64 z) := ⟨_, by rw [hrow.cell (k := k) (by rw [iv_length]; omega), iv_get]⟩
        have hf := hrow.frozen k
        have HR := Lib.hid (hrow.set k (.int .i64 (k0 + (k : Int))))
        have HO := Lib.hid ho
        have HS := Lib.hid (part_step k0 l k hlt)
        clear hpl hrow ho HL
        go_wp2
        go_roundw
        case rel => exact ⟨k + 1, by omega, by go_num, by go_num, .inr ⟨rfl, by have := HR.out; rw [iv_set, HS.out] at this; exact this⟩, HO.out.setCell k _⟩
        case measure => simp [intOf]; omega
    · obtain rfl : k = l.length := by omega
      have HP := Lib.hid (part_all k0 l)
      clear hpl HL
      go_wp2
      go_ret
      exact ⟨rfl, by rw [← HP.out]; exact hat, ho⟩


set_option maxHeartbeats 400000 in
theorem markFieldB_any (wd hg : Int) (a : Option Addr) (l : List Int) (c g : Nat) (k0 : Int) (w : World) (hl : At w a g l) (hn : l.length ≤ 1048576) (h0 : 0 ≤ k0) (h1 : k0 ≤ 16777216) :
    Calls Try.prog 23 #[.agg #[.int .i64 wd, .int .i64 hg, .slice a l.length c], .int .i64 k0] w fun e w' => e = .returned (.int .i64 (k0 + (l.length : Int))) ∧ At w' a g (marks k0 l.length) ∧ w.grownBy w' (some g) := by
  have HL := Lib.hid hl
  clear hl
  have bA := fun o => (Below.refl w.heap.size w).alloc (Nat.le_refl _) o
  have HM := Lib.hid (fun o => markIntsB_any a l c g k0 (w.alloc o) (HL.out.below (bA o)) hn h0 h1)
  go_enter Try.func23, Try.ntmps23
  go_wp2_with (go_at_call 65; refine (HM.out _).mono ?_; rintro e w1 ⟨rfl, ha, ho⟩; have HA := Lib.hid ha; have HO := Lib.hid ho; clear ha ho)
  go_ret
  exact ⟨rfl, HA.out, turn_trans (turn_below (bA _)) HO.out.1⟩


end Go.Proofs.Ytggdkibbfmjelaa
