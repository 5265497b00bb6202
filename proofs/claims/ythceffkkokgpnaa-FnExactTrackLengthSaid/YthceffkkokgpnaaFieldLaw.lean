/- The laws' own helpers on fields: szField, toField, eqField, markField, heldField. -/
import Derived.Test.YthceffkkokgpnaaIntRow
import Derived.Test.YthceffkkokgpnaaFieldMath
namespace Go.Proofs.Ythceffkkokgpnaa
open Go.RowKit
set_option linter.unusedVariables false
set_option linter.unusedSimpArgs false
theorem turn_refl (w : World) (r : Option Nat) : w.grownBy w r := ⟨rfl, rfl, rfl, Nat.le_refl _, fun _ _ _ => rfl⟩
theorem turn_trans {a b c : World} {r : Option Nat} (h : a.grownBy b r) (k : b.grownBy c r) : a.grownBy c r :=
  ⟨k.os.trans h.os, k.tape.trans h.tape, k.output.trans h.output, Nat.le_trans h.size k.size, fun i hi hne => (k.block i (Nat.lt_of_lt_of_le hi h.size) hne).trans (h.block i hi hne)⟩
theorem turn_below {a b : World} {g : Nat} (h : Below a.heap.size a b) : a.grownBy b (some g) := ⟨h.os, h.tape, h.output, h.size, fun i hi _ => h.block i hi⟩
theorem below_turn {a b c : World} {g B : Nat} (h : Below B a b) (k : b.grownBy c (some g)) (hB : B ≤ b.heap.size) (hg : B ≤ g) : Below B a c := h.grown k hB (fun j e => by injection e with e; omega)
theorem At.turn {w w' : World} {a : Option Addr} {g g' : Nat} {l : List Int} (h : At w a g l) (o : w.grownBy w' (some g')) (hne : g ≠ g') : At w' a g l := h.keep fun hg => o.block g hg (by intro e; injection e with e; exact hne e)
theorem OwnI.turn {w w' : World} {a : Option Addr} {g' B : Nat} {l : List Int} (h : OwnI w B a l) (o : w.grownBy w' (some g')) (hne : g' < B) : OwnI w' B a l := by obtain ⟨g, h1, h2⟩ := h; exact ⟨g, h1, h2.turn o (by omega)⟩
theorem Ints.turn {k : IntKind} {w w' : World} {a : Option Addr} {g B : Nat} {l : List Int} (h : Ints k w B a l) (o : w.grownBy w' (some g)) (hB : B ≤ g) (hw : B ≤ w.heap.size) : Ints k w' B a l :=
  h.keep fun p hp => World.cell?_of_block (o.block p.block (by omega) (by intro e; injection e with e; omega))

theorem bcell {W w1 : World} (hb : Below W.heap.size W w1) : (∀ b o, b < W.heap.size → w1.cell? ⟨b, o, none⟩ = W.cell? ⟨b, o, none⟩) ∧ (∀ b o, b < W.heap.size → w1.frozen? ⟨b, o, none⟩ = W.frozen? ⟨b, o, none⟩) :=
  ⟨fun b o h => hb.cell (p := ⟨b, o, none⟩) h, fun b o h => hb.frozen (p := ⟨b, o, none⟩) h⟩

theorem szField_any (wd hg : Int) (a : Option Addr) (n c : Nat) (left : Int) (w : World) (hn : n ≤ maxLen) (h0 : 0 ≤ left) (h1 : left ≤ 1048576) :
    Calls Try.prog 34 #[.agg #[.int .i64 wd, .int .i64 hg, .slice a n c], .int .i64 left] w fun e w' => e = .returned (.int .i64 (if (n : Int) ≤ left then left - n else -1)) ∧ Below w.heap.size w w' := by
  by_cases h : (n : Int) ≤ left
  · have H := Lib.hid (fun W => szInts_any a n c left W hn h0 h1)
    rw [if_pos h] at *
    go_enter Try.func34, Try.ntmps34
    go_wp2_with (go_at_call 84; refine (H.out _).mono ?_; rintro e w' ⟨rfl, rfl⟩)
    go_ret
    exact ⟨rfl, (Below.refl _ _).alloc (Nat.le_refl _) _⟩
  · have H := Lib.hid (fun W => szInts_any a n c left W hn h0 h1)
    rw [if_neg h] at *
    go_enter Try.func34, Try.ntmps34
    go_wp2_with (go_at_call 84; refine (H.out _).mono ?_; rintro e w' ⟨rfl, rfl⟩)
    go_ret
    exact ⟨rfl, (Below.refl _ _).alloc (Nat.le_refl _) _⟩

/-- a field as a value -/
def fv (wd hg : Int) (a : Option Addr) (n c : Nat) : Value := .agg #[.int .i64 wd, .int .i64 hg, .slice a n c]
/-- the copy of a field: a row of its own -/
def ToPost (wd hg : Int) (l : List Int) (w : World) (e : Ending) (w' : World) : Prop :=
  ∃ g, w.heap.size ≤ g ∧ g < w'.heap.size ∧ e = .returned (.agg #[.int .i64 wd, .int .i64 hg, .slice (some ⟨g, 0, none⟩) l.length l.length]) ∧ At w' (some ⟨g, 0, none⟩) g l ∧ Below w.heap.size w w'

set_option maxHeartbeats 400000 in
theorem toField_any (wd hg : Int) (a : Option Addr) (l : List Int) (c : Nat) (w : World) (hl : Ints .i64 w w.heap.size a l) (hn : l.length ≤ 1048576) :
    Calls Try.prog 36 #[.agg #[.int .i64 wd, .int .i64 hg, .slice a l.length c]] w (ToPost wd hg l w) := by
  have HL := Lib.hid hl
  clear hl
  go_enter Try.func36, Try.ntmps36
  have b3 : ∀ o1 o2 o3, Below w.heap.size w (((w.alloc o1).alloc o2).alloc o3) := fun o1 o2 o3 => (((Below.refl _ _).alloc (Nat.le_refl _) _).alloc (by simp) _).alloc (by simp; omega) _
  go_wp2_with fail
  refine (toInts_any a l c _ ((HL.out.below (b3 _ _ _) (Nat.le_refl _)).more (by simp; omega)) hn).mono ?_
  rintro e w1 ⟨rfl, ha, hb, hz⟩
  have HA := Lib.hid ha
  have HB := Lib.hid hb
  obtain ⟨hc, hf⟩ := bcell hb
  simp at hz
  clear ha hb b3
  go_wp2
  have hA := HA.out
  have hB := HB.out
  simp only [World.size_alloc] at hA hB
  refine bodyPost_ret (v := .agg #[.int .i64 wd, .int .i64 hg, .slice (some ⟨w.heap.size + 1 + 1 + 1, 0, none⟩) l.length l.length]) (by simp [results, Try.results36, go_sem, hc, hf, hz]) rfl ⟨w.heap.size + 1 + 1 + 1, by omega, by simpa using hz, rfl, ?_, ?_⟩
  · exact (((hA.other (by simp <;> omega) _).other (by simp <;> omega) _).other (by simp <;> omega) _).other (by simp <;> omega) _
  · exact (((((((((Below.refl _ _).alloc (Nat.le_refl _) _).alloc (by simp) _).alloc (by simp; omega) _).trans (hB.mono (by omega))).setCell (by simp <;> omega) _).setCell (by simp <;> omega) _).setCell (by simp <;> omega) _).setCell (by simp <;> omega) _)

set_option maxHeartbeats 400000 in
theorem eqField_yes (wd hg : Int) (a a' : Option Addr) (l : List Int) (c c' : Nat) (w : World) (hl : Ints .i64 w w.heap.size a l) (hl' : Ints .i64 w w.heap.size a' l) (hn : l.length ≤ 1048576) :
    Calls Try.prog 38 #[.agg #[.int .i64 wd, .int .i64 hg, .slice a l.length c], .agg #[.int .i64 wd, .int .i64 hg, .slice a' l.length c']] w fun e w' => e = .returned (.bool true) ∧ Below w.heap.size w w' := by
  have HL := Lib.hid hl
  have HL' := Lib.hid hl'
  clear hl hl'
  have b2 : ∀ o1 o2, Below w.heap.size w ((w.alloc o1).alloc o2) := fun o1 o2 => ((Below.refl _ _).alloc (Nat.le_refl _) _).alloc (by simp) _
  go_enter Try.func38, Try.ntmps38
  have HE := Lib.hid (fun o1 o2 => eqInts_yes a a' l c c' w.heap.size w.heap.size ((w.alloc o1).alloc o2) (HL.out.below (b2 o1 o2) (Nat.le_refl _)) (HL'.out.below (b2 o1 o2) (Nat.le_refl _)) hn)
  go_wp2_with (go_at_call 23; refine (HE.out _ _).mono ?_; rintro e w1 ⟨rfl, d⟩; have HD := Lib.hid d; clear d)
  go_ret
  exact ⟨rfl, (b2 _ _).trans (HD.out.below _)⟩

set_option maxHeartbeats 400000 in
theorem markField_any (wd hg : Int) (a : Option Addr) (l : List Int) (c g : Nat) (k0 : Int) (w : World) (hl : At w a g l) (hn : l.length ≤ 1048576) (h0 : 0 ≤ k0) (h1 : k0 ≤ 1048576) :
    Calls Try.prog 39 #[.agg #[.int .i64 wd, .int .i64 hg, .slice a l.length c], .int .i64 k0] w fun e w' => e = .returned (.int .i64 (k0 + (l.length : Int))) ∧ At w' a g (marks k0 l.length) ∧ w.grownBy w' (some g) := by
  have HL := Lib.hid hl
  clear hl
  have bA := fun o => (Below.refl w.heap.size w).alloc (Nat.le_refl _) o
  have HM := Lib.hid (fun o => markInts_any a l c g k0 (w.alloc o) (HL.out.below (bA o)) hn h0 h1)
  go_enter Try.func39, Try.ntmps39
  go_wp2_with (go_at_call 27; refine (HM.out _).mono ?_; rintro e w1 ⟨rfl, ha, ho⟩; have HA := Lib.hid ha; have HO := Lib.hid ho; clear ha ho)
  go_ret
  exact ⟨rfl, HA.out, turn_trans (turn_below (bA _)) HO.out.1⟩

end Go.Proofs.Ythceffkkokgpnaa
