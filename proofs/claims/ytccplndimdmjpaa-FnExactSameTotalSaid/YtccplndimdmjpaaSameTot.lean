/- SameTotal, the model's and the program's. -/
import Derived.Test.YtccplndimdmjpaaVals
import Derived.Test.YtccplndimdmjpaaFr
import Derived.Test.YtccplndimdmjpaaLws
namespace Go.Proofs.Ytccplndimdmjpaa
open Go.RowKit
set_option linter.unusedVariables false
set_option linter.unusedSimpArgs false
/-- what a function of two fields, without a result's box, knows of a later world -/
structure Fb2 (w : World) (wd0 hg0 : Int) (a0 : Option Addr) (l0 : List Int) (c0 : Nat) (wd1 hg1 : Int) (a1 : Option Addr) (l1 : List Int) (c1 : Nat) (w' : World) : Prop where
  b : Below w.heap.size w w'
  s0 : Ints .i64 w w.heap.size a0 l0
  s1 : Ints .i64 w w.heap.size a1 l1
  i0 : Ints .i64 w' w'.heap.size a0 l0
  i1 : Ints .i64 w' w'.heap.size a1 l1
  k0 : Box w' (w.heap.size) 29 (.int .i64 wd0) (.int .i64 hg0) (.slice a0 l0.length c0)
  k1 : Box w' (w.heap.size + 1) 29 (.int .i64 wd1) (.int .i64 hg1) (.slice a1 l1.length c1)
theorem Fb2.new {w : World} {wd0 hg0 wd1 hg1 : Int} {a0 a1 : Option Addr} {l0 l1 : List Int} {c0 c1 : Nat} (h0 : Ints .i64 w w.heap.size a0 l0) (h1 : Ints .i64 w w.heap.size a1 l1) : Fb2 w wd0 hg0 a0 l0 c0 wd1 hg1 a1 l1 c1 ((w.alloc (.cells #[.int .i64 wd0, .int .i64 hg0, .slice a0 l0.length c0] 29)).alloc (.cells #[.int .i64 wd1, .int .i64 hg1, .slice a1 l1.length c1] 29)) := by
  constructor
  · exact (((Below.refl w.heap.size w).alloc (by simp <;> omega) _).alloc (by simp <;> omega) _)
  · exact h0
  · exact h1
  · exact (ints_alloc (ints_alloc h0 _) _)
  · exact (ints_alloc (ints_alloc h1 _) _)
  · have h := ((Box.new w 29 (.int .i64 wd0) (.int .i64 hg0) (.slice a0 l0.length c0)).alloc (.cells #[.int .i64 wd1, .int .i64 hg1, .slice a1 l1.length c1] 29))
    try simp only [World.size_alloc] at h
    exact h
  · have h := (Box.new (w.alloc (.cells #[.int .i64 wd0, .int .i64 hg0, .slice a0 l0.length c0] 29)) 29 (.int .i64 wd1) (.int .i64 hg1) (.slice a1 l1.length c1))
    try simp only [World.size_alloc] at h
    exact h
section
variable {w w1 w2 : World} {wd0 hg0 wd1 hg1 : Int} {a0 a1 : Option Addr} {l0 l1 : List Int} {c0 c1 : Nat}
theorem Fb2.step (h : Fb2 w wd0 hg0 a0 l0 c0 wd1 hg1 a1 l1 c1 w1) (b : Below w1.heap.size w1 w2) : Fb2 w wd0 hg0 a0 l0 c0 wd1 hg1 a1 l1 c1 w2 :=
  ⟨below_then h.b b, h.s0, h.s1, ints_below h.i0 b, ints_below h.i1 b, h.k0.below b, h.k1.below b⟩
theorem Fb2.turn {g : Nat} (h : Fb2 w wd0 hg0 a0 l0 c0 wd1 hg1 a1 l1 c1 w1) (t : w1.grownBy w2 (some g)) (hg : w.heap.size + 2 ≤ g) : Fb2 w wd0 hg0 a0 l0 c0 wd1 hg1 a1 l1 c1 w2 :=
  ⟨below_turn h.b t h.b.size (by omega), h.s0, h.s1, ints_turn h.s0 h.b t (by omega), ints_turn h.s1 h.b t (by omega), h.k0.turn t (by omega), h.k1.turn t (by omega)⟩
end
def stB (wd0 hg0 : Int) (l0 : List Int) (wd1 hg1 : Int) (l1 : List Int) : Bool := goodB wd0 hg0 l0 && goodB wd1 hg1 l1
def stR (wd0 hg0 : Int) (l0 : List Int) (wd1 hg1 : Int) (l1 : List Int) : Bool := stB wd0 hg0 l0 wd1 hg1 l1 && (tot (vals l0) == tot (vals l1))
set_option maxHeartbeats 2000000 in
theorem implSameT_any (wd0 hg0 : Int) (a0 : Option Addr) (l0 : List Int) (c0 : Nat) (wd1 hg1 : Int) (a1 : Option Addr) (l1 : List Int) (c1 : Nat) (w : World) (h0 : Ints .i64 w w.heap.size a0 l0) (h1 : Ints .i64 w w.heap.size a1 l1) (hn0 : l0.length ≤ 1048576) (hn1 : l1.length ≤ 1048576) :
    Calls Try.prog 23 #[.agg #[.int .i64 wd0, .int .i64 hg0, .slice a0 l0.length c0], .agg #[.int .i64 wd1, .int .i64 hg1, .slice a1 l1.length c1]] w fun e w' => e = .returned (.tuple #[.bool (stR wd0 hg0 l0 wd1 hg1 l1), .bool (stB wd0 hg0 l0 wd1 hg1 l1)]) ∧ Below w.heap.size w w' := by
  have F0 := Lib.hid (Fb2.new (wd0 := wd0) (hg0 := hg0) (c0 := c0) (wd1 := wd1) (hg1 := hg1) (c1 := c1) h0 h1)
  have T0 := Lib.hid (fun W h => implTotal_any wd0 hg0 a0 l0 c0 W h hn0)
  have T1 := Lib.hid (fun W h => implTotal_any wd1 hg1 a1 l1 c1 W h hn1)
  have HR : Hid (stR wd0 hg0 l0 wd1 hg1 l1 = (stB wd0 hg0 l0 wd1 hg1 l1 && (totN wd0 hg0 l0 == totN wd1 hg1 l1))) := Lib.hid (by
    unfold stR stB totN
    cases goodB wd0 hg0 l0 <;> cases goodB wd1 hg1 l1 <;> rfl)
  unfold stB at *
  generalize stR wd0 hg0 l0 wd1 hg1 l1 = r at *
  generalize totN wd0 hg0 l0 = t0 at *
  generalize totN wd1 hg1 l1 = t1 at *
  clear h0 h1
  cases hg0' : goodB wd0 hg0 l0 with
  | false =>
    rw [hg0'] at HR T0
    obtain rfl := HR.out
    generalize goodB wd1 hg1 l1 = g1 at *
    clear hg0' HR
    go_enter Try.func23, Try.ntmps23
    obtain ⟨k0, k1, k2⟩ := F0.out.k0.cells
    go_wp2_with fail
    refine (T0.out _ F0.out.i0).mono ?_
    rintro e w1 ⟨rfl, b⟩
    have F1 := Lib.hid (F0.out.step b)
    clear b F0 k0 k1 k2
    obtain ⟨k0, k1, k2⟩ := F1.out.k1.cells
    go_wp2_with fail
    refine (T1.out _ F1.out.i1).mono ?_
    rintro e w2 ⟨rfl, b⟩
    have F2 := Lib.hid (F1.out.step b)
    clear b F1 k0 k1 k2
    go_wp2
    go_ret2
    exact ⟨rfl, F2.out.b⟩
  | true =>
    rw [hg0'] at HR T0
    cases hg1' : goodB wd1 hg1 l1 with
    | false =>
      rw [hg1'] at HR T1
      obtain rfl := HR.out
      clear hg0' hg1' HR
      go_enter Try.func23, Try.ntmps23
      obtain ⟨k0, k1, k2⟩ := F0.out.k0.cells
      go_wp2_with fail
      refine (T0.out _ F0.out.i0).mono ?_
      rintro e w1 ⟨rfl, b⟩
      have F1 := Lib.hid (F0.out.step b)
      clear b F0 k0 k1 k2
      obtain ⟨k0, k1, k2⟩ := F1.out.k1.cells
      go_wp2_with fail
      refine (T1.out _ F1.out.i1).mono ?_
      rintro e w2 ⟨rfl, b⟩
      have F2 := Lib.hid (F1.out.step b)
      clear b F1 k0 k1 k2
      go_wp2
      go_ret2
      exact ⟨rfl, F2.out.b⟩
    | true =>
      rw [hg1'] at HR T1
      clear hg0' hg1'
      go_enter Try.func23, Try.ntmps23
      obtain ⟨k0, k1, k2⟩ := F0.out.k0.cells
      go_wp2_with fail
      refine (T0.out _ F0.out.i0).mono ?_
      rintro e w1 ⟨rfl, b⟩
      have F1 := Lib.hid (F0.out.step b)
      clear b F0 k0 k1 k2
      obtain ⟨k0, k1, k2⟩ := F1.out.k1.cells
      go_wp2_with fail
      refine (T1.out _ F1.out.i1).mono ?_
      rintro e w2 ⟨rfl, b⟩
      have F2 := Lib.hid (F1.out.step b)
      clear b F1 k0 k1 k2
      go_wp2
      go_ret2
      exact ⟨by rw [HR.out]; rfl, F2.out.b⟩
set_option maxHeartbeats 2000000 in
theorem specSameT_any (wd0 hg0 : Int) (a0 : Option Addr) (l0 : List Int) (c0 : Nat) (wd1 hg1 : Int) (a1 : Option Addr) (l1 : List Int) (c1 : Nat) (w : World) (h0 : Ints .i64 w w.heap.size a0 l0) (h1 : Ints .i64 w w.heap.size a1 l1) (hn0 : l0.length ≤ 1048576) (hn1 : l1.length ≤ 1048576) :
    Calls Try.prog 22 #[.agg #[.int .i64 wd0, .int .i64 hg0, .slice a0 l0.length c0], .agg #[.int .i64 wd1, .int .i64 hg1, .slice a1 l1.length c1]] w fun e w' => e = .returned (.tuple #[.bool (stR wd0 hg0 l0 wd1 hg1 l1), .bool (stB wd0 hg0 l0 wd1 hg1 l1)]) ∧ Below w.heap.size w w' := by
  have F0 := Lib.hid (Fb2.new (wd0 := wd0) (hg0 := hg0) (c0 := c0) (wd1 := wd1) (hg1 := hg1) (c1 := c1) h0 h1)
  have G0 := Lib.hid (fun W v h hv => specGood_is wd0 hg0 a0 l0 c0 _ v W h (Nat.le_refl _) hn0 hv)
  have G1 := Lib.hid (fun W v h hv => specGood_is wd1 hg1 a1 l1 c1 _ v W h (Nat.le_refl _) hn1 hv)
  have T0 := Lib.hid (fun W h hv => specTot_any wd0 hg0 a0 l0 c0 W h hv)
  have T1 := Lib.hid (fun W h hv => specTot_any wd1 hg1 a1 l1 c1 W h hv)
  unfold stR stB
  clear h0 h1
  cases hg0' : goodB wd0 hg0 l0 with
  | false =>
    have C0 := Lib.hid (fun W h => G0.out W false h hg0')
    generalize goodB wd1 hg1 l1 = g1 at *
    clear hg0' G0 G1 T0 T1
    go_enter Try.func22, Try.ntmps22
    obtain ⟨k0, k1, k2⟩ := F0.out.k0.cells
    go_wp2_with fail
    refine (C0.out _ F0.out.i0).mono ?_
    rintro e w1 ⟨rfl, b⟩
    have F1 := Lib.hid (F0.out.step b)
    clear b F0 k0 k1 k2
    go_wp2
    go_ret2
    exact ⟨rfl, F1.out.b⟩
  | true =>
    have C0 := Lib.hid (fun W h => G0.out W true h hg0')
    have D0 := Lib.hid (fun W h => T0.out W h hg0')
    cases hg1' : goodB wd1 hg1 l1 with
    | false =>
      have C1 := Lib.hid (fun W h => G1.out W false h hg1')
      clear hg0' hg1' G0 G1 T0 T1 D0
      go_enter Try.func22, Try.ntmps22
      obtain ⟨k0, k1, k2⟩ := F0.out.k0.cells
      go_wp2_with fail
      refine (C0.out _ F0.out.i0).mono ?_
      rintro e w1 ⟨rfl, b⟩
      have F1 := Lib.hid (F0.out.step b)
      clear b F0 k0 k1 k2
      obtain ⟨k0, k1, k2⟩ := F1.out.k1.cells
      go_wp2_with fail
      refine (C1.out _ F1.out.i1).mono ?_
      rintro e w2 ⟨rfl, b⟩
      have F2 := Lib.hid (F1.out.step b)
      clear b F1 k0 k1 k2
      go_wp2
      go_ret2
      exact ⟨rfl, F2.out.b⟩
    | true =>
      have C1 := Lib.hid (fun W h => G1.out W true h hg1')
      have D1 := Lib.hid (fun W h => T1.out W h hg1')
      clear hg0' hg1' G0 G1 T0 T1
      generalize tot (vals l0) = t0 at *
      generalize tot (vals l1) = t1 at *
      go_enter Try.func22, Try.ntmps22
      obtain ⟨k0, k1, k2⟩ := F0.out.k0.cells
      go_wp2_with fail
      refine (C0.out _ F0.out.i0).mono ?_
      rintro e w1 ⟨rfl, b⟩
      have F1 := Lib.hid (F0.out.step b)
      clear b F0 k0 k1 k2
      obtain ⟨k0, k1, k2⟩ := F1.out.k1.cells
      go_wp2_with fail
      refine (C1.out _ F1.out.i1).mono ?_
      rintro e w2 ⟨rfl, b⟩
      have F2 := Lib.hid (F1.out.step b)
      clear b F1 k0 k1 k2
      obtain ⟨k0, k1, k2⟩ := F2.out.k0.cells
      obtain ⟨q0, q1, q2⟩ := F2.out.k1.cells
      have bd : Below w2.heap.size w2 w2.drew := ⟨rfl, rfl, rfl, Nat.le_refl _, fun _ _ => rfl⟩
      have F3 := Lib.hid (F2.out.step bd)
      clear bd
      go_wp2_with fail
      go_region_held3 (fun w' => (w'.cell? ⟨w.heap.size, 0, none⟩ = some (.int .i64 wd0) ∧ w'.cell? ⟨w.heap.size, 1, none⟩ = some (.int .i64 hg0) ∧ w'.cell? ⟨w.heap.size, 2, none⟩ = some (.slice a0 l0.length c0)) ∧
          (w'.cell? ⟨w.heap.size + 1, 0, none⟩ = some (.int .i64 wd1) ∧ w'.cell? ⟨w.heap.size + 1, 1, none⟩ = some (.int .i64 hg1) ∧ w'.cell? ⟨w.heap.size + 1, 2, none⟩ = some (.slice a1 l1.length c1)))
        (first | exact ⟨F5.out.k0.cells, F5.out.k1.cells⟩ | exact ⟨F4.out.k0.cells, F4.out.k1.cells⟩ | go_keep)
        (first
          | (go_at_call 52; ((with_reducible refine (D0.out _ F3.out.i0).mono ?_); rintro e w4 ⟨rfl, b4⟩; have F4 := Lib.hid (F3.out.step b4); clear b4))
          | (go_at_call 52; ((with_reducible refine (D1.out _ F4.out.i1).mono ?_); rintro e w5 ⟨rfl, b5⟩; have F5 := Lib.hid (F4.out.step b5); clear b5)))
      go_wp2
      go_ret2
      exact ⟨rfl, F5.out.b⟩
end Go.Proofs.Ytccplndimdmjpaa
