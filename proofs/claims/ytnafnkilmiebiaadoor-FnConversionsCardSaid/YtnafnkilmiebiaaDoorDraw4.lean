/- More draws of chapter 3. -/
import Derived.Test.YtnafnkilmiebiaaDoorDraw3
import Derived.Test.YtnafnkilmiebiaaDoorWarm
import Derived.Test.YtnafnkilmiebiaaDoorForce
import Derived.Test.YtnafnkilmiebiaaDoorRound
namespace Go.Proofs.YtnafnkilmiebiaaDoor
open Go.RowKit
set_option linter.unusedVariables false
theorem rdiv_bd {n d : Int} (h0 : 1 ≤ d) (h1 : d ≤ 1000) (h2 : -1000000000 ≤ n) (h3 : n ≤ 1000000000) : -3000000000 ≤ rdiv n d ∧ rdiv n d ≤ 3000000000 := by
  by_cases h : n < 0
  · rw [rdiv_neg h]
    have b : 0 ≤ (-2 * n + d) / (2 * d) := Int.ediv_nonneg (by omega) (by omega)
    have c : (-2 * n + d) / (2 * d) ≤ -2 * n + d := Int.ediv_le_self _ (by omega)
    omega
  · rw [rdiv_pos h]
    have b : 0 ≤ (2 * n + d) / (2 * d) := Int.ediv_nonneg (by omega) (by omega)
    have c : (2 * n + d) / (2 * d) ≤ 2 * n + d := Int.ediv_le_self _ (by omega)
    omega
theorem convZ_bd {x f t : Int} (hx : tenB x = true) (hf : unitB f = true) (ht : unitB t = true) : -3000000000 ≤ convZ x f t ∧ convZ x f t ≤ 3000000000 := by
  have h := conv_bd hx hf ht
  obtain ⟨b1, b2, _⟩ := part_bd ht hx
  exact rdiv_bd (by omega) (by omega) h.1 h.2
def TwoNums (w : World) (e : Ending) (w' : World) : Prop := ∃ x s : Int, -4000000000 ≤ x ∧ x ≤ 4000000000 ∧ -2000 ≤ s ∧ s ≤ 2000 ∧ e = .returned (.tuple #[.int .i64 x, .int .i64 s]) ∧ Below w.heap.size w w'

set_option maxRecDepth 100000 in
set_option maxHeartbeats 4000000 in
theorem drawRound_is (w : World) (a : Option Addr) (l : List Int) (c : Nat) (hi : Ints .u8 w w.heap.size a l) (hb : ∀ z ∈ l, 0 ≤ z ∧ z ≤ 255) (hl : l.length ≤ 1048576) :
    Calls Tryd.prog 26 #[.slice a l.length c] w (TwoNums w) := by
  have HC0 := Lib.hid (cur_new w a l c hi hb hl)
  clear hi hb
  go_enter Tryd.func26, Tryd.ntmps26
  go_wp2_with fail
  refine (tenths_any _ _ a l c 0 (by omega) HC0.out).mono ?_
  rintro e w1 ⟨v, ⟨x, hx0, hx1, rfl⟩, rfl, hc, ho⟩
  have HC1 := Lib.hid hc
  have HB1 := Lib.hid (((Below.refl w.heap.size w).alloc (Nat.le_refl _) _).grown ho (by simp) (fun k e => by injection e with e; omega))
  have hz1 : w.heap.size < w1.heap.size := hc.lt
  clear hc ho HC0
  go_wp2_with fail
  refine (pick_any _ _ a l c 4 24 (by omega) (by omega) (by omega) (HC1.out.alloc _)).mono ?_
  rintro e w2 ⟨v, ⟨r, hr, rfl⟩, rfl, hc, ho⟩
  have HC2 := Lib.hid hc
  have HB2 := Lib.hid ((HB1.out.alloc HB1.out.size _).trans (ho.below (Nat.le_refl _)))
  obtain ⟨q, hq⟩ : ∃ q, r / 11 = q := ⟨_, rfl⟩
  have CC := Lib.hid (fun k h => cut_cells (L := [1, 2, 5, 10, 7, 1000, 0, 1001]) (n := 6 + q) (by omega) ho.1 k h)
  have hz2 : w1.heap.size < w2.heap.size := by have := ho.1.size; simp at this; omega
  have a1 : IntKind.i64.wrap ((r : Int) / 11) = (q : Int) := by rw [IntWalk.i64_in _ (by omega)]; omega
  have hq2 : q ≤ 2 := by omega
  clear hc ho hq
  go_wp2_with fail
  refine (among_any _ _ a l c 6 w1.heap.size (6 + q) (([1, 2, 5, 10, 7, 1000, 0, 1001] : List Int).take (6 + q)) (by omega) (by rw [List.length_take]; simp; omega) (by omega) (by omega) HC2.out (by omega) hz2 CC.out _).mono ?_
  rintro e w3 ⟨v, ⟨z, hz, rfl⟩, rfl, hc, ho⟩
  have HB3 := Lib.hid (HB2.out.trans (ho.below (Nat.le_refl _)))
  have hz3 : 0 ≤ z ∧ z ≤ 1001 := by
    have := List.mem_of_mem_take hz
    simp only [List.mem_cons, List.not_mem_nil, or_false] at this
    omega
  clear hc ho hz
  go_wp2
  go_ret2
  exact ⟨x, z, by omega, by omega, by omega, by omega, rfl, HB3.out⟩

/-- what DrawWarmerThan gives -/
def FourNums (w : World) (e : Ending) (w' : World) : Prop := ∃ x p y q : Int, -4000000000 ≤ x ∧ x ≤ 4000000000 ∧ 0 ≤ p ∧ p ≤ 4 ∧ -4000000000 ≤ y ∧ y ≤ 4000000000 ∧ 0 ≤ q ∧ q ≤ 4 ∧ e = .returned (.tuple #[.int .i64 x, .int .i64 p, .int .i64 y, .int .i64 q]) ∧ Below w.heap.size w w'

set_option maxRecDepth 100000 in
set_option maxHeartbeats 4000000 in
theorem drawWarm_is (w : World) (a : Option Addr) (l : List Int) (c : Nat) (hi : Ints .u8 w w.heap.size a l) (hb : ∀ z ∈ l, 0 ≤ z ∧ z ≤ 255) (hl : l.length ≤ 1048576) :
    Calls Tryd.prog 24 #[.slice a l.length c] w (FourNums w) := by
  have HC0 := Lib.hid (cur_new w a l c hi hb hl)
  clear hi hb
  go_enter Tryd.func24, Tryd.ntmps24
  go_wp2_with fail
  refine (tenths_any _ _ a l c 0 (by omega) HC0.out).mono ?_
  rintro e w1 ⟨v, ⟨x, hx0, hx1, rfl⟩, rfl, hc, ho⟩
  have HC1 := Lib.hid hc
  have HB1 := Lib.hid (((Below.refl w.heap.size w).alloc (Nat.le_refl _) _).grown ho (by simp) (fun k e => by injection e with e; omega))
  have hz1 : w.heap.size < w1.heap.size := hc.lt
  clear hc ho HC0
  go_wp2_with fail
  refine (among_any _ _ a l c 4 _ 5 [1, 2, 3, 1, 4] (by omega) rfl (by omega) (by omega) (HC1.out.alloc _) (by omega) (by simp) (by intro k hk; exact lit_ints w1 _ _ k hk) 5).mono ?_
  rintro e w2 ⟨v, ⟨p, hp, rfl⟩, rfl, hc, ho⟩
  have HC2 := Lib.hid hc
  have HB2 := Lib.hid ((HB1.out.alloc HB1.out.size _).trans (ho.below (Nat.le_refl _)))
  have hz2 : w.heap.size < w2.heap.size := hc.lt
  have hp2 : 0 ≤ p ∧ p ≤ 4 := by simp only [List.mem_cons, List.not_mem_nil, or_false] at hp; omega
  clear hc ho hp
  go_wp2_with fail
  refine (among_any _ _ a l c 6 _ 5 [1, 2, 3, 2, 0] (by omega) rfl (by omega) (by omega) (HC2.out.alloc _) (by omega) (by simp) (by intro k hk; exact lit_ints w2 _ _ k hk) 5).mono ?_
  rintro e w3 ⟨v, ⟨q, hq, rfl⟩, rfl, hc, ho⟩
  have HC3 := Lib.hid hc
  have HB3 := Lib.hid ((HB2.out.alloc HB2.out.size _).trans (ho.below (Nat.le_refl _)))
  have hq2 : 0 ≤ q ∧ q ≤ 4 := by simp only [List.mem_cons, List.not_mem_nil, or_false] at hq; omega
  clear hc ho hq
  go_wp2_with fail
  refine (tenths_any _ _ a l c 8 (by omega) HC3.out).mono ?_
  rintro e w4 ⟨v, ⟨y, hy0, hy1, rfl⟩, rfl, hc, ho⟩
  have HC4 := Lib.hid hc
  have HB4 := Lib.hid (HB3.out.grown ho HB3.out.size (fun k e => by injection e with e; omega))
  clear hc ho HC1 HB1 HC2 HB2 HC3 HB3
  have T1 := Lib.hid (fun W => specTen_is x (tenB x) W rfl)
  have U1 := Lib.hid (fun W => specUnit_is p (unitB p) W rfl)
  have U2 := Lib.hid (fun W => specUnit_is q (unitB q) W rfl)
  have K1 := Lib.hid (fun W => specKind_any p W)
  have K2 := Lib.hid (fun W => specKind_any q W)
  have CZ := Lib.hid (fun (h1 : tenB x = true) (h2 : unitB p = true) (h3 : unitB q = true) (h4 : kindZ p = kindZ q) W => specConv_any x p q W h2 h3 h4 (ten_iff.1 h1).1 (ten_iff.1 h1).2)
  have CB := Lib.hid (fun (h1 : tenB x = true) (h2 : unitB p = true) (h3 : unitB q = true) => convZ_bd h1 h2 h3)
  generalize convZ x p q = cz at *
  generalize tenB x = tx at *
  generalize unitB p = up at *
  generalize unitB q = uq at *
  generalize kindZ p = kp at *
  generalize kindZ q = kq at *
  go_wp2_with fail
  refine (T1.out _).mono ?_
  rintro e w5 ⟨rfl, rfl⟩
  cases tx with
  | false =>
    go_wp2_with fail
    refine bodyPost_ret (v := .tuple #[.int .i64 x, .int .i64 p, .int .i64 (y), .int .i64 q]) (by simp [results, Tryd.results24, go_sem]) rfl ?_
    exact ⟨x, p, y, q, by omega, by omega, hp2.1, hp2.2, by omega, by omega, hq2.1, hq2.2, rfl, HB4.out⟩
  | true =>
  go_wp2_with fail
  refine (U1.out _).mono ?_
  rintro e w5 ⟨rfl, rfl⟩
  cases up with
  | false =>
    go_wp2_with fail
    refine bodyPost_ret (v := .tuple #[.int .i64 x, .int .i64 p, .int .i64 (y), .int .i64 q]) (by simp [results, Tryd.results24, go_sem]) rfl ?_
    exact ⟨x, p, y, q, by omega, by omega, hp2.1, hp2.2, by omega, by omega, hq2.1, hq2.2, rfl, HB4.out⟩
  | true =>
  go_wp2_with fail
  refine (U2.out _).mono ?_
  rintro e w5 ⟨rfl, rfl⟩
  cases uq with
  | false =>
    go_wp2_with fail
    refine bodyPost_ret (v := .tuple #[.int .i64 x, .int .i64 p, .int .i64 (y), .int .i64 q]) (by simp [results, Tryd.results24, go_sem]) rfl ?_
    exact ⟨x, p, y, q, by omega, by omega, hp2.1, hp2.2, by omega, by omega, hq2.1, hq2.2, rfl, HB4.out⟩
  | true =>
  go_wp2_with fail
  refine (K1.out _).mono ?_
  rintro e w5 ⟨rfl, rfl⟩
  by_cases k1 : kp = 1
  · subst k1
    go_wp2_with fail
    refine (K2.out _).mono ?_
    rintro e w5 ⟨rfl, rfl⟩
    by_cases k2 : kq = 1
    · subst k2
      have Z1 := Lib.hid (CZ.out (by simp) (by simp) (by simp) (by simp))
      have zb := CB.out (by simp) (by simp) (by simp)
      clear CZ CB
      go_wp2_with fail
      refine (one_any _ _ a l c 12 2 (by omega) (by omega) (by omega) HC4.out).mono ?_
      rintro e w6 ⟨v, ⟨b, rfl⟩, rfl, hc, ho⟩
      have HC6 := Lib.hid hc
      have HB6 := Lib.hid (HB4.out.trans (ho.below (Nat.le_refl _)))
      clear hc ho
      cases b with
      | false =>
        go_wp2_with fail
        refine bodyPost_ret (v := .tuple #[.int .i64 x, .int .i64 p, .int .i64 (y), .int .i64 q]) (by simp [results, Tryd.results24, go_sem]) rfl ?_
        exact ⟨x, p, y, q, by omega, by omega, hp2.1, hp2.2, by omega, by omega, hq2.1, hq2.2, rfl, HB6.out⟩
      | true =>
        go_wp2_with fail
        refine (Z1.out _).mono ?_
        rintro e w7 ⟨rfl, rfl⟩
        go_wp2_with fail
        refine (pick_any _ _ a l c 14 3 (by omega) (by omega) (by omega) HC6.out).mono ?_
        rintro e w8 ⟨v, ⟨r, hr, rfl⟩, rfl, hc, ho⟩
        have HB8 := Lib.hid (HB6.out.trans (ho.below (Nat.le_refl _)))
        clear hc ho
        go_wp2_with fail
        refine bodyPost_ret (v := .tuple #[.int .i64 x, .int .i64 p, .int .i64 (cz + (r : Int) - 1), .int .i64 q]) (by simp [results, Tryd.results24, go_sem]) rfl ?_
        exact ⟨x, p, cz + (r : Int) - 1, q, by omega, by omega, hp2.1, hp2.2, by omega, by omega, hq2.1, hq2.2, rfl, HB8.out⟩
    · have hne : (kq - 1 == 0) = false := by simp; omega
      go_wp2_with fail
      refine bodyPost_ret (v := .tuple #[.int .i64 x, .int .i64 p, .int .i64 (y), .int .i64 q]) (by simp [results, Tryd.results24, go_sem]) rfl ?_
      exact ⟨x, p, y, q, by omega, by omega, hp2.1, hp2.2, by omega, by omega, hq2.1, hq2.2, rfl, HB4.out⟩
  · have hne : (kp - 1 == 0) = false := by simp; omega
    go_wp2_with fail
    refine bodyPost_ret (v := .tuple #[.int .i64 x, .int .i64 p, .int .i64 (y), .int .i64 q]) (by simp [results, Tryd.results24, go_sem]) rfl ?_
    exact ⟨x, p, y, q, by omega, by omega, hp2.1, hp2.2, by omega, by omega, hq2.1, hq2.2, rfl, HB4.out⟩
end Go.Proofs.YtnafnkilmiebiaaDoor
