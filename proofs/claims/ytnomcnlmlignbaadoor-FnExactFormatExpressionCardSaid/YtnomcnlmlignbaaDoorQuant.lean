/- QuantityText, the model's and the program's, and the walk of FnExactQuantityText. -/
import Derived.Test.YtnomcnlmlignbaaDoorWord
import Derived.Test.YtnomcnlmlignbaaDoorTab
namespace Go.Proofs.YtnomcnlmlignbaaDoor
open Go.RowKit
set_option linter.unusedVariables false
set_option linter.unusedSimpArgs false
def signS (x : Int) : ByteArray := if x < 0 then ⟨#[45]⟩ else ⟨#[]⟩
def digS (n : Nat) : ByteArray := ⟨(Lib.decDigits n).toArray⟩
def tS (x : Int) : ByteArray := signS x ++ digS (x.natAbs / 10) ++ ⟨#[46]⟩ ++ digS (x.natAbs % 10)
def qS (x u : Int) : ByteArray := tS x ++ ⟨#[32]⟩ ++ wordS u
def qtB (x u : Int) : Bool := tenB x && unitB u
def qtT (x u : Int) : Value := .tuple #[.string (if qtB x u = true then qS x u else ⟨#[]⟩), .bool (qtB x u)]
theorem qtT_no {x u : Int} (h : qtB x u = false) : qtT x u = .tuple #[.string ⟨#[]⟩, .bool false] := by unfold qtT; rw [h]; rfl
theorem qtT_yes {x u : Int} (h : qtB x u = true) : qtT x u = .tuple #[.string (qS x u), .bool true] := by unfold qtT; rw [h]; rfl
theorem digS_size (n : Nat) (h : n ≤ 99999) : (digS n).size ≤ 20 := by
  have := digits_len n (by omega)
  simpa [digS, ByteArray.size] using this
theorem signS_size (x : Int) : (signS x).size ≤ 1 := by unfold signS; split <;> decide
theorem wordS_size (u : Int) : (wordS u).size ≤ 4 := by unfold wordS; repeat (first | split | decide)
theorem cat_size (a b : ByteArray) : (a ++ b).size = a.size + b.size := by simp
theorem cat_run (P : Program) (a b : ByteArray) (h : a.size + b.size ≤ 1000) (W : World) : (Op.stringOp .add a b).run P W = .ok (.string (a ++ b)) W := run_string_add_sum W a b (by omega)

set_option maxHeartbeats 1000000 in
theorem text_neg (m q r : Nat) (w : World) (hm : m ≤ 99999) (hq : m / 10 = q) (hr : m % 10 = r) (h1 : 1 ≤ m) : Calls Tryd.prog 74 #[.int .i64 (-(m : Int))] w (Quiet (.string (tS (-(m : Int)))) w) := by
  have HT := Lib.hid (show tS (-(m : Int)) = ⟨#[45]⟩ ++ digS q ++ ⟨#[46]⟩ ++ digS r by
    unfold tS
    rw [show (-(m : Int)).natAbs = m by omega, hq, hr, show signS (-(m : Int)) = ⟨#[45]⟩ from if_pos (by omega)])
  have N1 := Lib.hid (show ∀ W, Calls Tryd.prog 108 #[.int .i64 q] W (Quiet (.string (digS q)) W) from num_nat q (by omega))
  have N2 := Lib.hid (show ∀ W, Calls Tryd.prog 108 #[.int .i64 r] W (Quiet (.string (digS r)) W) from num_nat r (by omega))
  have s2 := digS_size q (by omega)
  have s3 := digS_size r (by omega)
  have k0 : (⟨#[45]⟩ : ByteArray).size ≤ 1 := by decide
  have k46 : (⟨#[46]⟩ : ByteArray).size = 1 := rfl
  have a1 : IntKind.i64.wrap ((m : Int) / 10) = (q : Int) := by rw [IntWalk.i64_in _ (by omega)]; omega
  have a2 : (m : Int).tmod 10 = (r : Int) := by rw [Int.tmod_eq_emod_of_nonneg (by omega)]; omega
  have a3 : -(-(m : Int)) = (m : Int) := by omega
  generalize digS q = dq at *
  generalize digS r = dr at *
  have e1 := cat_run Tryd.prog ⟨#[45]⟩ dq (by omega)
  have z1 := cat_size ⟨#[45]⟩ dq
  generalize (⟨#[45]⟩ : ByteArray) ++ dq = t1 at *
  have e2 := cat_run Tryd.prog t1 ⟨#[46]⟩ (by omega)
  have z2 := cat_size t1 ⟨#[46]⟩
  generalize t1 ++ ⟨#[46]⟩ = t2 at *
  have e3 := cat_run Tryd.prog t2 dr (by omega)
  generalize t2 ++ dr = t3 at *
  clear hq hr
  go_enter Tryd.func74, Tryd.ntmps74
  go_wp2_with fail
  refine (N1.out _).mono ?_
  rintro e w1 ⟨rfl, d1⟩
  have D1 := Lib.hid d1
  clear d1
  go_wp2_with fail
  refine (N2.out _).mono ?_
  rintro e w2 ⟨rfl, d2⟩
  have D2 := Lib.hid (D1.out.trans d2)
  clear d2
  go_wp2
  go_ret
  exact ⟨by rw [HT.out]; rfl, D2.out⟩
set_option maxHeartbeats 1000000 in
theorem text_pos (m q r : Nat) (w : World) (hm : m ≤ 99999) (hq : m / 10 = q) (hr : m % 10 = r) : Calls Tryd.prog 74 #[.int .i64 ((m : Int))] w (Quiet (.string (tS ((m : Int)))) w) := by
  have HT := Lib.hid (show tS ((m : Int)) = ⟨#[]⟩ ++ digS q ++ ⟨#[46]⟩ ++ digS r by
    unfold tS
    rw [show ((m : Int)).natAbs = m by omega, hq, hr, show signS ((m : Int)) = ⟨#[]⟩ from if_neg (by omega)])
  have N1 := Lib.hid (show ∀ W, Calls Tryd.prog 108 #[.int .i64 q] W (Quiet (.string (digS q)) W) from num_nat q (by omega))
  have N2 := Lib.hid (show ∀ W, Calls Tryd.prog 108 #[.int .i64 r] W (Quiet (.string (digS r)) W) from num_nat r (by omega))
  have s2 := digS_size q (by omega)
  have s3 := digS_size r (by omega)
  have k0 : (⟨#[]⟩ : ByteArray).size ≤ 1 := by decide
  have k46 : (⟨#[46]⟩ : ByteArray).size = 1 := rfl
  have a1 : IntKind.i64.wrap ((m : Int) / 10) = (q : Int) := by rw [IntWalk.i64_in _ (by omega)]; omega
  have a2 : (m : Int).tmod 10 = (r : Int) := by rw [Int.tmod_eq_emod_of_nonneg (by omega)]; omega
  have a3 : -(-(m : Int)) = (m : Int) := by omega
  generalize digS q = dq at *
  generalize digS r = dr at *
  have e1 := cat_run Tryd.prog ⟨#[]⟩ dq (by omega)
  have z1 := cat_size ⟨#[]⟩ dq
  generalize (⟨#[]⟩ : ByteArray) ++ dq = t1 at *
  have e2 := cat_run Tryd.prog t1 ⟨#[46]⟩ (by omega)
  have z2 := cat_size t1 ⟨#[46]⟩
  generalize t1 ++ ⟨#[46]⟩ = t2 at *
  have e3 := cat_run Tryd.prog t2 dr (by omega)
  generalize t2 ++ dr = t3 at *
  clear hq hr
  go_enter Tryd.func74, Tryd.ntmps74
  go_wp2_with fail
  refine (N1.out _).mono ?_
  rintro e w1 ⟨rfl, d1⟩
  have D1 := Lib.hid d1
  clear d1
  go_wp2_with fail
  refine (N2.out _).mono ?_
  rintro e w2 ⟨rfl, d2⟩
  have D2 := Lib.hid (D1.out.trans d2)
  clear d2
  go_wp2
  go_ret
  exact ⟨by rw [HT.out]; rfl, D2.out⟩
theorem text_any (x : Int) (w : World) (h0 : -99999 ≤ x) (h1 : x ≤ 99999) : Calls Tryd.prog 74 #[.int .i64 x] w (Quiet (.string (tS x)) w) := by
  by_cases hx : x < 0
  · obtain ⟨m, rfl⟩ : ∃ m : Nat, x = -(m : Int) := ⟨x.natAbs, by omega⟩
    exact text_neg m _ _ w (by omega) rfl rfl (by omega)
  · obtain ⟨m, rfl⟩ : ∃ m : Nat, x = (m : Int) := ⟨x.natAbs, by omega⟩
    exact text_pos m _ _ w (by omega) rfl rfl
theorem tS_size (x : Int) (h0 : -99999 ≤ x) (h1 : x ≤ 99999) : (tS x).size ≤ 50 := by
  have s1 := signS_size x
  have s2 := digS_size (x.natAbs / 10) (by omega)
  have s3 := digS_size (x.natAbs % 10) (by omega)
  have k46 : (⟨#[46]⟩ : ByteArray).size = 1 := rfl
  unfold tS
  rw [cat_size, cat_size, cat_size]
  omega

set_option maxHeartbeats 1000000 in
theorem specQT_any (x u : Int) (w : World) :
    Calls Tryd.prog 22 #[.int .i64 x, .int .i64 u] w fun e w' => e = .returned (qtT x u) ∧ Below w.heap.size w w' := by
  cases hx : tenB x with
  | false =>
    have C1 := Lib.hid (fun W => specTen_is x false W hx)
    have R := Lib.hid (qtT_no (x := x) (u := u) (by unfold qtB; rw [hx]; rfl))
    clear hx
    go_enter Tryd.func22, Tryd.ntmps22
    go_wp2_with fail
    refine (C1.out _).mono ?_
    rintro e w1 ⟨rfl, rfl⟩
    go_wp2
    go_ret2
    exact ⟨by rw [R.out]; rfl, Below.refl _ _⟩
  | true =>
  have C1 := Lib.hid (fun W => specTen_is x true W hx)
  cases hu : unitB u with
  | false =>
    have C2 := Lib.hid (fun W => specUnit_is u false W hu)
    have R := Lib.hid (qtT_no (x := x) (u := u) (by unfold qtB; rw [hx, hu]; rfl))
    clear hx hu
    go_enter Tryd.func22, Tryd.ntmps22
    go_wp2_with fail
    refine (C1.out _).mono ?_
    rintro e w1 ⟨rfl, rfl⟩
    go_wp2_with fail
    refine (C2.out _).mono ?_
    rintro e w1 ⟨rfl, rfl⟩
    go_wp2
    go_ret2
    exact ⟨by rw [R.out]; rfl, Below.refl _ _⟩
  | true =>
  have C2 := Lib.hid (fun W => specUnit_is u true W hu)
  have R := Lib.hid (qtT_yes (x := x) (u := u) (by unfold qtB; rw [hx, hu]; rfl))
  have hx9 := ten_iff.1 hx
  have T := Lib.hid (fun W => text_any x W hx9.1 hx9.2)
  have z1 := tS_size x hx9.1 hx9.2
  unfold qS at R
  have k32 : (⟨#[32]⟩ : ByteArray).size = 1 := rfl
  generalize tS x = tx at *
  have e1 := cat_run Tryd.prog tx ⟨#[32]⟩ (by omega)
  have z2 := cat_size tx ⟨#[32]⟩
  generalize tx ++ ⟨#[32]⟩ = t1 at *
  have HW := Lib.hid (fun W => words_any W)
  clear hx
  rcases unit_cases hu with rfl | rfl | rfl | rfl | rfl | rfl | rfl | rfl
  · have HC := Lib.hid (fun W : World => show (W.alloc (.cells wordsCells 9)).cell? ⟨W.heap.size, 1, none⟩ = some (.string (wordS 1)) from words_cell W 1)
    have z3 := wordS_size 1
    generalize wordS 1 = wl at *
    have e2 := cat_run Tryd.prog t1 wl (by omega)
    generalize t1 ++ wl = t2 at *
    clear hu
    go_enter Tryd.func22, Tryd.ntmps22
    go_wp2_with fail
    refine (C1.out _).mono ?_
    rintro e w1 ⟨rfl, rfl⟩
    go_wp2_with fail
    refine (C2.out _).mono ?_
    rintro e w1 ⟨rfl, rfl⟩
    go_wp2_with fail
    refine (T.out _).mono ?_
    rintro e w1 ⟨rfl, d1⟩
    have D1 := Lib.hid (d1.below w.heap.size)
    clear d1
    go_wp2_with fail
    refine (HW.out _).mono ?_
    rintro e w2 ⟨rfl, rfl⟩
    have c1 := HC.out w1
    have HB := Lib.hid (D1.out.alloc D1.out.size (.cells wordsCells 9))
    generalize w1.alloc (.cells wordsCells 9) = w9 at *
    go_wp2
    go_ret2
    exact ⟨by rw [R.out]; rfl, HB.out⟩
  · have HC := Lib.hid (fun W : World => show (W.alloc (.cells wordsCells 9)).cell? ⟨W.heap.size, 2, none⟩ = some (.string (wordS 2)) from words_cell W 2)
    have z3 := wordS_size 2
    generalize wordS 2 = wl at *
    have e2 := cat_run Tryd.prog t1 wl (by omega)
    generalize t1 ++ wl = t2 at *
    clear hu
    go_enter Tryd.func22, Tryd.ntmps22
    go_wp2_with fail
    refine (C1.out _).mono ?_
    rintro e w1 ⟨rfl, rfl⟩
    go_wp2_with fail
    refine (C2.out _).mono ?_
    rintro e w1 ⟨rfl, rfl⟩
    go_wp2_with fail
    refine (T.out _).mono ?_
    rintro e w1 ⟨rfl, d1⟩
    have D1 := Lib.hid (d1.below w.heap.size)
    clear d1
    go_wp2_with fail
    refine (HW.out _).mono ?_
    rintro e w2 ⟨rfl, rfl⟩
    have c1 := HC.out w1
    have HB := Lib.hid (D1.out.alloc D1.out.size (.cells wordsCells 9))
    generalize w1.alloc (.cells wordsCells 9) = w9 at *
    go_wp2
    go_ret2
    exact ⟨by rw [R.out]; rfl, HB.out⟩
  · have HC := Lib.hid (fun W : World => show (W.alloc (.cells wordsCells 9)).cell? ⟨W.heap.size, 3, none⟩ = some (.string (wordS 3)) from words_cell W 3)
    have z3 := wordS_size 3
    generalize wordS 3 = wl at *
    have e2 := cat_run Tryd.prog t1 wl (by omega)
    generalize t1 ++ wl = t2 at *
    clear hu
    go_enter Tryd.func22, Tryd.ntmps22
    go_wp2_with fail
    refine (C1.out _).mono ?_
    rintro e w1 ⟨rfl, rfl⟩
    go_wp2_with fail
    refine (C2.out _).mono ?_
    rintro e w1 ⟨rfl, rfl⟩
    go_wp2_with fail
    refine (T.out _).mono ?_
    rintro e w1 ⟨rfl, d1⟩
    have D1 := Lib.hid (d1.below w.heap.size)
    clear d1
    go_wp2_with fail
    refine (HW.out _).mono ?_
    rintro e w2 ⟨rfl, rfl⟩
    have c1 := HC.out w1
    have HB := Lib.hid (D1.out.alloc D1.out.size (.cells wordsCells 9))
    generalize w1.alloc (.cells wordsCells 9) = w9 at *
    go_wp2
    go_ret2
    exact ⟨by rw [R.out]; rfl, HB.out⟩
  · have HC := Lib.hid (fun W : World => show (W.alloc (.cells wordsCells 9)).cell? ⟨W.heap.size, 4, none⟩ = some (.string (wordS 4)) from words_cell W 4)
    have z3 := wordS_size 4
    generalize wordS 4 = wl at *
    have e2 := cat_run Tryd.prog t1 wl (by omega)
    generalize t1 ++ wl = t2 at *
    clear hu
    go_enter Tryd.func22, Tryd.ntmps22
    go_wp2_with fail
    refine (C1.out _).mono ?_
    rintro e w1 ⟨rfl, rfl⟩
    go_wp2_with fail
    refine (C2.out _).mono ?_
    rintro e w1 ⟨rfl, rfl⟩
    go_wp2_with fail
    refine (T.out _).mono ?_
    rintro e w1 ⟨rfl, d1⟩
    have D1 := Lib.hid (d1.below w.heap.size)
    clear d1
    go_wp2_with fail
    refine (HW.out _).mono ?_
    rintro e w2 ⟨rfl, rfl⟩
    have c1 := HC.out w1
    have HB := Lib.hid (D1.out.alloc D1.out.size (.cells wordsCells 9))
    generalize w1.alloc (.cells wordsCells 9) = w9 at *
    go_wp2
    go_ret2
    exact ⟨by rw [R.out]; rfl, HB.out⟩
  · have HC := Lib.hid (fun W : World => show (W.alloc (.cells wordsCells 9)).cell? ⟨W.heap.size, 5, none⟩ = some (.string (wordS 5)) from words_cell W 5)
    have z3 := wordS_size 5
    generalize wordS 5 = wl at *
    have e2 := cat_run Tryd.prog t1 wl (by omega)
    generalize t1 ++ wl = t2 at *
    clear hu
    go_enter Tryd.func22, Tryd.ntmps22
    go_wp2_with fail
    refine (C1.out _).mono ?_
    rintro e w1 ⟨rfl, rfl⟩
    go_wp2_with fail
    refine (C2.out _).mono ?_
    rintro e w1 ⟨rfl, rfl⟩
    go_wp2_with fail
    refine (T.out _).mono ?_
    rintro e w1 ⟨rfl, d1⟩
    have D1 := Lib.hid (d1.below w.heap.size)
    clear d1
    go_wp2_with fail
    refine (HW.out _).mono ?_
    rintro e w2 ⟨rfl, rfl⟩
    have c1 := HC.out w1
    have HB := Lib.hid (D1.out.alloc D1.out.size (.cells wordsCells 9))
    generalize w1.alloc (.cells wordsCells 9) = w9 at *
    go_wp2
    go_ret2
    exact ⟨by rw [R.out]; rfl, HB.out⟩
  · have HC := Lib.hid (fun W : World => show (W.alloc (.cells wordsCells 9)).cell? ⟨W.heap.size, 6, none⟩ = some (.string (wordS 6)) from words_cell W 6)
    have z3 := wordS_size 6
    generalize wordS 6 = wl at *
    have e2 := cat_run Tryd.prog t1 wl (by omega)
    generalize t1 ++ wl = t2 at *
    clear hu
    go_enter Tryd.func22, Tryd.ntmps22
    go_wp2_with fail
    refine (C1.out _).mono ?_
    rintro e w1 ⟨rfl, rfl⟩
    go_wp2_with fail
    refine (C2.out _).mono ?_
    rintro e w1 ⟨rfl, rfl⟩
    go_wp2_with fail
    refine (T.out _).mono ?_
    rintro e w1 ⟨rfl, d1⟩
    have D1 := Lib.hid (d1.below w.heap.size)
    clear d1
    go_wp2_with fail
    refine (HW.out _).mono ?_
    rintro e w2 ⟨rfl, rfl⟩
    have c1 := HC.out w1
    have HB := Lib.hid (D1.out.alloc D1.out.size (.cells wordsCells 9))
    generalize w1.alloc (.cells wordsCells 9) = w9 at *
    go_wp2
    go_ret2
    exact ⟨by rw [R.out]; rfl, HB.out⟩
  · have HC := Lib.hid (fun W : World => show (W.alloc (.cells wordsCells 9)).cell? ⟨W.heap.size, 7, none⟩ = some (.string (wordS 7)) from words_cell W 7)
    have z3 := wordS_size 7
    generalize wordS 7 = wl at *
    have e2 := cat_run Tryd.prog t1 wl (by omega)
    generalize t1 ++ wl = t2 at *
    clear hu
    go_enter Tryd.func22, Tryd.ntmps22
    go_wp2_with fail
    refine (C1.out _).mono ?_
    rintro e w1 ⟨rfl, rfl⟩
    go_wp2_with fail
    refine (C2.out _).mono ?_
    rintro e w1 ⟨rfl, rfl⟩
    go_wp2_with fail
    refine (T.out _).mono ?_
    rintro e w1 ⟨rfl, d1⟩
    have D1 := Lib.hid (d1.below w.heap.size)
    clear d1
    go_wp2_with fail
    refine (HW.out _).mono ?_
    rintro e w2 ⟨rfl, rfl⟩
    have c1 := HC.out w1
    have HB := Lib.hid (D1.out.alloc D1.out.size (.cells wordsCells 9))
    generalize w1.alloc (.cells wordsCells 9) = w9 at *
    go_wp2
    go_ret2
    exact ⟨by rw [R.out]; rfl, HB.out⟩
  · have HC := Lib.hid (fun W : World => show (W.alloc (.cells wordsCells 9)).cell? ⟨W.heap.size, 8, none⟩ = some (.string (wordS 8)) from words_cell W 8)
    have z3 := wordS_size 8
    generalize wordS 8 = wl at *
    have e2 := cat_run Tryd.prog t1 wl (by omega)
    generalize t1 ++ wl = t2 at *
    clear hu
    go_enter Tryd.func22, Tryd.ntmps22
    go_wp2_with fail
    refine (C1.out _).mono ?_
    rintro e w1 ⟨rfl, rfl⟩
    go_wp2_with fail
    refine (C2.out _).mono ?_
    rintro e w1 ⟨rfl, rfl⟩
    go_wp2_with fail
    refine (T.out _).mono ?_
    rintro e w1 ⟨rfl, d1⟩
    have D1 := Lib.hid (d1.below w.heap.size)
    clear d1
    go_wp2_with fail
    refine (HW.out _).mono ?_
    rintro e w2 ⟨rfl, rfl⟩
    have c1 := HC.out w1
    have HB := Lib.hid (D1.out.alloc D1.out.size (.cells wordsCells 9))
    generalize w1.alloc (.cells wordsCells 9) = w9 at *
    go_wp2
    go_ret2
    exact ⟨by rw [R.out]; rfl, HB.out⟩

set_option maxHeartbeats 1000000 in
theorem implQT_any (x u : Int) (w : World) (ht : UTab w) (tab : Tab w) :
    Calls Tryd.prog 21 #[.int .i64 x, .int .i64 u] w fun e w' => e = .returned (qtT x u) ∧ Below w.heap.size w w' := by
  have HU := Lib.hid (implWord_any u w ht)
  have HF := Lib.hid (fun n W (h : Below w.heap.size w W) => implFormat_any n W (tab.below h))
  clear ht tab
  cases hu : unitB u with
  | false =>
    have R := Lib.hid (qtT_no (x := x) (u := u) (by unfold qtB; rw [hu]; simp))
    rw [hu] at HU
    clear hu
    generalize rowW u = rw at *
    go_enter Tryd.func21, Tryd.ntmps21
    go_wp2_with fail
    refine HU.out.mono ?_
    rintro e w1 ⟨rfl, b1⟩
    have HB1 := Lib.hid b1
    clear b1
    go_wp2
    go_ret2
    exact ⟨by rw [R.out]; rfl, HB1.out⟩
  | true =>
  rw [hu] at HU
  cases hx : tenB x with
  | false =>
    have C1 := Lib.hid (fun W => implTen_is x false W hx)
    have R := Lib.hid (qtT_no (x := x) (u := u) (by unfold qtB; rw [hx]; rfl))
    clear hu hx
    generalize rowW u = rw at *
    go_enter Tryd.func21, Tryd.ntmps21
    go_wp2_with fail
    refine HU.out.mono ?_
    rintro e w1 ⟨rfl, b1⟩
    have HB1 := Lib.hid b1
    clear b1
    go_wp2_with fail
    refine (C1.out _).mono ?_
    rintro e w1 ⟨rfl, rfl⟩
    go_wp2
    go_ret2
    exact ⟨by rw [R.out]; rfl, HB1.out⟩
  | true =>
  have C1 := Lib.hid (fun W => implTen_is x true W hx)
  have R := Lib.hid (qtT_yes (x := x) (u := u) (by unfold qtB; rw [hx, hu]; rfl))
  obtain ⟨hx0, hx1⟩ := ten_iff.1 hx
  have hrow : rowW u = wordS u := if_pos hu
  rw [hrow] at HU
  clear hrow hu hx
  have z9 := wordS_size u
  unfold qS tS at R
  generalize wordS u = wl at *
  by_cases hx : x < 0
  · obtain ⟨m, rfl⟩ : ∃ m : Nat, x = -(m : Int) := ⟨x.natAbs, by omega⟩
    rw [show (-(m : Int)).natAbs = m by omega, show signS (-(m : Int)) = ⟨#[45]⟩ from if_pos (by omega)] at R
    have N1 := Lib.hid (show ∀ W, Below w.heap.size w W → Calls Tryd.prog 71 #[.int .i64 ((m / 10 : Nat) : Int)] W fun e w' => e = .returned (.tuple #[.string (digS (m / 10)), .bool true]) ∧ Below W.heap.size W w' from fun W h => by
      have := HF.out ((m / 10 : Nat) : Int) W h
      rw [inR_yes (by omega) (by omega), fmtS_yes (inR_yes (by omega) (by omega)), Lib.itoa_nonneg] at this
      exact this)
    have N2 := Lib.hid (show ∀ W, Below w.heap.size w W → Calls Tryd.prog 71 #[.int .i64 ((m % 10 : Nat) : Int)] W fun e w' => e = .returned (.tuple #[.string (digS (m % 10)), .bool true]) ∧ Below W.heap.size W w' from fun W h => by
      have := HF.out ((m % 10 : Nat) : Int) W h
      rw [inR_yes (by omega) (by omega), fmtS_yes (inR_yes (by omega) (by omega)), Lib.itoa_nonneg] at this
      exact this)
    have s2 := digS_size (m / 10) (by omega)
    have s3 := digS_size (m % 10) (by omega)
    have k0 : (⟨#[45]⟩ : ByteArray).size ≤ 1 := by decide
    have k46 : (⟨#[46]⟩ : ByteArray).size = 1 := rfl
    have k32 : (⟨#[32]⟩ : ByteArray).size = 1 := rfl
    generalize digS (m / 10) = dq at *
    generalize digS (m % 10) = dr at *
    obtain ⟨q, hq⟩ : ∃ q : Nat, m / 10 = q := ⟨_, rfl⟩
    obtain ⟨r, hr⟩ : ∃ r : Nat, m % 10 = r := ⟨_, rfl⟩
    have a1 : IntKind.i64.wrap ((m : Int) / 10) = (q : Int) := by rw [IntWalk.i64_in _ (by omega)]; omega
    have a2 : (m : Int).tmod 10 = (r : Int) := by rw [Int.tmod_eq_emod_of_nonneg (by omega)]; omega
    have a3 : -(-(m : Int)) = (m : Int) := by omega
    rw [hq] at N1
    rw [hr] at N2
    have e1 := cat_run Tryd.prog ⟨#[45]⟩ dq (by omega)
    have z1 := cat_size ⟨#[45]⟩ dq
    generalize (⟨#[45]⟩ : ByteArray) ++ dq = t1 at *
    have e2 := cat_run Tryd.prog t1 ⟨#[46]⟩ (by omega)
    have z2 := cat_size t1 ⟨#[46]⟩
    generalize t1 ++ ⟨#[46]⟩ = t2 at *
    have e3 := cat_run Tryd.prog t2 dr (by omega)
    have z3 := cat_size t2 dr
    generalize t2 ++ dr = t3 at *
    have e4 := cat_run Tryd.prog t3 ⟨#[32]⟩ (by omega)
    have z4 := cat_size t3 ⟨#[32]⟩
    generalize t3 ++ ⟨#[32]⟩ = t4 at *
    have e5 := cat_run Tryd.prog t4 wl (by omega)
    generalize t4 ++ wl = t5 at *
    clear hq hr HF
    go_enter Tryd.func21, Tryd.ntmps21
    go_wp2_with fail
    refine HU.out.mono ?_
    rintro e w1 ⟨rfl, b1⟩
    have HB1 := Lib.hid b1
    clear b1
    go_wp2_with fail
    refine (C1.out _).mono ?_
    rintro e w1 ⟨rfl, rfl⟩
    go_wp2_with fail
    refine (N1.out _ HB1.out).mono ?_
    rintro e w2 ⟨rfl, b2⟩
    have HB2 := Lib.hid (below_then HB1.out b2)
    clear b2
    go_wp2_with fail
    refine (N2.out _ HB2.out).mono ?_
    rintro e w3 ⟨rfl, b3⟩
    have HB3 := Lib.hid (below_then HB2.out b3)
    clear b3
    go_wp2
    go_ret2
    exact ⟨by rw [R.out]; rfl, HB3.out⟩
  · obtain ⟨m, rfl⟩ : ∃ m : Nat, x = (m : Int) := ⟨x.natAbs, by omega⟩
    rw [show ((m : Int)).natAbs = m by omega, show signS (m : Int) = ⟨#[]⟩ from if_neg (by omega)] at R
    have N1 := Lib.hid (show ∀ W, Below w.heap.size w W → Calls Tryd.prog 71 #[.int .i64 ((m / 10 : Nat) : Int)] W fun e w' => e = .returned (.tuple #[.string (digS (m / 10)), .bool true]) ∧ Below W.heap.size W w' from fun W h => by
      have := HF.out ((m / 10 : Nat) : Int) W h
      rw [inR_yes (by omega) (by omega), fmtS_yes (inR_yes (by omega) (by omega)), Lib.itoa_nonneg] at this
      exact this)
    have N2 := Lib.hid (show ∀ W, Below w.heap.size w W → Calls Tryd.prog 71 #[.int .i64 ((m % 10 : Nat) : Int)] W fun e w' => e = .returned (.tuple #[.string (digS (m % 10)), .bool true]) ∧ Below W.heap.size W w' from fun W h => by
      have := HF.out ((m % 10 : Nat) : Int) W h
      rw [inR_yes (by omega) (by omega), fmtS_yes (inR_yes (by omega) (by omega)), Lib.itoa_nonneg] at this
      exact this)
    have s2 := digS_size (m / 10) (by omega)
    have s3 := digS_size (m % 10) (by omega)
    have k0 : (⟨#[]⟩ : ByteArray).size ≤ 1 := by decide
    have k46 : (⟨#[46]⟩ : ByteArray).size = 1 := rfl
    have k32 : (⟨#[32]⟩ : ByteArray).size = 1 := rfl
    generalize digS (m / 10) = dq at *
    generalize digS (m % 10) = dr at *
    obtain ⟨q, hq⟩ : ∃ q : Nat, m / 10 = q := ⟨_, rfl⟩
    obtain ⟨r, hr⟩ : ∃ r : Nat, m % 10 = r := ⟨_, rfl⟩
    have a1 : IntKind.i64.wrap ((m : Int) / 10) = (q : Int) := by rw [IntWalk.i64_in _ (by omega)]; omega
    have a2 : (m : Int).tmod 10 = (r : Int) := by rw [Int.tmod_eq_emod_of_nonneg (by omega)]; omega
    have a3 : -(-(m : Int)) = (m : Int) := by omega
    rw [hq] at N1
    rw [hr] at N2
    have e1 := cat_run Tryd.prog ⟨#[]⟩ dq (by omega)
    have z1 := cat_size ⟨#[]⟩ dq
    generalize (⟨#[]⟩ : ByteArray) ++ dq = t1 at *
    have e2 := cat_run Tryd.prog t1 ⟨#[46]⟩ (by omega)
    have z2 := cat_size t1 ⟨#[46]⟩
    generalize t1 ++ ⟨#[46]⟩ = t2 at *
    have e3 := cat_run Tryd.prog t2 dr (by omega)
    have z3 := cat_size t2 dr
    generalize t2 ++ dr = t3 at *
    have e4 := cat_run Tryd.prog t3 ⟨#[32]⟩ (by omega)
    have z4 := cat_size t3 ⟨#[32]⟩
    generalize t3 ++ ⟨#[32]⟩ = t4 at *
    have e5 := cat_run Tryd.prog t4 wl (by omega)
    generalize t4 ++ wl = t5 at *
    clear hq hr HF
    go_enter Tryd.func21, Tryd.ntmps21
    go_wp2_with fail
    refine HU.out.mono ?_
    rintro e w1 ⟨rfl, b1⟩
    have HB1 := Lib.hid b1
    clear b1
    go_wp2_with fail
    refine (C1.out _).mono ?_
    rintro e w1 ⟨rfl, rfl⟩
    go_wp2_with fail
    refine (N1.out _ HB1.out).mono ?_
    rintro e w2 ⟨rfl, b2⟩
    have HB2 := Lib.hid (below_then HB1.out b2)
    clear b2
    go_wp2_with fail
    refine (N2.out _ HB2.out).mono ?_
    rintro e w3 ⟨rfl, b3⟩
    have HB3 := Lib.hid (below_then HB2.out b3)
    clear b3
    go_wp2
    go_ret2
    exact ⟨by rw [R.out]; rfl, HB3.out⟩

end Go.Proofs.YtnomcnlmlignbaaDoor
