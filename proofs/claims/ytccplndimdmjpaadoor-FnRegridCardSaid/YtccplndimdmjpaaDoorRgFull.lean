/- Complete fields, and numbers that divide their sides: the model's and the program's checks. -/
import Derived.Test.YtccplndimdmjpaaDoorRgMath
import Derived.Test.YtccplndimdmjpaaDoorVals
import Derived.Test.YtccplndimdmjpaaDoorFr
import Derived.IntWalk
namespace Go.Proofs.YtccplndimdmjpaaDoor
open Go.RowKit
set_option linter.unusedVariables false
set_option linter.unusedSimpArgs false
set_option maxHeartbeats 1000000 in
theorem specFull_is (wd hg : Int) (a : Option Addr) (l : List Int) (c : Nat) (v : Bool) (w : World) (hl : Ints .i64 w w.heap.size a l) (hn : l.length ≤ 1048576) (h : fullB wd hg l = v) :
    Calls Tryd.prog 37 #[.agg #[.int .i64 wd, .int .i64 hg, .slice a l.length c]] w fun e w' => e = .returned (.bool v) ∧ Below w.heap.size w w' := by
  have HL := Lib.hid (ints_alloc hl (.cells #[.int .i64 wd, .int .i64 hg, .slice a l.length c] 32))
  have X0 := Lib.hid (Box.new w 32 (.int .i64 wd) (.int .i64 hg) (.slice a l.length c))
  have HF := Lib.hid h
  have HGD := Lib.hid (fun v hv => specGood_is wd hg a l c _ v _ HL.out (Nat.le_refl _) hn hv)
  clear hl h
  go_enter Tryd.func37, Tryd.ntmps37
  go_wp2
  go_loop [3] (fun i => ∃ k : Nat, k ≤ l.length ∧ i = .int .i64 k ∧ ∀ j (h : j < l.length), j < k → l[j] ≠ -9999) (fun i => l.length - (intOf i).toNat)
  case atStart => exact ⟨0, Nat.zero_le _, rfl, fun _ _ h => by omega⟩
  case round =>
    obtain ⟨k, hk, rfl, hall⟩ := hrel
    have HA := Lib.hid hall
    clear hall
    by_cases hlt : k < l.length
    · obtain ⟨b, o, rfl, hb, hc⟩ := HL.out.at_ hlt
      have hi : (k : Int) < (l.length : Int) := by omega
      have hi0 : (0 : Int) ≤ (k : Int) := by omega
      by_cases hcb : l[k] = -9999
      · obtain rfl : v = false := by rw [← HF.out]; exact full_no_cell hlt hcb
        have hne : (l[k] == -9999) = true := by simp [hcb]
        clear hcb
        generalize l[k] = x at *
        go_wp2
        go_ret
        exact ⟨rfl, below_all _ _⟩
      · have HCB := Lib.hid hcb
        have hne : (l[k] == -9999) = false := by simp [hcb]
        clear hcb
        generalize hx : l[k] = x at *
        have HX := Lib.hid hx
        clear hx
        go_wp2
        go_round
        case rel => exact ⟨k + 1, by omega, by go_num, fun j hj hjk => by
          rcases Nat.lt_or_ge j k with h1 | h1
          · exact HA.out j hj h1
          · obtain rfl : j = k := by omega
            rw [HX.out]; exact HCB.out⟩
        case measure => simp [intOf]; omega
    · have HV := Lib.hid (HGD.out v (by rw [← full_of (fun j hj => HA.out j hj (by omega))]; exact HF.out))
      obtain ⟨k0, k1, k2⟩ := X0.out.cells
      go_wp2_with fail
      refine HV.out.mono ?_
      rintro e w1 ⟨rfl, b⟩
      have HB := Lib.hid (below_then (below_all _ _) b)
      clear b
      go_wp2
      go_ret
      exact ⟨rfl, HB.out⟩
theorem full_mis {wd hg : Int} {l : List Int} : fullB wd hg l = (goodB wd hg l && decide (misN wd hg l = 0)) := by
  cases h : goodB wd hg l with
  | false => rw [full_no_good h]; rfl
  | true => unfold fullB; rw [h, gone_all, misN_yes h]
set_option maxHeartbeats 1000000 in
theorem implFull_is (wd hg : Int) (a : Option Addr) (l : List Int) (c : Nat) (v : Bool) (w : World) (hl : Ints .i64 w w.heap.size a l) (hn : l.length ≤ 1048576) (h : fullB wd hg l = v) :
    Calls Tryd.prog 43 #[.agg #[.int .i64 wd, .int .i64 hg, .slice a l.length c]] w fun e w' => e = .returned (.bool v) ∧ Below w.heap.size w w' := by
  have HL := Lib.hid (ints_alloc hl (.cells #[.int .i64 wd, .int .i64 hg, .slice a l.length c] 32))
  have HM := Lib.hid (fun W h => implMissing_any wd hg a l c W h hn)
  have h1 := full_mis (wd := wd) (hg := hg) (l := l)
  rw [h] at h1
  clear hl h
  generalize misN wd hg l = m at *
  cases hg' : goodB wd hg l with
  | false =>
    rw [hg'] at h1 HM
    obtain rfl : v = false := h1
    clear hg'
    go_enter Tryd.func43, Tryd.ntmps43
    go_wp2_with fail
    refine (HM.out _ HL.out).mono ?_
    rintro e w1 ⟨rfl, b⟩
    have HB := Lib.hid (below_then (below_all _ _) b)
    clear b
    go_wp2
    go_ret
    exact ⟨rfl, HB.out⟩
  | true =>
    rw [hg'] at h1 HM
    have e1 : (m == 0) = v := by rw [h1, Bool.true_and]; rw [Bool.eq_iff_iff]; simp
    clear hg' h1
    go_enter Tryd.func43, Tryd.ntmps43
    go_wp2_with fail
    refine (HM.out _ HL.out).mono ?_
    rintro e w1 ⟨rfl, b⟩
    have HB := Lib.hid (below_then (below_all _ _) b)
    clear b
    go_wp2
    go_ret
    exact ⟨rfl, HB.out⟩
set_option maxHeartbeats 1000000 in
theorem implWhole_no (wd hg : Int) (a : Option Addr) (l : List Int) (c : Nat) (w : World) (hl : Ints .i64 w w.heap.size a l) (hn : l.length ≤ 1048576) (hv : fullB wd hg l = false) :
    Calls Tryd.prog 45 #[.agg #[.int .i64 wd, .int .i64 hg, .slice a l.length c]] w fun e w' => e = .returned (.tuple #[.agg #[.int .i64 0, .int .i64 0, .slice none 0 0], .bool false]) ∧ Below w.heap.size w w' := by
  have C1 := Lib.hid (fun W h => implFull_is wd hg a l c false W h hn hv)
  have F0 := Lib.hid (Fr1.new (wd0 := wd) (hg0 := hg) (c0 := c) hl)
  clear hl hv
  go_enter Tryd.func45, Tryd.ntmps45
  go_wp2_with fail
  refine (C1.out _ F0.out.i0).mono ?_
  rintro e w1 ⟨rfl, b⟩
  have F1 := Lib.hid (F0.out.step b)
  clear b F0
  obtain ⟨k0, k1, k2⟩ := F1.out.k0.cells
  obtain ⟨r0, r1, r2⟩ := F1.out.r.cells
  have g0 := F1.out.r.frozen 0
  have g1 := F1.out.r.frozen 1
  have g2 := F1.out.r.frozen 2
  go_wp2
  refine bodyPost_ret (v := .tuple #[.agg #[.int .i64 0, .int .i64 0, .slice none 0 0], .bool false]) (by simp [results, Tryd.results45, go_sem, r0, r1, r2]) rfl ⟨rfl, ?_⟩
  first | exact F1.out.b | exact ((F1.out.b.setCell (by show w.heap.size ≤ w.heap.size + 1; omega) _).setCell (by show w.heap.size ≤ w.heap.size + 1; omega) _).setCell (by show w.heap.size ≤ w.heap.size + 1; omega) _
set_option maxHeartbeats 1000000 in
theorem implWhole_yes (wd hg : Int) (a : Option Addr) (l : List Int) (c : Nat) (w : World) (hl : Ints .i64 w w.heap.size a l) (hn : l.length ≤ 1048576) (hv : fullB wd hg l = true) :
    Calls Tryd.prog 45 #[.agg #[.int .i64 wd, .int .i64 hg, .slice a l.length c]] w fun e w' => e = .returned (.tuple #[.agg #[.int .i64 wd, .int .i64 hg, .slice a l.length c], .bool true]) ∧ Below w.heap.size w w' := by
  have C1 := Lib.hid (fun W h => implFull_is wd hg a l c true W h hn hv)
  have F0 := Lib.hid (Fr1.new (wd0 := wd) (hg0 := hg) (c0 := c) hl)
  clear hl hv
  go_enter Tryd.func45, Tryd.ntmps45
  go_wp2_with fail
  refine (C1.out _ F0.out.i0).mono ?_
  rintro e w1 ⟨rfl, b⟩
  have F1 := Lib.hid (F0.out.step b)
  clear b F0
  obtain ⟨k0, k1, k2⟩ := F1.out.k0.cells
  obtain ⟨r0, r1, r2⟩ := F1.out.r.cells
  have g0 := F1.out.r.frozen 0
  have g1 := F1.out.r.frozen 1
  have g2 := F1.out.r.frozen 2
  go_wp2
  refine bodyPost_ret (v := .tuple #[.agg #[.int .i64 wd, .int .i64 hg, .slice a l.length c], .bool true]) (by simp [results, Tryd.results45, go_sem, r0, r1, r2]) rfl ⟨rfl, ?_⟩
  first | exact F1.out.b | exact ((F1.out.b.setCell (by show w.heap.size ≤ w.heap.size + 1; omega) _).setCell (by show w.heap.size ≤ w.heap.size + 1; omega) _).setCell (by show w.heap.size ≤ w.heap.size + 1; omega) _
/-- p divides a side -/
def dvdB (p s : Int) : Bool := decide (1 ≤ p) && decide (s % p = 0)
set_option maxHeartbeats 1000000 in
theorem implDvd_is (p s : Int) (v : Bool) (w : World) (h0 : 0 ≤ s) (h8 : s ≤ 8) (h : dvdB p s = v) :
    Calls Tryd.prog 67 #[.int .i64 p, .int .i64 s] w fun e w' => e = .returned (.bool v) ∧ w = w' := by
  unfold dvdB at h
  by_cases h1 : 1 ≤ p
  · have d1 : decide (1 ≤ p) = true := decide_eq_true h1
    rw [d1, Bool.true_and] at h
    have e1 : (s % p == 0) = v := by rw [← h, Bool.eq_iff_iff]; simp
    have e2 : (s.tmod p == 0) = v := by rw [Int.tmod_eq_emod_of_nonneg h0]; exact e1
    clear h d1
    go_enter Tryd.func67, Tryd.ntmps67
    go_wp2
    all_goals (go_ret; exact ⟨rfl, rfl⟩)
  · have d1 : decide (1 ≤ p) = false := decide_eq_false h1
    rw [d1, Bool.false_and] at h
    subst h
    go_enter Tryd.func67, Tryd.ntmps67
    go_wp2
    go_ret
    exact ⟨rfl, rfl⟩
theorem divB_dvd {wd hg : Int} {l : List Int} {p q : Int} : divB wd hg l p q = (fullB wd hg l && (dvdB p wd && dvdB q hg)) := rfl
end Go.Proofs.YtccplndimdmjpaaDoor
