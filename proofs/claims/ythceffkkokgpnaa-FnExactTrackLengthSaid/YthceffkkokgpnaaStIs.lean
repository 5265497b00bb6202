/- Whether storms, lists of storms and trackings are well: the program's side. -/
import Derived.Test.YthceffkkokgpnaaStMath
import Derived.Test.YthceffkkokgpnaaLate
import Derived.Test.YthceffkkokgpnaaOnly
import Derived.BigQuiet
import Derived.Shelf.Abstract
namespace Go.Proofs.Ythceffkkokgpnaa
open Go.RowKit
set_option linter.unusedVariables false
set_option linter.unusedSimpArgs false
def spcB (x : Int) : Bool := decide (0 ≤ x) && decide (x ≤ 7)
def svlB (p : Int) : Bool := decide (-9000 ≤ p) && decide (p ≤ 9000)
theorem st_parts (x y n p : Int) : stB x y n p = (spcB x && (spcB y && ((decide (1 ≤ n) && decide (n ≤ 64)) && svlB p))) := rfl
set_option maxHeartbeats 1000000 in
theorem isPlace_is (x : Int) (v : Bool) (w : World) (h : spcB x = v) :
    Calls Try.prog 127 #[.int .i64 x] w fun e w' => e = .returned (.bool v) ∧ w = w' := by
  by_cases h1 : 0 ≤ x
  · by_cases h2 : x < 8
    · obtain rfl : v = true := by rw [← h]; unfold spcB; rw [decide_eq_true h1, decide_eq_true (by omega)]; rfl
      clear h
      go_enter Try.func127, Try.ntmps127
      go_wp2
      go_ret
      exact ⟨rfl, rfl⟩
    · obtain rfl : v = false := by rw [← h]; unfold spcB; rw [decide_eq_false (p := x ≤ 7) (by omega), Bool.and_false]
      clear h
      go_enter Try.func127, Try.ntmps127
      go_wp2
      go_ret
      exact ⟨rfl, rfl⟩
  · obtain rfl : v = false := by rw [← h]; unfold spcB; rw [decide_eq_false h1]; rfl
    clear h
    go_enter Try.func127, Try.ntmps127
    go_wp2
    go_ret
    exact ⟨rfl, rfl⟩
set_option maxHeartbeats 1000000 in
theorem isValue_is (x : Int) (v : Bool) (w : World) (h : svlB x = v) :
    Calls Try.prog 128 #[.int .i64 x] w fun e w' => e = .returned (.bool v) ∧ w = w' := by
  by_cases h1 : -9000 ≤ x
  · by_cases h2 : x ≤ 9000
    · obtain rfl : v = true := by rw [← h]; unfold svlB; rw [decide_eq_true h1, decide_eq_true (by omega)]; rfl
      clear h
      go_enter Try.func128, Try.ntmps128
      go_wp2
      go_ret
      exact ⟨rfl, rfl⟩
    · obtain rfl : v = false := by rw [← h]; unfold svlB; rw [decide_eq_false h2, Bool.and_false]
      clear h
      go_enter Try.func128, Try.ntmps128
      go_wp2
      go_ret
      exact ⟨rfl, rfl⟩
  · obtain rfl : v = false := by rw [← h]; unfold svlB; rw [decide_eq_false h1]; rfl
    clear h
    go_enter Try.func128, Try.ntmps128
    go_wp2
    go_ret
    exact ⟨rfl, rfl⟩
set_option maxHeartbeats 1000000 in
theorem isPen_is (x : Int) (v : Bool) (w : World) (h : pnB x = v) :
    Calls Try.prog 79 #[.int .i64 x] w fun e w' => e = .returned (.bool v) ∧ w = w' := by
  by_cases h1 : 0 ≤ x
  · by_cases h2 : x ≤ 20
    · obtain rfl : v = true := by rw [← h]; unfold pnB; rw [decide_eq_true h1, decide_eq_true (by omega)]; rfl
      clear h
      go_enter Try.func79, Try.ntmps79
      go_wp2
      go_ret
      exact ⟨rfl, rfl⟩
    · obtain rfl : v = false := by rw [← h]; unfold pnB; rw [decide_eq_false h2, Bool.and_false]
      clear h
      go_enter Try.func79, Try.ntmps79
      go_wp2
      go_ret
      exact ⟨rfl, rfl⟩
  · obtain rfl : v = false := by rw [← h]; unfold pnB; rw [decide_eq_false h1]; rfl
    clear h
    go_enter Try.func79, Try.ntmps79
    go_wp2
    go_ret
    exact ⟨rfl, rfl⟩
set_option maxHeartbeats 2000000 in
theorem isStorm_any (x y n p : Int) (w : World) :
    Calls Try.prog 73 #[.agg #[.int .i64 x, .int .i64 y, .int .i64 n, .int .i64 p]] w fun e w' => e = .returned (.bool (stB x y n p)) ∧ Below w.heap.size w w' := by
  rw [st_parts]
  obtain ⟨vx, hx⟩ : ∃ v, spcB x = v := ⟨_, rfl⟩
  obtain ⟨vy, hy⟩ : ∃ v, spcB y = v := ⟨_, rfl⟩
  obtain ⟨vp, hp⟩ : ∃ v, svlB p = v := ⟨_, rfl⟩
  rw [hx, hy, hp]
  have HX := Lib.hid (fun W => isPlace_is x vx W hx)
  have HY := Lib.hid (fun W => isPlace_is y vy W hy)
  have HP := Lib.hid (fun W => isValue_is p vp W hp)
  clear hx hy hp
  cases vx with
  | false =>
    go_enter Try.func73, Try.ntmps73
    go_wp2_with (go_at_call 127; (with_reducible refine (HX.out _).mono ?_); rintro e w1 ⟨rfl, rfl⟩)
    go_ret
    exact ⟨rfl, below_all _ _⟩
  | true =>
    cases vy with
    | false =>
      go_enter Try.func73, Try.ntmps73
      go_wp2_with (go_at_call 127; first | ((with_reducible refine (HX.out _).mono ?_); rintro e w1 ⟨rfl, rfl⟩) | ((with_reducible refine (HY.out _).mono ?_); rintro e w1 ⟨rfl, rfl⟩))
      go_ret
      exact ⟨rfl, below_all _ _⟩
    | true =>
      by_cases h1 : 1 ≤ n
      · rw [decide_eq_true h1]
        by_cases h2 : n ≤ 64
        · rw [decide_eq_true h2]
          cases vp
          all_goals
            go_enter Try.func73, Try.ntmps73
            go_wp2_with (first | (go_at_call 127; first | ((with_reducible refine (HX.out _).mono ?_); rintro e w1 ⟨rfl, rfl⟩) | ((with_reducible refine (HY.out _).mono ?_); rintro e w1 ⟨rfl, rfl⟩)) | (go_at_call 128; (with_reducible refine (HP.out _).mono ?_); rintro e w1 ⟨rfl, rfl⟩))
            go_ret
            exact ⟨rfl, below_all _ _⟩
        · rw [decide_eq_false h2]
          go_enter Try.func73, Try.ntmps73
          go_wp2_with (go_at_call 127; first | ((with_reducible refine (HX.out _).mono ?_); rintro e w1 ⟨rfl, rfl⟩) | ((with_reducible refine (HY.out _).mono ?_); rintro e w1 ⟨rfl, rfl⟩))
          go_ret
          exact ⟨rfl, below_all _ _⟩
      · rw [decide_eq_false h1]
        go_enter Try.func73, Try.ntmps73
        go_wp2_with (go_at_call 127; first | ((with_reducible refine (HX.out _).mono ?_); rintro e w1 ⟨rfl, rfl⟩) | ((with_reducible refine (HY.out _).mono ?_); rintro e w1 ⟨rfl, rfl⟩))
        go_ret
        exact ⟨rfl, below_all _ _⟩
theorem noStorm_any (x y n p : Int) (w : World) :
    Calls Try.prog 164 #[.agg #[.int .i64 x, .int .i64 y, .int .i64 n, .int .i64 p]] w fun e w' => e = .returned (.bool (!stB x y n p)) ∧ Below w.heap.size w w' := by
  have HC := Lib.hid (fun W => isStorm_any x y n p W)
  generalize stB x y n p = v at *
  cases v
  all_goals
    go_enter Try.func164, Try.ntmps164
    go_wp2_with (go_at_call 73; refine (HC.out _).mono ?_; rintro e w1 ⟨rfl, b1⟩; have B1 := Lib.hid b1; clear b1)
    go_ret
    exact ⟨rfl, below_then (below_all _ _) B1.out⟩
theorem ent_noStorm : ∀ (args : Array Value) (w : World), (callFunc 164 args).run Try.prog w = .ok (.enter 164 args) w := enters_of Try.func164 (by kernel_rfl) rfl
/-- where the first that is no storm stands, or nowhere -/
def badSt (l : List StT) (z : Int) : Prop := (z = -1 ∧ ∀ j (x : j < l.length), stOk l[j] = true) ∨ (0 ≤ z ∧ ∃ (k : Nat) (h : k < l.length), stOk l[k] = false)
set_option maxHeartbeats 4000000 in
theorem indexSt_any (a : Option Addr) (l : List StT) (c : Nat) (w : World) (hl : Sts w w.heap.size a l) (hn : l.length ≤ 1048576) :
    Calls Try.prog 184 #[.slice a l.length c, .func (.func 164) #[] #[]] w fun e w' => ∃ z, e = .returned (.int .i64 z) ∧ badSt l z ∧ z < 1048576 ∧ Below w.heap.size w w' := by
  have HL := Lib.hid hl
  clear hl
  have eg := ent_noStorm
  go_enter Try.func184, Try.ntmps184
  go_wp2
  go_loopw [8] (fun i wr => ∃ k : Nat, k ≤ l.length ∧ i = .int .i64 k ∧ Below w.heap.size w wr ∧ ∀ j (x : j < l.length), j < k → stOk l[j] = true) (fun i _ => l.length - (intOf i).toNat)
  case atStart => exact ⟨0, Nat.zero_le _, rfl, Below.refl _ _, fun _ _ h => by omega⟩
  case round =>
    obtain ⟨k, hk, rfl, hB, hall⟩ := hrel
    have HB := Lib.hid hB
    have HA := Lib.hid hall
    by_cases hlt : k < l.length
    · obtain ⟨b1, o1, rfl, hb1, c0, c1, c2, c3⟩ := (HL.out.below hB (Nat.le_refl _)).at_ hlt
      have hi : (k : Int) < (l.length : Int) := by omega
      have hi0 : (0 : Int) ≤ (k : Int) := by omega
      have HNX := Lib.hid (fun (hx : stOk l[k] = true) j (x : j < l.length) (hj : j < k + 1) => show stOk l[j] = true by
        rcases Nat.lt_or_ge j k with h1 | h1
        · exact HA.out j x h1
        · obtain rfl : j = k := by omega
          exact hx)
      have HBAD := Lib.hid (fun (hx : stOk l[k] = false) => show badSt l (k : Int) from .inr ⟨by omega, k, hlt, hx⟩)
      have HC := Lib.hid (fun W => noStorm_any l[k].1 l[k].2.1 l[k].2.2.1 l[k].2.2.2 W)
      unfold stOk at HNX HBAD
      clear hB hall
      generalize l[k].1 = x1 at *
      generalize l[k].2.1 = x2 at *
      generalize l[k].2.2.1 = x3 at *
      generalize l[k].2.2.2 = x4 at *
      cases hs : stB x1 x2 x3 x4 with
      | false =>
        rw [hs] at HC
        have HS := Lib.hid (HBAD.out hs)
        clear hs
        go_wp2_with (go_at_fn 164; refine (HC.out _).mono ?_; rintro e w1 ⟨rfl, b1⟩; have B1 := Lib.hid b1; clear b1)
        go_ret
        exact ⟨_, rfl, HS.out, by omega, HB.out.trans (B1.out.mono HB.out.size)⟩
      | true =>
        rw [hs] at HC
        have HS := Lib.hid (HNX.out hs)
        clear hs
        go_wp2_with (go_at_fn 164; refine (HC.out _).mono ?_; rintro e w1 ⟨rfl, b1⟩; have B1 := Lib.hid b1; clear b1)
        go_roundw
        case rel => exact ⟨k + 1, by omega, by go_num, HB.out.trans (B1.out.mono HB.out.size), HS.out⟩
        case measure => simp [intOf]; omega
    · obtain rfl : k = l.length := by omega
      have HE := Lib.hid (show badSt l (-1) from .inl ⟨rfl, fun j x => HA.out j x x⟩)
      clear hall hB
      go_wp2
      go_ret
      exact ⟨_, rfl, HE.out, by omega, HB.out⟩
theorem bad_st {l : List StT} {z : Int} (h : badSt l z) : (l.all stOk) = decide (z < 0) := by
  rcases h with ⟨rfl, h⟩ | ⟨h0, k, hk, h⟩
  · rw [decide_eq_true (by omega), List.all_eq_true]
    intro p hp
    obtain ⟨j, hj, rfl⟩ := List.getElem_of_mem hp
    exact h j hj
  · rw [decide_eq_false (by omega)]
    cases e : (l.all stOk) with
    | false => rfl
    | true =>
      rw [List.all_eq_true] at e
      rw [e _ (List.getElem_mem hk)] at h
      cases h
set_option maxHeartbeats 1000000 in
theorem containsSt_any (a : Option Addr) (l : List StT) (c : Nat) (w : World) (hl : Sts w w.heap.size a l) (hn : l.length ≤ 1048576) :
    Calls Try.prog 163 #[.slice a l.length c, .func (.func 164) #[] #[]] w fun e w' => e = .returned (.bool (!(l.all stOk))) ∧ Below w.heap.size w w' := by
  have HC := Lib.hid (fun W (h : Sts W W.heap.size a l) => indexSt_any a l c W h hn)
  have HL := Lib.hid hl
  clear hl
  go_enter Try.func163, Try.ntmps163
  go_wp2_with fail
  refine (HC.out _ HL.out).mono ?_
  rintro e w1 ⟨z, rfl, hz, hz9, b1⟩
  have HZ := Lib.hid (bad_st hz)
  have HB := Lib.hid b1
  clear b1 hz
  by_cases h0 : z < 0
  · rw [decide_eq_true h0] at HZ
    have h1 : ¬ z ≥ 0 := by omega
    go_wp2
    go_ret
    exact ⟨(by rw [HZ.out]; show Ending.returned (Value.bool (decide (0 ≤ z))) = _; rw [decide_eq_false (by omega)]; rfl), HB.out⟩
  · rw [decide_eq_false h0] at HZ
    have h1 : z ≥ 0 := by omega
    go_wp2
    go_ret
    exact ⟨by rw [HZ.out]; rfl, HB.out⟩
set_option maxHeartbeats 1000000 in
theorem isList_any (a : Option Addr) (l : List StT) (c : Nat) (v : Bool) (w : World) (hl : Sts w w.heap.size a l) (hn : l.length ≤ 1048576) (h : stsB l = v) :
    Calls Try.prog 130 #[.slice a l.length c] w fun e w' => e = .returned (.bool v) ∧ Below w.heap.size w w' := by
  by_cases h5 : l.length ≤ 5
  · have HC := Lib.hid (fun W (h : Sts W W.heap.size a l) => containsSt_any a l c W h hn)
    have HL := Lib.hid hl
    have hv : (l.all stOk) = v := by rw [← h]; unfold stsB; rw [decide_eq_true h5]; rfl
    rw [hv] at HC
    clear hl h hv
    have h5' : (l.length : Int) ≤ 5 := by omega
    cases v
    all_goals
      go_enter Try.func130, Try.ntmps130
      go_wp2_with (go_at_call 163; refine (HC.out _ HL.out).mono ?_; rintro e w1 ⟨rfl, b1⟩; have B1 := Lib.hid b1; clear b1)
      go_ret
      exact ⟨rfl, B1.out⟩
  · obtain rfl : v = false := by rw [← h]; exact sts_long (by omega)
    have h5' : ¬ (l.length : Int) ≤ 5 := by omega
    clear h hl
    go_enter Try.func130, Try.ntmps130
    go_wp2
    go_ret
    exact ⟨rfl, Below.refl _ _⟩
end Go.Proofs.Ythceffkkokgpnaa
