/- Whether shares do not decrease: the model's IsMonotone. -/
import Derived.Test.YtjpiiidjocilcaaFrac
namespace Go.Proofs.Ytjpiiidjocilcaa
open Go.RowKit
set_option linter.unusedVariables false
set_option linter.unusedSimpArgs false
/-- a list of at most 20 shares -/
def shsB (l : List ShT) : Bool := decide (l.length ≤ 20) && l.all fun p => shB p.1 p.2
/-- no one is less than the one before it -/
def upB (l : List ShT) : Bool := (List.range (l.length - 1)).all fun k => !lsB (l.getD (k + 1) (0, 0)).1 (l.getD (k + 1) (0, 0)).2 (l.getD k (0, 0)).1 (l.getD k (0, 0)).2
theorem shs_long {l : List ShT} (h : 20 < l.length) : shsB l = false := by unfold shsB; rw [decide_eq_false (by omega)]; rfl
theorem shs_bad {l : List ShT} {k : Nat} (hk : k < l.length) (h : shB l[k].1 l[k].2 = false) : shsB l = false := by
  cases e : shsB l with
  | false => rfl
  | true =>
    unfold shsB at e
    rw [Bool.and_eq_true, List.all_eq_true] at e
    rw [e.2 _ (List.getElem_mem hk)] at h
    cases h
theorem shs_all {l : List ShT} (h0 : l.length ≤ 20) (h : ∀ j (x : j < l.length), shB l[j].1 l[j].2 = true) : shsB l = true := by
  unfold shsB
  rw [Bool.and_eq_true, List.all_eq_true]
  refine ⟨decide_eq_true h0, fun p hp => ?_⟩
  obtain ⟨j, hj, rfl⟩ := List.getElem_of_mem hp
  exact h j hj
theorem getD_sh (l : List ShT) {k : Nat} (h : k < l.length) : l.getD k (0, 0) = l[k] := by rw [List.getD_eq_getElem?_getD, List.getElem?_eq_getElem h]; rfl
theorem up_bad {l : List ShT} {k : Nat} (hk : k + 1 < l.length) (h : lsB l[k + 1].1 l[k + 1].2 (l[k]'(by omega)).1 (l[k]'(by omega)).2 = true) : upB l = false := by
  cases e : upB l with
  | false => rfl
  | true =>
    unfold upB at e
    rw [List.all_eq_true] at e
    have := e k (List.mem_range.2 (by omega))
    rw [getD_sh l hk, getD_sh l (by omega), h] at this
    cases this
theorem up_all {l : List ShT} (h : ∀ j (x : j + 1 < l.length), lsB l[j + 1].1 l[j + 1].2 (l[j]'(by omega)).1 (l[j]'(by omega)).2 = false) : upB l = true := by
  unfold upB
  rw [List.all_eq_true]
  intro k hk
  have hk := List.mem_range.1 hk
  rw [getD_sh l (by omega), getD_sh l (by omega), h k (by omega)]
  rfl

set_option maxHeartbeats 4000000 in
theorem specMono_any (a : Option Addr) (l : List ShT) (c : Nat) (w : World) (hl : Shs w w.heap.size a l) :
    Calls Try.prog 38 #[.slice a l.length c] w fun e w' => e = .returned (.tuple #[.bool (shsB l && upB l), .bool (shsB l)]) ∧ Below w.heap.size w w' := by
  have HL := Lib.hid hl
  clear hl
  by_cases h20 : l.length ≤ 20
  · obtain ⟨v, hv⟩ : ∃ v, shsB l = v := ⟨_, rfl⟩
    obtain ⟨u, hu⟩ : ∃ u, upB l = u := ⟨_, rfl⟩
    rw [hv, hu]
    have HV := Lib.hid hv
    have HU := Lib.hid hu
    clear hv hu
    go_enter Try.func38, Try.ntmps38
    go_wp2
    go_loopw [4] (fun i wr => ∃ k : Nat, k ≤ l.length ∧ i = .int .i64 k ∧ Below w.heap.size w wr ∧ ∀ j (x : j < l.length), j < k → shB l[j].1 l[j].2 = true) (fun i _ => l.length - (intOf i).toNat)
    case atStart => exact ⟨0, Nat.zero_le _, rfl, Below.refl _ _, fun _ _ h => by omega⟩
    case round =>
      obtain ⟨k, hk, rfl, hB, hall⟩ := hrel
      have HB := Lib.hid hB
      have HA := Lib.hid hall
      by_cases hlt : k < l.length
      · obtain ⟨b1, o1, rfl, hb1, c0, c1⟩ := (HL.out.below hB (Nat.le_refl _)).at_ hlt
        have hi : (k : Int) < (l.length : Int) := by omega
        have hi0 : (0 : Int) ≤ (k : Int) := by omega
        have HBAD := Lib.hid (fun h => shs_bad hlt h)
        have HNX := Lib.hid (fun (hx : shB l[k].1 l[k].2 = true) j (x : j < l.length) (hj : j < k + 1) => show shB l[j].1 l[j].2 = true by
          rcases Nat.lt_or_ge j k with h1 | h1
          · exact HA.out j x h1
          · obtain rfl : j = k := by omega
            exact hx)
        clear hB hall
        generalize l[k] = p at *
        obtain ⟨x, y⟩ := p
        simp only at c0 c1
        have HC := Lib.hid (fun W => specFrac_any x y W)
        have HBAD := Lib.hid (show shB x y = false → shsB l = false from HBAD.out)
        have HNX := Lib.hid (show shB x y = true → ∀ j (x : j < l.length), j < k + 1 → shB l[j].1 l[j].2 = true from HNX.out)
        cases hs : shB x y with
        | false =>
          obtain rfl : v = false := by rw [← HV.out]; exact HBAD.out hs
          rw [hs] at HC
          clear hs
          go_wp2_with (go_at_call 71; refine (HC.out _).mono ?_; rintro e w1 ⟨rfl, b1⟩; have B1 := Lib.hid b1; clear b1)
          go_ret2
          exact ⟨rfl, HB.out.trans (B1.out.mono HB.out.size)⟩
        | true =>
          rw [hs] at HC
          have HS := Lib.hid hs
          clear hs
          go_wp2_with (go_at_call 71; refine (HC.out _).mono ?_; rintro e w1 ⟨rfl, b1⟩; have B1 := Lib.hid b1; clear b1)
          go_roundw
          case rel => exact ⟨k + 1, by omega, by go_num, HB.out.trans (B1.out.mono HB.out.size), HNX.out HS.out⟩
          case measure => simp [intOf]; omega
      · obtain rfl : k = l.length := by omega
        obtain rfl : v = true := by rw [← HV.out]; exact shs_all h20 (fun j x => HA.out j x x)
        have HG := Lib.hid (fun j (x : j < l.length) => HA.out j x x)
        clear HA hall hB
        go_wp2
        go_loopw [5] (fun i wq => ∃ m : Nat, (m + 1 ≤ l.length ∨ m = 0) ∧ i = .int .i64 ((m : Int) + 1) ∧ Below w.heap.size w wq ∧ ∀ j (x : j + 1 < l.length), j < m → lsB l[j + 1].1 l[j + 1].2 (l[j]'(by omega)).1 (l[j]'(by omega)).2 = false) (fun i _ => l.length + 1 - (intOf i).toNat)
        case atStart => exact ⟨0, .inr rfl, rfl, HB.out, fun _ _ h => by omega⟩
        case round =>
          obtain ⟨m, hm, rfl, hB, hall⟩ := hrel
          have HB2 := Lib.hid hB
          have HA2 := Lib.hid hall
          by_cases hlt : m + 1 < l.length
          · obtain ⟨b1, o1, rfl, hb1, c0, c1⟩ := (HL.out.below hB (Nat.le_refl _)).at_ hlt
            obtain ⟨b2, o2, e2, hb2, d0, d1⟩ := (HL.out.below hB (Nat.le_refl _)).at_ (j := m) (by omega)
            injection e2 with e2
            injection e2 with e3 e4 e5
            subst e3
            subst e4
            clear e5
            have hi : (m : Int) + 1 < (l.length : Int) := by omega
            have hi0 : (0 : Int) ≤ (m : Int) + 1 := by omega
            have hi1 : (m : Int) < (l.length : Int) := by omega
            have hi2 : (0 : Int) ≤ (m : Int) := by omega
            have g1 : IntKind.i64.wrap ((m : Int) + 1 - 1) = (m : Int) := by rw [show (m : Int) + 1 - 1 = (m : Int) by omega]; exact IntWalk.i64_in _ (by omega)
            have g2 : IntKind.i64.wrap ((m : Int) + 1 + 1) = (m : Int) + 1 + 1 := IntWalk.i64_in _ (by omega)
            have hsz := hB.size
            have p0 := later_cell c0 (by omega)
            have p1 := later_cell c1 (by omega)
            have p2 := later_cell d0 (by omega)
            have p3 := later_cell d1 (by omega)
            have s1 := HG.out (m + 1) hlt
            have s0 := HG.out m (by omega)
            have HBAD := Lib.hid (fun h => up_bad hlt h)
            have HNX := Lib.hid (fun (hx : lsB l[m + 1].1 l[m + 1].2 (l[m]'(by omega)).1 (l[m]'(by omega)).2 = false) j (x : j + 1 < l.length) (hj : j < m + 1) => show lsB l[j + 1].1 l[j + 1].2 (l[j]'(by omega)).1 (l[j]'(by omega)).2 = false by
              rcases Nat.lt_or_ge j m with h1 | h1
              · exact HA2.out j x h1
              · obtain rfl : j = m := by omega
                exact hx)
            have HC := Lib.hid (fun W => specLess_any l[m + 1].1 l[m + 1].2 (l[m]'(by omega)).1 (l[m]'(by omega)).2 W s1 s0)
            clear hB hall c0 c1 d0 d1 s0 s1
            generalize l[m + 1].1 = x1 at *
            generalize l[m + 1].2 = y1 at *
            generalize (l[m]'(by omega)).1 = x0 at *
            generalize (l[m]'(by omega)).2 = y0 at *
            go_wp2_with fail
            cases hs : lsB x1 y1 x0 y0 with
            | true =>
              obtain rfl : u = false := by rw [← HU.out]; exact HBAD.out hs
              rw [hs] at HC
              clear hs
              refine wp_region_later (by kernel_rfl) (by kernel_rfl) ?_
              repeat (go_big_quiet_step ((go_at_call 72; exact calls_later (HC.out _))))
              refine wpQuiet_nil ?_
              intro _ hw'
              obtain ⟨pq, hw''⟩ := hw'
              subst hw''
              have B1 := Lib.hid (HB2.out.trans (pq.below.mono HB2.out.size))
              clear p0 p1 p2 p3
              go_wp2
              go_ret2
              exact ⟨rfl, B1.out⟩
            | false =>
              rw [hs] at HC
              have HS := Lib.hid hs
              clear hs
              refine wp_region_later (by kernel_rfl) (by kernel_rfl) ?_
              repeat (go_big_quiet_step ((go_at_call 72; exact calls_later (HC.out _))))
              refine wpQuiet_nil ?_
              intro _ hw'
              obtain ⟨pq, hw''⟩ := hw'
              subst hw''
              have B1 := Lib.hid (HB2.out.trans (pq.below.mono HB2.out.size))
              clear p0 p1 p2 p3
              go_wp2
              go_roundw
              case rel => exact ⟨m + 1, .inl (by omega), by rw [Value.int.injEq]; exact ⟨rfl, by omega⟩, B1.out, HNX.out HS.out⟩
              case measure => simp [intOf]; omega
          · obtain rfl : u = true := by rw [← HU.out]; exact up_all (fun j x => HA2.out j x (by omega))
            have hi : ¬ (m : Int) + 1 < (l.length : Int) := by omega
            clear hall
            go_wp2
            go_ret2
            exact ⟨rfl, HB2.out⟩
  · rw [shs_long (by omega)]
    have h21 : (20 : Int) < (l.length : Int) := by omega
    clear h20
    go_enter Try.func38, Try.ntmps38
    go_wp2
    go_ret2
    exact ⟨rfl, Below.refl _ _⟩
end Go.Proofs.Ytjpiiidjocilcaa
