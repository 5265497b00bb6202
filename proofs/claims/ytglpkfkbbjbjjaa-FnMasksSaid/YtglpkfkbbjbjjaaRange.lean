/- FieldRange, the model's and the program's. -/
import Derived.Test.YtglpkfkbbjbjjaaVals
namespace Go.Proofs.Ytglpkfkbbjbjjaa
open Go.RowKit
set_option linter.unusedVariables false
set_option linter.unusedSimpArgs false
def anyB (l : List Int) : Bool := !l.isEmpty
theorem anyB_nil : anyB [] = false := rfl
theorem anyB_snoc (l : List Int) (z : Int) : anyB (l ++ [z]) = true := by unfold anyB; simp
theorem anyB_no {l : List Int} (h : anyB l = false) : l = [] := by unfold anyB at h; simpa using h
theorem anyB_yes {l : List Int} (h : anyB l = true) : l ≠ [] := by unfold anyB at h; simpa using h
def rngB (wd hg : Int) (l : List Int) : Bool := goodB wd hg l && anyB (vals l)
def rngLo (wd hg : Int) (l : List Int) : Int := if goodB wd hg l = true then loV (vals l) else 0
def rngHi (wd hg : Int) (l : List Int) : Int := if goodB wd hg l = true then hiV (vals l) else 0
theorem rng_no {wd hg : Int} {l : List Int} (h : goodB wd hg l = false) : rngB wd hg l = false ∧ rngLo wd hg l = 0 ∧ rngHi wd hg l = 0 := by
  unfold rngB rngLo rngHi; rw [h]; simp
theorem rng_yes {wd hg : Int} {l : List Int} (h : goodB wd hg l = true) : rngB wd hg l = anyB (vals l) ∧ rngLo wd hg l = loV (vals l) ∧ rngHi wd hg l = hiV (vals l) := by
  unfold rngB rngLo rngHi; rw [h]; simp

set_option maxHeartbeats 2000000 in
theorem specRange_any (wd hg : Int) (a : Option Addr) (l : List Int) (c : Nat) (w : World) (hl : Ints .i64 w w.heap.size a l) (hn : l.length ≤ 1048576) :
    Calls Try.prog 9 #[.agg #[.int .i64 wd, .int .i64 hg, .slice a l.length c]] w fun e w' => e = .returned (.tuple #[.int .i64 (rngLo wd hg l), .int .i64 (rngHi wd hg l), .bool (rngB wd hg l)]) ∧ Below w.heap.size w w' := by
  have HL := Lib.hid (ints_alloc hl (.cells #[.int .i64 wd, .int .i64 hg, .slice a l.length c] 26))
  have X0 := Lib.hid (Box.new w 26 (.int .i64 wd) (.int .i64 hg) (.slice a l.length c))
  clear hl
  cases hgd : goodB wd hg l with
  | false =>
    obtain ⟨e1, e2, e3⟩ := rng_no hgd
    rw [e1, e2, e3]
    have HC := Lib.hid (specGood_is wd hg a l c _ false _ HL.out (Nat.le_refl _) hn hgd)
    clear hgd e1 e2 e3
    go_enter Try.func9, Try.ntmps9
    go_wp2_with (go_at_call 42; refine HC.out.mono ?_; rintro e w1 ⟨rfl, b⟩; have HB := Lib.hid b; clear b)
    go_ret3
    exact ⟨rfl, below_then (below_all _ _) HB.out⟩
  | true =>
    obtain ⟨e1, e2, e3⟩ := rng_yes hgd
    rw [e1, e2, e3]
    have HC := Lib.hid (specGood_is wd hg a l c _ true _ HL.out (Nat.le_refl _) hn hgd)
    clear hgd e1 e2 e3
    go_enter Try.func9, Try.ntmps9
    go_wp2_with fail
    refine HC.out.mono ?_
    rintro e w1 ⟨rfl, b1⟩
    have HB1 := Lib.hid (below_then (below_all _ _) b1)
    have HL1 := Lib.hid (ints_below HL.out b1)
    have X1 := Lib.hid (X0.out.below b1)
    clear b1 HL X0
    go_wp2
    go_loop [5, 6, 7, 8] (fun lo hi kn i => ∃ k : Nat, k ≤ l.length ∧ i = .int .i64 k ∧ lo = .int .i64 (loV (vals (l.take k))) ∧ hi = .int .i64 (hiV (vals (l.take k))) ∧ kn = .bool (anyB (vals (l.take k)))) (fun _ _ _ i => l.length - (intOf i).toNat)
    case atStart => exact ⟨0, Nat.zero_le _, rfl, rfl, rfl, rfl⟩
    case round =>
      obtain ⟨k, hk, rfl, rfl, rfl, rfl⟩ := hrel
      obtain ⟨k0, k1, k2⟩ := X1.out.cells
      by_cases hlt : k < l.length
      · have hi : (k : Int) < (l.length : Int) := by omega
        have hi0 : (0 : Int) ≤ (k : Int) := by omega
        obtain ⟨b, o, rfl, hb, hc⟩ := HL1.out.at_ hlt
        have HT := Lib.hid (snoc_takeI l k hlt)
        generalize l[k] = z at *
        by_cases hz : z = -9999
        · have hne : (z == -9999) = true := by simp [hz]
          have HV := Lib.hid (vals_hit (l := l.take k) hz)
          rw [← HT.out] at HV
          clear hz
          go_wp2
          go_round
          case rel => exact ⟨k + 1, by omega, by go_num, by rw [HV.out], by rw [HV.out], by rw [HV.out]⟩
          case measure => simp [intOf]; omega
        · have hne : (z == -9999) = false := by simp [hz]
          have HV := Lib.hid (vals_miss (l := l.take k) hz)
          rw [← HT.out] at HV
          clear hz
          have HLo := Lib.hid (loV_snoc (vals (l.take k)) z)
          have HHi := Lib.hid (hiV_snoc (vals (l.take k)) z)
          have HAn := Lib.hid (anyB_snoc (vals (l.take k)) z)
          generalize vals (l.take k) = vs at *
          cases hany : anyB vs with
          | false =>
            obtain rfl := anyB_no hany
            rw [if_pos rfl] at HLo HHi
            clear hany
            go_wp2
            go_round
            case rel => exact ⟨k + 1, by omega, by go_num, by rw [HV.out, HLo.out], by rw [HV.out, HHi.out], by rw [HV.out, HAn.out]⟩
            case measure => simp [intOf]; omega
          | true =>
            rw [if_neg (anyB_yes hany)] at HLo HHi
            clear hany
            generalize loV vs = lo at *
            generalize hiV vs = hi' at *
            by_cases h1 : z < lo
            · rw [if_pos h1] at HLo
              by_cases h2 : hi' < z
              · rw [if_pos h2] at HHi
                go_wp2
                go_round
                case rel => exact ⟨k + 1, by omega, by go_num, by rw [HV.out, HLo.out], by rw [HV.out, HHi.out], by rw [HV.out, HAn.out]⟩
                case measure => simp [intOf]; omega
              · rw [if_neg h2] at HHi
                go_wp2
                go_round
                case rel => exact ⟨k + 1, by omega, by go_num, by rw [HV.out, HLo.out], by rw [HV.out, HHi.out], by rw [HV.out, HAn.out]⟩
                case measure => simp [intOf]; omega
            · rw [if_neg h1] at HLo
              by_cases h2 : hi' < z
              · rw [if_pos h2] at HHi
                go_wp2
                go_round
                case rel => exact ⟨k + 1, by omega, by go_num, by rw [HV.out, HLo.out], by rw [HV.out, HHi.out], by rw [HV.out, HAn.out]⟩
                case measure => simp [intOf]; omega
              · rw [if_neg h2] at HHi
                go_wp2
                go_round
                case rel => exact ⟨k + 1, by omega, by go_num, by rw [HV.out, HLo.out], by rw [HV.out, HHi.out], by rw [HV.out, HAn.out]⟩
                case measure => simp [intOf]; omega
      · obtain rfl : k = l.length := by omega
        have HT := Lib.hid (List.take_of_length_le (Nat.le_refl l.length))
        rw [HT.out] at *
        go_wp2
        go_ret3
        exact ⟨rfl, HB1.out⟩

set_option maxHeartbeats 2000000 in
theorem implRange_any (wd hg : Int) (a : Option Addr) (l : List Int) (c : Nat) (w : World) (hl : Ints .i64 w w.heap.size a l) (hn : l.length ≤ 1048576) :
    Calls Try.prog 8 #[.agg #[.int .i64 wd, .int .i64 hg, .slice a l.length c]] w fun e w' => e = .returned (.tuple #[.int .i64 (rngLo wd hg l), .int .i64 (rngHi wd hg l), .bool (rngB wd hg l)]) ∧ Below w.heap.size w w' := by
  have HL := Lib.hid (ints_alloc hl (.cells #[.int .i64 wd, .int .i64 hg, .slice a l.length c] 26))
  have X0 := Lib.hid (Box.new w 26 (.int .i64 wd) (.int .i64 hg) (.slice a l.length c))
  clear hl
  cases hgd : goodB wd hg l with
  | false =>
    obtain ⟨e1, e2, e3⟩ := rng_no hgd
    rw [e1, e2, e3]
    have HC := Lib.hid (implGood_is wd hg a l c _ false _ HL.out (Nat.le_refl _) hn hgd)
    clear hgd e1 e2 e3
    go_enter Try.func8, Try.ntmps8
    go_wp2_with (go_at_call 12; refine HC.out.mono ?_; rintro e w1 ⟨rfl, b⟩; have HB := Lib.hid b; clear b)
    go_ret3
    exact ⟨rfl, below_then (below_all _ _) HB.out⟩
  | true =>
    obtain ⟨e1, e2, e3⟩ := rng_yes hgd
    rw [e1, e2, e3]
    have HC := Lib.hid (implGood_is wd hg a l c _ true _ HL.out (Nat.le_refl _) hn hgd)
    have HVO := Lib.hid (fun W h => valuesOf_any wd hg a l c W h hn)
    have hvl := vals_le l
    generalize vals l = vs at *
    clear hgd e1 e2 e3
    go_enter Try.func8, Try.ntmps8
    go_wp2_with fail
    refine HC.out.mono ?_
    rintro e w1 ⟨rfl, b1⟩
    have HB1 := Lib.hid (below_then (below_all _ _) b1)
    have HL1 := Lib.hid (ints_below HL.out b1)
    obtain ⟨k0, k1, k2⟩ := (X0.out.below b1).cells
    clear b1 HL X0
    go_wp2_with fail
    refine (HVO.out _ HL1.out).mono ?_
    rintro e w2 ⟨a2, c2, rfl, o2, b2⟩
    have HB2 := Lib.hid (below_then HB1.out b2)
    have HI := Lib.hid o2.ints
    clear b2 o2 HB1
    cases vs with
    | nil =>
      go_wp2
      go_ret3
      exact ⟨rfl, HB2.out⟩
    | cons v0 r =>
      obtain ⟨b, o, rfl, hb, hc⟩ := HI.out.at_ (j := 0) (by simp)
      simp only [List.getElem_cons_zero, Nat.add_zero] at hc
      have hlen : (0 : Int) < ((v0 :: r).length : Int) := by simp <;> omega
      have hl0 : (((v0 :: r).length : Int) == 0) = false := by rw [beq_eq_false_iff_ne]; omega
      generalize hvs : v0 :: r = vs at *
      have HVS := Lib.hid hvs
      clear hvs
      go_wp2
      go_quiet (fail)
      go_wp2
      go_loop [6, 7, 26] (fun lo hi i => ∃ k : Nat, k ≤ vs.length ∧ i = .int .i64 k ∧ lo = .int .i64 (loV (v0 :: vs.take k)) ∧ hi = .int .i64 (hiV (v0 :: vs.take k))) (fun _ _ i => vs.length - (intOf i).toNat)
      case atStart => exact ⟨0, Nat.zero_le _, rfl, rfl, rfl⟩
      case round =>
        obtain ⟨k, hk, rfl, rfl, rfl⟩ := hrel
        by_cases hlt : k < vs.length
        · have hi : (k : Int) < (vs.length : Int) := by omega
          have hi0 : (0 : Int) ≤ (k : Int) := by omega
          obtain ⟨b', o', he, hb', hc'⟩ := HI.out.at_ hlt
          injection he with he
          injection he with he1 he2
          subst he1 he2
          have HT := Lib.hid (snoc_takeI vs k hlt)
          generalize vs[k] = z at *
          have HLo := Lib.hid (loV_snoc (v0 :: vs.take k) z)
          have HHi := Lib.hid (hiV_snoc (v0 :: vs.take k) z)
          rw [if_neg (by simp), List.cons_append, ← HT.out] at HLo HHi
          generalize loV (v0 :: vs.take k) = lo at *
          generalize hiV (v0 :: vs.take k) = hi' at *
          go_wp2
          go_round
          case rel => exact ⟨k + 1, by omega, by go_num, by rw [HLo.out], by rw [HHi.out]⟩
          case measure => simp [intOf]; omega
        · obtain rfl : k = vs.length := by omega
          have HT := Lib.hid (List.take_of_length_le (Nat.le_refl vs.length))
          rw [HT.out] at *
          go_wp2
          go_ret3
          exact ⟨by rw [← HVS.out, loV_twice, hiV_twice]; rfl, HB2.out.trans ((Drew.more (Drew.refl w2) _).below _)⟩
end Go.Proofs.Ytglpkfkbbjbjjaa
