/- The program's greatestRemainder. -/
import Derived.Test.YtccplndimdmjpaaDoorTz
import Derived.Test.YtccplndimdmjpaaDoorSpMath
import Derived.Test.YtccplndimdmjpaaDoorBox
import Derived.Deep.QuietTactic
import Derived.BigQuiet
namespace Go.Proofs.YtccplndimdmjpaaDoor
open Go.RowKit
set_option linter.unusedVariables false
set_option linter.unusedSimpArgs false
/-- the set of the places of which something is left -/
def BitsOf (C : Nat) (R : List Int) : Prop := C < 2 ^ 64 ∧ ∀ i, C.testBit i = true ↔ i < R.length ∧ 0 < R.getD i 0
theorem BitsOf.no {C : Nat} {R : List Int} (h : BitsOf C R) {i : Nat} (hi : ¬ C.testBit i = true) : R.getD i 0 ≤ 0 := by
  rcases Nat.lt_or_ge i R.length with h1 | h1
  · rcases Int.lt_or_le 0 (R.getD i 0) with h2 | h2
    · exact absurd ((h.2 i).2 ⟨h1, h2⟩) hi
    · exact h2
  · rw [gd_out h1]; omega
theorem BitsOf.of_pos {C : Nat} {R : List Int} (h : BitsOf C R) {i : Nat} (hi : 0 < R.getD i 0) : C.testBit i = true := by
  refine (h.2 i).2 ⟨?_, hi⟩
  rcases Nat.lt_or_ge i R.length with h1 | h1
  · exact h1
  · rw [gd_out h1] at hi; omega
/-- how far the search has come: the places from p on are left, the best of those before is gr -/
structure GrAt (C : Nat) (R : List Int) (D p gr : Nat) : Prop where
  lt : D < 2 ^ 64
  bits : ∀ i, D.testBit i = true ↔ (C.testBit i = true ∧ p ≤ i)
  gr : (gr = Lib.ctz 64 C ∧ p ≤ Lib.ctz 64 C) ∨ (Lib.ctz 64 C < p ∧ gr = bestN R p)
theorem GrAt.start {C : Nat} {R : List Int} (h : BitsOf C R) : GrAt C R C 0 (Lib.ctz 64 C) := ⟨h.1, fun i => ⟨fun h => ⟨h, Nat.zero_le _⟩, fun h => h.1⟩, .inl ⟨rfl, Nat.zero_le _⟩⟩
theorem best_pos {C : Nat} {R : List Int} (h : BitsOf C R) (h0 : C ≠ 0) {p : Nat} (hp : Lib.ctz 64 C < p) : 0 < R.getD (bestN R p) 0 := by
  have h1 := (h.2 _).1 (ctz_bit h0 h.1).1
  have h2 := bestN_max R p _ hp
  omega
theorem GrAt.mem {C : Nat} {R : List Int} {D p gr : Nat} (g : GrAt C R D p gr) (h : BitsOf C R) (h0 : C ≠ 0) : C.testBit gr = true := by
  rcases g.gr with ⟨rfl, _⟩ | ⟨h1, rfl⟩
  · exact (ctz_bit h0 h.1).1
  · exact h.of_pos (best_pos h h0 h1)
theorem GrAt.done {C : Nat} {R : List Int} {p gr : Nat} (g : GrAt C R 0 p gr) (h : BitsOf C R) (h0 : C ≠ 0) : gr = bestN R R.length := by
  have hno : ∀ i, p ≤ i → ¬ C.testBit i = true := fun i hi hb => by
    have := (g.bits i).2 ⟨hb, hi⟩
    rw [Nat.zero_testBit] at this
    cases this
  have hc := (ctz_bit h0 h.1).1
  have hlt := ((h.2 _).1 hc).1
  rcases g.gr with ⟨_, h2⟩ | ⟨h1, rfl⟩
  · exact absurd hc (hno _ h2)
  · rcases Nat.lt_or_ge p R.length with h3 | h3
    · exact (bestN_stay (best_pos h h0 h1) _ (Nat.le_of_lt h3) (fun i hi _ => h.no (hno i hi))).symm
    · exact bestN_stay (best_pos h h0 hlt) _ h3 (fun i hi _ => by rw [gd_out hi]; omega)
theorem GrAt.next {C : Nat} {R : List Int} {D p gr : Nat} (g : GrAt C R D p gr) (h : BitsOf C R) (h0 : C ≠ 0) (hD : D ≠ 0) :
    C.testBit (Lib.ctz 64 D) = true ∧ dropBit D (Lib.ctz 64 D) < D ∧ GrAt C R (dropBit D (Lib.ctz 64 D)) (Lib.ctz 64 D + 1) (if R.getD gr 0 < R.getD (Lib.ctz 64 D) 0 then Lib.ctz 64 D else gr) := by
  obtain ⟨hq1, hq2⟩ := ctz_bit hD g.lt
  have hq64 := (ctz_form hD g.lt).1
  obtain ⟨hC1, hC2⟩ := ctz_bit h0 h.1
  obtain ⟨hqC, hpq⟩ := (g.bits _).1 hq1
  generalize hq : Lib.ctz 64 D = q at *
  have hgr := g.gr
  generalize hb0 : Lib.ctz 64 C = b at *
  have hbits : ∀ i, (dropBit D q).testBit i = true ↔ (C.testBit i = true ∧ q + 1 ≤ i) := fun i => by
    rw [drop_test D i hq64 g.lt]
    constructor
    · intro hh
      simp only [Bool.and_eq_true, Bool.not_eq_true', decide_eq_false_iff_not] at hh
      obtain ⟨h1, h2⟩ := hh
      refine ⟨((g.bits i).1 h1).1, ?_⟩
      rcases Nat.lt_or_ge i q with h3 | h3
      · rw [hq2 i h3] at h1; cases h1
      · omega
    · rintro ⟨h1, h2⟩
      simp only [Bool.and_eq_true, Bool.not_eq_true', decide_eq_false_iff_not]
      exact ⟨(g.bits i).2 ⟨h1, by omega⟩, by omega⟩
  refine ⟨hqC, ?_, drop_lt g.lt, hbits, ?_⟩
  · rcases Nat.lt_or_ge (dropBit D q) D with h1 | h1
    · exact h1
    · have h2 : dropBit D q = D := Nat.le_antisymm Nat.and_le_left h1
      have h3 := (hbits q).1 (by rw [h2]; exact hq1)
      omega
  · right
    rcases hgr with ⟨rfl, h2⟩ | ⟨h1, rfl⟩
    · have e : q = gr := by
        rcases Nat.lt_trichotomy q gr with h3 | h3 | h3
        · rw [hC2 q h3] at hqC; cases hqC
        · exact h3
        · have := hq2 gr h3
          rw [(g.bits gr).2 ⟨hC1, h2⟩] at this; cases this
      subst e
      refine ⟨by rw [hb0]; omega, ?_⟩
      rw [if_neg (by omega)]
      exact (bestN_first ((h.2 _).1 hqC).2 (fun i hi => h.no (by rw [hC2 i hi]; simp))).symm
    · have hbq : b < q := by
        omega
      refine ⟨by rw [hb0]; omega, ?_⟩
      have hs := bestN_stay (best_pos h h0 (by rw [hb0]; exact h1)) q hpq (fun i h2 h3 => h.no (fun h4 => by
        have := hq2 i h3
        rw [(g.bits i).2 ⟨h4, h2⟩] at this; cases this))
      conv => rhs; unfold bestN
      rw [hs]
theorem Row.fresh (w : World) (t : TypeId) (vs : List Value) : Row (w.alloc (.cells vs.toArray t)) w.heap.size t vs := ⟨vs.toArray, heap_alloc_new w _, fun k h => by simp⟩
set_option maxRecDepth 100000 in
set_option maxHeartbeats 4000000 in
theorem greatest_is (R64 R : List Int) (C : Nat) (w : World) (h64 : R64.length = 64) (hn : R.length ≤ 64) (hC : BitsOf C R) (h0 : C ≠ 0) (hr : ∀ i, C.testBit i = true → R64.getD i 0 = R.getD i 0) (ht : BlockIs w 0 deBruijn64tabCells.toArray) :
    Calls Tryd.prog 35 #[.agg (iv R64).toArray, .int .u64 C] w fun e w' => e = .returned (.int .i64 (bestN R R.length)) ∧ Below w.heap.size w w' := by
  have HT := Lib.hid (ht.below (below_all w (.cells (iv R64).toArray 52)))
  have HR := Lib.hid (Row.fresh w 52 (iv R64))
  have H64 := Lib.hid h64
  have HC := Lib.hid hC
  have H0 := Lib.hid h0
  have HRR := Lib.hid hr
  have HB := Lib.hid (below_all w (.cells (iv R64).toArray 52))
  clear ht h64 hC h0 hr
  go_enter Tryd.func35, Tryd.ntmps35
  go_wp2_with fail
  refine (tz_is C _ HC.out.1 H0.out HT.out).mono ?_
  rintro e w1 ⟨rfl, rfl⟩
  go_wp2
  obtain ⟨W1, hW1⟩ : ∃ W, w.alloc (.cells (iv R64).toArray 52) = W := ⟨_, rfl⟩
  rw [hW1] at HT HR HB
  have HW1 := Lib.hid hW1
  clear hW1
  go_loopw [1, 5] (fun pl gr wr => ∃ D p g : Nat, pl = .int .u64 D ∧ gr = .int .i64 g ∧ GrAt C R D p g ∧ Drew W1 wr) (fun pl _ _ => (intOf pl).toNat)
  case atStart => exact ⟨C, 0, _, rfl, rfl, GrAt.start HC.out, by rw [HW1.out]; exact Drew.refl _⟩
  case round =>
    obtain ⟨D, p, g, rfl, rfl, hg, hw⟩ := hrel
    have HG := Lib.hid hg
    have HW := Lib.hid hw
    by_cases hD : D = 0
    · have hgd : g = bestN R R.length := by subst hD; exact hg.done HC.out H0.out
      have e0 : ((D : Int) != 0) = false := by simp [hD]
      subst hgd
      clear hg hw
      go_wp2
      go_ret
      exact ⟨rfl, HB.out.trans ((HW.out.below _).mono (by have := HB.out.size; omega))⟩
    · obtain ⟨hq, hlt, hnx⟩ := hg.next HC.out H0.out hD
      have hgm := hg.mem HC.out H0.out
      have hqn := ((HC.out.2 _).1 hq).1
      have hgn := ((HC.out.2 _).1 hgm).1
      have e1 := HRR.out _ hq
      have e2 := HRR.out _ hgm
      have HTZ := Lib.hid (tz_is D wr hg.lt hD (HT.out.below (HW.out.below _)))
      have e0 : ((D : Int) != 0) = true := by simp [hD]
      have hD64 := hg.lt
      obtain ⟨q, hqe⟩ : ∃ q, Lib.ctz 64 D = q := ⟨_, rfl⟩
      rw [hqe] at hq hlt hnx hqn e1 HTZ
      rw [← e1, ← e2] at hnx
      have hq64 : q < 64 := by omega
      have c1 : wr.cell? ⟨w.heap.size, q, none⟩ = some (.int .i64 (R64.getD q 0)) := by
        have h9 := (HR.out.drew hw).cell (k := q) (by rw [iv_length, H64.out]; exact hq64)
        rw [iv_get] at h9
        rw [h9, gd_at (by rw [H64.out]; exact hq64)]
      have c2 : wr.cell? ⟨w.heap.size, g, none⟩ = some (.int .i64 (R64.getD g 0)) := by
        have h9 := (HR.out.drew hw).cell (k := g) (by rw [iv_length, H64.out]; omega)
        rw [iv_get] at h9
        rw [h9, gd_at (by rw [H64.out]; omega)]
      have hqI : (q : Int) < 64 := by omega
      have hgI : (g : Int) < 64 := by omega
      have hq0 : (0 : Int) ≤ (q : Int) := by omega
      have hg0 : (0 : Int) ≤ (g : Int) := by omega
      have HNX := Lib.hid hnx
      have HLT := Lib.hid hlt
      have HDI := Lib.hid (drop_int hq64 hD64)
      have HWP := Lib.hid (wrap_pow hq64)
      generalize R64.getD q 0 = zq at *
      generalize R64.getD g 0 = zg at *
      clear hg hw hnx hlt hq hgm e1 e2 hqn hgn hqe hD64
      go_wp2_with fail
      refine HTZ.out.mono ?_
      rintro e w8 ⟨rfl, rfl⟩
      go_wp2_with fail
      go_quiet (fail)
      have s1 := HDI.out
      have s2 := HWP.out
      push_cast at s1 s2
      by_cases hlt : zg < zq
      · rw [if_pos hlt] at HNX
        go_wp2
        go_roundw
        case rel => exact ⟨dropBit D q, q + 1, q, rfl, rfl, HNX.out, HW.out.more _⟩
        case measure => have := HLT.out; simp [intOf]; omega
      · rw [if_neg hlt] at HNX
        go_wp2
        go_roundw
        case rel => exact ⟨dropBit D q, q + 1, g, rfl, rfl, HNX.out, HW.out.more _⟩
        case measure => have := HLT.out; simp [intOf]; omega
end Go.Proofs.YtccplndimdmjpaaDoor
