/- The laws' own helpers on tallies: szTally, toTally, eqTally, markTally, heldTally. -/
import Derived.Test.YtjpiiidjocilcaaFieldLaw
import Derived.Test.YtjpiiidjocilcaaBox
namespace Go.Proofs.Ytjpiiidjocilcaa
open Go.RowKit
set_option linter.unusedVariables false
set_option linter.unusedSimpArgs false
/-- two numbers a block -/
def Box2 (w : World) (b : Nat) (t : TypeId) (v0 v1 : Value) : Prop := w.heap[b]? = some (.cells #[v0, v1] t (0, 0))
/-- a tally as a value -/
def tlv (a b : Option Addr) (n c m d : Nat) : Value := .agg #[.slice a n c, .slice b m d]

theorem szTally_any (a b : Option Addr) (n c m d : Nat) (left : Int) (w : World) (hn : n ≤ maxLen) (hm : m ≤ maxLen) (h0 : 0 ≤ left) (h1 : left ≤ 1048576) :
    Calls Try.prog 13 #[.agg #[.slice a n c, .slice b m d], .int .i64 left] w fun e w' => e = .returned (.int .i64 (if ((n + m : Nat) : Int) ≤ left then left - ((n + m : Nat) : Int) else -1)) ∧ Below w.heap.size w w' := by
  by_cases h : (n : Int) ≤ left
  · have H := Lib.hid (fun W => szInts_any a n c left W hn h0 h1)
    have K := Lib.hid (fun W => szInts_any b m d (left - n) W hm (by omega) (by omega))
    rw [if_pos h] at H
    have hz : ¬ left - (n : Int) < 0 := by omega
    by_cases h2 : ((n + m : Nat) : Int) ≤ left
    · rw [if_pos h2, if_pos (by omega)] at *
      have hy : ¬ left - (n : Int) - (m : Int) < 0 := by omega
      obtain ⟨z, hz'⟩ : ∃ z, left - (n : Int) = z := ⟨_, rfl⟩
      obtain ⟨y, hy'⟩ : ∃ y, z - (m : Int) = y := ⟨_, rfl⟩
      rw [hz'] at H K hz hy
      rw [hy'] at K hy
      have he : left - ((n + m : Nat) : Int) = y := by omega
      rw [he]
      clear he hz' hy' h2 h
      go_enter Try.func13, Try.ntmps13
      go_wp2_with fail
      refine (H.out _).mono ?_; rintro e w' ⟨rfl, rfl⟩
      go_wp2_with fail
      refine (K.out _).mono ?_; rintro e w' ⟨rfl, rfl⟩
      go_wp2
      go_ret
      exact ⟨rfl, (Below.refl _ _).alloc (Nat.le_refl _) _⟩
    · rw [if_neg h2, if_neg (by omega)] at *
      obtain ⟨z, hz'⟩ : ∃ z, left - (n : Int) = z := ⟨_, rfl⟩
      rw [hz'] at H K hz
      clear hz' h2 h
      go_enter Try.func13, Try.ntmps13
      go_wp2_with fail
      refine (H.out _).mono ?_; rintro e w' ⟨rfl, rfl⟩
      go_wp2_with fail
      refine (K.out _).mono ?_; rintro e w' ⟨rfl, rfl⟩
      go_wp2
      go_ret
      exact ⟨rfl, (Below.refl _ _).alloc (Nat.le_refl _) _⟩
  · have H := Lib.hid (fun W => szInts_any a n c left W hn h0 h1)
    rw [if_neg h] at H
    rw [if_neg (by omega)]
    go_enter Try.func13, Try.ntmps13
    go_wp2_with fail
    refine (H.out _).mono ?_; rintro e w' ⟨rfl, rfl⟩
    go_wp2
    go_ret
    exact ⟨rfl, (Below.refl _ _).alloc (Nat.le_refl _) _⟩

/-- the copy of a tally: two rows of its own, one behind the other -/
def ToTl (l r : List Int) (w : World) (e : Ending) (w' : World) : Prop :=
  ∃ g h, w.heap.size ≤ g ∧ g < h ∧ h < w'.heap.size ∧ e = .returned (.agg #[.slice (some ⟨g, 0, none⟩) l.length l.length, .slice (some ⟨h, 0, none⟩) r.length r.length]) ∧ At w' (some ⟨g, 0, none⟩) g l ∧ At w' (some ⟨h, 0, none⟩) h r ∧ Below w.heap.size w w'

set_option maxHeartbeats 800000 in
theorem toTally_any (a b : Option Addr) (l r : List Int) (c d : Nat) (w : World) (hl : Ints .i64 w w.heap.size a l) (hr : Ints .i64 w w.heap.size b r) (hn : l.length ≤ 1048576) (hm : r.length ≤ 1048576) :
    Calls Try.prog 15 #[.agg #[.slice a l.length c, .slice b r.length d]] w (ToTl l r w) := by
  have HL := Lib.hid hl
  have HR := Lib.hid hr
  clear hl hr
  go_enter Try.func15, Try.ntmps15
  have b3 : ∀ o1 o2 o3, Below w.heap.size w (((w.alloc o1).alloc o2).alloc o3) := fun o1 o2 o3 => (((Below.refl _ _).alloc (Nat.le_refl _) _).alloc (by simp) _).alloc (by simp; omega) _
  go_wp2_with fail
  refine (toInts_any a l c _ ((HL.out.below (b3 _ _ _) (Nat.le_refl _)).more (by simp; omega)) hn).mono ?_
  rintro e w1 ⟨rfl, ha, hb, hz⟩
  have HA := Lib.hid ha
  have HB := Lib.hid hb
  have HB0 := Lib.hid (b3 (.cells #[.slice a l.length c, .slice b r.length d] 24) (.cells #[.slice none 0 0, .slice none 0 0] 27) (.cells #[.slice none 0 0, .slice none 0 0] 27))
  obtain ⟨hc, hf⟩ := bcell hb
  simp at hz
  clear ha hb b3
  go_wp2_with fail
  have hs : (((w.alloc (.cells #[.slice a l.length c, .slice b r.length d] 24)).alloc (.cells #[.slice none 0 0, .slice none 0 0] 27)).alloc (.cells #[.slice none 0 0, .slice none 0 0] 27)).heap.size = w.heap.size + 1 + 1 + 1 := by simp
  have B2 := Lib.hid (((HB0.out.trans (HB.out.mono (by rw [hs]; omega))).setCell (p := ⟨w.heap.size + 1 + 1, 0, none⟩) (by simp <;> omega) (.slice (some ⟨w.heap.size + 1 + 1 + 1, 0, none⟩) l.length l.length)))
  refine (toInts_any b r d _ ((HR.out.below B2.out (Nat.le_refl _)).more B2.out.size) hm).mono ?_
  rintro e w2 ⟨rfl, ha2, hb2, hz2⟩
  have HA2 := Lib.hid ha2
  have HB2 := Lib.hid hb2
  obtain ⟨hc2, hf2⟩ := bcell hb2
  simp at hz2 hc2 hf2
  have hu : w.heap.size + 1 + 1 < w1.heap.size := by omega
  have hv : w.heap.size + 1 < w1.heap.size := by omega
  have hx : w.heap.size < w1.heap.size := by omega
  clear ha2 hb2
  go_wp2
  have hA := HA.out
  have hA2 := HA2.out
  rw [hs] at hA
  simp only [World.size_setCell] at hA2
  have b9 := B2.out.trans (HB2.out.mono B2.out.size)
  have s9 := b9.size
  have e9 : At w2 (some ⟨w.heap.size + 1 + 1 + 1, 0, none⟩) (w.heap.size + 1 + 1 + 1) l := (hA.other (by simp <;> omega) _).below HB2.out
  refine bodyPost_ret (v := .agg #[.slice (some ⟨w.heap.size + 1 + 1 + 1, 0, none⟩) l.length l.length, .slice (some ⟨w1.heap.size, 0, none⟩) r.length r.length]) (by simp [results, Try.results15, go_sem, hc, hf, hc2, hf2, hu, hv, hx, hz, hz2]) rfl ⟨w.heap.size + 1 + 1 + 1, w1.heap.size, by omega, hz, by simpa using hz2, rfl, ?_, ?_, ?_⟩
  · exact ((e9.other (by simp <;> omega) _).other (by simp <;> omega) _).other (by simp <;> omega) _
  · exact ((hA2.other (by simp <;> omega) _).other (by simp <;> omega) _).other (by simp <;> omega) _
  · exact ((b9.setCell (by simp <;> omega) _).setCell (by simp <;> omega) _).setCell (by simp <;> omega) _

set_option maxHeartbeats 400000 in
theorem eqTally_yes (a a' b b' : Option Addr) (l r : List Int) (c c' d d' : Nat) (w : World) (hl : Ints .i64 w w.heap.size a l) (hl' : Ints .i64 w w.heap.size a' l) (hr : Ints .i64 w w.heap.size b r) (hr' : Ints .i64 w w.heap.size b' r) (hn : l.length ≤ 1048576) (hm : r.length ≤ 1048576) :
    Calls Try.prog 17 #[.agg #[.slice a l.length c, .slice b r.length d], .agg #[.slice a' l.length c', .slice b' r.length d']] w fun e w' => e = .returned (.bool true) ∧ Below w.heap.size w w' := by
  have HL := Lib.hid hl
  have HL' := Lib.hid hl'
  have HR := Lib.hid hr
  have HR' := Lib.hid hr'
  clear hl hl' hr hr'
  have b2 : ∀ o1 o2, Below w.heap.size w ((w.alloc o1).alloc o2) := fun o1 o2 => ((Below.refl _ _).alloc (Nat.le_refl _) _).alloc (by simp) _
  go_enter Try.func17, Try.ntmps17
  have HE := Lib.hid (fun o1 o2 => eqInts_yes a a' l c c' w.heap.size w.heap.size ((w.alloc o1).alloc o2) (HL.out.below (b2 o1 o2) (Nat.le_refl _)) (HL'.out.below (b2 o1 o2) (Nat.le_refl _)) hn)
  have HF := Lib.hid (fun o1 o2 W (hD : Drew ((w.alloc o1).alloc o2) W) => eqInts_yes b b' r d d' w.heap.size w.heap.size W ((HR.out.below (b2 o1 o2) (Nat.le_refl _)).drew hD) ((HR'.out.below (b2 o1 o2) (Nat.le_refl _)).drew hD) hm)
  go_wp2_with fail
  refine (HE.out _ _).mono ?_; rintro e w1 ⟨rfl, d1⟩; have HD := Lib.hid d1
  have hc := fun p => d1.cell p
  clear d1
  go_wp2_with fail
  refine (HF.out _ _ _ HD.out).mono ?_; rintro e w2 ⟨rfl, d2⟩; have HD2 := Lib.hid d2; clear d2
  go_wp2
  go_ret
  exact ⟨rfl, ((b2 _ _).trans (HD.out.below _)).trans (HD2.out.below _)⟩

/-- two blocks alone have turned -/
def Two (g h : Nat) (w w' : World) : Prop := w'.os = w.os ∧ w'.tape = w.tape ∧ w'.output = w.output ∧ w.heap.size ≤ w'.heap.size ∧ ∀ i, i < w.heap.size → i ≠ g → i ≠ h → w'.heap[i]? = w.heap[i]?
theorem Two.below {B g h : Nat} {w w' : World} (H : Two g h w w') (hB : B ≤ w.heap.size) (hg : B ≤ g) (hh : B ≤ h) : Below B w w' :=
  ⟨H.1, H.2.1, H.2.2.1, H.2.2.2.1, fun i hi => H.2.2.2.2 i (by omega) (by omega) (by omega)⟩

set_option maxHeartbeats 400000 in
theorem markTally_any (a b : Option Addr) (l r : List Int) (c d g h : Nat) (k0 : Int) (w : World) (hl : At w a g l) (hr : At w b h r) (hgh : g ≠ h) (hg : g < w.heap.size) (hh : h < w.heap.size) (hn : l.length ≤ 1048576) (hm : r.length ≤ 1048576) (h0 : 0 ≤ k0) (h1 : k0 ≤ 1048576) :
    Calls Try.prog 20 #[.agg #[.slice a l.length c, .slice b r.length d], .int .i64 k0] w fun e w' => e = .returned (.int .i64 (k0 + (l.length : Int) + (r.length : Int))) ∧ At w' a g (marks k0 l.length) ∧ At w' b h (marks (k0 + (l.length : Int)) r.length) ∧ Two g h w w' := by
  have HL := Lib.hid hl
  have HR := Lib.hid hr
  clear hl hr
  have bA := fun o => (Below.refl w.heap.size w).alloc (Nat.le_refl _) o
  have HM := Lib.hid (fun o => markIntsW_any a l c g k0 (w.alloc o) (HL.out.below (bA o)) hn h0 (by omega))
  go_enter Try.func20, Try.ntmps20
  go_wp2_with fail
  refine (HM.out _).mono ?_
  rintro e w1 ⟨rfl, ha, ho⟩
  have HA := Lib.hid ha
  have HO := Lib.hid ho
  have hc : ∀ o, w1.cell? ⟨w.heap.size, o, none⟩ = (w.alloc (.cells #[.slice a l.length c, .slice b r.length d] 27)).cell? ⟨w.heap.size, o, none⟩ := fun o =>
    World.cell?_of_block (ho.1.block w.heap.size (by simp) (by intro e; injection e with e; omega))
  have HR1 := Lib.hid ((HR.out.below (bA (.cells #[.slice a l.length c, .slice b r.length d] 27))).only ho (by omega))
  obtain ⟨k1, hk1⟩ : ∃ k, k0 + (l.length : Int) = k := ⟨_, rfl⟩
  have hb1 : 0 ≤ k1 ∧ k1 ≤ 16777216 := by omega
  rw [hk1]
  have HK := Lib.hid hk1
  clear ha ho hk1
  go_wp2_with fail
  refine (markIntsW_any b r d h k1 w1 HR1.out hm hb1.1 hb1.2).mono ?_
  rintro e w2 ⟨rfl, ha2, ho2⟩
  have HA2 := Lib.hid ha2
  have HO2 := Lib.hid ho2
  clear ha2 ho2
  go_wp2
  go_ret
  have x1 := HO.out
  have x2 := HO2.out
  have z1 := x1.2
  have z2 := x2.2
  simp only [World.size_alloc] at z1
  refine ⟨by rw [HK.out]; rfl, HA.out.only x2 hgh, by rw [HK.out]; exact HA2.out, ?_, ?_, ?_, by omega, fun i hi n1 n2 => ?_⟩
  · exact x2.1.os.trans (x1.1.os.trans rfl)
  · exact x2.1.tape.trans (x1.1.tape.trans rfl)
  · exact x2.1.output.trans (x1.1.output.trans rfl)
  · exact ((x2.1.block i (by omega) (by intro e; injection e with e; omega)).trans (x1.1.block i (by simp; omega) (by intro e; injection e with e; omega))).trans (Below.heap_alloc w _ i hi)

set_option maxHeartbeats 400000 in
theorem heldTally_any (a b : Option Addr) (n c m d : Nat) (k0 : Int) (w : World) (hl : Ints .i64 w w.heap.size a (marks k0 n)) (hr : Ints .i64 w w.heap.size b (marks (k0 + (n : Int)) m)) (hn : n ≤ 1048576) (hm : m ≤ 1048576) (h0 : 0 ≤ k0) (h1 : k0 ≤ 1048576) :
    Calls Try.prog 21 #[.agg #[.slice a n c, .slice b m d], .int .i64 k0] w fun e w' => e = .returned (.int .i64 (k0 + (n : Int) + (m : Int))) ∧ Below w.heap.size w w' := by
  have bA := fun o => (Below.refl w.heap.size w).alloc (Nat.le_refl _) o
  have HH := Lib.hid (fun o => heldIntsW_any a n c w.heap.size k0 (w.alloc o) (hl.below (bA o) (Nat.le_refl _)) hn h0 (by omega))
  have HK := Lib.hid (fun o => heldIntsW_any b m d w.heap.size (k0 + (n : Int)) (w.alloc o) (hr.below (bA o) (Nat.le_refl _)) hm (by omega) (by omega))
  clear hl hr
  obtain ⟨k1, hk1⟩ : ∃ k, k0 + (n : Int) = k := ⟨_, rfl⟩
  obtain ⟨k2, hk2⟩ : ∃ k, k1 + (m : Int) = k := ⟨_, rfl⟩
  rw [hk1] at HH HK
  rw [hk2] at HK
  rw [hk1, hk2]
  have hb1 : ¬ k1 < 0 := by omega
  have hb2 : ¬ k2 < 0 := by omega
  clear hk1 hk2
  go_enter Try.func21, Try.ntmps21
  go_wp2_with fail
  refine (HH.out _).mono ?_; rintro e w1 ⟨rfl, rfl⟩
  go_wp2_with fail
  refine (HK.out _).mono ?_; rintro e w1 ⟨rfl, rfl⟩
  go_wp2
  go_ret
  exact ⟨rfl, bA _⟩
end Go.Proofs.Ytjpiiidjocilcaa
