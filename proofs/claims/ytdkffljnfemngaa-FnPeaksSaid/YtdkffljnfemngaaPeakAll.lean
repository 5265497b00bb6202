/- Tables: a list of rows of numbers, each row and the list in memory of their own; what the laws do with them: eqIntSS, markIntSS, heldIntSS. PeakCells, the program's and the model's. Minimum, median, mean and maximum of the values of a neighborhood are in order. FillByMean, the program's and the model's. SmoothChange, the program's and the model's. RepeatMaximum, the program's and the model's. What FnPeaks asks of peaks, fillings, repeated maxima and changes. The model's PeakCells. The laws' rInts and rFields on fields that read alike: true. The law's rTable on tables that read alike: true. The draws of the filters' laws: radius, DrawMaximumFilter, DrawCoverageFilter. The draw of CoverageFilter's arguments. The draws of FillByMean's, SmoothChange's and PeakCells' arguments. What a law over drawn fields knows: its world, the code, fields in boxes of its own. The walk of FnPeaks. -/
import Derived.Test.YtdkffljnfemngaaFieldLaw
import Derived.Test.YtdkffljnfemngaaBox
import Derived.Test.YtdkffljnfemngaaMake
import Derived.Deep.RegionHeld3
import Derived.Test.YtdkffljnfemngaaNbFive
import Derived.Test.YtdkffljnfemngaaNbSpec5
import Derived.Test.YtdkffljnfemngaaNbRules
import Derived.Test.YtdkffljnfemngaaSet
import Derived.Test.YtdkffljnfemngaaHas
import Derived.Maps.AppendAt
import Derived.Test.YtdkffljnfemngaaMaskDraws
import Derived.Test.YtdkffljnfemngaaAmong
import Derived.IntWalk
import Derived.Deep.CutBlock
import Derived.Deep.QuietTactic
import Derived.BigQuiet
import Derived.Deep.DeepCutAuto
namespace Go.Proofs.Ytdkffljnfemngaa
open Go.RowKit
set_option linter.unusedVariables false
set_option linter.unusedSimpArgs false
/-- a row's slice: its block and its capacity -/
def entV (e : Nat × Nat) (l : List Int) : Value := .slice (some ⟨e.1, 0, none⟩) l.length e.2
def tabV (E : List (Nat × Nat)) (R : List (List Int)) : List Value := List.zipWith entV E R
theorem tabV_len {E : List (Nat × Nat)} {R : List (List Int)} (h : E.length = R.length) : (tabV E R).length = R.length := by unfold tabV; rw [List.length_zipWith]; omega
theorem tabV_snoc {E : List (Nat × Nat)} {R : List (List Int)} (h : E.length = R.length) (e : Nat × Nat) (l : List Int) : tabV (E ++ [e]) (R ++ [l]) = tabV E R ++ [entV e l] := by
  unfold tabV; rw [List.zipWith_append h]; rfl
/-- the rows of a table, in blocks from B on, below U, no two in one -/
structure Tb (w : World) (B U : Nat) (E : List (Nat × Nat)) (R : List (List Int)) : Prop where
  len : E.length = R.length
  row : ∀ j (h1 : j < E.length) (h2 : j < R.length), B ≤ E[j].1 ∧ E[j].1 < U ∧ Row w E[j].1 3 (iv R[j])
  ne : ∀ i j (hi : i < E.length) (hj : j < E.length), i ≠ j → E[i].1 ≠ E[j].1
section
variable {w w' : World} {B U : Nat} {E : List (Nat × Nat)} {R : List (List Int)}
theorem Tb.nil : Tb w B U [] [] := ⟨rfl, fun j h => by simp at h, fun i j h => by simp at h⟩
theorem Tb.keep (h : Tb w B U E R) (k : ∀ g, B ≤ g → g < U → g < w.heap.size → (∃ vs, Row w g 3 vs) → w'.heap[g]? = w.heap[g]?) : Tb w' B U E R :=
  ⟨h.len, fun j h1 h2 => by obtain ⟨a, b, c⟩ := h.row j h1 h2; exact ⟨a, b, c.of_block (k _ a b c.lt ⟨_, c⟩)⟩, h.ne⟩
theorem Tb.below {C : Nat} (h : Tb w B U E R) (hb : Below C w w') (hC : U ≤ C) : Tb w' B U E R := h.keep fun g _ h2 _ _ => hb.block g (by omega)
theorem Tb.turn {g : Nat} (h : Tb w B U E R) (o : w.grownBy w' (some g)) (hg : U ≤ g) : Tb w' B U E R := h.keep fun k _ h2 h3 _ => o.block k h3 (by intro e; injection e with e; omega)
theorem Tb.more {C V : Nat} (h : Tb w B U E R) (hB : C ≤ B) (hV : U ≤ V) : Tb w C V E R := ⟨h.len, fun j h1 h2 => by obtain ⟨a, b, c⟩ := h.row j h1 h2; exact ⟨by omega, by omega, c⟩, h.ne⟩
theorem Tb.snoc {g c : Nat} {l : List Int} (h : Tb w B U E R) (hB : B ≤ g) (hU : U ≤ g) (hr : Row w g 3 (iv l)) : Tb w B (g + 1) (E ++ [(g, c)]) (R ++ [l]) := by
  refine ⟨by simp [h.len], fun j h1 h2 => ?_, fun i j hi hj hne => ?_⟩
  · rw [List.length_append, List.length_singleton] at h1 h2
    by_cases e : j < E.length
    · have e2 : j < R.length := by have := h.len; omega
      rw [List.getElem_append_left e, List.getElem_append_left e2]
      obtain ⟨a, b, c⟩ := h.row j e e2
      exact ⟨a, by omega, c⟩
    · have e2 : j = E.length := by omega
      have e3 : j = R.length := by have := h.len; omega
      rw [List.getElem_append_right (by omega), List.getElem_append_right (by omega)]
      simp only [show j - E.length = 0 by omega, show j - R.length = 0 by omega, List.getElem_singleton]
      exact ⟨hB, Nat.lt_succ_self _, hr⟩
  · rw [List.length_append, List.length_singleton] at hi hj
    have get : ∀ k (hk : k < (E ++ [(g, c)]).length), k < E.length → (E ++ [(g, c)])[k].1 < U := by
      intro k hk h1
      rw [List.getElem_append_left h1]
      exact (h.row k h1 (by have := h.len; omega)).2.1
    have last : ∀ k (hk : k < (E ++ [(g, c)]).length), ¬ k < E.length → (E ++ [(g, c)])[k].1 = g := by
      intro k hk h1
      have hk2 : k < E.length + 1 := by simpa using hk
      rw [List.getElem_append_right (by omega)]
      simp only [show k - E.length = 0 by omega, List.getElem_singleton]
    by_cases e : i < E.length <;> by_cases e2 : j < E.length
    · rw [List.getElem_append_left e, List.getElem_append_left e2]; exact h.ne i j e e2 hne
    · have := get i (by simp; omega) e; have := last j (by simp; omega) e2; omega
    · have := get j (by simp; omega) e2; have := last i (by simp; omega) e; omega
    · omega
end
/-- a table: the list of its rows' slices, and its rows -/
structure Tabl (w : World) (B U : Nat) (a : Option Addr) (E : List (Nat × Nat)) (R : List (List Int)) : Prop where
  t : Tb w B U E R
  o : R = [] ∨ ∃ g, a = some ⟨g, 0, none⟩ ∧ B ≤ g ∧ g < U ∧ Row w g 24 (tabV E R)
section
variable {w w' : World} {B U : Nat} {a : Option Addr} {E : List (Nat × Nat)} {R : List (List Int)}
theorem Tabl.below {C : Nat} (h : Tabl w B U a E R) (hb : Below C w w') (hC : U ≤ C) : Tabl w' B U a E R :=
  ⟨h.t.below hb hC, h.o.imp_right fun ⟨g, h1, h2, h3, h4⟩ => ⟨g, h1, h2, h3, h4.of_block (hb.block g (by omega))⟩⟩
theorem Tabl.turn {g : Nat} (h : Tabl w B U a E R) (o : w.grownBy w' (some g)) (hg : U ≤ g) : Tabl w' B U a E R :=
  ⟨h.t.turn o hg, h.o.imp_right fun ⟨k, h1, h2, h3, h4⟩ => ⟨k, h1, h2, h3, h4.of_block (o.block k h4.lt (by intro e; injection e with e; omega))⟩⟩
theorem Tabl.past {g : Nat} (h : Tabl w B U a E R) (o : w.grownBy w' (some g)) (hg : g < B) : Tabl w' B U a E R :=
  ⟨h.t.keep fun k h1 _ h3 _ => o.block k h3 (by intro e; injection e with e; omega), h.o.imp_right fun ⟨k, h1, h2, h3, h4⟩ => ⟨k, h1, h2, h3, h4.of_block (o.block k h4.lt (by intro e; injection e with e; omega))⟩⟩
theorem Tabl.more {C V : Nat} (h : Tabl w B U a E R) (hB : C ≤ B) (hV : U ≤ V) : Tabl w C V a E R :=
  ⟨h.t.more hB hV, h.o.imp_right fun ⟨g, h1, h2, h3, h4⟩ => ⟨g, h1, by omega, by omega, h4⟩⟩
theorem Tabl.drew (h : Tabl w B U a E R) (d : Drew w w') : Tabl w' B U a E R := h.below (d.below U) (Nat.le_refl _)
theorem Tabl.at_ (h : Tabl w B U a E R) {j : Nat} (h2 : j < R.length) : ∃ g h1, a = some ⟨g, 0, none⟩ ∧ g < U ∧ w.cell? ⟨g, j, none⟩ = some (entV (E[j]'h1) R[j]) := by
  rcases h.o with e | ⟨g, h1, h3, h4, h5⟩
  · rw [e] at h2; simp at h2
  · have he : j < E.length := by have := h.t.len; omega
    refine ⟨g, he, h1, h4, ?_⟩
    rw [h5.cell (k := j) (by rw [tabV_len h.t.len]; exact h2)]
    simp only [tabV, List.getElem_zipWith]
theorem Tabl.ints (h : Tabl w B U a E R) {j : Nat} (h1 : j < E.length) (h2 : j < R.length) : Ints .i64 w U (some ⟨E[j].1, 0, none⟩) R[j] := by
  obtain ⟨h3, h4, h5⟩ := h.t.row j h1 h2
  exact (show At w (some ⟨E[j].1, 0, none⟩) E[j].1 R[j] from .inr ⟨rfl, h5⟩).intsB h4
theorem tabl_of {v : Value} (ho : w.ownsRow B 24 1 v R.length (tabV E R)) (ht : Tb w B U E R) (hU : w.heap.size ≤ U) : ∃ a c, v = .slice a R.length c ∧ Tabl w B U a E R := by
  rcases Nat.eq_zero_or_pos R.length with h0 | h0
  · have e := List.eq_nil_of_length_eq_zero h0
    rcases ho.2 with ⟨h1, h2⟩ | ⟨g, cap, cur, h1, _⟩
    · exact ⟨none, 0, by rw [h1, h2], ht, .inl e⟩
    · exact ⟨_, cap, h1, ht, .inl e⟩
  · obtain ⟨c, g, h1, h2, h3, h4⟩ := Row.of_own ho h0
    exact ⟨_, c, h1, ht, .inr ⟨g, rfl, h2, by have := h3.lt; omega, h3⟩⟩
end
theorem Lw.past {w w1 w2 : World} {wd hg : Int} {a : Option Addr} {l : List Int} {c B : Nat} (h : Lw w wd hg a l c w1) (b : Below B w1 w2) (hB : w.heap.size < B) (ha : Ints .i64 w w.heap.size a l) : Lw w wd hg a l c w2 := by
  have hb := h.1.trans (b.mono (Nat.le_of_lt hB))
  exact ⟨hb, (ha.below hb (Nat.le_refl _)).more hb.size, (b.block _ hB).trans h.2.2⟩
/-- how many numbers stand ahead of row k -/
def offs (R : List (List Int)) (k : Nat) : Nat := (R.take k).flatten.length
theorem offs_zero (R : List (List Int)) : offs R 0 = 0 := by simp [offs]
theorem offs_step {R : List (List Int)} {k : Nat} (h : k < R.length) : offs R (k + 1) = offs R k + R[k].length := by
  unfold offs; rw [List.take_succ_eq_append_getElem h, List.flatten_append, List.length_append]; simp
theorem offs_all (R : List (List Int)) : offs R R.length = R.flatten.length := by simp [offs]
theorem offs_le (R : List (List Int)) (k : Nat) : offs R k ≤ R.flatten.length := by
  unfold offs
  conv => rhs; rw [← List.take_append_drop k R]
  rw [List.flatten_append, List.length_append]; omega
/-- the first k rows marked with numbers from k0 on -/
def partT (k0 : Int) (R : List (List Int)) (k : Nat) : List (List Int) := (List.range R.length).map fun j => if j < k then marks (k0 + (offs R j : Int)) (R.getD j []).length else R.getD j []
theorem partT_len (k0 : Int) (R : List (List Int)) (k : Nat) : (partT k0 R k).length = R.length := by simp [partT]
theorem getDL {R : List (List Int)} {j : Nat} (h : j < R.length) : R.getD j [] = R[j] := by simp [h]
theorem partT_get {k0 : Int} {R : List (List Int)} {k j : Nat} (h : j < (partT k0 R k).length) (h2 : j < R.length) : (partT k0 R k)[j] = if j < k then marks (k0 + (offs R j : Int)) R[j].length else R[j] := by
  simp only [partT, List.getElem_map, List.getElem_range, getDL h2]
theorem partT_zero (k0 : Int) (R : List (List Int)) : partT k0 R 0 = R := by
  refine List.ext_getElem (partT_len _ _ _) fun j h1 h2 => ?_
  rw [partT_get h1 h2, if_neg (by omega)]
theorem partT_lens {k0 : Int} {R : List (List Int)} {k j : Nat} (h : j < (partT k0 R k).length) (h2 : j < R.length) : (partT k0 R k)[j].length = R[j].length := by
  rw [partT_get h h2]; split
  · rw [marks_length]
  · rfl
theorem partT_tab (E : List (Nat × Nat)) (k0 : Int) (R : List (List Int)) (k : Nat) : tabV E (partT k0 R k) = tabV E R := by
  unfold tabV
  refine List.ext_getElem (by simp [partT_len]) fun j h1 h2 => ?_
  rw [List.getElem_zipWith, List.getElem_zipWith]
  rw [List.length_zipWith] at h2
  unfold entV
  rw [partT_lens (by rw [partT_len]; omega) (by omega)]
def marksT (k0 : Int) (R : List (List Int)) : List (List Int) := partT k0 R R.length
theorem marksT_get {k0 : Int} {R : List (List Int)} {j : Nat} (h : j < (marksT k0 R).length) (h2 : j < R.length) : (marksT k0 R)[j] = marks (k0 + (offs R j : Int)) R[j].length :=
  (partT_get (k0 := k0) (k := R.length) h h2).trans (if_pos h2)
theorem marksT_len (k0 : Int) (R : List (List Int)) : (marksT k0 R).length = R.length := partT_len _ _ _
set_option maxHeartbeats 1000000 in
theorem eqIntSS_yes (a a' : Option Addr) (E E' : List (Nat × Nat)) (R : List (List Int)) (c c' B U B' U' : Nat) (w : World) (h : Tabl w B U a E R) (h' : Tabl w B' U' a' E' R) (hn : R.length ≤ 1048576) (hr : ∀ r ∈ R, r.length ≤ 1048576) :
    Calls Try.prog 46 #[.slice a R.length c, .slice a' R.length c'] w (Quiet (.bool true) w) := by
  have HT := Lib.hid h
  have HT' := Lib.hid h'
  have HR := Lib.hid hr
  clear h h' hr
  go_enter Try.func46, Try.ntmps46
  go_wp2
  go_loopw [5] (fun i wr => ∃ k : Nat, k ≤ R.length ∧ i = .int .i64 k ∧ Drew w wr) (fun i _ => R.length - (intOf i).toNat)
  case atStart => exact ⟨0, Nat.zero_le _, rfl, Drew.refl w⟩
  case round =>
    obtain ⟨k, hk, rfl, hw⟩ := hrel
    by_cases hlt : k < R.length
    · have hi : (k : Int) < (R.length : Int) := by omega
      have hi0 : (0 : Int) ≤ (k : Int) := by omega
      obtain ⟨g, he, rfl, _, hc⟩ := (HT.out.drew hw).at_ hlt
      obtain ⟨g', he', rfl, _, hc'⟩ := (HT'.out.drew hw).at_ hlt
      have HE := Lib.hid (fun Wd (d : Drew w Wd) => eqInts_yes (some ⟨E[k].1, 0, none⟩) (some ⟨E'[k].1, 0, none⟩) R[k] E[k].2 E'[k].2 U U' Wd ((HT.out.drew d).ints he hlt) ((HT'.out.drew d).ints he' hlt) (HR.out _ (List.getElem_mem hlt)))
      unfold entV at hc hc'
      generalize E[k] = e1 at *
      generalize E'[k] = e2 at *
      generalize R[k].length = n at *
      have HW := Lib.hid hw
      have HC := Lib.hid hc
      have HC' := Lib.hid hc'
      clear hw
      go_wp2_with fail
      go_region_held3 (fun w' => w'.cell? ⟨g, k, none⟩ = some (.slice (some ⟨e1.1, 0, none⟩) n e1.2) ∧ w'.cell? ⟨g', k, none⟩ = some (.slice (some ⟨e2.1, 0, none⟩) n e2.2))
        (first | exact ⟨(D9.out.cell _).trans HC.out, (D9.out.cell _).trans HC'.out⟩ | exact ⟨HC.out, HC'.out⟩ | go_keep)
        (first | (go_at_call 81; refine (HE.out _ (HW.out.more 1)).mono ?_; rintro e w9 ⟨rfl, d9⟩; have D9 := Lib.hid (Drew.trans (Drew.more (Drew.refl wr) 1) d9); clear d9))
      rename_i hHeld
      clear hHeld
      go_wp2
      go_roundw
      case rel => exact ⟨k + 1, by omega, by go_num, HW.out.trans D9.out⟩
      case measure => simp [intOf]; omega
    · go_wp2
      go_ret
      exact ⟨rfl, hw⟩
set_option maxHeartbeats 1000000 in
theorem markIntSS_any (a : Option Addr) (E : List (Nat × Nat)) (R : List (List Int)) (c B U : Nat) (k0 : Int) (w : World) (h : Tabl w B U a E R) (hpos : ∀ r ∈ R, 0 < r.length) (hn : R.length ≤ 1048576) (h0 : 0 ≤ k0) (h1 : k0 + (R.flatten.length : Int) ≤ 1048576) :
    Calls Try.prog 47 #[.slice a R.length c, .int .i64 k0] w fun e w' => e = .returned (.int .i64 (k0 + (R.flatten.length : Int))) ∧ Tabl w' B U a E (marksT k0 R) ∧ Below B w w' := by
  have HT := Lib.hid h
  have HLE := Lib.hid (offs_le R)
  have HPOS := Lib.hid hpos
  clear h hpos
  go_enter Try.func47, Try.ntmps47
  go_wp2
  go_loopw [1, 5] (fun q i wr => ∃ k : Nat, k ≤ R.length ∧ i = .int .i64 k ∧ q = .int .i64 (k0 + (offs R k : Int)) ∧ Tabl wr B U a E (partT k0 R k) ∧ Below B w wr) (fun _ i _ => R.length - (intOf i).toNat)
  case atStart => exact ⟨0, Nat.zero_le _, rfl, by rw [offs_zero]; simp, by rw [partT_zero]; exact HT.out, Below.refl _ _⟩
  case round =>
    obtain ⟨k, hk, rfl, rfl, ht, hB⟩ := hrel
    have hle := HLE.out k
    by_cases hlt : k < R.length
    · have hi : (k : Int) < (R.length : Int) := by omega
      have hi0 : (0 : Int) ≤ (k : Int) := by omega
      have hkp : k < (partT k0 R k).length := by rw [partT_len]; exact hlt
      obtain ⟨g, he, rfl, hgU, hc⟩ := ht.at_ hkp
      obtain ⟨hb1, hb2, hrow⟩ := ht.t.row k he hkp
      have hgk : (partT k0 R k)[k] = R[k] := by rw [partT_get hkp hlt, if_neg (by omega)]
      rw [hgk] at hc hrow
      have hst := offs_step hlt
      have hle2 := HLE.out (k + 1)
      have HM := Lib.hid (markInts_any (some ⟨E[k].1, 0, none⟩) R[k] E[k].2 E[k].1 (k0 + (offs R k : Int)) wr (.inr ⟨rfl, hrow⟩) (by omega) (by omega) (by omega))
      have HTT := Lib.hid ht
      have HB := Lib.hid hB
      have HST := Lib.hid hst
      unfold entV at hc
      clear ht hB hrow hst
      go_wp2_with fail
      refine HM.out.mono ?_
      rintro e w2 ⟨rfl, hat, ho⟩
      have hat2 : Row w2 E[k].1 3 (iv (marks (k0 + (offs R k : Int)) R[k].length)) := by
        rcases hat with e | ⟨_, h⟩
        · have e9 := congrArg List.length e
          rw [marks_length, List.length_nil] at e9
          have := HPOS.out _ (List.getElem_mem hlt)
          omega
        · exact h
      have T2 : Tabl w2 B U (some ⟨g, 0, none⟩) E (partT k0 R (k + 1)) := by
        refine ⟨⟨by rw [partT_len]; have := HTT.out.t.len; rw [partT_len] at this; exact this, fun j j1 j2 => ?_, HTT.out.t.ne⟩, ?_⟩
        · have j3 : j < R.length := by rw [partT_len] at j2; exact j2
          obtain ⟨p1, p2, p3⟩ := HTT.out.t.row j j1 (by rw [partT_len]; exact j3)
          refine ⟨p1, p2, ?_⟩
          rw [partT_get j2 j3]
          rw [partT_get (by rw [partT_len]; exact j3) j3] at p3
          by_cases ej : j = k
          · subst ej
            rw [if_pos (by omega)]
            exact hat2
          · have hne := HTT.out.t.ne j k j1 he ej
            have p4 := p3.of_block (ho.1.block _ p3.lt (by intro e; injection e with e; exact hne e))
            by_cases ej2 : j < k
            · rw [if_pos ej2] at p4; rw [if_pos (by omega)]; exact p4
            · rw [if_neg ej2] at p4; rw [if_neg (by omega)]; exact p4
        · rcases HTT.out.o with e | ⟨g', e1, e2, e3, e4⟩
          · have := congrArg List.length e; rw [partT_len, List.length_nil] at this; omega
          · right
            refine ⟨g', e1, e2, e3, ?_⟩
            rw [partT_tab] at e4 ⊢
            refine e4.of_block (ho.1.block _ e4.lt ?_)
            intro e
            injection e with e
            obtain ⟨c1, hc1, _⟩ := e4
            obtain ⟨c2, hc2, _⟩ := (HTT.out.t.row k he hkp).2.2
            rw [e, hc2] at hc1
            injection hc1 with hc1
            injection hc1 with _ hty
            exact absurd hty (by decide)
      have HT2 := Lib.hid T2
      have HB2 := Lib.hid (HB.out.trans (ho.below hb1))
      have HRE := Lib.hid (show k0 + (offs R k : Int) + (R[k].length : Int) = k0 + (offs R (k + 1) : Int) by rw [HST.out]; push_cast; omega)
      clear hat hat2 T2 ho HTT HB hc
      go_wp2
      go_roundw
      case rel => exact ⟨k + 1, by omega, by go_num, by rw [HRE.out], HT2.out, HB2.out⟩
      case measure => simp [intOf]; omega
    · obtain rfl : k = R.length := by omega
      have HA := Lib.hid (offs_all R)
      have HTT := Lib.hid ht
      have HB := Lib.hid hB
      clear ht hB
      rw [HA.out]
      go_wp2
      go_ret
      exact ⟨rfl, HTT.out, HB.out⟩
set_option maxHeartbeats 1000000 in
theorem heldIntSS_any (a : Option Addr) (E : List (Nat × Nat)) (R : List (List Int)) (c B U : Nat) (k0 : Int) (w : World) (h : Tabl w B U a E (marksT k0 R)) (hn : R.length ≤ 1048576) (h0 : 0 ≤ k0) (h1 : k0 + (R.flatten.length : Int) ≤ 1048576) :
    Calls Try.prog 48 #[.slice a R.length c, .int .i64 k0] w fun e w' => e = .returned (.int .i64 (k0 + (R.flatten.length : Int))) ∧ w = w' := by
  have HT := Lib.hid h
  have HLE := Lib.hid (offs_le R)
  clear h
  go_enter Try.func48, Try.ntmps48
  go_wp2
  go_loop [1, 5] (fun q i => ∃ k : Nat, k ≤ R.length ∧ i = .int .i64 k ∧ q = .int .i64 (k0 + (offs R k : Int))) (fun _ i => R.length - (intOf i).toNat)
  case atStart => exact ⟨0, Nat.zero_le _, rfl, by rw [offs_zero]; simp⟩
  case round =>
    obtain ⟨k, hk, rfl, rfl⟩ := hrel
    have hle := HLE.out k
    by_cases hlt : k < R.length
    · have hi : (k : Int) < (R.length : Int) := by omega
      have hi0 : (0 : Int) ≤ (k : Int) := by omega
      have hkp : k < (marksT k0 R).length := by rw [marksT_len]; exact hlt
      obtain ⟨g, he, rfl, hgU, hc⟩ := HT.out.at_ hkp
      have hgk : (marksT k0 R)[k] = marks (k0 + (offs R k : Int)) R[k].length := marksT_get hkp hlt
      have hin := HT.out.ints he hkp
      rw [hgk] at hc hin
      unfold entV at hc
      rw [marks_length] at hc
      have hst := offs_step hlt
      have hle2 := HLE.out (k + 1)
      have HM := Lib.hid (heldInts_any (some ⟨E[k].1, 0, none⟩) R[k].length E[k].2 U (k0 + (offs R k : Int)) w hin (by omega) (by omega) (by omega))
      have HRE := Lib.hid (show k0 + (offs R k : Int) + (R[k].length : Int) = k0 + (offs R (k + 1) : Int) by rw [hst]; push_cast; omega)
      clear hin
      have hnn : ¬ k0 + (offs R k : Int) + (R[k].length : Int) < 0 := by omega
      clear hst
      go_wp2_with (go_at_call 83; refine HM.out.mono ?_; rintro e w2 ⟨rfl, rfl⟩)
      go_round
      case rel => exact ⟨k + 1, by omega, by go_num, by rw [HRE.out]⟩
      case measure => simp [intOf]; omega
    · obtain rfl : k = R.length := by omega
      have HA := Lib.hid (offs_all R)
      rw [HA.out]
      go_wp2
      go_ret
      exact ⟨rfl, rfl⟩
end Go.Proofs.Ytdkffljnfemngaa
namespace Go.Proofs.Ytdkffljnfemngaa
open Go.RowKit
set_option linter.unusedVariables false
set_option linter.unusedSimpArgs false
/-- a cell is a peak among the values of its neighborhood -/
def peakP (z : Int) (vs : List Int) : Bool := !decide (z = -9999) && decide (cntN z vs = 1)
/-- the places of the first k cells that are peaks -/
def pks (W : Nat) (Bs : List Bool) : Nat → List (List Int)
  | 0 => []
  | k + 1 => if Bs.getD k false = true then pks W Bs k ++ [[((k % W : Nat) : Int), ((k / W : Nat) : Int)]] else pks W Bs k
theorem pks_yes {W : Nat} {Bs : List Bool} {k : Nat} (h : k < Bs.length) (e : Bs[k] = true) : pks W Bs (k + 1) = pks W Bs k ++ [[((k % W : Nat) : Int), ((k / W : Nat) : Int)]] := by
  rw [pks, if_pos]; rw [List.getD_eq_getElem?_getD, List.getElem?_eq_getElem h]; exact e
theorem pks_not {W : Nat} {Bs : List Bool} {k : Nat} (h : k < Bs.length) (e : Bs[k] = false) : pks W Bs (k + 1) = pks W Bs k := by
  rw [pks, if_neg]; rw [List.getD_eq_getElem?_getD, List.getElem?_eq_getElem h]; simp [e]
theorem pks_len (W : Nat) (Bs : List Bool) : ∀ k, (pks W Bs k).length ≤ k
  | 0 => Nat.le_refl _
  | k + 1 => by
    have := pks_len W Bs k
    rw [pks]; split
    · rw [List.length_append, List.length_singleton]; omega
    · omega
theorem pks_two (W : Nat) (Bs : List Bool) : ∀ k, ∀ r ∈ pks W Bs k, r.length = 2
  | 0 => fun r h => by simp [pks] at h
  | k + 1 => fun r h => by
    rw [pks] at h
    split at h
    · rcases List.mem_append.1 h with h | h
      · exact pks_two W Bs k r h
      · rw [List.mem_singleton.1 h]; rfl
    · exact pks_two W Bs k r h
/-- what PeakCells answers -/
def pkT (wd hg : Int) (l : List Int) (r : Int) : List (List Int) := if nbB wd hg l r = true then pks wd.toNat (filtL peakP wd.toNat hg.toNat r.toNat l) l.length else []
theorem pkT_yes {wd hg : Int} {l : List Int} {r : Int} (h : nbB wd hg l r = true) : pkT wd hg l r = pks wd.toNat (filtL peakP wd.toNat hg.toNat r.toNat l) l.length := if_pos h
theorem pkT_no {wd hg : Int} {l : List Int} {r : Int} (h : nbB wd hg l r = false) : pkT wd hg l r = [] := if_neg (by rw [h]; simp)
theorem pkT_len (wd hg : Int) (l : List Int) (r : Int) : (pkT wd hg l r).length ≤ 64 := by
  cases h : nbB wd hg l r with
  | false => rw [pkT_no h]; simp
  | true => rw [pkT_yes h]; have := pks_len wd.toNat (filtL peakP wd.toNat hg.toNat r.toNat l) l.length; have := good_le (nbB_iff.1 h).1; omega
theorem pkT_two (wd hg : Int) (l : List Int) (r : Int) : ∀ s ∈ pkT wd hg l r, s.length = 2 := by
  cases h : nbB wd hg l r with
  | false => rw [pkT_no h]; simp
  | true => rw [pkT_yes h]; exact pks_two _ _ _
/-- a table in memory of the call's own, and a bool -/
def TabPost (R : List (List Int)) (b : Bool) (w : World) (e : Ending) (w' : World) : Prop :=
  ∃ a c E, e = .returned (.tuple #[.slice a R.length c, .bool b]) ∧ Tabl w' w.heap.size w'.heap.size a E R ∧ Below w.heap.size w w'
theorem own_ne_row {w : World} {g base e n : Nat} {t : TypeId} {vs xs : List Value} {v : Value} (h : w.ownsRow base e 1 v n xs) (hr : Row w g t vs) (hne : e ≠ t) : v.ownBlock ≠ some g := by
  obtain ⟨c, h1, _⟩ := hr
  rcases h.2 with ⟨rfl, _⟩ | ⟨g', cap, cur, rfl, _, hh, _⟩
  · simp [Value.ownBlock]
  · intro he
    have : g' = g := by simpa [Value.ownBlock] using he
    subst this
    rw [h1] at hh
    injection hh with hh
    injection hh with _ ht
    exact hne ht.symm
theorem below_drewn {B : Nat} {w W : World} (h : Below B w W) : Below B w W.drew := h.trans ⟨rfl, rfl, rfl, Nat.le_refl _, fun _ _ => rfl⟩
/-- two blocks laid for a row of two and its slice -/
theorem two_laid (w : World) (x y : Int) (p : Obj) : Below w.heap.size w ((w.alloc (.cells #[.int .i64 x, .int .i64 y] 3)).alloc p) ∧ ((w.alloc (.cells #[.int .i64 x, .int .i64 y] 3)).alloc p).heap[w.heap.size]? = some (.cells #[.int .i64 x, .int .i64 y] 3 (0, 0)) :=
  ⟨(below_all _ _).alloc (by simp) _, (Below.heap_alloc _ _ _ (by simp)).trans (heap_alloc_new w _)⟩
/-- what the loops that gather rows know of a world -/
structure PkAt (w : World) (wd hg : Int) (a : Option Addr) (l : List Int) (c : Nat) (E : List (Nat × Nat)) (R : List (List Int)) (out : Value) (wr : World) : Prop where
  x : Box wr w.heap.size 26 (.int .i64 wd) (.int .i64 hg) (.slice a l.length c)
  o : wr.ownsRow w.heap.size 24 1 out R.length (tabV E R)
  t : Tb wr w.heap.size wr.heap.size E R
  b : Below w.heap.size w wr
section
variable {w wr w1 : World} {wd hg : Int} {a : Option Addr} {l : List Int} {c : Nat} {E : List (Nat × Nat)} {R : List (List Int)} {out out' : Value}
theorem PkAt.step (h : PkAt w wd hg a l c E R out wr) (hb : Below wr.heap.size wr w1) : PkAt w wd hg a l c E R out w1 :=
  ⟨h.x.below hb, own_keeps h.o hb, (h.t.below hb (Nat.le_refl _)).more (Nat.le_refl _) hb.size, below_then h.b hb⟩
theorem PkAt.put {H : Nat} {x y : Int} {w2 : World} (h : PkAt w wd hg a l c E R out wr) (b2 : Below wr.heap.size wr w2) (hz : H = wr.heap.size) (hc : w2.heap[H]? = some (.cells #[.int .i64 x, .int .i64 y] 3 (0, 0))) (hg1 : w2.grownBy w1 out.ownBlock)
    (ho : w1.ownsRow w.heap.size 24 1 out' (R.length + 1) (tabV E R ++ [.slice (some ⟨H, 0, none⟩) 2 2])) : PkAt w wd hg a l c (E ++ [(H, 2)]) (R ++ [[x, y]]) out' w1 := by
  subst hz
  have h2 := h.step b2
  have hr : Row w2 wr.heap.size 3 (iv [x, y]) := by
    refine ⟨_, hc, fun k hk => ?_⟩
    match k, hk with
    | 0, _ => rfl
    | 1, _ => rfl
  have hl2 := hr.lt
  have t3 := (h.t.below b2 (Nat.le_refl _)).snoc (c := 2) h.b.size (Nat.le_refl _) hr
  have t4 : Tb w1 w.heap.size (wr.heap.size + 1) (E ++ [(wr.heap.size, 2)]) (R ++ [[x, y]]) := t3.keep fun g _ _ h3 ⟨vs, h4⟩ => hg1.block g h3 (Ne.symm (own_ne_row h2.o h4 (by decide)))
  refine ⟨h2.x.grown hg1 (Ne.symm (own_ne_box h2.o h2.x (by decide))), ?_, t4.more (Nat.le_refl _) ?_, h2.b.grown hg1 h2.b.size (fun k hk => (h2.o.lt k hk).1)⟩
  · rw [tabV_snoc h.t.len, List.length_append]; exact ho
  · have := hg1.size; omega
theorem PkAt.post {a' : Option Addr} {b : Bool} (h : PkAt w wd hg a l c E R out wr) : TabPost R b w (.returned (.tuple #[out, .bool b])) wr := by
  obtain ⟨a1, c1, rfl, ht⟩ := tabl_of h.o h.t (Nat.le_refl _)
  exact ⟨a1, c1, E, rfl, ht, h.b⟩
end
theorem ent_peak : Entered 69 := enters_of Try.func69 (by kernel_rfl) rfl
theorem peak_rule (w : World) : NbRule (fun x => Value.bool x) 69 #[] peakP w := by
  intro W z vs a c h1 h2 h3 hb
  show Calls Try.prog 69 #[.int .i64 z, .slice a vs.length c] W fun e w' => e = .returned (.bool (peakP z vs)) ∧ Below W.heap.size W w'
  exact (isPeak_is z a vs c W.heap.size W h3 h1).mono fun e w' ⟨h4, h5⟩ => ⟨h4, by subst h5; exact Below.refl _ _⟩
set_option maxRecDepth 100000 in
set_option maxHeartbeats 4000000 in
theorem implPeak_any (wd hg : Int) (a : Option Addr) (l : List Int) (c : Nat) (r : Int) (w : World) (hl : Ints .i64 w w.heap.size a l) (hn : l.length ≤ 1048576) (hcap : l.length ≤ c) :
    Calls Try.prog 29 #[.agg #[.int .i64 wd, .int .i64 hg, .slice a l.length c], .int .i64 r] w (TabPost (pkT wd hg l r) (nbB wd hg l r) w) := by
  have I0 := ints_alloc hl (.cells #[.int .i64 wd, .int .i64 hg, .slice a l.length c] 26)
  have K0 := Lib.hid (Box.new w 26 (.int .i64 wd) (.int .i64 hg) (.slice a l.length c))
  cases hb : nbB wd hg l r with
  | false =>
    rw [pkT_no hb]
    have HE := Lib.hid (eachB_no wd hg a l c r (.func (.func 69) #[] #[]) _ I0 hn hb)
    clear hl hb I0
    go_enter Try.func29, Try.ntmps29
    go_wp2_with fail
    refine HE.out.mono ?_
    rintro e w1 ⟨rfl, b1⟩
    have B1 := Lib.hid (below_then (below_all _ _) b1)
    clear b1 HE
    go_wp2
    go_ret2
    exact ⟨_, _, [], rfl, ⟨Tb.nil, .inl rfl⟩, B1.out.alloc B1.out.size _⟩
  | true =>
    rw [pkT_yes hb]
    obtain ⟨hgd, hrd⟩ := nbB_iff.1 hb
    have hrb := radB_iff.1 hrd
    obtain ⟨W, H, rfl, rfl, n1, n2, n3, n4, hLL⟩ := good_nat hgd
    obtain ⟨rn, hrn⟩ : ∃ q : Nat, (q : Int) = r := ⟨r.toNat, by omega⟩
    have hrt : r.toNat = rn := by omega
    have hpos := (good_le hgd).1
    have hn64 := (good_le hgd).2
    obtain ⟨b, o, rfl⟩ : ∃ b o, a = some ⟨b, o, none⟩ := by
      obtain ⟨b, o, h, _⟩ := hl.at_ hpos
      exact ⟨b, o, h⟩
    have hFL := filtL_len peakP W H rn l
    have HE := Lib.hid (eachB_yes W H b o c rn 69 l r #[] peakP _ hrn hgd (by omega) hcap I0 ent_peak (peak_rule _))
    simp only [Int.toNat_natCast]
    rw [hrt]
    have HFL := Lib.hid hFL
    have HMA := Lib.hid (fun k h => madeB_all (filtL peakP W H rn l) l.length (by rw [hFL]; exact Nat.le_refl _) k h)
    obtain ⟨i0, hi0', hz0, hz1, hz2⟩ := info_parts infoRow
    clear hl hb hgd hrd hrb hrn hrt hLL hpos hFL I0
    generalize filtL peakP W H rn l = L at *
    go_enter Try.func29, Try.ntmps29
    go_wp2_with fail
    refine HE.out.mono ?_
    rintro e w1 ⟨g', hg', rfl, hrow, b1⟩
    have K1 := K0.out.below b1
    have B1 := below_then (below_all _ _) b1
    have hlt1 := hrow.lt
    have O0 := World.ownsRow_made (base := w.heap.size) (e := 24) (size := 1) w1 #[] 0 B1.size (by simp) rfl
    have P0 : PkAt w W H (some ⟨b, o, none⟩) l c [] (pks W L 0) (.slice (some ⟨w1.heap.size, 0, none⟩) 0 0) (w1.alloc (.cells #[] 24)) :=
      ⟨K1.alloc _, O0, Tb.nil, B1.alloc B1.size _⟩
    have HP0 := Lib.hid P0
    have HROW := Lib.hid (hrow.of_block (Below.heap_alloc w1 (.cells #[] 24) g' hrow.lt))
    clear hrow b1 K1 K0 B1 O0 P0 HE
    go_wp2
    generalize w1.alloc (.cells #[] 24) = W1 at *
    go_loopw [8, 23] (fun out i wr => ∃ k E, k ≤ l.length ∧ i = .int .i64 (k : Nat) ∧ PkAt w W H (some ⟨b, o, none⟩) l c E (pks W L k) out wr ∧ wr.rowIs g' 4 l.length (madeB L l.length)) (fun _ i _ => l.length - (intOf i).toNat)
    case atStart => exact ⟨0, [], Nat.zero_le _, rfl, HP0.out, HROW.out⟩
    case round =>
      obtain ⟨k, E, hk, rfl, hP, hrow⟩ := hrel
      clear HP0 HROW
      have HP := Lib.hid hP
      have HROW := Lib.hid hrow
      by_cases hlt : k < l.length
      · have hi : (k : Int) < (l.length : Int) := by omega
        have hi0 : (0 : Int) ≤ (k : Int) := by omega
        have hkL : k < L.length := by rw [HFL.out]; exact hlt
        have hc := hrow.cell hlt
        rw [HMA.out k hkL] at hc
        obtain ⟨k0, k1, k2⟩ := hP.x.cells
        cases hbk : L[k] with
        | false =>
          rw [hbk] at hc
          have HV := Lib.hid (pks_not (W := W) hkL hbk)
          clear hP hrow hbk
          go_wp2
          go_roundw
          case rel => exact ⟨k + 1, E, by omega, by go_num, by rw [HV.out]; exact HP.out, HROW.out⟩
          case measure => simp [intOf]; omega
        | true =>
          rw [hbk] at hc
          have HV := Lib.hid (pks_yes (W := W) hkL hbk)
          have hpl := pks_len W L k
          have hx64 : k % W ≤ 64 := by have := Nat.mod_le k W; omega
          have hy64 : k / W ≤ 64 := by have := Nat.div_le_self k W; omega
          obtain ⟨xi, hxi⟩ : ∃ q : Int, ((k % W : Nat) : Int) = q := ⟨_, rfl⟩
          obtain ⟨yi, hyi⟩ : ∃ q : Int, ((k / W : Nat) : Int) = q := ⟨_, rfl⟩
          have m1 : Int.tmod (k : Int) (W : Int) = xi := by rw [← hxi]; exact (Int.ofNat_tmod k W).symm
          have m2 : Int.tdiv (k : Int) (W : Int) = yi := by rw [← hyi]; exact (Int.ofNat_tdiv k W).symm
          have m3 : IntKind.i64.wrap xi = xi := IntWalk.i64_in _ (by rw [← hxi]; generalize k % W = q at *; omega)
          have m4 : IntKind.i64.wrap yi = yi := IntWalk.i64_in _ (by rw [← hyi]; generalize k / W = q at *; omega)
          have m5 : ¬ (W : Int) = 0 := by omega
          have m6 : ¬ W = 0 := by omega
          rw [hxi, hyi] at HV
          obtain ⟨b2, hc2⟩ := two_laid wr xi yi (.cells #[.slice (some ⟨wr.heap.size, 0, none⟩) 2 2] 24)
          have HB2 := Lib.hid (below_drewn b2)
          have HC2 := Lib.hid hc2
          have HON := Lib.hid (own_ne_rows hP.o hrow (by decide))
          have hgl := hrow.lt
          have hbs := hP.b.size
          clear hP hrow hbk hxi hyi hx64 hy64 b2 hc2
          generalize pks W L k = R at *
          go_wp2_with fail
          go_region_law (first
            | (refine step_append_lies _ (by rfl) _ _ _ (by rfl) w.heap.size 24 i0 _ 1 24 Try.underlying35 hi0' hz0 hz1 hz2 rfl (by omega) u8 R.length (tabV E R) (by rfl) (own_keeps HP.out.o HB2.out) ⟨wr.heap.size + 1, 0, none⟩ 1 1 [.slice (some ⟨wr.heap.size, 0, none⟩) 2 2] (by rfl) (by rfl) (World.news_of_block (by first | exact heap_alloc_new _ _ | (have := heap_alloc_new (wr.alloc (.cells #[.int .i64 xi, .int .i64 yi] 3)) (.cells #[.slice (some ⟨wr.heap.size, 0, none⟩) 2 2] 24); rw [World.size_alloc] at this; exact this))) (by simp [Value.oneCell']) (by omega) (by unfold maxLen; omega) (by omega) (Nat.le_trans hbs HB2.out.size) (wr.heap.size + 1 + 1) (by simp [World.drew]) ?_; intro gg cap w8 hown8 hgrow8 hat8 hlt8; have HP8 := Lib.hid (HP.out.put HB2.out rfl HC2.out hgrow8 hown8); have HR8 := Lib.hid (HROW.out.of_block ((hgrow8.block g' (Nat.lt_of_lt_of_le hgl HB2.out.size) (Ne.symm HON.out)).trans (HB2.out.block g' hgl))); clear hown8 hgrow8 hat8 hlt8))
          all_goals
            go_wp2
            go_roundw
            case rel => exact ⟨k + 1, _, by omega, by go_num, by rw [HV.out]; exact HP8.out, HR8.out⟩
            case measure => simp [intOf]; omega
      · obtain rfl : k = l.length := by omega
        clear hP hrow
        generalize pks W L l.length = R at *
        go_wp2
        go_ret2
        exact HP.out.post (a' := none)
end Go.Proofs.Ytdkffljnfemngaa
namespace Go.Proofs.Ytdkffljnfemngaa
set_option linter.unusedVariables false
theorem rdiv_bounds {n d lo hi : Int} (hd : 1 ≤ d) (h1 : lo * d ≤ n) (h2 : n ≤ hi * d) : lo ≤ rdiv n d ∧ rdiv n d ≤ hi := by
  have hs : (0 : Int) < 2 * d := by omega
  have e1 : lo * (2 * d) = 2 * (lo * d) := by rw [Int.mul_left_comm]
  have e2 : (hi + 1) * (2 * d) = 2 * (hi * d) + 2 * d := by rw [Int.add_mul, Int.mul_left_comm, Int.one_mul]
  have e3 : (-hi) * (2 * d) = -(2 * (hi * d)) := by rw [Int.neg_mul, Int.mul_left_comm]
  have e4 : (-lo + 1) * (2 * d) = -(2 * (lo * d)) + 2 * d := by rw [Int.add_mul, Int.neg_mul, Int.mul_left_comm, Int.one_mul]
  by_cases h : n < 0
  · rw [rdiv_neg h]
    have a : -hi ≤ (-2 * n + d) / (2 * d) := (Int.le_ediv_iff_mul_le hs).2 (by rw [e3]; omega)
    have b : (-2 * n + d) / (2 * d) < -lo + 1 := (Int.ediv_lt_iff_lt_mul hs).2 (by rw [e4]; omega)
    omega
  · rw [rdiv_pos h]
    have a : lo ≤ (2 * n + d) / (2 * d) := (Int.le_ediv_iff_mul_le hs).2 (by rw [e1]; omega)
    have b : (2 * n + d) / (2 * d) < hi + 1 := (Int.ediv_lt_iff_lt_mul hs).2 (by rw [e2]; omega)
    omega
theorem mean_between {vs : List Int} (h : vs ≠ []) : loV vs ≤ meanF vs ∧ meanF vs ≤ hiV vs := by
  have hn : 0 < vs.length := List.length_pos_iff.2 h
  have := tot_between vs
  exact rdiv_bounds (by omega) this.1 this.2
theorem med_between {vs : List Int} (h : vs ≠ []) : loV vs ≤ medF vs ∧ medF vs ≤ hiV vs := by
  have hn : 0 < vs.length := List.length_pos_iff.2 h
  have hl := insAll_len vs
  have hk : (vs.length - 1) / 2 < (insAll vs).length := by omega
  have hm : medF vs ∈ vs := by unfold medF; rw [getD_at hk]; exact insAll_mem.1 (List.getElem_mem hk)
  exact ⟨loV_le hm, hiV_ge hm⟩
theorem gap_order (c : Int) (vs : List Int) : gapC loV c vs ≤ gapC medF c vs ∧ gapC medF c vs ≤ gapC hiV c vs ∧ gapC loV c vs ≤ gapC meanF c vs ∧ gapC meanF c vs ≤ gapC hiV c vs := by
  by_cases h : vs = []
  · subst h; simp only [gapC_none]; omega
  · simp only [gapC_some h]
    have h1 := med_between h
    have h2 := mean_between h
    omega
theorem gap_in {c z : Int} {vs : List Int} (h : z ∈ vs) : gapC loV c vs ≤ z ∧ z ≤ gapC hiV c vs := by
  have hn : vs ≠ [] := by intro e; rw [e] at h; simp at h
  simp only [gapC_some hn]
  exact ⟨loV_le h, hiV_ge h⟩
theorem rW_filt (F G : List Int → Int) (wd hg : Int) (l : List Int) (r : Int) : rW (filtR F wd hg l r) = rW (filtR G wd hg l r) ∧ rH (filtR F wd hg l r) = rH (filtR G wd hg l r) ∧ rB (filtR F wd hg l r) = nbB wd hg l r ∧ (rL (filtR F wd hg l r)).length = (rL (filtR G wd hg l r)).length := by
  cases h : nbB wd hg l r with
  | false => rw [filtR_no h, filtR_no h]; exact ⟨rfl, rfl, rfl, rfl⟩
  | true => rw [filtR_yes h, filtR_yes h]; exact ⟨rfl, rfl, rfl, by simp only [rL, filtL_len]⟩
/-- the cells of the four filters, and the field's own -/
theorem filt_order {wd hg : Int} {l : List Int} {r : Int} (h : nbB wd hg l r = true) (k : Nat) (hk : k < l.length) :
    ∃ (h1 : k < (rL (filtR hiV wd hg l r)).length) (h2 : k < (rL (filtR loV wd hg l r)).length) (h3 : k < (rL (filtR meanF wd hg l r)).length) (h4 : k < (rL (filtR medF wd hg l r)).length),
      (rL (filtR loV wd hg l r))[k] ≤ (rL (filtR medF wd hg l r))[k] ∧ (rL (filtR medF wd hg l r))[k] ≤ (rL (filtR hiV wd hg l r))[k] ∧ (rL (filtR loV wd hg l r))[k] ≤ (rL (filtR meanF wd hg l r))[k] ∧ (rL (filtR meanF wd hg l r))[k] ≤ (rL (filtR hiV wd hg l r))[k] ∧
      (¬ l[k] = -9999 → (rL (filtR loV wd hg l r))[k] ≤ l[k] ∧ l[k] ≤ (rL (filtR hiV wd hg l r))[k]) := by
  have get : ∀ F, ∃ hF : k < (rL (filtR F wd hg l r)).length, (rL (filtR F wd hg l r))[k] = gapC F (l.getD k 0) (nbv l wd.toNat hg.toNat (k % wd.toNat) (k / wd.toNat) r.toNat) := by
    intro F
    rw [filtR_yes h]
    have h2 : k < (filtL (gapC F) wd.toNat hg.toNat r.toNat l).length := by rw [filtL_len]; exact hk
    exact ⟨h2, filtL_get (gapC F) _ _ _ _ k h2⟩
  obtain ⟨h1, e1⟩ := get hiV
  obtain ⟨h2, e2⟩ := get loV
  obtain ⟨h3, e3⟩ := get meanF
  obtain ⟨h4, e4⟩ := get medF
  refine ⟨h1, h2, h3, h4, ?_⟩
  rw [e1, e2, e3, e4]
  obtain ⟨o1, o2, o3, o4⟩ := gap_order (l.getD k 0) (nbv l wd.toNat hg.toNat (k % wd.toNat) (k / wd.toNat) r.toNat)
  refine ⟨o1, o2, o3, o4, fun hz => ?_⟩
  have hgd := (nbB_iff.1 h).1
  have hs := shapeB_iff.1 (good_shape hgd)
  have hlen := good_len hgd
  have hL : l.length = wd.toNat * hg.toNat := by
    have e5 : (wd.toNat : Int) = wd := by omega
    have e6 : (hg.toNat : Int) = hg := by omega
    rw [← e5, ← e6, ← Int.natCast_mul] at hlen
    omega
  exact gap_in (nbv_self hL hk hz)
end Go.Proofs.Ytdkffljnfemngaa
namespace Go.Proofs.Ytdkffljnfemngaa
open Go.RowKit
set_option linter.unusedVariables false
set_option linter.unusedSimpArgs false
theorem FRetC.no {w : World} {e : Ending} {w' : World} (h : FRetC none w e w') : ∃ a c, e = .returned (.tuple #[.agg #[.int .i64 0, .int .i64 0, .slice a 0 c], .bool false]) ∧ Below w.heap.size w w' := by
  obtain ⟨a, c, _, h1, _, h3⟩ := h; exact ⟨a, c, h1, h3⟩
theorem FRetC.yes {wd hg : Int} {l : List Int} {w : World} {e : Ending} {w' : World} (h : FRetC (some (wd, hg, l)) w e w') : ∃ a c, l.length ≤ c ∧ e = .returned (.tuple #[.agg #[.int .i64 wd, .int .i64 hg, .slice a l.length c], .bool true]) ∧ OwnI w' w.heap.size a l ∧ Below w.heap.size w w' := h
theorem FRet.no {w : World} {e : Ending} {w' : World} (h : FRet none w e w') : ∃ a c, e = .returned (.tuple #[.agg #[.int .i64 0, .int .i64 0, .slice a 0 c], .bool false]) ∧ Below w.heap.size w w' := by
  obtain ⟨a, c, h1, _, h3⟩ := h; exact ⟨a, c, h1, h3⟩
theorem FRet.yes {wd hg : Int} {l : List Int} {w : World} {e : Ending} {w' : World} (h : FRet (some (wd, hg, l)) w e w') : ∃ a c, e = .returned (.tuple #[.agg #[.int .i64 wd, .int .i64 hg, .slice a l.length c], .bool true]) ∧ OwnI w' w.heap.size a l ∧ Below w.heap.size w w' := h
/-- the means of a field -/
def meanL (wd hg : Int) (l : List Int) (r : Int) : List Int := filtL (gapC meanF) wd.toNat hg.toNat r.toNat l
theorem meanL_len (wd hg : Int) (l : List Int) (r : Int) : (meanL wd hg l r).length = l.length := filtL_len _ _ _ _ _
theorem meanL_good {wd hg : Int} {l : List Int} (h : goodB wd hg l = true) (r : Int) : goodB wd hg (meanL wd hg l r) = true := filt_good fit_mean h _
theorem meanR_yes {wd hg : Int} {l : List Int} {r : Int} (h : nbB wd hg l r = true) : filtR meanF wd hg l r = some (wd, hg, meanL wd hg l r) := filtR_yes h
/-- what FillByMean answers -/
def fbmR (wd hg : Int) (l : List Int) (r : Int) : Option (Int × Int × List Int) := if nbB wd hg l r = true then some (wd, hg, zipR flF l (meanL wd hg l r)) else none
theorem fbmR_yes {wd hg : Int} {l : List Int} {r : Int} (h : nbB wd hg l r = true) : fbmR wd hg l r = some (wd, hg, zipR flF l (meanL wd hg l r)) := if_pos h
theorem fbmR_no {wd hg : Int} {l : List Int} {r : Int} (h : nbB wd hg l r = false) : fbmR wd hg l r = none := if_neg (by rw [h]; simp)
theorem fbmR_len (wd hg : Int) (l : List Int) (r : Int) : (rL (fbmR wd hg l r)).length ≤ 64 := by
  cases h : nbB wd hg l r with
  | false => rw [fbmR_no h]; simp [rL]
  | true => rw [fbmR_yes h]; have := good_le (nbB_iff.1 h).1; simp only [rL]; rw [zipR_len flF (meanL_len wd hg l r).symm]; omega
theorem fbm_fill {wd hg : Int} {l : List Int} {r : Int} (h : nbB wd hg l r = true) : fillR wd hg l wd hg (meanL wd hg l r) = some (wd, hg, zipR flF l (meanL wd hg l r)) :=
  comb_cells flF_cell (same_yes (nbB_iff.1 h).1 (meanL_good (nbB_iff.1 h).1 r))
/-- the same, beginning with the means -/
def flM (m x : Int) : Int := flF x m
theorem flM_all (l M : List Int) : zipR flM M l = zipR flF l M := by unfold zipR flM; exact List.zipWith_comm
set_option maxRecDepth 100000 in
set_option maxHeartbeats 4000000 in
theorem implFBM_any (wd hg : Int) (a : Option Addr) (l : List Int) (c : Nat) (r : Int) (w : World) (hl : Ints .i64 w w.heap.size a l) (hn : l.length ≤ 1048576) (hcap : l.length ≤ c) :
    Calls Try.prog 33 #[.agg #[.int .i64 wd, .int .i64 hg, .slice a l.length c], .int .i64 r] w (FRet (fbmR wd hg l r) w) := by
  have F0 := Lib.hid (Fr1.new (wd0 := wd) (hg0 := hg) (c0 := c) hl)
  have HC := implMean_c wd hg a l c r _ F0.out.i0 hn hcap
  cases hb : nbB wd hg l r with
  | false =>
    rw [filtR_no hb] at HC
    rw [fbmR_no hb]
    have HC := Lib.hid (HC.mono fun _ _ h => h.no)
    clear hl hb
    go_enter Try.func33, Try.ntmps33
    go_wp2_with fail
    refine HC.out.mono ?_
    rintro e w1 ⟨a1, c1, rfl, b1⟩
    have F1 := Lib.hid (F0.out.step b1)
    have B1 := Lib.hid F1.out.b
    have B2 := Lib.hid (B1.out.alloc B1.out.size (.cells #[.int .i64 0, .int .i64 0, .slice a1 0 c1] 26))
    obtain ⟨r0, r1, r2⟩ := F1.out.r.cells
    have g0 := F1.out.r.frozen 0
    have g1 := F1.out.r.frozen 1
    have g2 := F1.out.r.frozen 2
    have zz := F1.out.r.lt
    have zz2 : ¬ w.heap.size + 1 = w1.heap.size := by omega
    clear b1 HC F0 F1
    go_wp2
    refine bodyPost_ret (v := .tuple #[.agg #[.int .i64 0, .int .i64 0, .slice none 0 0], .bool false]) (by simp [results, Try.results33, go_sem, r0, r1, r2, zz, zz2]) rfl ⟨none, 0, rfl, OwnI.none_, ?_⟩
    first | exact (((B1.out.setCell (p := ⟨w.heap.size + 1, 0, none⟩) (by show w.heap.size ≤ w.heap.size + 1; omega) _).setCell (p := ⟨w.heap.size + 1, 1, none⟩) (by show w.heap.size ≤ w.heap.size + 1; omega) _).setCell (p := ⟨w.heap.size + 1, 2, none⟩) (by show w.heap.size ≤ w.heap.size + 1; omega) _).alloc (by simp [World.setCell]; omega) _ | exact ((B2.out.setCell (p := ⟨w.heap.size + 1, 0, none⟩) (by show w.heap.size ≤ w.heap.size + 1; omega) _).setCell (p := ⟨w.heap.size + 1, 1, none⟩) (by show w.heap.size ≤ w.heap.size + 1; omega) _).setCell (p := ⟨w.heap.size + 1, 2, none⟩) (by show w.heap.size ≤ w.heap.size + 1; omega) _
  | true =>
    rw [meanR_yes hb] at HC
    rw [fbmR_yes hb]
    have HC := Lib.hid (HC.mono fun _ _ h => h.yes)
    have hml := meanL_len wd hg l r
    have hf := fbm_fill hb
    have hle := good_le (nbB_iff.1 hb).1
    generalize meanL wd hg l r = M at *
    have HFI := Lib.hid (fun W a1 c1 h1 h2 => by have := implFill_any wd hg a l c wd hg a1 M c1 W h1 h2 hn (by omega); rw [hf] at this; exact this.mono fun _ _ h => h.yes)
    generalize zipR flF l M = Z at *
    have HML := Lib.hid hml
    clear hl hb hf hml
    go_enter Try.func33, Try.ntmps33
    go_wp2_with fail
    refine HC.out.mono ?_
    rintro e w1 ⟨a1, c1, h1, rfl, o1, b1⟩
    have F1 := Lib.hid (F0.out.step b1)
    obtain ⟨W1, hW1⟩ : ∃ x, w1.alloc (.cells #[.int .i64 wd, .int .i64 hg, .slice a1 M.length c1] 26) = x := ⟨_, rfl⟩
    have aW1 : Below w1.heap.size w1 W1 := by rw [← hW1]; exact below_all _ _
    have BW1 : Box W1 w1.heap.size 26 (.int .i64 wd) (.int .i64 hg) (.slice a1 M.length c1) := by rw [← hW1]; exact Box.new _ _ _ _ _
    have F2 := Lib.hid (F1.out.step aW1)
    have I2 := Lib.hid (ints_below o1.ints aW1)
    obtain ⟨k0, k1, k2⟩ := F1.out.k0.cells
    have zz := F1.out.r.lt
    have y1 : w.heap.size < w1.heap.size := by omega
    have y2 : ¬ w.heap.size = w1.heap.size := by omega
    have HW1 := Lib.hid hW1
    clear b1 HC F0 F1 hW1 BW1 aW1 o1
    go_wp2_with fail
    rw [HW1.out]
    refine (HFI.out _ _ _ F2.out.i0 I2.out).mono ?_
    rintro e w3 ⟨a3, c3, rfl, o3, b3⟩
    have O3 := Lib.hid (o3.more (C := w.heap.size + 1 + 1) (by have := F2.out.r.lt; omega))
    have F3 := Lib.hid (F2.out.step b3)
    have B3 := Lib.hid F3.out.b
    obtain ⟨r0, r1, r2⟩ := F3.out.r.cells
    have g0 := F3.out.r.frozen 0
    have g1 := F3.out.r.frozen 1
    have g2 := F3.out.r.frozen 2
    clear o3 b3 F2 F3 k0 k1 k2 HW1 HFI
    go_wp2
    refine bodyPost_ret (v := .tuple #[.agg #[.int .i64 wd, .int .i64 hg, .slice a3 Z.length c3], .bool true]) (by simp [results, Try.results33, go_sem, r0, r1, r2]) rfl ⟨a3, c3, rfl, ?_, ?_⟩
    · exact (ownI_set (ownI_set (ownI_set O3.out (by show w.heap.size + 1 < _; omega) _) (by show w.heap.size + 1 < _; omega) _) (by show w.heap.size + 1 < _; omega) _).more (by omega)
    · exact ((B3.out.setCell (by show w.heap.size ≤ w.heap.size + 1; omega) _).setCell (by show w.heap.size ≤ w.heap.size + 1; omega) _).setCell (by show w.heap.size ≤ w.heap.size + 1; omega) _
set_option maxRecDepth 100000 in
set_option maxHeartbeats 4000000 in
theorem specFBM_any (wd hg : Int) (a : Option Addr) (l : List Int) (c : Nat) (r : Int) (w : World) (hl : Ints .i64 w w.heap.size a l) (hn : l.length ≤ 1048576) :
    Calls Try.prog 34 #[.agg #[.int .i64 wd, .int .i64 hg, .slice a l.length c], .int .i64 r] w (FRet (fbmR wd hg l r) w) := by
  have F0 := Lib.hid (Fr1.new (wd0 := wd) (hg0 := hg) (c0 := c) hl)
  have HC := specMean_any wd hg a l c r _ F0.out.i0 hn
  cases hb : nbB wd hg l r with
  | false =>
    rw [filtR_no hb] at HC
    rw [fbmR_no hb]
    have HC := Lib.hid (HC.mono fun _ _ h => h.no)
    clear hl hb
    go_enter Try.func34, Try.ntmps34
    go_wp2_with fail
    refine HC.out.mono ?_
    rintro e w1 ⟨a1, c1, rfl, b1⟩
    have F1 := Lib.hid (F0.out.step b1)
    have B1 := Lib.hid F1.out.b
    have B2 := Lib.hid (B1.out.alloc B1.out.size (.cells #[.int .i64 0, .int .i64 0, .slice a1 0 c1] 26))
    obtain ⟨r0, r1, r2⟩ := F1.out.r.cells
    have g0 := F1.out.r.frozen 0
    have g1 := F1.out.r.frozen 1
    have g2 := F1.out.r.frozen 2
    have zz := F1.out.r.lt
    have zz2 : ¬ w.heap.size + 1 = w1.heap.size := by omega
    clear b1 HC F0 F1
    go_wp2
    refine bodyPost_ret (v := .tuple #[.agg #[.int .i64 0, .int .i64 0, .slice none 0 0], .bool false]) (by simp [results, Try.results34, go_sem, r0, r1, r2, zz, zz2]) rfl ⟨none, 0, rfl, OwnI.none_, ?_⟩
    first | exact (((B1.out.setCell (p := ⟨w.heap.size + 1, 0, none⟩) (by show w.heap.size ≤ w.heap.size + 1; omega) _).setCell (p := ⟨w.heap.size + 1, 1, none⟩) (by show w.heap.size ≤ w.heap.size + 1; omega) _).setCell (p := ⟨w.heap.size + 1, 2, none⟩) (by show w.heap.size ≤ w.heap.size + 1; omega) _).alloc (by simp [World.setCell]; omega) _ | exact ((B2.out.setCell (p := ⟨w.heap.size + 1, 0, none⟩) (by show w.heap.size ≤ w.heap.size + 1; omega) _).setCell (p := ⟨w.heap.size + 1, 1, none⟩) (by show w.heap.size ≤ w.heap.size + 1; omega) _).setCell (p := ⟨w.heap.size + 1, 2, none⟩) (by show w.heap.size ≤ w.heap.size + 1; omega) _
  | true =>
    rw [meanR_yes hb] at HC
    rw [fbmR_yes hb]
    have HC := Lib.hid (HC.mono fun _ _ h => h.yes)
    have hml := meanL_len wd hg l r
    have hle := good_le (nbB_iff.1 hb).1
    generalize meanL wd hg l r = M at *
    rw [← flM_all]
    clear hl hb
    go_enter Try.func34, Try.ntmps34
    go_wp2_with fail
    refine HC.out.mono ?_
    rintro e w2 ⟨a2, c2, rfl, o2, b2⟩
    have F2 := Lib.hid (F0.out.step b2)
    have z1 := F2.out.r.lt
    obtain ⟨g, hg1, hg2⟩ := o2
    have hgb : w.heap.size + 2 ≤ g := by simpa using hg1
    rcases hg2 with hnil | ⟨rfl, hrow⟩
    · rw [hnil] at hml; simp at hml; omega
    · have HROW := Lib.hid hrow
      have hglt := hrow.lt
      rw [hml]
      clear b2 hrow F0 HC
      obtain ⟨k0, k1, k2⟩ := F2.out.k0.cells
      have hne1 : ¬ w2.heap.size = g := by omega
      have hne2 : ¬ g = w2.heap.size := by omega
      have X0 := Box.new w2 26 (.int .i64 wd) (.int .i64 hg) (.slice (some ⟨g, 0, none⟩) l.length c2)
      have F3 := F2.out.step (below_all w2 (.cells #[.int .i64 wd, .int .i64 hg, .slice (some ⟨g, 0, none⟩) l.length c2] 26))
      have R3 := HROW.out.alloc (.cells #[.int .i64 wd, .int .i64 hg, .slice (some ⟨g, 0, none⟩) l.length c2] 26)
      go_wp2
      clear k0 k1 k2
      obtain ⟨W, hW⟩ : ∃ W, w2.alloc (.cells #[.int .i64 wd, .int .i64 hg, .slice (some ⟨g, 0, none⟩) l.length c2] 26) = W := ⟨_, rfl⟩
      obtain ⟨q, hq⟩ : ∃ q, w2.heap.size = q := ⟨_, rfl⟩
      rw [hW] at X0 F3 R3 ⊢
      rw [hq] at X0 hne1 hne2 ⊢
      have hq1 : w.heap.size + 2 ≤ q := by omega
      have HX0 := Lib.hid X0
      have HF3 := Lib.hid F3
      have HR3 := Lib.hid R3
      clear X0 F3 R3 hW F2 HROW
      clear hq
      go_loopw [8] (fun i wr => ∃ k : Nat, k ≤ l.length ∧ i = .int .i64 k ∧ Fr1 w wd hg a l c wr ∧ Box wr q 26 (.int .i64 wd) (.int .i64 hg) (.slice (some ⟨g, 0, none⟩) l.length c2) ∧ Row wr g 3 (iv (mixR flM M l k))) (fun i _ => l.length - (intOf i).toNat)
      case atStart => exact ⟨0, Nat.zero_le _, rfl, HF3.out, HX0.out, by rw [mix_zero]; exact HR3.out⟩
      case round =>
        obtain ⟨k, hk, rfl, hF, hX, hR⟩ := hrel
        have HF := Lib.hid hF
        have HX := Lib.hid hX
        have HR := Lib.hid hR
        obtain ⟨k0, k1, k2⟩ := hF.k0.cells
        obtain ⟨x0, x1, x2⟩ := hX.cells
        have hi0 : (0 : Int) ≤ (k : Int) := by omega
        by_cases hlt : k < l.length
        · have hkM : k < M.length := by omega
          have hi : (k : Int) < (l.length : Int) := by omega
          have hmml := mix_len flM hml k (by omega)
          obtain ⟨ov, hov⟩ : ∃ ov, wr.cell? ⟨g, k, none⟩ = some ov := ⟨_, hR.cell (k := k) (by rw [iv_length, hmml]; exact hkM)⟩
          have hfz := hR.frozen k
          have HSTEP := Lib.hid (fun v hv => mix_step flM hml k hkM v hv)
          have HSTAY := Lib.hid (fun hv => mix_stay flM hml k hkM hv)
          obtain ⟨b0, o0, rfl, hb0, hc0⟩ := (hF.s0.below hF.b (Nat.le_refl _)).at_ hlt
          generalize M[k] = m at *
          generalize l[k] = x at *
          clear hmml
          clear hF hX hR
          by_cases y0 : x = -9999
          · have e0 : (x != -9999) = false := by simp [y0]
            have HM := Lib.hid (HSTAY.out (if_pos y0).symm)
            clear y0
            clear HSTEP HSTAY
            go_wp2
            go_roundw
            case rel => exact ⟨k + 1, by omega, by go_num, HF.out, HX.out, by rw [← HM.out]; exact HR.out⟩
            case measure => simp [intOf]; omega
          · have HM := Lib.hid (HSTEP.out x (if_neg y0).symm)
            have e0 : (x != -9999) = true := by simp [y0]
            clear y0
            clear HSTEP HSTAY
            go_wp2_with fail
            have HFd := Lib.hid HF.out.drew
            have HXd : Hid (Box wr.drew q 26 (.int .i64 wd) (.int .i64 hg) (.slice (some ⟨g, 0, none⟩) l.length c2)) := Lib.hid HX.out
            have HRd : Hid (Row wr.drew g 3 (iv (mixR flM M l k))) := Lib.hid HR.out
            go_region_held3 (fun w' => w'.cell? ⟨w.heap.size, 2, none⟩ = some (.slice (some ⟨b0, o0, none⟩) l.length c) ∧ w'.cell? ⟨b0, o0 + k, none⟩ = some (.int .i64 x) ∧ w'.cell? ⟨q, 2, none⟩ = some (.slice (some ⟨g, 0, none⟩) l.length c2))
              (first | exact ⟨k2, hc0, x2⟩ | exact ⟨cell_other k2 (by omega), cell_other hc0 (by omega), cell_other x2 (by omega)⟩ | go_keep)
              (fail)
            rename_i hHeld
            clear hHeld
            go_wp2
            go_roundw
            case rel => exact ⟨k + 1, by omega, by go_num, HFd.out.turn (turn_set _ g k _) hgb, HXd.out.other (by show q ≠ g; exact hne1) _, by have := HRd.out.set k (.int .i64 x); rw [iv_set, HM.out] at this; exact this⟩
            case measure => simp [intOf]; omega
        · obtain rfl : k = l.length := by omega
          have HM := Lib.hid (mix_all flM hml)
          rw [hml] at HM
          have HML := Lib.hid (zipR_len flM hml)
          rw [hml] at HML
          obtain ⟨r0, r1, r2⟩ := hF.r.cells
          have g0 := hF.r.frozen 0
          have g1 := hF.r.frozen 1
          have g2 := hF.r.frozen 2
          have q7 : ¬ w.heap.size + 1 = q := by omega
          have q8 : ¬ q = w.heap.size + 1 := by omega
          clear hF hX hR
          go_wp2
          refine bodyPost_ret (v := .tuple #[.agg #[.int .i64 wd, .int .i64 hg, .slice (some ⟨g, 0, none⟩) l.length c2], .bool true]) (by simp [results, Try.results34, go_sem, r0, r1, r2, q7, q8]) rfl ⟨some ⟨g, 0, none⟩, c2, by simp only [rW, rH, rL, rB]; rw [HML.out], ⟨g, by omega, .inr ⟨rfl, ?_⟩⟩, ?_⟩
          · have h := HR.out
            rw [HM.out] at h
            exact ((h.other (by show g ≠ w.heap.size + 1; omega) _).other (by show g ≠ w.heap.size + 1; omega) _).other (by show g ≠ w.heap.size + 1; omega) _
          · exact ((HF.out.b.setCell (by show w.heap.size ≤ w.heap.size + 1; omega) _).setCell (by show w.heap.size ≤ w.heap.size + 1; omega) _).setCell (by show w.heap.size ≤ w.heap.size + 1; omega) _
end Go.Proofs.Ytdkffljnfemngaa
namespace Go.Proofs.Ytdkffljnfemngaa
open Go.RowKit
set_option linter.unusedVariables false
set_option linter.unusedSimpArgs false
/-- the greatest change so far, and a cell more -/
def smF (g x m : Int) : Int := if x = -9999 then g else max (max g (x - m)) (-(x - m))
def smK (l M : List Int) : Nat → Int
  | 0 => 0
  | k + 1 => smF (smK l M k) (l.getD k 0) (M.getD k 0)
theorem smF_gone {g x m : Int} (h : x = -9999) : smF g x m = g := if_pos h
theorem smF_val {g x m : Int} (h : ¬ x = -9999) : smF g x m = max (max g (x - m)) (-(x - m)) := if_neg h
theorem sm_step {l M : List Int} {k : Nat} (h1 : k < l.length) (h2 : k < M.length) : smK l M (k + 1) = smF (smK l M k) l[k] M[k] := by
  show smF _ _ _ = _
  rw [getD_at h1, getD_at h2]
theorem sm_bd {l M : List Int} (hl : ∀ z ∈ l, -9999 ≤ z ∧ z ≤ 9000) (hM : ∀ z ∈ M, -9999 ≤ z ∧ z ≤ 9000) (hn : l.length = M.length) : ∀ k, k ≤ l.length → 0 ≤ smK l M k ∧ smK l M k ≤ 20000
  | 0, _ => by simp [smK]
  | k + 1, hk => by
    have ih := sm_bd hl hM hn k (by omega)
    have h1 : k < l.length := by omega
    have h2 : k < M.length := by omega
    have b1 := hl _ (List.getElem_mem h1)
    have b2 := hM _ (List.getElem_mem h2)
    rw [sm_step h1 h2]
    unfold smF
    split <;> omega
/-- what SmoothChange answers -/
def smN (wd hg : Int) (l : List Int) (r : Int) : Int := if nbB wd hg l r = true then smK l (meanL wd hg l r) l.length else 0
theorem smN_yes {wd hg : Int} {l : List Int} {r : Int} (h : nbB wd hg l r = true) : smN wd hg l r = smK l (meanL wd hg l r) l.length := if_pos h
theorem smN_no {wd hg : Int} {l : List Int} {r : Int} (h : nbB wd hg l r = false) : smN wd hg l r = 0 := if_neg (by rw [h]; simp)
set_option maxRecDepth 100000 in
set_option maxHeartbeats 4000000 in
theorem implSm_any (wd hg : Int) (a : Option Addr) (l : List Int) (c : Nat) (r : Int) (w : World) (hl : Ints .i64 w w.heap.size a l) (hn : l.length ≤ 1048576) (hcap : l.length ≤ c) :
    Calls Try.prog 39 #[.agg #[.int .i64 wd, .int .i64 hg, .slice a l.length c], .int .i64 r] w fun e w' => e = .returned (.tuple #[.int .i64 (smN wd hg l r), .bool (nbB wd hg l r)]) ∧ Below w.heap.size w w' := by
  have K0 := Lib.hid (Box.new w 26 (.int .i64 wd) (.int .i64 hg) (.slice a l.length c))
  have I0 := ints_alloc hl (.cells #[.int .i64 wd, .int .i64 hg, .slice a l.length c] 26)
  have HC := implMean_c wd hg a l c r _ I0 hn hcap
  cases hb : nbB wd hg l r with
  | false =>
    rw [filtR_no hb] at HC
    rw [smN_no hb]
    have HC := Lib.hid (HC.mono fun _ _ h => h.no)
    clear hl hb I0 K0
    go_enter Try.func39, Try.ntmps39
    go_wp2_with fail
    refine HC.out.mono ?_
    rintro e w1 ⟨a1, c1, rfl, b1⟩
    have B1 := Lib.hid (below_then (below_all _ _) b1)
    clear b1 HC
    go_wp2
    go_ret2
    exact ⟨rfl, B1.out.alloc B1.out.size _⟩
  | true =>
    rw [meanR_yes hb] at HC
    rw [smN_yes hb]
    have HC := Lib.hid (HC.mono fun _ _ h => h.yes)
    have hgd := (nbB_iff.1 hb).1
    have hml := meanL_len wd hg l r
    have HLC := Lib.hid (good_bd hgd)
    have HMC := Lib.hid (good_bd (meanL_good hgd r))
    generalize meanL wd hg l r = M at *
    have HBD := Lib.hid (sm_bd HLC.out HMC.out hml.symm)
    have HML := Lib.hid hml
    have HIL := Lib.hid hl
    clear hl hb hml hgd I0
    go_enter Try.func39, Try.ntmps39
    go_wp2_with fail
    refine HC.out.mono ?_
    rintro e w1 ⟨a1, c1, h1, rfl, o1, b1⟩
    have K1 := K0.out.below b1
    obtain ⟨k0, k1, k2⟩ := K1.cells
    have z1 := K1.lt
    have z2 : ¬ w.heap.size = w1.heap.size := by omega
    have B1 := Lib.hid (below_then (below_all _ _) b1)
    have X2 := Box.new w1 26 (.int .i64 wd) (.int .i64 hg) (.slice a1 M.length c1)
    have I2 := Lib.hid (ints_alloc o1.ints (.cells #[.int .i64 wd, .int .i64 hg, .slice a1 M.length c1] 26))
    have B2 := Lib.hid (B1.out.alloc B1.out.size (.cells #[.int .i64 wd, .int .i64 hg, .slice a1 M.length c1] 26))
    have L2 := Lib.hid (HIL.out.below B2.out (Nat.le_refl _))
    clear b1 HC K1 K0 B1 o1
    go_wp2
    clear k0 k1 k2 z2
    obtain ⟨W1, hW1⟩ : ∃ x, w1.alloc (.cells #[.int .i64 wd, .int .i64 hg, .slice a1 M.length c1] 26) = x := ⟨_, rfl⟩
    rw [hW1] at X2 I2 B2 L2
    rw [hW1]
    obtain ⟨x0, x1, x2⟩ := X2.cells
    generalize w1.heap.size = q at *
    clear hW1 X2
    go_loop [8, 23] (fun g i => ∃ k : Nat, k ≤ l.length ∧ i = .int .i64 k ∧ g = .int .i64 (smK l M k)) (fun _ i => l.length - (intOf i).toNat)
    case atStart => exact ⟨0, Nat.zero_le _, rfl, rfl⟩
    case round =>
      obtain ⟨k, hk, rfl, rfl⟩ := hrel
      have hbd := HBD.out k hk
      by_cases hlt : k < l.length
      · have hi : (k : Int) < (l.length : Int) := by omega
        have hi0 : (0 : Int) ≤ (k : Int) := by omega
        have hkM : k < M.length := by rw [HML.out]; exact hlt
        have hiM : (k : Int) < (M.length : Int) := by omega
        obtain ⟨b0, o0, rfl, hb0, hc0⟩ := L2.out.at_ hlt
        obtain ⟨b2, o2, rfl, hb2, hc2⟩ := I2.out.at_ hkM
        have HS := Lib.hid (sm_step hlt hkM)
        have hxb := HLC.out l[k] (List.getElem_mem hlt)
        have hmb := HMC.out M[k] (List.getElem_mem hkM)
        generalize M[k] = m at *
        generalize l[k] = x at *
        generalize smK l M k = g at *
        by_cases y0 : x = -9999
        · have e0 : (x != -9999) = false := by simp [y0]
          have HV := Lib.hid (HS.out.trans (smF_gone y0))
          clear y0 HS hbd
          go_wp2
          go_round
          case rel => exact ⟨k + 1, by omega, by go_num, by rw [HV.out]⟩
          case measure => simp [intOf]; omega
        · have e0 : (x != -9999) = true := by simp [y0]
          have HV := Lib.hid (HS.out.trans (smF_val y0))
          clear y0 HS
          go_wp2
          go_round
          case rel => exact ⟨k + 1, by omega, by go_num, by rw [HV.out]; congr 1; (repeat' split) <;> omega⟩
          case measure => simp [intOf]; omega
      · obtain rfl : k = l.length := by omega
        go_wp2
        go_ret2
        exact ⟨rfl, B2.out⟩
set_option maxRecDepth 100000 in
set_option maxHeartbeats 4000000 in
theorem specSm_any (wd hg : Int) (a : Option Addr) (l : List Int) (c : Nat) (r : Int) (w : World) (hl : Ints .i64 w w.heap.size a l) (hn : l.length ≤ 1048576) :
    Calls Try.prog 40 #[.agg #[.int .i64 wd, .int .i64 hg, .slice a l.length c], .int .i64 r] w fun e w' => e = .returned (.tuple #[.int .i64 (smN wd hg l r), .bool (nbB wd hg l r)]) ∧ Below w.heap.size w w' := by
  have K0 := Lib.hid (Box.new w 26 (.int .i64 wd) (.int .i64 hg) (.slice a l.length c))
  have I0 := ints_alloc hl (.cells #[.int .i64 wd, .int .i64 hg, .slice a l.length c] 26)
  have HC := specMean_any wd hg a l c r _ I0 hn
  cases hb : nbB wd hg l r with
  | false =>
    rw [filtR_no hb] at HC
    rw [smN_no hb]
    have HC := Lib.hid (HC.mono fun _ _ h => h.no)
    clear hl hb I0 K0
    go_enter Try.func40, Try.ntmps40
    go_wp2_with fail
    refine HC.out.mono ?_
    rintro e w1 ⟨a1, c1, rfl, b1⟩
    have B1 := Lib.hid (below_then (below_all _ _) b1)
    clear b1 HC
    go_wp2
    go_ret2
    exact ⟨rfl, B1.out.alloc B1.out.size _⟩
  | true =>
    rw [meanR_yes hb] at HC
    rw [smN_yes hb]
    have HC := Lib.hid (HC.mono fun _ _ h => h.yes)
    have hgd := (nbB_iff.1 hb).1
    have hml := meanL_len wd hg l r
    have HLC := Lib.hid (good_bd hgd)
    have HMC := Lib.hid (good_bd (meanL_good hgd r))
    generalize meanL wd hg l r = M at *
    have HBD := Lib.hid (sm_bd HLC.out HMC.out hml.symm)
    have HML := Lib.hid hml
    have HIL := Lib.hid hl
    clear hl hb hml hgd I0
    go_enter Try.func40, Try.ntmps40
    go_wp2_with fail
    refine HC.out.mono ?_
    rintro e w1 ⟨a1, c1, rfl, o1, b1⟩
    have K1 := K0.out.below b1
    have z1 := K1.lt
    have B1 := Lib.hid (below_then (below_all _ _) b1)
    have X2 := Box.new w1 26 (.int .i64 wd) (.int .i64 hg) (.slice a1 M.length c1)
    have K2 := K1.alloc (.cells #[.int .i64 wd, .int .i64 hg, .slice a1 M.length c1] 26)
    have I2 := Lib.hid (ints_alloc o1.ints (.cells #[.int .i64 wd, .int .i64 hg, .slice a1 M.length c1] 26))
    have B2 := Lib.hid (B1.out.alloc B1.out.size (.cells #[.int .i64 wd, .int .i64 hg, .slice a1 M.length c1] 26))
    have L2 := Lib.hid (HIL.out.below B2.out (Nat.le_refl _))
    clear b1 HC K1 K0 B1 o1
    go_wp2
    obtain ⟨W1, hW1⟩ : ∃ x, w1.alloc (.cells #[.int .i64 wd, .int .i64 hg, .slice a1 M.length c1] 26) = x := ⟨_, rfl⟩
    rw [hW1] at X2 I2 B2 L2 K2
    rw [hW1]
    obtain ⟨q, hq⟩ : ∃ x, w1.heap.size = x := ⟨_, rfl⟩
    rw [hq] at X2 z1 ⊢
    have HX2 := Lib.hid X2
    have HK2 := Lib.hid K2
    clear hW1 X2 K2 hq
    go_loopw [8, 9] (fun g i wr => ∃ k : Nat, k ≤ l.length ∧ i = .int .i64 k ∧ g = .int .i64 (smK l M k) ∧ Drew W1 wr) (fun _ i _ => l.length - (intOf i).toNat)
    case atStart => exact ⟨0, Nat.zero_le _, rfl, rfl, Drew.refl _⟩
    case round =>
      obtain ⟨k, hk, rfl, rfl, hD⟩ := hrel
      have hbd := HBD.out k hk
      have bD := hD.below W1.heap.size
      obtain ⟨x0, x1, x2⟩ := (HX2.out.below bD).cells
      obtain ⟨k0, k1, k2⟩ := (HK2.out.below bD).cells
      have HD := Lib.hid hD
      by_cases hlt : k < l.length
      · have hi : (k : Int) < (l.length : Int) := by omega
        have hi0 : (0 : Int) ≤ (k : Int) := by omega
        have hkM : k < M.length := by rw [HML.out]; exact hlt
        have hiM : (k : Int) < (M.length : Int) := by omega
        obtain ⟨b0, o0, rfl, hb0, hc0⟩ := (L2.out.drew hD).at_ hlt
        obtain ⟨b2, o2, rfl, hb2, hc2⟩ := (I2.out.drew hD).at_ hkM
        have HS := Lib.hid (sm_step hlt hkM)
        have hxb := HLC.out l[k] (List.getElem_mem hlt)
        have hmb := HMC.out M[k] (List.getElem_mem hkM)
        generalize M[k] = m at *
        generalize l[k] = x at *
        generalize smK l M k = g at *
        clear hD bD
        by_cases y0 : x = -9999
        · have e0 : (x != -9999) = false := by simp [y0]
          have HV := Lib.hid (HS.out.trans (smF_gone y0))
          clear y0 HS hbd
          go_wp2
          go_roundw
          case rel => exact ⟨k + 1, by omega, by go_num, by rw [HV.out], HD.out⟩
          case measure => simp [intOf]; omega
        · have e0 : (x != -9999) = true := by simp [y0]
          have HV := Lib.hid (HS.out.trans (smF_val y0))
          obtain ⟨d, hd⟩ : ∃ d, x - m = d := ⟨_, rfl⟩
          have hw : IntKind.i64.wrap (x - m) = d := by rw [IntWalk.i64_in _ (by omega)]; exact hd
          rw [hd] at HV
          have hd1 : -20000 ≤ d := by omega
          have hd2 : d ≤ 20000 := by omega
          have HM1 := Lib.hid (fun W => l1Most_is d (-d) W)
          have HM2 := Lib.hid (fun W => l1Most_is g (max d (-d)) W)
          clear y0 HS hd
          go_wp2_with fail
          go_region_held3 (fun w' => w'.cell? ⟨w.heap.size, 2, none⟩ = some (.slice (some ⟨b0, o0, none⟩) l.length c) ∧ w'.cell? ⟨b0, o0 + k, none⟩ = some (.int .i64 x) ∧ w'.cell? ⟨q, 2, none⟩ = some (.slice (some ⟨b2, o2, none⟩) M.length c1) ∧ w'.cell? ⟨b2, o2 + k, none⟩ = some (.int .i64 m))
            (first | exact ⟨k2, hc0, x2, hc2⟩ | go_keep)
            (fail)
          rename_i hHeld
          clear hHeld
          go_wp2_with (go_at_call 78; first | ((with_reducible refine (HM1.out _).mono ?_); rintro e w9 ⟨rfl, rfl⟩) | ((with_reducible refine (HM2.out _).mono ?_); rintro e w9 ⟨rfl, rfl⟩))
          go_roundw
          case rel => exact ⟨k + 1, by omega, by go_num, by rw [HV.out]; exact congrArg _ (by omega), Drew.more HD.out 1⟩
          case measure => simp [intOf]; omega
      · obtain rfl : k = l.length := by omega
        clear hD bD
        go_wp2
        go_ret2
        exact ⟨rfl, B2.out.trans (HD.out.below _)⟩
end Go.Proofs.Ytdkffljnfemngaa
namespace Go.Proofs.Ytdkffljnfemngaa
open Go.RowKit
set_option linter.unusedVariables false
set_option linter.unusedSimpArgs false
/-- the greatest values, taken k times -/
def repL (W H r : Nat) (l : List Int) : Nat → List Int
  | 0 => l
  | k + 1 => filtL (gapC hiV) W H r (repL W H r l k)
theorem repL_len (W H r : Nat) (l : List Int) : ∀ k, (repL W H r l k).length = l.length
  | 0 => rfl
  | k + 1 => by rw [repL, filtL_len]; exact repL_len W H r l k
theorem repL_good {wd hg : Int} {l : List Int} (h : goodB wd hg l = true) (r : Nat) : ∀ k, goodB wd hg (repL wd.toNat hg.toNat r l k) = true
  | 0 => h
  | k + 1 => filt_good fit_hi (repL_good h r k) r
def repB (wd hg : Int) (l : List Int) (r n : Int) : Bool := nbB wd hg l r && (decide (0 ≤ n) && decide (n ≤ 5))
theorem repB_iff {wd hg : Int} {l : List Int} {r n : Int} : repB wd hg l r n = true ↔ nbB wd hg l r = true ∧ 0 ≤ n ∧ n ≤ 5 := by unfold repB; simp
/-- what RepeatMaximum answers -/
def repR (wd hg : Int) (l : List Int) (r n : Int) : Option (Int × Int × List Int) := if repB wd hg l r n = true then some (wd, hg, repL wd.toNat hg.toNat r.toNat l n.toNat) else none
theorem repR_yes {wd hg : Int} {l : List Int} {r n : Int} (h : repB wd hg l r n = true) : repR wd hg l r n = some (wd, hg, repL wd.toNat hg.toNat r.toNat l n.toNat) := if_pos h
theorem repR_no {wd hg : Int} {l : List Int} {r n : Int} (h : ¬ (nbB wd hg l r = true ∧ 0 ≤ n ∧ n ≤ 5)) : repR wd hg l r n = none := if_neg (fun e => h (repB_iff.1 e))
theorem repR_len (wd hg : Int) (l : List Int) (r n : Int) : (rL (repR wd hg l r n)).length ≤ 64 := by
  cases h : repB wd hg l r n with
  | false => rw [show repR wd hg l r n = none from if_neg (by rw [h]; simp)]; simp [rL]
  | true => rw [repR_yes h]; have := good_le (nbB_iff.1 (repB_iff.1 h).1).1; simp only [rL, repL_len]; omega
theorem rep_step {wd hg : Int} {l : List Int} {r : Int} (h : nbB wd hg l r = true) (k : Nat) :
    filtR hiV wd hg (repL wd.toNat hg.toNat r.toNat l k) r = some (wd, hg, repL wd.toNat hg.toNat r.toNat l (k + 1)) :=
  filtR_yes (nbB_iff.2 ⟨repL_good (nbB_iff.1 h).1 _ k, (nbB_iff.1 h).2⟩)
theorem Box.put3 {w : World} {b : Nat} {t : TypeId} {v0 v1 v2 : Value} (h : Box w b t v0 v1 v2) (u0 u1 u2 : Value) : Box (((w.setCell ⟨b, 0, none⟩ u0).setCell ⟨b, 1, none⟩ u1).setCell ⟨b, 2, none⟩ u2) b t u0 u1 u2 := by
  unfold Box at *
  simp [World.setCell, Array.getElem?_modify, h]
theorem turn_put3 (w : World) (g : Nat) (u v x : Value) : w.grownBy (((w.setCell ⟨g, 0, none⟩ u).setCell ⟨g, 1, none⟩ v).setCell ⟨g, 2, none⟩ x) (some g) := turn_trans (turn_trans (turn_set _ _ _ _) (turn_set _ _ _ _)) (turn_set _ _ _ _)
/-- a loop that puts a new field into a box of the call's own -/
structure RpAt (w : World) (q : Nat) (wd hg : Int) (a : Option Addr) (l : List Int) (c : Nat) (L : List Int) (wr : World) : Prop where
  f : Fr1 w wd hg a l c wr
  n : w.heap.size + 2 ≤ q
  x : ∃ a' c', L.length ≤ c' ∧ Box wr q 26 (.int .i64 wd) (.int .i64 hg) (.slice a' L.length c') ∧ OwnI wr (w.heap.size + 2) a' L
section
variable {w wr w1 : World} {q c : Nat} {wd hg : Int} {a : Option Addr} {l L L' : List Int}
theorem RpAt.put {v0 v1 v2 : Value} {a1 : Option Addr} {c1 : Nat} (hf : Fr1 w wd hg a l c w1) (hn : w.heap.size + 2 ≤ q) (hx : Box w1 q 26 v0 v1 v2) (o : OwnI w1 (q + 1) a1 L') (hc : L'.length ≤ c1) :
    RpAt w q wd hg a l c L' (((w1.setCell ⟨q, 0, none⟩ (.int .i64 wd)).setCell ⟨q, 1, none⟩ (.int .i64 hg)).setCell ⟨q, 2, none⟩ (.slice a1 L'.length c1)) :=
  ⟨hf.turn (turn_put3 w1 q _ _ _) hn, hn, a1, c1, hc, hx.put3 _ _ _, (ownI_set (ownI_set (ownI_set o (Nat.lt_succ_self _) _) (Nat.lt_succ_self _) _) (Nat.lt_succ_self _) _).more (by omega)⟩
end
/-- .. of the model: nothing is known of the room behind the cells -/
structure SpRep (w : World) (q : Nat) (wd hg : Int) (a : Option Addr) (l : List Int) (c : Nat) (L : List Int) (wr : World) : Prop where
  f : Fr1 w wd hg a l c wr
  n : w.heap.size + 2 ≤ q
  x : ∃ a' c', Box wr q 26 (.int .i64 wd) (.int .i64 hg) (.slice a' L.length c') ∧ OwnI wr (w.heap.size + 2) a' L
theorem SpRep.put {w w1 : World} {q c : Nat} {wd hg : Int} {a : Option Addr} {l L' : List Int} {v0 v1 v2 : Value} {a1 : Option Addr} {c1 : Nat} (hf : Fr1 w wd hg a l c w1) (hn : w.heap.size + 2 ≤ q) (hx : Box w1 q 26 v0 v1 v2) (o : OwnI w1 (q + 1) a1 L') :
    SpRep w q wd hg a l c L' (((w1.setCell ⟨q, 0, none⟩ (.int .i64 wd)).setCell ⟨q, 1, none⟩ (.int .i64 hg)).setCell ⟨q, 2, none⟩ (.slice a1 L'.length c1)) :=
  ⟨hf.turn (turn_put3 w1 q _ _ _) hn, hn, a1, c1, hx.put3 _ _ _, (ownI_set (ownI_set (ownI_set o (Nat.lt_succ_self _) _) (Nat.lt_succ_self _) _) (Nat.lt_succ_self _) _).more (by omega)⟩
set_option maxRecDepth 100000 in
set_option maxHeartbeats 4000000 in
theorem implRep_any (wd hg : Int) (a : Option Addr) (l : List Int) (c : Nat) (r n : Int) (w : World) (hl : Ints .i64 w w.heap.size a l) (hn : l.length ≤ 1048576) (hcap : l.length ≤ c) :
    Calls Try.prog 36 #[.agg #[.int .i64 wd, .int .i64 hg, .slice a l.length c], .int .i64 r, .int .i64 n] w (FRet (repR wd hg l r n) w) := by
  have F0 := Lib.hid (Fr1.new (wd0 := wd) (hg0 := hg) (c0 := c) hl)
  by_cases hall : nbB wd hg l r = true ∧ 0 ≤ n ∧ n ≤ 5
  · obtain ⟨hb, hn0, hn5⟩ := hall
    rw [repR_yes (repB_iff.2 ⟨hb, hn0, hn5⟩)]
    have HC := Lib.hid (hasNb_is wd hg a l c r true _ F0.out.i0 hn hb)
    have HSTEP := Lib.hid (fun k => rep_step hb k)
    obtain ⟨m, rfl⟩ : ∃ m : Nat, n = (m : Int) := ⟨n.toNat, by omega⟩
    obtain ⟨hgd, hrd⟩ := nbB_iff.1 hb
    have HLEN := Lib.hid (repL_len wd.toNat hg.toNat r.toNat l)
    obtain ⟨RL, hRL⟩ : ∃ f, repL wd.toNat hg.toNat r.toNat l = f := ⟨_, rfl⟩
    have hz : RL 0 = l := by rw [← hRL]; rfl
    have HZ := Lib.hid hz
    rw [hRL] at HSTEP HLEN ⊢
    obtain ⟨W, H, rfl, rfl, n1, n2, n3, n4, hLL⟩ := good_nat hgd
    have hle := good_le hgd
    obtain ⟨b, o, rfl⟩ : ∃ b o, a = some ⟨b, o, none⟩ := by
      obtain ⟨b, o, h, _⟩ := hl.at_ hle.1
      exact ⟨b, o, h⟩
    have HMAX := Lib.hid (fun k a' c' Wd hi hc => by have := implMax_c (W : Int) (H : Int) a' (RL k) c' r Wd hi (by rw [HLEN.out]; omega) hc; rw [HSTEP.out] at this; exact this.mono fun _ _ h => h.yes)
    have HRO := Lib.hid (fun Wd => rowsOf_any W H b o l.length c Wd n1 n2 n3 n4 hLL hcap)
    have HFR := Lib.hid (fun g W' C A => fieldOfRows_c g 0 H H W (chunks l W H) A C W' (chunks_length _ _ _) n3 n4 n1 n2 (chunks_each hLL))
    have HLL := Lib.hid hLL
    rw [show ((m : Int)).toNat = m by omega]
    clear hl hb hgd hrd hRL hz hLL
    go_enter Try.func36, Try.ntmps36
    go_wp2_with fail
    refine HC.out.mono ?_
    rintro e w1 ⟨rfl, b1⟩
    have F1 := Lib.hid (F0.out.step b1)
    obtain ⟨k0, k1, k2⟩ := F1.out.k0.cells
    clear b1 F0 HC
    have e5 : ¬ (5 : Int) < (m : Int) := by omega
    have e0 : ¬ (m : Int) < 0 := by omega
    go_wp2_with fail
    refine (HRO.out _).mono ?_
    rintro e w2 ⟨gm, hgm, rfl, rowm, bm⟩
    have hglm := rowm.lt
    have F2 := Lib.hid (F1.out.step bm)
    have HF := Lib.hid (HFR.out gm w2 (fun j => c - j * W) (fun j => some ⟨b, o + j * W, none⟩) hglm (fun j hj => by rw [Nat.zero_add, rowm.cell hj]; unfold rowV; rw [if_pos hj]) (fun j hj => chunk_ints (c := c) F2.out.i0 HLL.out j hj))
    rw [chunks_all HLL.out] at HF
    clear rowm bm F1 HRO HFR k0 k1 k2
    go_wp2_with fail
    refine HF.out.mono ?_
    rintro e w3 ⟨a3, c3, hc3, rfl, o3, b3⟩
    have F3 := Lib.hid (F2.out.step b3)
    have zz := F3.out.r.lt
    have S3 : RpAt w w3.heap.size W H (some ⟨b, o, none⟩) l c (RL 0) (w3.alloc (.cells #[.int .i64 W, .int .i64 H, .slice a3 l.length c3] 26)) := by
      rw [HZ.out]
      exact ⟨F3.out.step (below_all _ _), by omega, a3, c3, hc3, Box.new _ _ _ _ _, (o3.below (below_all _ _)).more (by have := F2.out.r.lt; omega)⟩
    have HS3 := Lib.hid S3
    clear S3 o3 b3 F3 F2 HF
    go_wp2
    obtain ⟨W3, hW3⟩ : ∃ x, w3.alloc (.cells #[.int .i64 W, .int .i64 H, .slice a3 l.length c3] 26) = x := ⟨_, rfl⟩
    obtain ⟨q, hq⟩ : ∃ x, w3.heap.size = x := ⟨_, rfl⟩
    rw [hW3, hq] at HS3
    rw [hW3]
    rw [hq]
    clear hW3 hq zz
    go_loopw [26] (fun i wr => ∃ k : Nat, k ≤ m ∧ i = .int .i64 k ∧ RpAt w q W H (some ⟨b, o, none⟩) l c (RL k) wr) (fun i _ => m - (intOf i).toNat)
    case atStart => exact ⟨0, Nat.zero_le _, rfl, HS3.out⟩
    case round =>
      obtain ⟨k, hk, rfl, hS⟩ := hrel
      clear HS3
      obtain ⟨a4, c4, hc4, hx, ho⟩ := hS.x
      have hqn := hS.n
      have HF4 := Lib.hid hS.f
      have HX4 := Lib.hid hx
      have HO4 := Lib.hid ho
      obtain ⟨x0, x1, x2⟩ := hx.cells
      clear hS hx
      by_cases hlt : k < m
      · have hi : (k : Int) < (m : Int) := by omega
        have HCALL := Lib.hid (HMAX.out k a4 c4 wr ho.ints hc4)
        clear ho
        go_wp2_with fail
        refine HCALL.out.mono ?_
        rintro e w5 ⟨a5, c5, hc5, rfl, o5, b5⟩
        have X5 := Lib.hid (HX4.out.below b5)
        have F5 := Lib.hid (HF4.out.step b5)
        have S5 := Lib.hid (RpAt.put F5.out hqn X5.out (o5.more (by have := HX4.out.lt; omega)) hc5)
        have f0 := X5.out.frozen 0
        have f1 := X5.out.frozen 1
        have f2 := X5.out.frozen 2
        obtain ⟨y0, y1, y2⟩ := X5.out.cells
        clear b5 o5 x0 x1 x2 HX4 HF4 HO4 HCALL
        go_wp2
        go_roundw
        case rel => exact ⟨k + 1, by omega, by go_num, S5.out⟩
        case measure => simp [intOf]; omega
      · obtain rfl : k = m := by omega
        have hi : ¬ (k : Int) < (k : Int) := by omega
        obtain ⟨r0, r1, r2⟩ := HF4.out.r.cells
        have g0 := HF4.out.r.frozen 0
        have g1 := HF4.out.r.frozen 1
        have g2 := HF4.out.r.frozen 2
        have q7 : ¬ w.heap.size + 1 = q := by omega
        have q8 : ¬ q = w.heap.size + 1 := by omega
        clear ho HMAX HSTEP
        generalize RL k = L at *
        go_wp2
        refine bodyPost_ret (v := .tuple #[.agg #[.int .i64 W, .int .i64 H, .slice a4 L.length c4], .bool true]) (by simp [results, Try.results36, go_sem, r0, r1, r2, q7, q8]) rfl ⟨a4, c4, rfl, ?_, ?_⟩
        · exact (ownI_set (ownI_set (ownI_set HO4.out (by show w.heap.size + 1 < _; omega) _) (by show w.heap.size + 1 < _; omega) _) (by show w.heap.size + 1 < _; omega) _).more (by omega)
        · exact ((HF4.out.b.setCell (by show w.heap.size ≤ w.heap.size + 1; omega) _).setCell (by show w.heap.size ≤ w.heap.size + 1; omega) _).setCell (by show w.heap.size ≤ w.heap.size + 1; omega) _
  · rw [repR_no hall]
    have HC := Lib.hid (fun v h => hasNb_is wd hg a l c r v _ F0.out.i0 hn h)
    cases hb : nbB wd hg l r with
    | false =>
      have HC1 := Lib.hid (HC.out false hb)
      clear hl hb hall HC
      go_enter Try.func36, Try.ntmps36
      go_wp2_with fail
      refine HC1.out.mono ?_
      rintro e w1 ⟨rfl, b1⟩
      have F1 := Lib.hid (F0.out.step b1)
      have B1 := Lib.hid F1.out.b
      obtain ⟨r0, r1, r2⟩ := F1.out.r.cells
      have g0 := F1.out.r.frozen 0
      have g1 := F1.out.r.frozen 1
      have g2 := F1.out.r.frozen 2
      clear b1 F0 F1
      go_wp2
      refine bodyPost_ret (v := .tuple #[.agg #[.int .i64 0, .int .i64 0, .slice none 0 0], .bool false]) (by simp [results, Try.results36, go_sem, r0, r1, r2]) rfl ⟨none, 0, rfl, OwnI.none_, ?_⟩
      first | exact B1.out | exact ((B1.out.setCell (p := ⟨w.heap.size + 1, 0, none⟩) (by show w.heap.size ≤ w.heap.size + 1; omega) _).setCell (p := ⟨w.heap.size + 1, 1, none⟩) (by show w.heap.size ≤ w.heap.size + 1; omega) _).setCell (p := ⟨w.heap.size + 1, 2, none⟩) (by show w.heap.size ≤ w.heap.size + 1; omega) _
    | true =>
      have HC1 := Lib.hid (HC.out true hb)
      rcases (show n < 0 ∨ 0 ≤ n by omega) with e0 | e0
      · clear hl hb hall HC
        go_enter Try.func36, Try.ntmps36
        go_wp2_with fail
        refine HC1.out.mono ?_
        rintro e w1 ⟨rfl, b1⟩
        have F1 := Lib.hid (F0.out.step b1)
        have B1 := Lib.hid F1.out.b
        obtain ⟨r0, r1, r2⟩ := F1.out.r.cells
        have g0 := F1.out.r.frozen 0
        have g1 := F1.out.r.frozen 1
        have g2 := F1.out.r.frozen 2
        clear b1 F0 F1
        go_wp2
        refine bodyPost_ret (v := .tuple #[.agg #[.int .i64 0, .int .i64 0, .slice none 0 0], .bool false]) (by simp [results, Try.results36, go_sem, r0, r1, r2]) rfl ⟨none, 0, rfl, OwnI.none_, ?_⟩
        first | exact B1.out | exact ((B1.out.setCell (p := ⟨w.heap.size + 1, 0, none⟩) (by show w.heap.size ≤ w.heap.size + 1; omega) _).setCell (p := ⟨w.heap.size + 1, 1, none⟩) (by show w.heap.size ≤ w.heap.size + 1; omega) _).setCell (p := ⟨w.heap.size + 1, 2, none⟩) (by show w.heap.size ≤ w.heap.size + 1; omega) _
      · have e5 : 5 < n := by rcases (show 5 < n ∨ n ≤ 5 by omega) with h | h; exact h; exact absurd ⟨hb, e0, h⟩ hall
        have e1 : ¬ n < 0 := by omega
        clear hl hb hall HC e0
        go_enter Try.func36, Try.ntmps36
        go_wp2_with fail
        refine HC1.out.mono ?_
        rintro e w1 ⟨rfl, b1⟩
        have F1 := Lib.hid (F0.out.step b1)
        have B1 := Lib.hid F1.out.b
        obtain ⟨r0, r1, r2⟩ := F1.out.r.cells
        have g0 := F1.out.r.frozen 0
        have g1 := F1.out.r.frozen 1
        have g2 := F1.out.r.frozen 2
        clear b1 F0 F1
        go_wp2
        refine bodyPost_ret (v := .tuple #[.agg #[.int .i64 0, .int .i64 0, .slice none 0 0], .bool false]) (by simp [results, Try.results36, go_sem, r0, r1, r2]) rfl ⟨none, 0, rfl, OwnI.none_, ?_⟩
        first | exact B1.out | exact ((B1.out.setCell (p := ⟨w.heap.size + 1, 0, none⟩) (by show w.heap.size ≤ w.heap.size + 1; omega) _).setCell (p := ⟨w.heap.size + 1, 1, none⟩) (by show w.heap.size ≤ w.heap.size + 1; omega) _).setCell (p := ⟨w.heap.size + 1, 2, none⟩) (by show w.heap.size ≤ w.heap.size + 1; omega) _
set_option maxRecDepth 100000 in
set_option maxHeartbeats 4000000 in
theorem specRep_any (wd hg : Int) (a : Option Addr) (l : List Int) (c : Nat) (r n : Int) (w : World) (hl : Ints .i64 w w.heap.size a l) (hn : l.length ≤ 1048576) :
    Calls Try.prog 37 #[.agg #[.int .i64 wd, .int .i64 hg, .slice a l.length c], .int .i64 r, .int .i64 n] w (FRet (repR wd hg l r n) w) := by
  have F0 := Lib.hid (Fr1.new (wd0 := wd) (hg0 := hg) (c0 := c) hl)
  by_cases hall : nbB wd hg l r = true ∧ 0 ≤ n ∧ n ≤ 5
  · obtain ⟨hb, hn0, hn5⟩ := hall
    rw [repR_yes (repB_iff.2 ⟨hb, hn0, hn5⟩)]
    obtain ⟨hgd, hrd⟩ := nbB_iff.1 hb
    have HC := Lib.hid (specGood_is wd hg a l c _ true _ F0.out.i0 (Nat.le_refl _) hn hgd)
    have HI1 := Lib.hid (fun W => l1In_is r 0 3 true W (by unfold radB at hrd; exact hrd))
    have HI2 := Lib.hid (fun W => l1In_is n 0 5 true W (by simp [hn0, hn5]))
    have HSTEP := Lib.hid (fun k => rep_step hb k)
    obtain ⟨m, rfl⟩ : ∃ m : Nat, n = (m : Int) := ⟨n.toNat, by omega⟩
    have HLEN := Lib.hid (repL_len wd.toNat hg.toNat r.toNat l)
    obtain ⟨RL, hRL⟩ : ∃ f, repL wd.toNat hg.toNat r.toNat l = f := ⟨_, rfl⟩
    have hz : RL 0 = l := by rw [← hRL]; rfl
    have HZ := Lib.hid hz
    rw [hRL] at HSTEP HLEN ⊢
    have hle := good_le hgd
    have HMAX := Lib.hid (fun k a' c' Wd hi => by have := specMax_any wd hg a' (RL k) c' r Wd hi (by rw [HLEN.out]; omega); rw [HSTEP.out] at this; exact this.mono fun _ _ h => h.yes)
    have HOW := Lib.hid (fun Wd h => l2Own_any wd hg a l c Wd h hn (by omega))
    rw [show ((m : Int)).toNat = m by omega]
    clear hl hb hgd hrd hRL hz
    go_enter Try.func37, Try.ntmps37
    go_wp2_with fail
    refine HC.out.mono ?_
    rintro e w1 ⟨rfl, b1⟩
    have F1 := Lib.hid (F0.out.step b1)
    obtain ⟨k0, k1, k2⟩ := F1.out.k0.cells
    clear b1 F0 HC
    go_wp2_with (first | (go_at_call 67; first | ((with_reducible refine (HI1.out _).mono ?_); rintro e w8 ⟨rfl, rfl⟩) | ((with_reducible refine (HI2.out _).mono ?_); rintro e w8 ⟨rfl, rfl⟩)) | fail)
    refine (HOW.out _ F1.out.i0).mono ?_
    rintro e w3 ⟨a3, c3, rfl, o3, b3⟩
    have F3 := Lib.hid (F1.out.step b3)
    have zz := F3.out.r.lt
    have S3 : SpRep w w3.heap.size wd hg a l c (RL 0) (w3.alloc (.cells #[.int .i64 wd, .int .i64 hg, .slice a3 l.length c3] 26)) := by
      rw [HZ.out]
      exact ⟨F3.out.step (below_all _ _), by omega, a3, c3, Box.new _ _ _ _ _, (o3.below (below_all _ _)).more (by have := F1.out.r.lt; omega)⟩
    have HS3 := Lib.hid S3
    clear S3 o3 b3 F3 F1 HI1 HI2 HOW k0 k1 k2
    go_wp2
    obtain ⟨W3, hW3⟩ : ∃ x, w3.alloc (.cells #[.int .i64 wd, .int .i64 hg, .slice a3 l.length c3] 26) = x := ⟨_, rfl⟩
    obtain ⟨q, hq⟩ : ∃ x, w3.heap.size = x := ⟨_, rfl⟩
    rw [hW3, hq] at HS3
    rw [hW3]
    rw [hq]
    clear hW3 hq zz
    go_loopw [2] (fun i wr => ∃ k j : Nat, k + j = m ∧ i = .int .i64 j ∧ SpRep w q wd hg a l c (RL k) wr) (fun i _ => (intOf i).toNat)
    case atStart => exact ⟨0, m, by omega, rfl, HS3.out⟩
    case round =>
      obtain ⟨k, j, hkj, rfl, hS⟩ := hrel
      clear HS3
      obtain ⟨a4, c4, hx, ho⟩ := hS.x
      have hqn := hS.n
      have HF4 := Lib.hid hS.f
      have HX4 := Lib.hid hx
      have HO4 := Lib.hid ho
      obtain ⟨x0, x1, x2⟩ := hx.cells
      clear hS hx
      rcases Nat.eq_zero_or_pos j with hj0 | hj0
      · subst hj0
        obtain rfl : k = m := by omega
        obtain ⟨r0, r1, r2⟩ := HF4.out.r.cells
        have g0 := HF4.out.r.frozen 0
        have g1 := HF4.out.r.frozen 1
        have g2 := HF4.out.r.frozen 2
        have q7 : ¬ w.heap.size + 1 = q := by omega
        have q8 : ¬ q = w.heap.size + 1 := by omega
        clear ho HMAX HSTEP
        generalize RL k = L at *
        go_wp2
        refine bodyPost_ret (v := .tuple #[.agg #[.int .i64 wd, .int .i64 hg, .slice a4 L.length c4], .bool true]) (by simp [results, Try.results37, go_sem, r0, r1, r2, q7, q8]) rfl ⟨a4, c4, rfl, ?_, ?_⟩
        · exact (ownI_set (ownI_set (ownI_set HO4.out (by show w.heap.size + 1 < _; omega) _) (by show w.heap.size + 1 < _; omega) _) (by show w.heap.size + 1 < _; omega) _).more (by omega)
        · exact ((HF4.out.b.setCell (by show w.heap.size ≤ w.heap.size + 1; omega) _).setCell (by show w.heap.size ≤ w.heap.size + 1; omega) _).setCell (by show w.heap.size ≤ w.heap.size + 1; omega) _
      · obtain ⟨i, rfl⟩ : ∃ i, j = i + 1 := ⟨j - 1, by omega⟩
        have p1 : ((i + 1 : Nat) : Int) - 1 = (i : Int) := by omega
        have p2 : (0 : Int) < ((i + 1 : Nat) : Int) := by omega
        have hm5 : (i : Int) ≤ 5 := by omega
        have HCALL := Lib.hid (HMAX.out k a4 c4 wr ho.ints)
        clear ho
        go_wp2_with fail
        refine HCALL.out.mono ?_
        rintro e w5 ⟨a5, c5, rfl, o5, b5⟩
        have X5 := Lib.hid (HX4.out.below b5)
        have F5 := Lib.hid (HF4.out.step b5)
        have S5 := Lib.hid (SpRep.put (c1 := c5) F5.out hqn X5.out (o5.more (by have := HX4.out.lt; omega)))
        have f0 := X5.out.frozen 0
        have f1 := X5.out.frozen 1
        have f2 := X5.out.frozen 2
        obtain ⟨y0, y1, y2⟩ := X5.out.cells
        clear b5 o5 x0 x1 x2 HX4 HF4 HO4 HCALL
        go_wp2
        go_roundw
        case rel => exact ⟨k + 1, i, by omega, by go_num, S5.out⟩
        case measure => simp [intOf] <;> omega
  · rw [repR_no hall]
    cases hgd : goodB wd hg l with
    | false =>
      have HC := Lib.hid (specGood_is wd hg a l c _ false _ F0.out.i0 (Nat.le_refl _) hn hgd)
      clear hl hgd hall
      go_enter Try.func37, Try.ntmps37
      go_wp2_with fail
      refine HC.out.mono ?_
      rintro e w1 ⟨rfl, b1⟩
      have F1 := Lib.hid (F0.out.step b1)
      have B1 := Lib.hid F1.out.b
      obtain ⟨r0, r1, r2⟩ := F1.out.r.cells
      have g0 := F1.out.r.frozen 0
      have g1 := F1.out.r.frozen 1
      have g2 := F1.out.r.frozen 2
      clear b1 F0 F1
      go_wp2
      refine bodyPost_ret (v := .tuple #[.agg #[.int .i64 0, .int .i64 0, .slice none 0 0], .bool false]) (by simp [results, Try.results37, go_sem, r0, r1, r2]) rfl ⟨none, 0, rfl, OwnI.none_, ?_⟩
      first | exact B1.out | exact ((B1.out.setCell (p := ⟨w.heap.size + 1, 0, none⟩) (by show w.heap.size ≤ w.heap.size + 1; omega) _).setCell (p := ⟨w.heap.size + 1, 1, none⟩) (by show w.heap.size ≤ w.heap.size + 1; omega) _).setCell (p := ⟨w.heap.size + 1, 2, none⟩) (by show w.heap.size ≤ w.heap.size + 1; omega) _
    | true =>
      have HC := Lib.hid (specGood_is wd hg a l c _ true _ F0.out.i0 (Nat.le_refl _) hn hgd)
      cases hrd : radB r with
      | false =>
        have HI1 := Lib.hid (fun W => l1In_is r 0 3 false W (by unfold radB at hrd; exact hrd))
        clear hl hgd hall hrd
        go_enter Try.func37, Try.ntmps37
        go_wp2_with fail
        refine HC.out.mono ?_
        rintro e w1 ⟨rfl, b1⟩
        have F1 := Lib.hid (F0.out.step b1)
        have B1 := Lib.hid F1.out.b
        obtain ⟨r0, r1, r2⟩ := F1.out.r.cells
        have g0 := F1.out.r.frozen 0
        have g1 := F1.out.r.frozen 1
        have g2 := F1.out.r.frozen 2
        clear b1 F0 F1
        go_wp2_with (go_at_call 67; refine (HI1.out _).mono ?_; rintro e w8 ⟨rfl, rfl⟩)
        refine bodyPost_ret (v := .tuple #[.agg #[.int .i64 0, .int .i64 0, .slice none 0 0], .bool false]) (by simp [results, Try.results37, go_sem, r0, r1, r2]) rfl ⟨none, 0, rfl, OwnI.none_, ?_⟩
        first | exact B1.out | exact ((B1.out.setCell (p := ⟨w.heap.size + 1, 0, none⟩) (by show w.heap.size ≤ w.heap.size + 1; omega) _).setCell (p := ⟨w.heap.size + 1, 1, none⟩) (by show w.heap.size ≤ w.heap.size + 1; omega) _).setCell (p := ⟨w.heap.size + 1, 2, none⟩) (by show w.heap.size ≤ w.heap.size + 1; omega) _
      | true =>
        have HI1 := Lib.hid (fun W => l1In_is r 0 3 true W (by unfold radB at hrd; exact hrd))
        have hnn : (decide (0 ≤ n) && decide (n ≤ 5)) = false := by
          cases h : (decide (0 ≤ n) && decide (n ≤ 5)) with
          | false => rfl
          | true => simp at h; exact absurd ⟨nbB_iff.2 ⟨hgd, hrd⟩, h.1, h.2⟩ hall
        have HI2 := Lib.hid (fun W => l1In_is n 0 5 false W hnn)
        clear hl hgd hall hrd hnn
        go_enter Try.func37, Try.ntmps37
        go_wp2_with fail
        refine HC.out.mono ?_
        rintro e w1 ⟨rfl, b1⟩
        have F1 := Lib.hid (F0.out.step b1)
        have B1 := Lib.hid F1.out.b
        obtain ⟨r0, r1, r2⟩ := F1.out.r.cells
        have g0 := F1.out.r.frozen 0
        have g1 := F1.out.r.frozen 1
        have g2 := F1.out.r.frozen 2
        clear b1 F0 F1
        go_wp2_with (first | (go_at_call 67; first | ((with_reducible refine (HI1.out _).mono ?_); rintro e w8 ⟨rfl, rfl⟩) | ((with_reducible refine (HI2.out _).mono ?_); rintro e w8 ⟨rfl, rfl⟩)))
        refine bodyPost_ret (v := .tuple #[.agg #[.int .i64 0, .int .i64 0, .slice none 0 0], .bool false]) (by simp [results, Try.results37, go_sem, r0, r1, r2]) rfl ⟨none, 0, rfl, OwnI.none_, ?_⟩
        first | exact B1.out | exact ((B1.out.setCell (p := ⟨w.heap.size + 1, 0, none⟩) (by show w.heap.size ≤ w.heap.size + 1; omega) _).setCell (p := ⟨w.heap.size + 1, 1, none⟩) (by show w.heap.size ≤ w.heap.size + 1; omega) _).setCell (p := ⟨w.heap.size + 1, 2, none⟩) (by show w.heap.size ≤ w.heap.size + 1; omega) _
end Go.Proofs.Ytdkffljnfemngaa
namespace Go.Proofs.Ytdkffljnfemngaa
set_option linter.unusedVariables false
theorem pks_mem (W : Nat) (Bs : List Bool) : ∀ n, ∀ s ∈ pks W Bs n, ∃ k, k < n ∧ Bs.getD k false = true ∧ s = [((k % W : Nat) : Int), ((k / W : Nat) : Int)]
  | 0 => fun s h => by simp [pks] at h
  | n + 1 => fun s h => by
    rw [pks] at h
    by_cases hb : Bs.getD n false = true
    · rw [if_pos hb] at h
      rcases List.mem_append.1 h with h | h
      · obtain ⟨k, h1, h2, h3⟩ := pks_mem W Bs n s h; exact ⟨k, by omega, h2, h3⟩
      · exact ⟨n, by omega, hb, List.mem_singleton.1 h⟩
    · rw [if_neg hb] at h
      obtain ⟨k, h1, h2, h3⟩ := pks_mem W Bs n s h; exact ⟨k, by omega, h2, h3⟩
theorem peak_hi {z : Int} {vs : List Int} (h : peakP z vs = true) (hm : z ∈ vs) : hiV vs = z := by
  have hl := insAll_len vs
  have hp := List.length_pos_of_mem hm
  have hc : cntN z vs = 1 := by unfold peakP at h; simp at h; exact h.2
  have h1 : vs.length - 1 < (insAll vs).length := by omega
  rw [← ins_last (List.ne_nil_of_mem hm) h1]
  exact ((peak_iff hm h1).1 hc).1.symm
/-- every peak is told by its place, and has the maximum of its neighborhood -/
theorem peak_cell (wd hg : Int) (l : List Int) (r : Int) (j : Nat) (hj : j < (pkT wd hg l r).length) :
    ∃ (x y : Int) (p k : Nat) (hk : k < l.length) (h1 : k < (rL (filtR hiV wd hg l r)).length), (pkT wd hg l r)[j] = [x, y] ∧ wd * y = (p : Int) ∧ (p : Int) + x = (k : Int) ∧ 0 ≤ x ∧ x ≤ 64 ∧ 0 ≤ y ∧ y ≤ 64 ∧ 0 ≤ wd ∧ wd ≤ 8 ∧ p ≤ 64 ∧ ¬ l[k] = -9999 ∧ (rL (filtR hiV wd hg l r))[k] = l[k] := by
  cases h : nbB wd hg l r with
  | false => rw [pkT_no h] at hj; simp at hj
  | true =>
    have hgd := (nbB_iff.1 h).1
    have hs := shapeB_iff.1 (good_shape hgd)
    have hlen := good_len hgd
    have hle := good_le hgd
    have hL : l.length = wd.toNat * hg.toNat := by
      have e5 : (wd.toNat : Int) = wd := by omega
      have e6 : (hg.toNat : Int) = hg := by omega
      rw [← e5, ← e6, ← Int.natCast_mul] at hlen
      omega
    have mem : ∀ (T : List (List Int)) (hT : T = pks wd.toNat (filtL peakP wd.toNat hg.toNat r.toNat l) l.length) (hj2 : j < T.length), T[j] ∈ pks wd.toNat (filtL peakP wd.toNat hg.toNat r.toNat l) l.length := by
      intro T hT hj2
      subst hT
      exact List.getElem_mem hj2
    have hm := mem _ (pkT_yes h) hj
    obtain ⟨k, hk, hb, he⟩ := pks_mem _ _ _ _ hm
    have hkf : k < (filtL peakP wd.toNat hg.toNat r.toNat l).length := by rw [filtL_len]; exact hk
    rw [List.getD_eq_getElem?_getD, List.getElem?_eq_getElem hkf, Option.getD_some, filtL_get, getD_at hk] at hb
    have hz : ¬ l[k] = -9999 := by unfold peakP at hb; simp at hb; exact hb.1
    have hin := nbv_self (r := r.toNat) hL hk hz
    have hhi := peak_hi hb hin
    have hne : nbv l wd.toNat hg.toNat (k % wd.toNat) (k / wd.toNat) r.toNat ≠ [] := List.ne_nil_of_mem hin
    have h2 : k < (rL (filtR hiV wd hg l r)).length := by rw [filtR_yes h]; show k < (filtL _ _ _ _ _).length; rw [filtL_len]; exact hk
    have e2 : (rL (filtR hiV wd hg l r))[k] = l[k] := by
      have : ∀ (L : List Int) (hL2 : L = filtL (gapC hiV) wd.toNat hg.toNat r.toNat l) (hk2 : k < L.length), L[k] = l[k] := by
        intro L hL2 hk2
        subst hL2
        rw [filtL_get, gapC_some hne, hhi]
      exact this _ (by rw [filtR_yes h]; rfl) h2
    have hdm := Nat.div_add_mod k wd.toNat
    have hmul : wd.toNat * (k / wd.toNat) ≤ 64 := by omega
    have hmod := Nat.mod_le k wd.toNat
    have hdiv := Nat.div_le_self k wd.toNat
    obtain ⟨xn, hxn⟩ : ∃ q, k % wd.toNat = q := ⟨_, rfl⟩
    obtain ⟨yn, hyn⟩ : ∃ q, k / wd.toNat = q := ⟨_, rfl⟩
    rw [hxn, hyn] at he
    rw [hxn] at hdm hmod
    rw [hyn] at hdm hmul hdiv
    have e5 : (wd.toNat : Int) = wd := by omega
    have e7 : wd * (yn : Int) = ((wd.toNat * yn : Nat) : Int) := by push_cast; rw [e5]
    have hx64 : xn ≤ 64 := by omega
    have hy64 : yn ≤ 64 := by omega
    generalize wd.toNat * yn = p at *
    exact ⟨(xn : Int), (yn : Int), p, k, hk, h2, he, e7, by omega, by omega, by omega, by omega, by omega, by omega, by omega, hmul, hz, e2⟩
theorem fbm_cell (wd hg : Int) (l : List Int) (r : Int) (h : rB (fbmR wd hg l r) = true) (k : Nat) (hk : k < l.length) :
    ∃ h1 : k < (rL (fbmR wd hg l r)).length, ¬ l[k] = -9999 → (rL (fbmR wd hg l r))[k] = l[k] := by
  cases hb : nbB wd hg l r with
  | false => rw [fbmR_no hb] at h; simp [rB] at h
  | true =>
    have hz := zipR_len flF (meanL_len wd hg l r).symm
    have hM : k < (meanL wd hg l r).length := by rw [meanL_len]; exact hk
    have key : ∀ (L : List Int) (e : L = zipR flF l (meanL wd hg l r)), ∃ h1 : k < L.length, ¬ l[k] = -9999 → L[k] = l[k] := by
      intro L e
      subst e
      refine ⟨by rw [hz]; exact hk, fun hn => ?_⟩
      rw [zipR_get flF k _ hk hM]
      exact if_neg hn
    exact key _ (by rw [fbmR_yes hb]; rfl)
theorem rep_ge {wd hg : Int} {l : List Int} (h : goodB wd hg l = true) (r : Nat) (k : Nat) (hk : k < l.length) : ∀ n (hn : k < (repL wd.toNat hg.toNat r l n).length), l[k] ≤ (repL wd.toNat hg.toNat r l n)[k]
  | 0, _ => Int.le_refl _
  | n + 1, hn => by
    have hn0 : k < (repL wd.toNat hg.toNat r l n).length := by rw [repL_len]; exact hk
    refine Int.le_trans (rep_ge h r k hk n hn0) ?_
    have g0 := repL_good h r n
    have g1 := repL_good h r (n + 1)
    have hs := shapeB_iff.1 (good_shape g0)
    have hlen := good_len g0
    have hL : (repL wd.toNat hg.toNat r l n).length = wd.toNat * hg.toNat := by
      have e5 : (wd.toNat : Int) = wd := by omega
      have e6 : (hg.toNat : Int) = hg := by omega
      rw [← e5, ← e6, ← Int.natCast_mul] at hlen
      rw [show ((wd.toNat : Int)).toNat = wd.toNat by omega, show ((hg.toNat : Int)).toNat = hg.toNat by omega] at hlen
      omega
    by_cases hz : (repL wd.toNat hg.toNat r l n)[k] = -9999
    · rw [hz]; exact (good_bd g1 _ (List.getElem_mem hn)).1
    · have hin := nbv_self (r := r) hL hn0 hz
      have e : (repL wd.toNat hg.toNat r l (n + 1))[k] = gapC hiV ((repL wd.toNat hg.toNat r l n).getD k 0) (nbv (repL wd.toNat hg.toNat r l n) wd.toNat hg.toNat (k % wd.toNat) (k / wd.toNat) r) := filtL_get _ _ _ _ _ _ _
      rw [e]
      exact (gap_in hin).2
theorem rep_cell (wd hg : Int) (l : List Int) (r n : Int) (h : rB (repR wd hg l r n) = true) (k : Nat) (hk : k < l.length) :
    ∃ h1 : k < (rL (repR wd hg l r n)).length, l[k] ≤ (rL (repR wd hg l r n))[k] := by
  cases hb : repB wd hg l r n with
  | false => rw [show repR wd hg l r n = none from if_neg (by rw [hb]; simp)] at h; simp [rB] at h
  | true =>
    have key : ∀ (L : List Int) (e : L = repL wd.toNat hg.toNat r.toNat l n.toNat), ∃ h1 : k < L.length, l[k] ≤ L[k] := by
      intro L e
      subst e
      exact ⟨by rw [repL_len]; exact hk, rep_ge (nbB_iff.1 (repB_iff.1 hb).1).1 _ k hk _ _⟩
    exact key _ (by rw [repR_yes hb]; rfl)
theorem sm_nonneg (wd hg : Int) (l : List Int) (r : Int) : 0 ≤ smN wd hg l r := by
  cases h : nbB wd hg l r with
  | false => rw [smN_no h]; omega
  | true =>
    rw [smN_yes h]
    have hgd := (nbB_iff.1 h).1
    exact (sm_bd (good_bd hgd) (good_bd (meanL_good hgd r)) (meanL_len wd hg l r).symm _ (Nat.le_refl _)).1
end Go.Proofs.Ytdkffljnfemngaa
namespace Go.Proofs.Ytdkffljnfemngaa
open Go.RowKit
set_option linter.unusedVariables false
set_option linter.unusedSimpArgs false
theorem peakP_gone {z : Int} {vs : List Int} (h : z = -9999) : peakP z vs = false := by unfold peakP; simp [h]
theorem peakP_val {z : Int} {vs : List Int} (h : ¬ z = -9999) : peakP z vs = decide (cntN z vs = 1) := by unfold peakP; simp [h]
/-- the model's test, in the order of its values -/
theorem peak_last {z : Int} {vs : List Int} {q : Nat} (h : ¬ z = -9999) (hm : z ∈ vs) (hq : (insAll vs).length = q + 1) (hlt : q < (insAll vs).length) (hne : ¬ z = (insAll vs)[q]) : peakP z vs = false := by
  rw [peakP_val h, decide_eq_false_iff_not]
  have hl := insAll_len vs
  have e : vs.length - 1 = q := by omega
  intro hc
  have := ((peak_iff hm (by omega)).1 hc).1
  simp only [e] at this
  exact hne this
theorem peak_one {z : Int} {vs : List Int} (h : ¬ z = -9999) (hm : z ∈ vs) (hq : (insAll vs).length = 0 + 1) (hlt : 0 < (insAll vs).length) (he : z = (insAll vs)[0]) : peakP z vs = true := by
  rw [peakP_val h, decide_eq_true_iff]
  have hl := insAll_len vs
  have e : vs.length - 1 = 0 := by omega
  refine (peak_iff hm (by omega)).2 ⟨?_, .inl (by omega)⟩
  simp only [e]
  exact he
theorem peak_two {z : Int} {vs : List Int} {p : Nat} (h : ¬ z = -9999) (hm : z ∈ vs) (hq : (insAll vs).length = p + 1 + 1) (hlt : p + 1 < (insAll vs).length) (he : z = (insAll vs)[p + 1]) (hlt2 : p < (insAll vs).length) :
    peakP z vs = decide ((insAll vs)[p] < z) := by
  rw [peakP_val h]
  have hl := insAll_len vs
  have e : vs.length - 1 = p + 1 := by omega
  have e2 : vs.length - 2 = p := by omega
  have hi := peak_iff hm (show vs.length - 1 < (insAll vs).length by omega)
  simp only [e, e2] at hi
  by_cases hz : (insAll vs)[p] < z
  · rw [decide_eq_true hz, decide_eq_true_iff]
    exact hi.2 ⟨he, .inr ⟨hlt2, hz⟩⟩
  · rw [decide_eq_false hz, decide_eq_false_iff_not]
    intro hc
    rcases (hi.1 hc).2 with h' | ⟨_, h'⟩
    · omega
    · exact hz h'
theorem row_news (w : World) (x y : Int) : ∀ j u, [Value.slice (some ⟨w.heap.size, 0, none⟩) 2 2][j]? = some u → ((w.alloc (.cells #[.int .i64 x, .int .i64 y] 3)).alloc (.cells #[.slice (some ⟨w.heap.size, 0, none⟩) 2 2] 24)).cell? ((⟨w.heap.size + 1, 0, none⟩ : Addr).add j) = some u := by
  have h := heap_alloc_new (w.alloc (.cells #[.int .i64 x, .int .i64 y] 3)) (.cells #[.slice (some ⟨w.heap.size, 0, none⟩) 2 2] 24)
  rw [World.size_alloc] at h
  exact World.news_of_block h
set_option maxRecDepth 100000 in
set_option maxHeartbeats 4000000 in
theorem specPeak_any (wd hg : Int) (a : Option Addr) (l : List Int) (c : Nat) (r : Int) (w : World) (hl : Ints .i64 w w.heap.size a l) (hn : l.length ≤ 1048576) :
    Calls Try.prog 30 #[.agg #[.int .i64 wd, .int .i64 hg, .slice a l.length c], .int .i64 r] w (TabPost (pkT wd hg l r) (nbB wd hg l r) w) := by
  have I0 := ints_alloc (ints_alloc hl (.cells #[.int .i64 wd, .int .i64 hg, .slice a l.length c] 26)) (.cells #[] 24)
  have K0 := (Box.new w 26 (.int .i64 wd) (.int .i64 hg) (.slice a l.length c)).alloc (.cells #[] 24)
  have O0 := World.ownsRow_made (base := w.heap.size) (e := 24) (size := 1) (w.alloc (.cells #[.int .i64 wd, .int .i64 hg, .slice a l.length c] 26)) #[] 0 (by simp) (by simp) rfl
  have B0 := (below_all w (.cells #[.int .i64 wd, .int .i64 hg, .slice a l.length c] 26)).alloc (by simp) (.cells #[] 24)
  rw [World.size_alloc] at O0
  have P0 := Lib.hid (show PkAt w wd hg a l c [] [] (.slice (some ⟨w.heap.size + 1, 0, none⟩) 0 0) ((w.alloc (.cells #[.int .i64 wd, .int .i64 hg, .slice a l.length c] 26)).alloc (.cells #[] 24)) from ⟨K0, O0, Tb.nil, B0⟩)
  clear K0 O0 B0
  cases hgd : goodB wd hg l with
  | false =>
    have hb : nbB wd hg l r = false := by unfold nbB; rw [hgd]; rfl
    rw [pkT_no hb, hb]
    have HC := Lib.hid (specGood_is wd hg a l c _ false _ I0 (Nat.le_refl _) hn hgd)
    clear hl hgd hb I0
    go_enter Try.func30, Try.ntmps30
    go_wp2_with fail
    refine HC.out.mono ?_
    rintro e w1 ⟨rfl, b1⟩
    have P1 := Lib.hid (P0.out.step b1)
    clear b1 HC P0
    go_wp2
    go_ret2
    exact P1.out.post (a' := none)
  | true =>
    have HC := Lib.hid (specGood_is wd hg a l c _ true _ I0 (Nat.le_refl _) hn hgd)
    cases hrd : radB r with
    | false =>
      have hb : nbB wd hg l r = false := by unfold nbB; rw [hrd]; simp
      rw [pkT_no hb, hb]
      have HI := Lib.hid (fun W => l1In_is r 0 3 false W (by unfold radB at hrd; exact hrd))
      clear hl hgd hrd hb I0
      go_enter Try.func30, Try.ntmps30
      go_wp2_with fail
      refine HC.out.mono ?_
      rintro e w1 ⟨rfl, b1⟩
      have P1 := Lib.hid (P0.out.step b1)
      clear b1 HC P0
      go_wp2_with (go_at_call 67; refine (HI.out _).mono ?_; rintro e w8 ⟨rfl, rfl⟩)
      go_ret2
      exact P1.out.post (a' := none)
    | true =>
      have hb : nbB wd hg l r = true := nbB_iff.2 ⟨hgd, hrd⟩
      rw [pkT_yes hb, hb]
      have HI := Lib.hid (fun W => l1In_is r 0 3 true W (by unfold radB at hrd; exact hrd))
      have hrb := radB_iff.1 hrd
      obtain ⟨W, H, rfl, rfl, n1, n2, n3, n4, hLL⟩ := good_nat hgd
      obtain ⟨rn, hrn⟩ : ∃ q : Nat, (q : Int) = r := ⟨r.toNat, by omega⟩
      have hrt : r.toNat = rn := by omega
      have hr3 : rn ≤ 3 := by omega
      have hpos := (good_le hgd).1
      have hn64 := (good_le hgd).2
      obtain ⟨b, o, rfl⟩ : ∃ b o, a = some ⟨b, o, none⟩ := by
        obtain ⟨b, o, h, _⟩ := hl.at_ hpos
        exact ⟨b, o, h⟩
      simp only [Int.toNat_natCast]
      rw [hrt]
      have HVALS := Lib.hid (fun x y xi yi W' h1 h2 hx hy h => specVals_any W H b o c x y rn l xi yi r W' h1 h2 hrn n2 n4 hLL hx hy hr3 h)
      have HVL := Lib.hid (fun x y => nbv_le (l := l) (W := W) (H := H) (x := x) (y := y) (r := rn) n2 n4)
      have HFL := Lib.hid (filtL_len peakP W H rn l)
      have HFG := Lib.hid (filtL_get peakP W H rn l)
      have HSELF := Lib.hid (fun i hi hz => nbv_self (r := rn) (i := i) hLL hi hz)
      have HNN := Lib.hid hLL
      have HIL := Lib.hid hl
      obtain ⟨i0, hi0', hz0, hz1, hz2⟩ := info_parts infoRow
      clear hl hgd hrd hb hrb hrn hrt hLL hpos I0
      generalize filtL peakP W H rn l = L at *
      go_enter Try.func30, Try.ntmps30
      go_wp2_with fail
      refine HC.out.mono ?_
      rintro e w1 ⟨rfl, b1⟩
      have P1 := Lib.hid (P0.out.step b1)
      clear b1 HC P0
      go_wp2_with (go_at_call 67; refine (HI.out _).mono ?_; rintro e w8 ⟨rfl, rfl⟩)
      go_loopw [6, 7] (fun out i wr => ∃ y E, y ≤ H ∧ i = .int .i64 (y : Nat) ∧ PkAt w W H (some ⟨b, o, none⟩) l c E (pks W L (y * W)) out wr) (fun _ i _ => H - (intOf i).toNat)
      case atStart => exact ⟨0, [], Nat.zero_le _, rfl, by rw [Nat.zero_mul]; exact P1.out⟩
      case round =>
        obtain ⟨y, E, hy, rfl, hP⟩ := hrel
        clear P1
        have HP := Lib.hid hP
        obtain ⟨k0, k1, k2⟩ := hP.x.cells
        clear hP
        by_cases hlt : y < H
        · have hi : (y : Int) < (H : Int) := by omega
          go_wp2
          clear k0 k1 k2
          go_loopw [6, 8] (fun out i wr => ∃ x E, x ≤ W ∧ i = .int .i64 (x : Nat) ∧ PkAt w W H (some ⟨b, o, none⟩) l c E (pks W L (y * W + x)) out wr) (fun _ i _ => W - (intOf i).toNat)
          case atStart => exact ⟨0, E, Nat.zero_le _, rfl, HP.out⟩
          case round =>
            clear HP
            obtain ⟨x, E', hx, rfl, hP⟩ := hrel
            have HP := Lib.hid hP
            obtain ⟨k0, k1, k2⟩ := hP.x.cells
            have hbs := hP.b.size
            have IL := Lib.hid ((HIL.out.below hP.b (Nat.le_refl _)).more hP.b.size)
            clear hP
            by_cases hlt2 : x < W
            · have hi2 : (x : Int) < (W : Int) := by omega
              have hfit : y * W + x < l.length := by rw [HNN.out]; have := Nat.mul_le_mul_right W (show y + 1 ≤ H by omega); rw [Nat.add_mul, Nat.one_mul] at this; rw [Nat.mul_comm W H]; omega
              obtain ⟨k, hk⟩ : ∃ q, y * W + x = q := ⟨_, rfl⟩
              obtain ⟨hmd, hdv⟩ := row_mod (y := y) hlt2
              rw [hk] at hfit hmd hdv HP
              have hpi : (y : Int) * (W : Int) + (x : Int) = (k : Int) := by rw [← hk]; push_cast; rfl
              have hY0 : 0 ≤ (y : Int) * (W : Int) := Int.mul_nonneg (by omega) (by omega)
              have hY1 : (y : Int) * (W : Int) ≤ 64 := by omega
              have HAT := Lib.hid (specAt_any (W : Int) (H : Int) (some ⟨b, o, none⟩) l c wr.heap.size (x : Int) (y : Int) k wr IL.out (Nat.le_refl _) hfit hn hpi hY0 hY1 (by omega) (by omega))
              have hkL : k < L.length := by rw [HFL.out]; exact hfit
              have HLK := Lib.hid (HFG.out k hkL)
              have HSE := Lib.hid (HSELF.out k hfit)
              rw [hmd, hdv, getD_at hfit] at HLK
              rw [hmd, hdv] at HSE
              have HCALL := Lib.hid (fun W' h => HVALS.out x y x y W' rfl rfl hlt2 hlt h)
              have hvl := HVL.out x y
              have HYES := Lib.hid (fun h => pks_yes (W := W) hkL h)
              have HNOT := Lib.hid (fun h => pks_not (W := W) hkL h)
              rw [hmd, hdv] at HYES
              have hpl := pks_len W L k
              have hk1 : y * W + (x + 1) = k + 1 := by omega
              generalize nbv l W H x y rn = vs at *
              generalize l[k] = z at *
              clear hk hpi hY0 hY1 hmd hdv
              go_wp2_with fail
              refine HAT.out.mono ?_
              rintro e w5 ⟨rfl, b5⟩
              have P5 := Lib.hid (HP.out.step b5)
              have I5 := Lib.hid (ints_below IL.out b5)
              have z5 := b5.size
              clear b5 k0 k1 k2 HAT HP IL
              obtain ⟨k0, k1, k2⟩ := P5.out.x.cells
              go_wp2_with fail
              refine (HCALL.out _ I5.out).mono ?_
              rintro e w6 ⟨a6, c6, rfl, o6, b6⟩
              have P6 := Lib.hid (P5.out.step b6)
              have I6 := Lib.hid o6.ints
              have z6 := b6.size
              have hsl := insAll_len vs
              clear b6 o6 k0 k1 k2 P5 I5 HCALL
              have no : L[k] = false → ∀ Q : Prop, (PkAt w W H (some ⟨b, o, none⟩) l c E' (pks W L (y * W + (x + 1))) u6 w6 → Q) → Q := by
                intro h Q hQ
                refine hQ ?_
                rw [hk1, HNOT.out h]
                exact P6.out
              have HNO := Lib.hid no
              clear no
              by_cases y0 : z = -9999
              · have e0 : (z != -9999) = false := by simp [y0]
                have HN := Lib.hid (HLK.out.trans (peakP_gone y0))
                clear y0 HSE
                go_wp2
                go_roundw
                case rel => exact HNO.out HN.out _ fun h => ⟨x + 1, E', by omega, by go_num, h⟩
                case measure => simp [intOf]; omega
              · have e0 : (z != -9999) = true := by simp [y0]
                have hmem := HSE.out y0
                have hvp : 0 < vs.length := List.length_pos_of_mem hmem
                obtain ⟨q, hq⟩ : ∃ q, (insAll vs).length = q + 1 := ⟨vs.length - 1, by omega⟩
                have hqlt : q < (insAll vs).length := by omega
                obtain ⟨b6, o6, rfl, hb6, hcA⟩ := I6.out.at_ hqlt
                have hq64 : q ≤ 64 := by omega
                have p1 : ((q + 1 : Nat) : Int) - 1 = (q : Int) := by omega
                have pp0 : (0 : Int) ≤ (q : Int) := by omega
                have pp1 : (q : Int) < ((q + 1 : Nat) : Int) := by omega
                have HLAST := Lib.hid (fun h => HLK.out.trans (peak_last y0 hmem hq hqlt h))
                rw [hq]
                by_cases y1 : z = (insAll vs)[q]
                · rw [← y1] at hcA
                  rcases Nat.eq_zero_or_pos q with hq0 | hq0
                  · subst hq0
                    rw [Nat.add_zero] at hcA
                    have HY := Lib.hid (HLK.out.trans (peak_one y0 hmem hq hqlt y1))
                    have HPK := Lib.hid (HYES.out HY.out)
                    clear y0 y1 hmem hq hqlt HSE HLAST HYES HNOT HNO HLK hsl hvp
                    obtain ⟨b2, hc2⟩ := two_laid w6 (x : Int) (y : Int) (.cells #[.slice (some ⟨w6.heap.size, 0, none⟩) 2 2] 24)
                    have HB2 := Lib.hid b2
                    have HC2 := Lib.hid hc2
                    clear b2 hc2
                    generalize pks W L k = R at *
                    go_wp2_with (at_builtin; refine wpList_append_own _ rfl _ _ 35 rfl w.heap.size 24 i0 _ 1 24 Try.underlying35 hi0' hz0 hz1 hz2 rfl (by decide) _ R.length (tabV E' R) rfl (own_keeps P6.out.o HB2.out) ⟨w6.heap.size + 1, 0, none⟩ 1 1 [.slice (some ⟨w6.heap.size, 0, none⟩) 2 2] rfl rfl (row_news w6 (x : Int) (y : Int)) (by simp [Value.oneCell']) (by unfold maxLen; omega) (by omega) (Nat.le_trans P6.out.b.size HB2.out.size) ?_; intro v' w8 hown8 hgrow8 _; have HP8 := Lib.hid (P6.out.put HB2.out rfl HC2.out hgrow8 hown8); clear hown8 hgrow8)
                    go_roundw
                    case rel => exact ⟨x + 1, _, by omega, by go_num, by rw [hk1, HPK.out]; exact HP8.out⟩
                    case measure => simp [intOf]; omega
                  · obtain ⟨p, rfl⟩ : ∃ p, q = p + 1 := ⟨q - 1, by omega⟩
                    have hplt : p < (insAll vs).length := by omega
                    obtain ⟨b7, o7, e7, hb7, hcB⟩ := I6.out.at_ hplt
                    injection e7 with e7
                    injection e7 with e7 e8
                    subst e7 e8
                    have p3 : ((p + 1 + 1 : Nat) : Int) - 2 = (p : Int) := by omega
                    have p4 : ¬ ((p + 1 + 1 : Nat) : Int) = 1 := by omega
                    have p5 : (((p + 1 + 1 : Nat) : Int) == 1) = false := by rw [beq_eq_false_iff_ne]; exact p4
                    have p6 : ((p : Int) + 1 + 1 == 1) = false := by rw [beq_eq_false_iff_ne]; omega
                    have pp2 : (0 : Int) ≤ (p : Int) := by omega
                    have pp3 : (p : Int) < ((p + 1 + 1 : Nat) : Int) := by omega
                    have HV := Lib.hid (HLK.out.trans (peak_two y0 hmem hq hqlt y1 hplt))
                    generalize (insAll vs)[p] = sp at *
                    clear y0 y1 hmem hqlt hplt HSE HLAST HLK hvp
                    by_cases y2 : sp < z
                    · have HPK := Lib.hid (HYES.out (HV.out.trans (decide_eq_true y2)))
                      clear HV HYES HNOT HNO hsl hq
                      obtain ⟨b2, hc2⟩ := two_laid w6 (x : Int) (y : Int) (.cells #[.slice (some ⟨w6.heap.size, 0, none⟩) 2 2] 24)
                      have HB2 := Lib.hid b2
                      have HC2 := Lib.hid hc2
                      clear b2 hc2
                      generalize pks W L k = R at *
                      go_wp2_with (at_builtin; refine wpList_append_own _ rfl _ _ 35 rfl w.heap.size 24 i0 _ 1 24 Try.underlying35 hi0' hz0 hz1 hz2 rfl (by decide) _ R.length (tabV E' R) rfl (own_keeps P6.out.o HB2.out) ⟨w6.heap.size + 1, 0, none⟩ 1 1 [.slice (some ⟨w6.heap.size, 0, none⟩) 2 2] rfl rfl (row_news w6 (x : Int) (y : Int)) (by simp [Value.oneCell']) (by unfold maxLen; omega) (by omega) (Nat.le_trans P6.out.b.size HB2.out.size) ?_; intro v' w8 hown8 hgrow8 _; have HP8 := Lib.hid (P6.out.put HB2.out rfl HC2.out hgrow8 hown8); clear hown8 hgrow8)
                      go_roundw
                      case rel => exact ⟨x + 1, _, by omega, by go_num, by rw [hk1, HPK.out]; exact HP8.out⟩
                      case measure => simp [intOf]; omega
                    · have HN := Lib.hid (HV.out.trans (decide_eq_false y2))
                      clear HV HYES hsl hq
                      go_wp2
                      go_roundw
                      case rel => exact HNO.out HN.out _ fun h => ⟨x + 1, E', by omega, by go_num, h⟩
                      case measure => simp [intOf]; omega
                · have HN := Lib.hid (HLAST.out y1)
                  have y1b : (z == (insAll vs)[q]) = false := by rw [beq_eq_false_iff_ne]; exact y1
                  generalize (insAll vs)[q] = sq at *
                  clear y0 hmem hq hqlt HSE HLAST HLK HYES hsl hvp
                  go_wp2
                  go_roundw
                  case rel => exact HNO.out HN.out _ fun h => ⟨x + 1, E', by omega, by go_num, h⟩
                  case measure => simp [intOf]; omega
            · obtain rfl : x = W := by omega
              have hrow : y * x + x = (y + 1) * x := by rw [Nat.add_mul, Nat.one_mul]
              rw [hrow] at HP
              clear IL
              go_wp2
              go_roundw
              case rel => exact ⟨y + 1, E', by omega, by go_num, HP.out⟩
              case measure => simp [intOf]; omega
        · obtain rfl : y = H := by omega
          have hall : y * W = l.length := by rw [HNN.out, Nat.mul_comm]
          rw [hall] at HP
          generalize pks W L l.length = R at *
          go_wp2
          go_ret2
          exact HP.out.post (a' := none)
end Go.Proofs.Ytdkffljnfemngaa
namespace Go.Proofs.Ytdkffljnfemngaa
open Go.RowKit
set_option linter.unusedVariables false
set_option linter.unusedSimpArgs false
set_option maxHeartbeats 400000 in
theorem rInts_yes (a a' : Option Addr) (l : List Int) (c c' B B' : Nat) (w : World) (hl : Ints .i64 w B a l) (hl' : Ints .i64 w B' a' l) (hn : l.length ≤ 1048576) :
    Calls Try.prog 59 #[.slice a l.length c, .slice a' l.length c'] w (Quiet (.bool true) w) := by
  have HL := Lib.hid hl
  have HL' := Lib.hid hl'
  clear hl hl'
  go_enter Try.func59, Try.ntmps59
  go_wp2
  go_loopw [5] (fun i wr => ∃ k : Nat, k ≤ l.length ∧ i = .int .i64 k ∧ Drew w wr) (fun i _ => l.length - (intOf i).toNat)
  case atStart => exact ⟨0, Nat.zero_le _, rfl, Drew.refl w⟩
  case round =>
    obtain ⟨k, hk, rfl, hw⟩ := hrel
    by_cases hlt : k < l.length
    · obtain ⟨b, o, rfl, hb, hc⟩ := (HL.out.drew hw).at_ hlt
      obtain ⟨b', o', rfl, hb', hc'⟩ := (HL'.out.drew hw).at_ hlt
      generalize l[k] = x at *
      have hi : (k : Int) < (l.length : Int) := by omega
      have hi0 : (0 : Int) ≤ (k : Int) := by omega
      go_wp2
      go_quiet (fail)
      go_wp2
      go_roundw
      case rel => exact ⟨k + 1, by omega, by go_num, hw.more _⟩
      case measure => simp [intOf]; omega
    · go_wp2
      go_ret
      exact ⟨rfl, hw⟩

set_option maxHeartbeats 400000 in
theorem rField_yes (wd hg : Int) (a a' : Option Addr) (l : List Int) (c c' : Nat) (w : World) (hl : Ints .i64 w w.heap.size a l) (hl' : Ints .i64 w w.heap.size a' l) (hn : l.length ≤ 1048576) :
    Calls Try.prog 21 #[.agg #[.int .i64 wd, .int .i64 hg, .slice a l.length c], .agg #[.int .i64 wd, .int .i64 hg, .slice a' l.length c']] w fun e w' => e = .returned (.bool true) ∧ Below w.heap.size w w' := by
  have HL := Lib.hid hl
  have HL' := Lib.hid hl'
  clear hl hl'
  have b2 : ∀ o1 o2, Below w.heap.size w ((w.alloc o1).alloc o2) := fun o1 o2 => ((Below.refl _ _).alloc (Nat.le_refl _) _).alloc (by simp) _
  have HE := Lib.hid (fun o1 o2 => rInts_yes a a' l c c' w.heap.size w.heap.size ((w.alloc o1).alloc o2) (HL.out.below (b2 o1 o2) (Nat.le_refl _)) (HL'.out.below (b2 o1 o2) (Nat.le_refl _)) hn)
  go_enter Try.func21, Try.ntmps21
  go_wp2_with (go_at_call 59; refine (HE.out _ _).mono ?_; rintro e w1 ⟨rfl, d⟩; have HD := Lib.hid d; clear d)
  go_ret
  exact ⟨rfl, (b2 _ _).trans (HD.out.below _)⟩
end Go.Proofs.Ytdkffljnfemngaa
namespace Go.Proofs.Ytdkffljnfemngaa
open Go.RowKit
set_option linter.unusedVariables false
set_option linter.unusedSimpArgs false
set_option maxHeartbeats 1000000 in
theorem rTable_yes (a a' : Option Addr) (E E' : List (Nat × Nat)) (R : List (List Int)) (c c' B U B' U' : Nat) (w : World) (h : Tabl w B U a E R) (h' : Tabl w B' U' a' E' R) (hn : R.length ≤ 1048576) (hr : ∀ r ∈ R, r.length ≤ 1048576) :
    Calls Try.prog 31 #[.slice a R.length c, .slice a' R.length c'] w (Quiet (.bool true) w) := by
  have HT := Lib.hid h
  have HT' := Lib.hid h'
  have HR := Lib.hid hr
  clear h h' hr
  go_enter Try.func31, Try.ntmps31
  go_wp2
  go_loopw [5] (fun i wr => ∃ k : Nat, k ≤ R.length ∧ i = .int .i64 k ∧ Drew w wr) (fun i _ => R.length - (intOf i).toNat)
  case atStart => exact ⟨0, Nat.zero_le _, rfl, Drew.refl w⟩
  case round =>
    obtain ⟨k, hk, rfl, hw⟩ := hrel
    by_cases hlt : k < R.length
    · have hi : (k : Int) < (R.length : Int) := by omega
      have hi0 : (0 : Int) ≤ (k : Int) := by omega
      obtain ⟨g, he, rfl, _, hc⟩ := (HT.out.drew hw).at_ hlt
      obtain ⟨g', he', rfl, _, hc'⟩ := (HT'.out.drew hw).at_ hlt
      have HE := Lib.hid (fun Wd (d : Drew w Wd) => rInts_yes (some ⟨E[k].1, 0, none⟩) (some ⟨E'[k].1, 0, none⟩) R[k] E[k].2 E'[k].2 U U' Wd ((HT.out.drew d).ints he hlt) ((HT'.out.drew d).ints he' hlt) (HR.out _ (List.getElem_mem hlt)))
      unfold entV at hc hc'
      generalize E[k] = e1 at *
      generalize E'[k] = e2 at *
      generalize R[k].length = n at *
      have HW := Lib.hid hw
      have HC := Lib.hid hc
      have HC' := Lib.hid hc'
      clear hw
      go_wp2_with fail
      go_region_held3 (fun w' => w'.cell? ⟨g, k, none⟩ = some (.slice (some ⟨e1.1, 0, none⟩) n e1.2) ∧ w'.cell? ⟨g', k, none⟩ = some (.slice (some ⟨e2.1, 0, none⟩) n e2.2))
        (first | exact ⟨(D9.out.cell _).trans HC.out, (D9.out.cell _).trans HC'.out⟩ | exact ⟨HC.out, HC'.out⟩ | go_keep)
        (first | (go_at_call 59; refine (HE.out _ (HW.out.more 1)).mono ?_; rintro e w9 ⟨rfl, d9⟩; have D9 := Lib.hid (Drew.trans (Drew.more (Drew.refl wr) 1) d9); clear d9))
      rename_i hHeld
      clear hHeld
      go_wp2
      go_roundw
      case rel => exact ⟨k + 1, by omega, by go_num, HW.out.trans D9.out⟩
      case measure => simp [intOf]; omega
    · go_wp2
      go_ret
      exact ⟨rfl, hw⟩
/-- a table somewhere below the world's end -/
def Tk (w : World) (a : Option Addr) (E : List (Nat × Nat)) (R : List (List Int)) : Prop := ∃ B U, Tabl w B U a E R ∧ U ≤ w.heap.size
theorem Tk.step {w w' : World} {a : Option Addr} {E : List (Nat × Nat)} {R : List (List Int)} (h : Tk w a E R) (hb : Below w.heap.size w w') : Tk w' a E R := by
  obtain ⟨B, U, h1, h2⟩ := h
  exact ⟨B, U, h1.below hb h2, Nat.le_trans h2 hb.size⟩
theorem Tk.alike {w : World} {a a' : Option Addr} {E E' : List (Nat × Nat)} {R : List (List Int)} {c c' : Nat} (h : Tk w a E R) (h' : Tk w a' E' R) (hn : R.length ≤ 1048576) (hr : ∀ r ∈ R, r.length ≤ 1048576) :
    Calls Try.prog 31 #[.slice a R.length c, .slice a' R.length c'] w fun e w' => e = .returned (.bool true) ∧ Below w.heap.size w w' := by
  obtain ⟨B, U, h1, _⟩ := h
  obtain ⟨B', U', h2, _⟩ := h'
  exact (rTable_yes a a' E E' R c c' B U B' U' w h1 h2 hn hr).mono fun _ _ ⟨e1, e2⟩ => ⟨e1, e2.below _⟩
theorem Tk.at_ {w w' : World} {a : Option Addr} {E : List (Nat × Nat)} {R : List (List Int)} (h : Tk w a E R) (d : Drew w w') {j : Nat} (h2 : j < R.length) {x y : Int} (e : R[j] = [x, y]) :
    ∃ g ge ce, a = some ⟨g, 0, none⟩ ∧ w'.cell? ⟨g, j, none⟩ = some (.slice (some ⟨ge, 0, none⟩) 2 ce) ∧ w'.cell? ⟨ge, 0, none⟩ = some (.int .i64 x) ∧ w'.cell? ⟨ge, 1, none⟩ = some (.int .i64 y) := by
  obtain ⟨B, U, h1, _⟩ := h
  obtain ⟨g, he, h3, _, h4⟩ := (h1.drew d).at_ h2
  obtain ⟨_, _, h5⟩ := (h1.drew d).t.row j he h2
  unfold entV at h4
  rw [e] at h4 h5
  refine ⟨g, E[j].1, E[j].2, h3, h4, ?_, ?_⟩
  · exact h5.cell (k := 0) (by simp [iv])
  · exact h5.cell (k := 1) (by simp [iv])
end Go.Proofs.Ytdkffljnfemngaa
namespace Go.Proofs.Ytdkffljnfemngaa
open Go.RowKit
set_option linter.unusedVariables false
set_option linter.unusedSimpArgs false
/-- a number is drawn, the cursor further; blocks may be laid -/
def NDraw (g : Nat) (a : Option Addr) (l : List Int) (c K : Nat) (w : World) (e : Ending) (w' : World) : Prop :=
  ∃ z : Int, (-10000 ≤ z ∧ z ≤ 10000) ∧ e = .returned (.int .i64 z) ∧ CurIs w' g a l c K ∧ w.grownBy w' (some g)
/-- a literal of numbers that was laid, cut -/
theorem lit_cut {w w1 : World} {g : Nat} (L : List Int) (n : Nat) (hg : g < w.heap.size) (ho : Only g (w.alloc (.cells (L.map (Value.int .i64)).toArray 3)) w1) : ∀ k (h : k < (L.take n).length), w1.cell? ⟨w.heap.size, k, none⟩ = some (.int .i64 (L.take n)[k]) := by
  intro k hk
  have h1 : k < L.length := by rw [List.length_take] at hk; omega
  rw [List.getElem_take]
  exact (World.cell?_of_block (ho.1.block w.heap.size (by simp) (by intro e; injection e with e; omega))).trans (lit_ints w L 3 k h1)
set_option maxRecDepth 100000 in
set_option maxHeartbeats 4000000 in
theorem radius_any (w : World) (g : Nat) (a : Option Addr) (l : List Int) (c K : Nat) (hK : K ≤ 900000) (h : CurIs w g a l c K) :
    Calls Try.prog 50 #[.pointer (some ⟨g, 0, none⟩)] w (NDraw g a l c (K + 10) w) := by
  have hg := h.lt
  have C0 := Lib.hid (h.alloc (.cells ([0, 1, 1, 2, 3, -1, 4].map (Value.int .i64)).toArray 3))
  clear h
  go_enter Try.func50, Try.ntmps50
  go_wp2_with fail
  refine (pick_any _ g a l c K 24 (by omega) (by omega) (by omega) C0.out).mono ?_
  rintro e w1 ⟨v, ⟨r, hr, rfl⟩, rfl, hc, ho⟩
  have HLC := Lib.hid (fun n => lit_cut [0, 1, 1, 2, 3, -1, 4] n hg ho)
  have HC := Lib.hid hc
  have T1 := Lib.hid (turn_trans (turn_below (g := g) (below_all w _)) ho.1)
  have hsz := ho.2
  rw [World.size_alloc] at hsz
  clear hc ho C0
  obtain ⟨d, hd⟩ : ∃ d, r / 11 = d := ⟨_, rfl⟩
  have p5 : Int.tdiv (r : Int) 11 = (d : Int) := by rw [← hd]; exact (Int.ofNat_tdiv r 11).symm
  have hd2 : d ≤ 2 := by omega
  have p6 : IntKind.i64.wrap (d : Int) = (d : Int) := IntWalk.i64_in _ (by omega)
  clear hd
  go_wp2_with fail
  refine (among_any w1 g a l c _ w.heap.size (5 + d) ([0, 1, 1, 2, 3, -1, 4].take (5 + d)) (by omega) (by rw [List.length_take]; simp only [List.length_cons, List.length_nil]; omega) (by omega) (by omega) HC.out (by omega) (by omega) (HLC.out (5 + d)) 7).mono ?_
  rintro e w2 ⟨v, ⟨z, hz, rfl⟩, rfl, hc, ho⟩
  have hzb : -10000 ≤ z ∧ z ≤ 10000 := by
    have := List.mem_of_mem_take hz
    simp only [List.mem_cons, List.not_mem_nil, or_false] at this
    omega
  have HC2 := Lib.hid (hc.more (show K + 2 + 2 ≤ K + 10 by omega))
  have T2 := Lib.hid (turn_trans T1.out ho.1)
  clear hc ho HC T1 HLC hz
  go_wp2
  go_ret
  exact ⟨z, hzb, rfl, HC2.out, T2.out⟩
/-- a field and a number are drawn -/
def DrawFN (w : World) (e : Ending) (w' : World) : Prop :=
  ∃ (wd hg : Int) (L : List Int) (a1 : Addr) (c1 : Nat) (z : Int), (L.length ≤ 64 ∧ L.length ≤ c1) ∧ e = .returned (.tuple #[.agg #[.int .i64 wd, .int .i64 hg, .slice (some a1) L.length c1], .int .i64 z]) ∧ Own2 w' w.heap.size (some a1) L ∧ Below w.heap.size w w'
def DrawFNN (w : World) (e : Ending) (w' : World) : Prop :=
  ∃ (wd hg : Int) (L : List Int) (a1 : Addr) (c1 : Nat) (z y : Int), (L.length ≤ 64 ∧ L.length ≤ c1) ∧ e = .returned (.tuple #[.agg #[.int .i64 wd, .int .i64 hg, .slice (some a1) L.length c1], .int .i64 z, .int .i64 y]) ∧ Own2 w' w.heap.size (some a1) L ∧ Below w.heap.size w w'
/-- what a draw of a field in a box of its own knows: its result's box at w.heap.size, its cursor behind it, the field's box at fb -/
structure Dw (w : World) (a : Option Addr) (l : List Int) (c K fb : Nat) (wd hg : Int) (a1 : Addr) (L : List Int) (c1 : Nat) (w1 : World) : Prop where
  cur : CurIs w1 (w.heap.size + 1) a l c K
  res : Box w1 w.heap.size 26 (.int .i64 0) (.int .i64 0) (.slice none 0 0)
  box : Box w1 fb 26 (.int .i64 wd) (.int .i64 hg) (.slice (some a1) L.length c1)
  own : Own2 w1 (w.heap.size + 2) (some a1) L
  b : Below w.heap.size w w1
  n : w.heap.size + 2 ≤ fb
section
variable {w w1 w2 : World} {a : Option Addr} {l : List Int} {c K K' fb : Nat} {wd hg : Int} {a1 : Addr} {L : List Int} {c1 : Nat}
theorem Dw.step (h : Dw w a l c K fb wd hg a1 L c1 w1) (b : Below w1.heap.size w1 w2) : Dw w a l c K fb wd hg a1 L c1 w2 :=
  ⟨h.cur.below b, h.res.below b, h.box.below b, h.own.below b, below_then h.b b, h.n⟩
theorem Dw.turn (h : Dw w a l c K fb wd hg a1 L c1 w1) (hc : CurIs w2 (w.heap.size + 1) a l c K') (t : w1.grownBy w2 (some (w.heap.size + 1))) : Dw w a l c K' fb wd hg a1 L c1 w2 :=
  ⟨hc, h.res.turn t (by omega), h.box.turn t (by have := h.n; omega), h.own.turn t (by omega), below_grown h.b t (by omega), h.n⟩
end
set_option maxRecDepth 100000 in
set_option maxHeartbeats 4000000 in
theorem drawMax_any (w : World) (a : Option Addr) (l : List Int) (c : Nat) (hi : Ints .u8 w w.heap.size a l) (hb : ∀ z ∈ l, 0 ≤ z ∧ z ≤ 255) (hl : l.length ≤ 1048576) :
    Calls Try.prog 15 #[.slice a l.length c] w (DrawFN w) := by
  have i1 := ints_alloc hi (.cells #[.int .i64 0, .int .i64 0, .slice none 0 0] 26)
  have hcn := cur_new (w.alloc (.cells #[.int .i64 0, .int .i64 0, .slice none 0 0] 26)) a l c i1 hb hl
  rw [World.size_alloc] at hcn
  obtain ⟨W0, hW0⟩ : ∃ W, (w.alloc (.cells #[.int .i64 0, .int .i64 0, .slice none 0 0] 26)).alloc (.cells #[.slice a l.length c, .int .i64 0, .int .u64 0] 51) = W := ⟨_, rfl⟩
  rw [hW0] at hcn
  have C0 := Lib.hid hcn
  have R0 := Lib.hid (show Box W0 w.heap.size 26 (.int .i64 0) (.int .i64 0) (.slice none 0 0) by rw [← hW0]; exact (Box.new w _ _ _ _).alloc _)
  have B0 := Lib.hid (show Below w.heap.size w W0 by rw [← hW0]; exact ((below_all w _).alloc (by simp) _))
  clear hi hb hcn i1
  have hz0 := C0.out.lt
  go_enter Try.func15, Try.ntmps15
  go_wp2_with fail
  refine (anyField_any W0 (w.heap.size + 1) a l c 0 (by omega) C0.out).mono ?_
  rintro e w2 ⟨wd, hg, L, a1, c1, ⟨m1, m2, m3, m4, m5, m6⟩, rfl, o1, hc, ho⟩
  have hsz := ho.size
  have D2 : Dw w a l c (0 + 400) w2.heap.size wd hg a1 L c1 (w2.alloc (.cells #[.int .i64 wd, .int .i64 hg, .slice (some a1) L.length c1] 26)) :=
    ⟨hc.alloc _, (R0.out.turn ho (by omega)).alloc _, Box.new _ _ _ _ _, (o1.below (below_all _ _)).more (by omega), (below_grown B0.out ho (by omega)).alloc (below_grown B0.out ho (by omega)).size _, by omega⟩
  obtain ⟨W2, hW2⟩ : ∃ W, w2.alloc (.cells #[.int .i64 wd, .int .i64 hg, .slice (some a1) L.length c1] 26) = W := ⟨_, rfl⟩
  obtain ⟨fb, hfb⟩ : ∃ q, w2.heap.size = q := ⟨_, rfl⟩
  rw [hW2, hfb] at D2
  have HD2 := Lib.hid (D2.step (w2 := W2.drew) ⟨rfl, rfl, rfl, Nat.le_refl _, fun _ _ => rfl⟩)
  obtain ⟨x0, x1, x2⟩ := HD2.out.box.cells
  clear hc ho o1 R0 B0 C0 D2
  go_wp2_with fail
  skip
  clear hW2 hfb
  go_region_held3 (fun w' => w'.cell? ⟨fb, 0, none⟩ = some (.int .i64 wd) ∧ w'.cell? ⟨fb, 1, none⟩ = some (.int .i64 hg) ∧ w'.cell? ⟨fb, 2, none⟩ = some (.slice (some a1) L.length c1))
    (first | exact HD9.out.box.cells | exact (box_other3 HD9.out.box (show fb ≠ w.heap.size by have := HD9.out.n; omega) _ _ _).cells | exact HD2.out.box.cells | go_keep)
    (first | (go_at_call 50; refine (radius_any _ _ a l c _ (by omega) HD2.out.cur).mono ?_; rintro e w9 ⟨z, hz, rfl, hc9, ho9⟩; have HD9 := Lib.hid (HD2.out.turn hc9 ho9); obtain ⟨t0, t1, t2⟩ := HD9.out.res.cells; have g0 := HD9.out.res.frozen 0; have g1 := HD9.out.res.frozen 1; have g2 := HD9.out.res.frozen 2; clear hc9 ho9))
  rename_i hHeld
  clear hHeld
  go_wp2
  have K1 := own2_box (HD9.out.own.more (Nat.le_succ _)) (show w.heap.size < w.heap.size + 1 by omega) (.int .i64 wd) (.int .i64 hg) (.slice (some a1) L.length c1)
  have K3 := below_set3 HD9.out.b (Nat.le_refl w.heap.size) (.int .i64 wd) (.int .i64 hg) (.slice (some a1) L.length c1)
  refine bodyPost_ret (v := .tuple #[.agg #[.int .i64 wd, .int .i64 hg, .slice (some a1) L.length c1], .int .i64 z]) (by simp [results, Try.results15, go_sem, t0, t1, t2]) rfl ⟨wd, hg, L, a1, c1, z, ⟨m1, m2⟩, rfl, K1, K3⟩
theorem lit_cutd {w w1 : World} {g : Nat} (L : List Int) (n : Nat) (hg : g < w.heap.size) (ho : Only g ((w.alloc (.cells (L.map (Value.int .i64)).toArray 3)).drew) w1) : ∀ k (h : k < (L.take n).length), w1.cell? ⟨w.heap.size, k, none⟩ = some (.int .i64 (L.take n)[k]) := by
  intro k hk
  have h1 : k < L.length := by rw [List.length_take] at hk; omega
  rw [List.getElem_take]
  exact (World.cell?_of_block (ho.1.block w.heap.size (by show w.heap.size < (w.alloc _).heap.size; simp) (by intro e; injection e with e; omega))).trans (lit_ints w L 3 k h1)
theorem lit_cutn (w : World) (L : List Int) (n : Nat) : ∀ k (h : k < (L.take n).length), (w.alloc (.cells (L.map (Value.int .i64)).toArray 3)).cell? ⟨w.heap.size, k, none⟩ = some (.int .i64 (L.take n)[k]) := by
  intro k hk
  have h1 : k < L.length := by rw [List.length_take] at hk; omega
  rw [List.getElem_take]
  exact lit_ints w L 3 k h1
theorem lt_of_cell {w : World} {b o : Nat} {v : Value} (h : w.cell? ⟨b, o, none⟩ = some v) : b < w.heap.size := by
  rcases Nat.lt_or_ge b w.heap.size with hlt | hge
  · exact hlt
  · simp [World.cell?, Array.getElem?_eq_none hge] at h
theorem pick_lit (w : World) (g : Nat) (a : Option Addr) (l : List Int) (c K n : Nat) (z : Int) (hz : z = (n : Int)) (hK : K ≤ 1000000) (hn : 1 ≤ n) (hn2 : n ≤ 1048576) (h : CurIs w g a l c K) :
    Calls Try.prog 61 #[.pointer (some ⟨g, 0, none⟩), .int .i64 z] w (Drawn g a l c (K + 2) (IsNum n) w) := by subst hz; exact pick_any w g a l c K n hK hn hn2 h
set_option maxRecDepth 100000 in
set_option maxHeartbeats 8000000 in
theorem drawRep_any (w : World) (a : Option Addr) (l : List Int) (c : Nat) (hi : Ints .u8 w w.heap.size a l) (hb : ∀ z ∈ l, 0 ≤ z ∧ z ≤ 255) (hl : l.length ≤ 1048576) :
    Calls Try.prog 35 #[.slice a l.length c] w (DrawFNN w) := by
  have i1 := ints_alloc hi (.cells #[.int .i64 0, .int .i64 0, .slice none 0 0] 26)
  have hcn := cur_new (w.alloc (.cells #[.int .i64 0, .int .i64 0, .slice none 0 0] 26)) a l c i1 hb hl
  rw [World.size_alloc] at hcn
  obtain ⟨W0, hW0⟩ : ∃ W, (w.alloc (.cells #[.int .i64 0, .int .i64 0, .slice none 0 0] 26)).alloc (.cells #[.slice a l.length c, .int .i64 0, .int .u64 0] 51) = W := ⟨_, rfl⟩
  rw [hW0] at hcn
  have C0 := Lib.hid hcn
  have R0 := Lib.hid (show Box W0 w.heap.size 26 (.int .i64 0) (.int .i64 0) (.slice none 0 0) by rw [← hW0]; exact (Box.new w _ _ _ _).alloc _)
  have B0 := Lib.hid (show Below w.heap.size w W0 by rw [← hW0]; exact ((below_all w _).alloc (by simp) _))
  clear hi hb hcn i1
  have hz0 := C0.out.lt
  go_enter Try.func35, Try.ntmps35
  go_wp2_with fail
  refine (anyField_any W0 (w.heap.size + 1) a l c 0 (by omega) C0.out).mono ?_
  rintro e w2 ⟨wd, hg, L, a1, c1, ⟨m1, m2, m3, m4, m5, m6⟩, rfl, o1, hc, ho⟩
  have hsz := ho.size
  have D2 : Dw w a l c (0 + 400) w2.heap.size wd hg a1 L c1 (w2.alloc (.cells #[.int .i64 wd, .int .i64 hg, .slice (some a1) L.length c1] 26)) :=
    ⟨hc.alloc _, (R0.out.turn ho (by omega)).alloc _, Box.new _ _ _ _ _, (o1.below (below_all _ _)).more (by omega), (below_grown B0.out ho (by omega)).alloc (below_grown B0.out ho (by omega)).size _, by omega⟩
  obtain ⟨W2, hW2⟩ : ∃ W, w2.alloc (.cells #[.int .i64 wd, .int .i64 hg, .slice (some a1) L.length c1] 26) = W := ⟨_, rfl⟩
  obtain ⟨fb, hfb⟩ : ∃ q, w2.heap.size = q := ⟨_, rfl⟩
  rw [hW2, hfb] at D2
  have HD2 := Lib.hid D2
  clear hc ho o1 R0 B0 C0 D2
  go_wp2_with fail
  clear hW2 hfb
  refine (radius_any _ _ a l c _ (by omega) HD2.out.cur).mono ?_
  rintro e w3 ⟨z, hz, rfl, hc3, ho3⟩
  have HD3 := Lib.hid (HD2.out.turn hc3 ho3)
  clear hc3 ho3 HD2
  go_wp2_with fail
  have HDA := Lib.hid ((HD3.out.step (below_all _ (.cells #[.int .i64 0, .int .i64 1, .int .i64 2, .int .i64 5, .int .i64 (-1), .int .i64 6] 3))).step (w2 := (w3.alloc (.cells #[.int .i64 0, .int .i64 1, .int .i64 2, .int .i64 5, .int .i64 (-1), .int .i64 6] 3)).drew) ⟨rfl, rfl, rfl, Nat.le_refl _, fun _ _ => rfl⟩)
  have HDB := Lib.hid (HD3.out.step (w2 := w3.drew) ⟨rfl, rfl, rfl, Nat.le_refl _, fun _ _ => rfl⟩)
  have hfbr := HDB.out.n
  have hcw : w.heap.size + 1 < w3.heap.size := HDB.out.cur.lt
  have hfne : ¬ fb = w.heap.size := by omega
  have hfne2 : ¬ w.heap.size = fb := by omega
  go_region_held3 (fun w' => w'.cell? ⟨fb, 0, none⟩ = some (.int .i64 wd) ∧ w'.cell? ⟨fb, 1, none⟩ = some (.int .i64 hg) ∧ w'.cell? ⟨fb, 2, none⟩ = some (.slice (some a1) L.length c1))
    (first | exact HD10.out.box.cells | exact (box_other3 HD10.out.box (show fb ≠ w.heap.size by omega) _ _ _).cells | exact HD9L.out.box.cells | exact HD9.out.box.cells | exact HDA.out.box.cells | exact HDB.out.box.cells | go_keep)
    (first
      | (go_at_call 61; (first | ((with_reducible refine (pick_lit _ _ a l c _ 24 24 rfl (by omega) (by omega) (by omega) HDA.out.cur).mono ?_); rintro e w9 ⟨v, ⟨r, hr, rfl⟩, rfl, hc9, ho9⟩; have HLC := Lib.hid (fun n => lit_cutd [0, 1, 2, 5, -1, 6] n hcw ho9); have HD9 := Lib.hid (HDA.out.turn hc9 ho9.1); clear hc9 ho9; obtain ⟨d, hd⟩ : ∃ d, r / 11 = d := ⟨_, rfl⟩; have p5 : Int.tdiv (r : Int) 11 = (d : Int) := (by rw [← hd]; exact (Int.ofNat_tdiv r 11).symm); have hd2 : d ≤ 2 := (by omega); have p6 : IntKind.i64.wrap (d : Int) = (d : Int) := (IntWalk.i64_in _ (by omega)); obtain ⟨N, hN⟩ : ∃ N, 4 + d = N := ⟨_, rfl⟩; have p7 : IntKind.i64.wrap (4 + (d : Int)) = (N : Int) := (by rw [IntWalk.i64_in _ (by omega)]; omega); have pp0 : (0 : Int) ≤ (N : Int) := (by omega); have pp1 : (N : Int) ≤ 6 := (by omega); have pN1 : 1 ≤ N := (by omega); have pN6 : N ≤ 6 := (by omega); clear hd hN) | ((with_reducible refine (pick_lit _ _ a l c _ 24 24 rfl (by omega) (by omega) (by omega) HDB.out.cur).mono ?_); rintro e w9 ⟨v, ⟨r, hr, rfl⟩, rfl, hc9, ho9⟩; have HD9 := Lib.hid (HDB.out.turn hc9 ho9.1); have HD9L := Lib.hid (HD9.out.step (below_all _ (.cells #[.int .i64 0, .int .i64 1, .int .i64 2, .int .i64 5, .int .i64 (-1), .int .i64 6] 3))); have hcw9 := HD9.out.cur.lt; have HLC : Hid (∀ (n k : Nat) (h : k < (List.take n ([0, 1, 2, 5, -1, 6] : List Int)).length), (w9.alloc (.cells #[.int .i64 0, .int .i64 1, .int .i64 2, .int .i64 5, .int .i64 (-1), .int .i64 6] 3)).cell? ⟨w9.heap.size, k, none⟩ = some (.int .i64 (List.take n ([0, 1, 2, 5, -1, 6] : List Int))[k])) := Lib.hid (fun n => lit_cutn w9 [0, 1, 2, 5, -1, 6] n); clear hc9 ho9; obtain ⟨d, hd⟩ : ∃ d, r / 11 = d := ⟨_, rfl⟩; have p5 : Int.tdiv (r : Int) 11 = (d : Int) := (by rw [← hd]; exact (Int.ofNat_tdiv r 11).symm); have hd2 : d ≤ 2 := (by omega); have p6 : IntKind.i64.wrap (d : Int) = (d : Int) := (IntWalk.i64_in _ (by omega)); obtain ⟨N, hN⟩ : ∃ N, 4 + d = N := ⟨_, rfl⟩; have p7 : IntKind.i64.wrap (4 + (d : Int)) = (N : Int) := (by rw [IntWalk.i64_in _ (by omega)]; omega); have pp0 : (0 : Int) ≤ (N : Int) := (by omega); have pp1 : (N : Int) ≤ 6 := (by omega); have pN1 : 1 ≤ N := (by omega); have pN6 : N ≤ 6 := (by omega); clear hd hN)))
      | (go_at_call 62; (first | ((with_reducible refine (among_any w9 _ a l c _ w3.heap.size N ([0, 1, 2, 5, -1, 6].take N) (by omega) (by rw [List.length_take]; simp only [List.length_cons, List.length_nil]; omega) (by omega) (by omega) HD9.out.cur (by omega) (by have h9 := HLC.out 1 0 (by simp); exact lt_of_cell h9) (HLC.out N) 6).mono ?_); rintro e w10 ⟨v, ⟨y, hzy, rfl⟩, rfl, hc10, ho10⟩; have HD10 := Lib.hid (HD9.out.turn hc10 ho10.1); obtain ⟨t0, t1, t2⟩ := HD10.out.res.cells; have g0 := HD10.out.res.frozen 0; have g1 := HD10.out.res.frozen 1; have g2 := HD10.out.res.frozen 2; clear hc10 ho10) | ((with_reducible refine (among_any _ _ a l c _ w9.heap.size N ([0, 1, 2, 5, -1, 6].take N) (by omega) (by rw [List.length_take]; simp only [List.length_cons, List.length_nil]; omega) (by omega) (by omega) HD9L.out.cur (by omega) (by simp) (HLC.out N) 6).mono ?_); rintro e w10 ⟨v, ⟨y, hzy, rfl⟩, rfl, hc10, ho10⟩; have HD10 := Lib.hid (HD9L.out.turn hc10 ho10.1); obtain ⟨t0, t1, t2⟩ := HD10.out.res.cells; have g0 := HD10.out.res.frozen 0; have g1 := HD10.out.res.frozen 1; have g2 := HD10.out.res.frozen 2; clear hc10 ho10))))
  all_goals
    rename_i hHeld
    clear hHeld
    go_wp2
    have K1 := own2_box (HD10.out.own.more (Nat.le_succ _)) (show w.heap.size < w.heap.size + 1 by omega) (.int .i64 wd) (.int .i64 hg) (.slice (some a1) L.length c1)
    have K3 := below_set3 HD10.out.b (Nat.le_refl w.heap.size) (.int .i64 wd) (.int .i64 hg) (.slice (some a1) L.length c1)
    refine bodyPost_ret (v := .tuple #[.agg #[.int .i64 wd, .int .i64 hg, .slice (some a1) L.length c1], .int .i64 z, .int .i64 y]) (by simp [results, Try.results35, go_sem, t0, t1, t2]) rfl ⟨wd, hg, L, a1, c1, z, y, ⟨m1, m2⟩, rfl, K1, K3⟩
end Go.Proofs.Ytdkffljnfemngaa
namespace Go.Proofs.Ytdkffljnfemngaa
open Go.RowKit
set_option linter.unusedVariables false
set_option linter.unusedSimpArgs false
theorem own2_cell {w : World} {B gr o : Nat} {L : List Int} (h : Own2 w B (some ⟨gr, o, none⟩) L) {r : Nat} (hr : r < L.length) : w.cell? ⟨gr, o + r, none⟩ = some (.int .i64 L[r]) := by
  rcases h with h | ⟨g', o', h1, _, _, h2, _⟩
  · rw [h] at hr; simp at hr
  · injection h1 with h1
    injection h1 with h1 h3
    subst h1 h3
    exact h2 r hr
set_option maxRecDepth 100000 in
set_option maxHeartbeats 8000000 in
theorem drawCov_any (w : World) (a : Option Addr) (l : List Int) (c : Nat) (hi : Ints .u8 w w.heap.size a l) (hb : ∀ z ∈ l, 0 ≤ z ∧ z ≤ 255) (hl : l.length ≤ 1048576) :
    Calls Try.prog 25 #[.slice a l.length c] w (DrawFNN w) := by
  have i1 := ints_alloc hi (.cells #[.int .i64 0, .int .i64 0, .slice none 0 0] 26)
  have hcn := cur_new (w.alloc (.cells #[.int .i64 0, .int .i64 0, .slice none 0 0] 26)) a l c i1 hb hl
  rw [World.size_alloc] at hcn
  obtain ⟨W0, hW0⟩ : ∃ W, (w.alloc (.cells #[.int .i64 0, .int .i64 0, .slice none 0 0] 26)).alloc (.cells #[.slice a l.length c, .int .i64 0, .int .u64 0] 51) = W := ⟨_, rfl⟩
  rw [hW0] at hcn
  have C0 := Lib.hid hcn
  have R0 := Lib.hid (show Box W0 w.heap.size 26 (.int .i64 0) (.int .i64 0) (.slice none 0 0) by rw [← hW0]; exact (Box.new w _ _ _ _).alloc _)
  have B0 := Lib.hid (show Below w.heap.size w W0 by rw [← hW0]; exact ((below_all w _).alloc (by simp) _))
  clear hi hb hcn i1
  have hz0 := C0.out.lt
  go_enter Try.func25, Try.ntmps25
  go_wp2_with fail
  refine (anyField_any W0 (w.heap.size + 1) a l c 0 (by omega) C0.out).mono ?_
  rintro e w2 ⟨wd, hg, L, a1, c1, ⟨m1, m2, m3, m4, m5, m6⟩, rfl, o1, hc, ho⟩
  have hsz := ho.size
  have D2 : Dw w a l c (0 + 400) w2.heap.size wd hg a1 L c1 (w2.alloc (.cells #[.int .i64 wd, .int .i64 hg, .slice (some a1) L.length c1] 26)) :=
    ⟨hc.alloc _, (R0.out.turn ho (by omega)).alloc _, Box.new _ _ _ _ _, (o1.below (below_all _ _)).more (by omega), (below_grown B0.out ho (by omega)).alloc (below_grown B0.out ho (by omega)).size _, by omega⟩
  obtain ⟨W2, hW2⟩ : ∃ W, w2.alloc (.cells #[.int .i64 wd, .int .i64 hg, .slice (some a1) L.length c1] 26) = W := ⟨_, rfl⟩
  obtain ⟨fb, hfb⟩ : ∃ q, w2.heap.size = q := ⟨_, rfl⟩
  rw [hW2, hfb] at D2
  have HD2 := Lib.hid D2
  clear hc ho o1 R0 B0 C0 D2
  go_wp2_with fail
  clear hW2 hfb
  refine (radius_any _ _ a l c _ (by omega) HD2.out.cur).mono ?_
  rintro e w3 ⟨z, hz, rfl, hc3, ho3⟩
  have HD3 := Lib.hid (HD2.out.turn hc3 ho3)
  clear hc3 ho3 HD2
  obtain ⟨x0, x1, x2⟩ := HD3.out.box.cells
  by_cases hl0 : 0 < L.length
  · have hl1 : (0 : Int) < (L.length : Int) := by omega
    go_wp2_with fail
    refine (one_any _ _ a l c _ 2 (by omega) (by omega) (by omega) HD3.out.cur).mono ?_
    rintro e w4 ⟨v, ⟨b, rfl⟩, rfl, hc4, ho4⟩
    have HD4 := Lib.hid (HD3.out.turn hc4 ho4.1)
    clear hc4 ho4 HD3 x0 x1 x2
    obtain ⟨x0, x1, x2⟩ := HD4.out.box.cells
    cases b with
    | true =>
      go_wp2_with fail
      have HDB := Lib.hid (HD4.out.step (w2 := w4.drew) ⟨rfl, rfl, rfl, Nat.le_refl _, fun _ _ => rfl⟩)
      have hfbr := HDB.out.n
      have hfne : ¬ fb = w.heap.size := by omega
      have hfne2 : ¬ w.heap.size = fb := by omega
      obtain ⟨gr, o, ha1, hgB, hgl, hcs⟩ : ∃ gr o, a1 = ⟨gr, o, none⟩ ∧ w.heap.size + 2 ≤ gr ∧ True ∧ True := by
        rcases HDB.out.own with h | ⟨gr, o, h1, h2, _, _⟩
        · rw [h] at hl0; simp at hl0
        · injection h1 with h1; exact ⟨gr, o, h1, h2, trivial, trivial⟩
      subst ha1
      have hgne : ¬ gr = w.heap.size := by omega
      have hgne2 : ¬ w.heap.size = gr := by omega
      clear hgl hcs x0 x1 x2
      obtain ⟨x0, x1, x2⟩ := HDB.out.box.cells
      go_region_held3 (fun w' => (w'.cell? ⟨fb, 0, none⟩ = some (.int .i64 wd) ∧ w'.cell? ⟨fb, 1, none⟩ = some (.int .i64 hg) ∧ w'.cell? ⟨fb, 2, none⟩ = some (.slice (some ⟨gr, o, none⟩) L.length c1)) ∧ ∀ j (h : j < L.length), w'.cell? ⟨gr, o + j, none⟩ = some (.int .i64 L[j]))
        (first | exact ⟨HD10.out.box.cells, fun j h => own2_cell HD10.out.own h⟩ | exact ⟨(box_other3 HD10.out.box (show fb ≠ w.heap.size by omega) _ _ _).cells, fun j h => own2_cell (own2_set3 HD10.out.own (show w.heap.size < w.heap.size + 2 by omega) _ _ _) h⟩ | exact ⟨HDB.out.box.cells, fun j h => own2_cell HDB.out.own h⟩ | go_keep)
        (first
          | (go_at_call 61; refine (pick_any _ _ a l c _ L.length (by omega) (by omega) (by omega) HDB.out.cur).mono ?_; rintro e w10 ⟨v, ⟨r, hr, rfl⟩, rfl, hc10, ho10⟩; have HD10 := Lib.hid (HDB.out.turn hc10 ho10.1); obtain ⟨t0, t1, t2⟩ := HD10.out.res.cells; have g0 := HD10.out.res.frozen 0; have g1 := HD10.out.res.frozen 1; have g2 := HD10.out.res.frozen 2; have pp0 : (0 : Int) ≤ (r : Int) := (by omega); have pp1 : (r : Int) < (L.length : Int) := (by omega); clear hc10 ho10))
      all_goals
        rename_i hHeld
        clear hHeld
        go_wp2
        have K1 := own2_box (HD10.out.own.more (Nat.le_succ _)) (show w.heap.size < w.heap.size + 1 by omega) (.int .i64 wd) (.int .i64 hg) (.slice (some ⟨gr, o, none⟩) L.length c1)
        have K3 := below_set3 HD10.out.b (Nat.le_refl w.heap.size) (.int .i64 wd) (.int .i64 hg) (.slice (some ⟨gr, o, none⟩) L.length c1)
        refine bodyPost_ret (v := .tuple #[.agg #[.int .i64 wd, .int .i64 hg, .slice (some ⟨gr, o, none⟩) L.length c1], .int .i64 z, .int .i64 L[r]]) (by simp [results, Try.results25, go_sem, t0, t1, t2]) rfl ⟨wd, hg, L, ⟨gr, o, none⟩, c1, z, L[r], ⟨m1, m2⟩, rfl, K1, K3⟩
    | false =>
      clear x0 x1 x2
      go_wp2_with fail
      have HDA := Lib.hid ((HD4.out.step (below_all _ (.cells #[.int .i64 0, .int .i64 5, .int .i64 (-5), .int .i64 9000, .int .i64 (-9000), .int .i64 9001, .int .i64 (-9001)] 3))).step (w2 := (w4.alloc (.cells #[.int .i64 0, .int .i64 5, .int .i64 (-5), .int .i64 9000, .int .i64 (-9000), .int .i64 9001, .int .i64 (-9001)] 3)).drew) ⟨rfl, rfl, rfl, Nat.le_refl _, fun _ _ => rfl⟩)
      have HDB := Lib.hid (HD4.out.step (w2 := w4.drew) ⟨rfl, rfl, rfl, Nat.le_refl _, fun _ _ => rfl⟩)
      have hfbr := HDB.out.n
      have hcw : w.heap.size + 1 < w4.heap.size := HDB.out.cur.lt
      have hfne : ¬ fb = w.heap.size := by omega
      have hfne2 : ¬ w.heap.size = fb := by omega
      obtain ⟨x0, x1, x2⟩ := HDB.out.box.cells
      go_region_held3 (fun w' => w'.cell? ⟨fb, 0, none⟩ = some (.int .i64 wd) ∧ w'.cell? ⟨fb, 1, none⟩ = some (.int .i64 hg) ∧ w'.cell? ⟨fb, 2, none⟩ = some (.slice (some a1) L.length c1))
        (first | exact HD10.out.box.cells | exact (box_other3 HD10.out.box (show fb ≠ w.heap.size by omega) _ _ _).cells | exact HD9L.out.box.cells | exact HD9.out.box.cells | exact HDA.out.box.cells | exact HDB.out.box.cells | go_keep)
        (first
          | (go_at_call 61; (first | ((with_reducible refine (pick_lit _ _ a l c _ 24 24 rfl (by omega) (by omega) (by omega) HDA.out.cur).mono ?_); rintro e w9 ⟨v, ⟨r, hr, rfl⟩, rfl, hc9, ho9⟩; have HLC := Lib.hid (fun n => lit_cutd [0, 5, -5, 9000, -9000, 9001, -9001] n hcw ho9); have HD9 := Lib.hid (HDA.out.turn hc9 ho9.1); clear hc9 ho9; obtain ⟨d, hd⟩ : ∃ d, r / 11 = d := ⟨_, rfl⟩; have p5 : Int.tdiv (r : Int) 11 = (d : Int) := (by rw [← hd]; exact (Int.ofNat_tdiv r 11).symm); have hd2 : d ≤ 2 := (by omega); have p6 : IntKind.i64.wrap (d : Int) = (d : Int) := (IntWalk.i64_in _ (by omega)); obtain ⟨N, hN⟩ : ∃ N, 5 + d = N := ⟨_, rfl⟩; have p7 : IntKind.i64.wrap (5 + (d : Int)) = (N : Int) := (by rw [IntWalk.i64_in _ (by omega)]; omega); have pp0 : (0 : Int) ≤ (N : Int) := (by omega); have pp1 : (N : Int) ≤ 7 := (by omega); have pN1 : 1 ≤ N := (by omega); have pN6 : N ≤ 7 := (by omega); clear hd hN) | ((with_reducible refine (pick_lit _ _ a l c _ 24 24 rfl (by omega) (by omega) (by omega) HDB.out.cur).mono ?_); rintro e w9 ⟨v, ⟨r, hr, rfl⟩, rfl, hc9, ho9⟩; have HD9 := Lib.hid (HDB.out.turn hc9 ho9.1); have HD9L := Lib.hid (HD9.out.step (below_all _ (.cells #[.int .i64 0, .int .i64 5, .int .i64 (-5), .int .i64 9000, .int .i64 (-9000), .int .i64 9001, .int .i64 (-9001)] 3))); have hcw9 := HD9.out.cur.lt; have HLC : Hid (∀ (n k : Nat) (h : k < (List.take n ([0, 5, -5, 9000, -9000, 9001, -9001] : List Int)).length), (w9.alloc (.cells #[.int .i64 0, .int .i64 5, .int .i64 (-5), .int .i64 9000, .int .i64 (-9000), .int .i64 9001, .int .i64 (-9001)] 3)).cell? ⟨w9.heap.size, k, none⟩ = some (.int .i64 (List.take n ([0, 5, -5, 9000, -9000, 9001, -9001] : List Int))[k])) := Lib.hid (fun n => lit_cutn w9 [0, 5, -5, 9000, -9000, 9001, -9001] n); clear hc9 ho9; obtain ⟨d, hd⟩ : ∃ d, r / 11 = d := ⟨_, rfl⟩; have p5 : Int.tdiv (r : Int) 11 = (d : Int) := (by rw [← hd]; exact (Int.ofNat_tdiv r 11).symm); have hd2 : d ≤ 2 := (by omega); have p6 : IntKind.i64.wrap (d : Int) = (d : Int) := (IntWalk.i64_in _ (by omega)); obtain ⟨N, hN⟩ : ∃ N, 5 + d = N := ⟨_, rfl⟩; have p7 : IntKind.i64.wrap (5 + (d : Int)) = (N : Int) := (by rw [IntWalk.i64_in _ (by omega)]; omega); have pp0 : (0 : Int) ≤ (N : Int) := (by omega); have pp1 : (N : Int) ≤ 7 := (by omega); have pN1 : 1 ≤ N := (by omega); have pN6 : N ≤ 7 := (by omega); clear hd hN)))
          | (go_at_call 62; (first | ((with_reducible refine (among_any w9 _ a l c _ w4.heap.size N ([0, 5, -5, 9000, -9000, 9001, -9001].take N) (by omega) (by rw [List.length_take]; simp only [List.length_cons, List.length_nil]; omega) (by omega) (by omega) HD9.out.cur (by omega) (by have h9 := HLC.out 1 0 (by simp); exact lt_of_cell h9) (HLC.out N) 7).mono ?_); rintro e w10 ⟨v, ⟨y, hz10, rfl⟩, rfl, hc10, ho10⟩; have HD10 := Lib.hid (HD9.out.turn hc10 ho10.1); obtain ⟨t0, t1, t2⟩ := HD10.out.res.cells; have g0 := HD10.out.res.frozen 0; have g1 := HD10.out.res.frozen 1; have g2 := HD10.out.res.frozen 2; clear hc10 ho10) | ((with_reducible refine (among_any _ _ a l c _ w9.heap.size N ([0, 5, -5, 9000, -9000, 9001, -9001].take N) (by omega) (by rw [List.length_take]; simp only [List.length_cons, List.length_nil]; omega) (by omega) (by omega) HD9L.out.cur (by omega) (by simp) (HLC.out N) 7).mono ?_); rintro e w10 ⟨v, ⟨y, hz10, rfl⟩, rfl, hc10, ho10⟩; have HD10 := Lib.hid (HD9L.out.turn hc10 ho10.1); obtain ⟨t0, t1, t2⟩ := HD10.out.res.cells; have g0 := HD10.out.res.frozen 0; have g1 := HD10.out.res.frozen 1; have g2 := HD10.out.res.frozen 2; clear hc10 ho10))))
      all_goals
        rename_i hHeld
        clear hHeld
        go_wp2
        have K1 := own2_box (HD10.out.own.more (Nat.le_succ _)) (show w.heap.size < w.heap.size + 1 by omega) (.int .i64 wd) (.int .i64 hg) (.slice (some a1) L.length c1)
        have K3 := below_set3 HD10.out.b (Nat.le_refl w.heap.size) (.int .i64 wd) (.int .i64 hg) (.slice (some a1) L.length c1)
        refine bodyPost_ret (v := .tuple #[.agg #[.int .i64 wd, .int .i64 hg, .slice (some a1) L.length c1], .int .i64 z, .int .i64 y]) (by simp [results, Try.results25, go_sem, t0, t1, t2]) rfl ⟨wd, hg, L, a1, c1, z, y, ⟨m1, m2⟩, rfl, K1, K3⟩
  · have hl1 : ¬ (0 : Int) < (L.length : Int) := by omega
    go_wp2_with fail
    clear x0 x1 x2
    have HDA := Lib.hid ((HD3.out.step (below_all _ (.cells #[.int .i64 0, .int .i64 5, .int .i64 (-5), .int .i64 9000, .int .i64 (-9000), .int .i64 9001, .int .i64 (-9001)] 3))).step (w2 := (w3.alloc (.cells #[.int .i64 0, .int .i64 5, .int .i64 (-5), .int .i64 9000, .int .i64 (-9000), .int .i64 9001, .int .i64 (-9001)] 3)).drew) ⟨rfl, rfl, rfl, Nat.le_refl _, fun _ _ => rfl⟩)
    have HDB := Lib.hid (HD3.out.step (w2 := w3.drew) ⟨rfl, rfl, rfl, Nat.le_refl _, fun _ _ => rfl⟩)
    have hfbr := HDB.out.n
    have hcw : w.heap.size + 1 < w3.heap.size := HDB.out.cur.lt
    have hfne : ¬ fb = w.heap.size := by omega
    have hfne2 : ¬ w.heap.size = fb := by omega
    obtain ⟨x0, x1, x2⟩ := HDB.out.box.cells
    go_region_held3 (fun w' => w'.cell? ⟨fb, 0, none⟩ = some (.int .i64 wd) ∧ w'.cell? ⟨fb, 1, none⟩ = some (.int .i64 hg) ∧ w'.cell? ⟨fb, 2, none⟩ = some (.slice (some a1) L.length c1))
      (first | exact HD10.out.box.cells | exact (box_other3 HD10.out.box (show fb ≠ w.heap.size by omega) _ _ _).cells | exact HD9L.out.box.cells | exact HD9.out.box.cells | exact HDA.out.box.cells | exact HDB.out.box.cells | go_keep)
      (first
        | (go_at_call 61; (first | ((with_reducible refine (pick_lit _ _ a l c _ 24 24 rfl (by omega) (by omega) (by omega) HDA.out.cur).mono ?_); rintro e w9 ⟨v, ⟨r, hr, rfl⟩, rfl, hc9, ho9⟩; have HLC := Lib.hid (fun n => lit_cutd [0, 5, -5, 9000, -9000, 9001, -9001] n hcw ho9); have HD9 := Lib.hid (HDA.out.turn hc9 ho9.1); clear hc9 ho9; obtain ⟨d, hd⟩ : ∃ d, r / 11 = d := ⟨_, rfl⟩; have p5 : Int.tdiv (r : Int) 11 = (d : Int) := (by rw [← hd]; exact (Int.ofNat_tdiv r 11).symm); have hd2 : d ≤ 2 := (by omega); have p6 : IntKind.i64.wrap (d : Int) = (d : Int) := (IntWalk.i64_in _ (by omega)); obtain ⟨N, hN⟩ : ∃ N, 5 + d = N := ⟨_, rfl⟩; have p7 : IntKind.i64.wrap (5 + (d : Int)) = (N : Int) := (by rw [IntWalk.i64_in _ (by omega)]; omega); have pp0 : (0 : Int) ≤ (N : Int) := (by omega); have pp1 : (N : Int) ≤ 7 := (by omega); have pN1 : 1 ≤ N := (by omega); have pN6 : N ≤ 7 := (by omega); clear hd hN) | ((with_reducible refine (pick_lit _ _ a l c _ 24 24 rfl (by omega) (by omega) (by omega) HDB.out.cur).mono ?_); rintro e w9 ⟨v, ⟨r, hr, rfl⟩, rfl, hc9, ho9⟩; have HD9 := Lib.hid (HDB.out.turn hc9 ho9.1); have HD9L := Lib.hid (HD9.out.step (below_all _ (.cells #[.int .i64 0, .int .i64 5, .int .i64 (-5), .int .i64 9000, .int .i64 (-9000), .int .i64 9001, .int .i64 (-9001)] 3))); have hcw9 := HD9.out.cur.lt; have HLC : Hid (∀ (n k : Nat) (h : k < (List.take n ([0, 5, -5, 9000, -9000, 9001, -9001] : List Int)).length), (w9.alloc (.cells #[.int .i64 0, .int .i64 5, .int .i64 (-5), .int .i64 9000, .int .i64 (-9000), .int .i64 9001, .int .i64 (-9001)] 3)).cell? ⟨w9.heap.size, k, none⟩ = some (.int .i64 (List.take n ([0, 5, -5, 9000, -9000, 9001, -9001] : List Int))[k])) := Lib.hid (fun n => lit_cutn w9 [0, 5, -5, 9000, -9000, 9001, -9001] n); clear hc9 ho9; obtain ⟨d, hd⟩ : ∃ d, r / 11 = d := ⟨_, rfl⟩; have p5 : Int.tdiv (r : Int) 11 = (d : Int) := (by rw [← hd]; exact (Int.ofNat_tdiv r 11).symm); have hd2 : d ≤ 2 := (by omega); have p6 : IntKind.i64.wrap (d : Int) = (d : Int) := (IntWalk.i64_in _ (by omega)); obtain ⟨N, hN⟩ : ∃ N, 5 + d = N := ⟨_, rfl⟩; have p7 : IntKind.i64.wrap (5 + (d : Int)) = (N : Int) := (by rw [IntWalk.i64_in _ (by omega)]; omega); have pp0 : (0 : Int) ≤ (N : Int) := (by omega); have pp1 : (N : Int) ≤ 7 := (by omega); have pN1 : 1 ≤ N := (by omega); have pN6 : N ≤ 7 := (by omega); clear hd hN)))
        | (go_at_call 62; (first | ((with_reducible refine (among_any w9 _ a l c _ w3.heap.size N ([0, 5, -5, 9000, -9000, 9001, -9001].take N) (by omega) (by rw [List.length_take]; simp only [List.length_cons, List.length_nil]; omega) (by omega) (by omega) HD9.out.cur (by omega) (by have h9 := HLC.out 1 0 (by simp); exact lt_of_cell h9) (HLC.out N) 7).mono ?_); rintro e w10 ⟨v, ⟨y, hz10, rfl⟩, rfl, hc10, ho10⟩; have HD10 := Lib.hid (HD9.out.turn hc10 ho10.1); obtain ⟨t0, t1, t2⟩ := HD10.out.res.cells; have g0 := HD10.out.res.frozen 0; have g1 := HD10.out.res.frozen 1; have g2 := HD10.out.res.frozen 2; clear hc10 ho10) | ((with_reducible refine (among_any _ _ a l c _ w9.heap.size N ([0, 5, -5, 9000, -9000, 9001, -9001].take N) (by omega) (by rw [List.length_take]; simp only [List.length_cons, List.length_nil]; omega) (by omega) (by omega) HD9L.out.cur (by omega) (by simp) (HLC.out N) 7).mono ?_); rintro e w10 ⟨v, ⟨y, hz10, rfl⟩, rfl, hc10, ho10⟩; have HD10 := Lib.hid (HD9L.out.turn hc10 ho10.1); obtain ⟨t0, t1, t2⟩ := HD10.out.res.cells; have g0 := HD10.out.res.frozen 0; have g1 := HD10.out.res.frozen 1; have g2 := HD10.out.res.frozen 2; clear hc10 ho10))))
    all_goals
      rename_i hHeld
      clear hHeld
      go_wp2
      have K1 := own2_box (HD10.out.own.more (Nat.le_succ _)) (show w.heap.size < w.heap.size + 1 by omega) (.int .i64 wd) (.int .i64 hg) (.slice (some a1) L.length c1)
      have K3 := below_set3 HD10.out.b (Nat.le_refl w.heap.size) (.int .i64 wd) (.int .i64 hg) (.slice (some a1) L.length c1)
      refine bodyPost_ret (v := .tuple #[.agg #[.int .i64 wd, .int .i64 hg, .slice (some a1) L.length c1], .int .i64 z, .int .i64 y]) (by simp [results, Try.results25, go_sem, t0, t1, t2]) rfl ⟨wd, hg, L, a1, c1, z, y, ⟨m1, m2⟩, rfl, K1, K3⟩
end Go.Proofs.Ytdkffljnfemngaa
namespace Go.Proofs.Ytdkffljnfemngaa
open Go.RowKit
set_option linter.unusedVariables false
set_option linter.unusedSimpArgs false
theorem own2_frozen {w : World} {B gr o : Nat} {L : List Int} (h : Own2 w B (some ⟨gr, o, none⟩) L) (hl : 0 < L.length) (k : Nat) : w.frozen? ⟨gr, k, none⟩ = false := by
  rcases h with h | ⟨g', o', h1, _, _, _, cur, h2⟩
  · rw [h] at hl; simp at hl
  · injection h1 with h1
    injection h1 with h1 h3
    subst h1
    simp [World.frozen?, h2]
theorem own2_put {w : World} {B gr o : Nat} {L : List Int} (h : Own2 w B (some ⟨gr, o, none⟩) L) {r : Nat} (hr : r < L.length) (z : Int) : Own2 (w.setCell ⟨gr, o + r, none⟩ (.int .i64 z)) B (some ⟨gr, o, none⟩) (L.set r z) := by
  rcases h with h | ⟨g', o', h1, h2, h3, h4, cur, h5⟩
  · rw [h] at hr; simp at hr
  · injection h1 with h1
    injection h1 with h1 h6
    subst h1 h6
    have e5 : (w.setCell ⟨gr, o + r, none⟩ (.int .i64 z)).heap[gr]? = some (.cells (cur.setIfInBounds (o + r) (.int .i64 z)) 3 (0, 0)) := by simp [World.setCell, Array.getElem?_modify, h5]
    refine .inr ⟨gr, o, rfl, h2, by simpa [World.setCell] using h3, fun j hj => ?_, _, e5⟩
    rw [List.length_set] at hj
    have h7 := h4 j hj
    have h8 : cur[o + j]? = some (.int .i64 L[j]) := by simpa [World.cell?, h5] using h7
    have h9 : (w.setCell ⟨gr, o + r, none⟩ (.int .i64 z)).cell? ⟨gr, o + j, none⟩ = (cur.setIfInBounds (o + r) (.int .i64 z))[o + j]? := by simp [World.cell?, e5]
    rw [h9, Array.getElem?_setIfInBounds, List.getElem_set]
    by_cases e : r = j
    · subst e
      have : o + r < cur.size := (Array.getElem?_eq_some_iff.1 h8).1
      simp [this]
    · rw [if_neg (by omega), if_neg e]
      exact h8
theorem Dw.more {w : World} {a : Option Addr} {l : List Int} {c K K' fb : Nat} {wd hg : Int} {a1 : Addr} {L : List Int} {c1 : Nat} {w1 : World} (h : Dw w a l c K fb wd hg a1 L c1 w1) (hk : K ≤ K') : Dw w a l c K' fb wd hg a1 L c1 w1 :=
  ⟨h.cur.more hk, h.res, h.box, h.own, h.b, h.n⟩
theorem Dw.cell {w : World} {a : Option Addr} {l : List Int} {c K fb : Nat} {wd hg : Int} {gr o : Nat} {L : List Int} {c1 : Nat} {w1 : World} (h : Dw w a l c K fb wd hg ⟨gr, o, none⟩ L c1 w1) (hg1 : w.heap.size + 2 ≤ gr) (hf : gr < fb) {r : Nat} (hr : r < L.length) (z : Int) :
    Dw w a l c K fb wd hg ⟨gr, o, none⟩ (L.set r z) c1 (w1.setCell ⟨gr, o + r, none⟩ (.int .i64 z)) := by
  refine ⟨h.cur.setOther (by omega) _ _, h.res.other (by show w.heap.size ≠ gr; omega) _, ?_, own2_put h.own hr z, h.b.setCell (p := ⟨gr, o + r, none⟩) (by show w.heap.size ≤ gr; omega) _, h.n⟩
  rw [List.length_set]
  exact h.box.other (by show fb ≠ gr; omega) _
set_option maxRecDepth 100000 in
set_option maxHeartbeats 8000000 in
theorem drawFillM_any (w : World) (a : Option Addr) (l : List Int) (c : Nat) (hi : Ints .u8 w w.heap.size a l) (hb : ∀ z ∈ l, 0 ≤ z ∧ z ≤ 255) (hl : l.length ≤ 1048576) :
    Calls Try.prog 32 #[.slice a l.length c] w (DrawFN w) := by
  have i1 := ints_alloc hi (.cells #[.int .i64 0, .int .i64 0, .slice none 0 0] 26)
  have hcn := cur_new (w.alloc (.cells #[.int .i64 0, .int .i64 0, .slice none 0 0] 26)) a l c i1 hb hl
  rw [World.size_alloc] at hcn
  obtain ⟨W0, hW0⟩ : ∃ W, (w.alloc (.cells #[.int .i64 0, .int .i64 0, .slice none 0 0] 26)).alloc (.cells #[.slice a l.length c, .int .i64 0, .int .u64 0] 51) = W := ⟨_, rfl⟩
  rw [hW0] at hcn
  have C0 := Lib.hid hcn
  have R0 := Lib.hid (show Box W0 w.heap.size 26 (.int .i64 0) (.int .i64 0) (.slice none 0 0) by rw [← hW0]; exact (Box.new w _ _ _ _).alloc _)
  have B0 := Lib.hid (show Below w.heap.size w W0 by rw [← hW0]; exact ((below_all w _).alloc (by simp) _))
  clear hi hb hcn i1
  have hz0 := C0.out.lt
  go_enter Try.func32, Try.ntmps32
  go_wp2_with fail
  refine (anyField_any W0 (w.heap.size + 1) a l c 0 (by omega) C0.out).mono ?_
  rintro e w2 ⟨wd, hg, L, a1, c1, ⟨m1, m2, m3, m4, m5, m6⟩, rfl, o1, hc, ho⟩
  have hsz := ho.size
  have hog := o1
  have D2 : Dw w a l c (0 + 400) w2.heap.size wd hg a1 L c1 (w2.alloc (.cells #[.int .i64 wd, .int .i64 hg, .slice (some a1) L.length c1] 26)) :=
    ⟨hc.alloc _, (R0.out.turn ho (by omega)).alloc _, Box.new _ _ _ _ _, (o1.below (below_all _ _)).more (by omega), (below_grown B0.out ho (by omega)).alloc (below_grown B0.out ho (by omega)).size _, by omega⟩
  obtain ⟨W2, hW2⟩ : ∃ W, w2.alloc (.cells #[.int .i64 wd, .int .i64 hg, .slice (some a1) L.length c1] 26) = W := ⟨_, rfl⟩
  obtain ⟨fb, hfb⟩ : ∃ q, w2.heap.size = q := ⟨_, rfl⟩
  rw [hW2, hfb] at D2
  have HD2 := Lib.hid D2
  have hgr : L = [] ∨ ∃ gr o, a1 = ⟨gr, o, none⟩ ∧ w.heap.size + 2 ≤ gr ∧ gr < fb := by
    rcases hog with h | ⟨gr, o, h1, h2, h3, _⟩
    · exact .inl h
    · injection h1 with h1; exact .inr ⟨gr, o, h1, by omega, by omega⟩
  clear hc ho o1 R0 B0 C0 D2 hog
  go_wp2_with fail
  clear hW2 hfb
  refine (pick_any _ _ a l c _ 6 (by omega) (by omega) (by omega) HD2.out.cur).mono ?_
  rintro e w3 ⟨v, ⟨r, hr, rfl⟩, rfl, hc3, ho3⟩
  have HD3 := Lib.hid (HD2.out.turn hc3 ho3.1)
  clear hc3 ho3 HD2
  go_upto_block 0 with fail
  go_cut [] (fun wx => ∃ L' : List Int, L'.length = L.length ∧ Dw w a l c 500 fb wd hg a1 L' c1 wx)
  case first =>
    as_aux_lemma =>
      by_cases hl0 : 0 < L.length
      · obtain ⟨gr, o, rfl, hgB, hgf⟩ : ∃ gr o, a1 = ⟨gr, o, none⟩ ∧ w.heap.size + 2 ≤ gr ∧ gr < fb := by
          rcases hgr with h | h
          · rw [h] at hl0; simp at hl0
          · exact h
        clear hgr
        go_wp2_with fail
        go_loopw [6] (fun i wr => ∃ (j : Nat) (L' : List Int), j ≤ 6 ∧ i = .int .i64 j ∧ L'.length = L.length ∧ Dw w a l c (500 - 2 * j) fb wd hg ⟨gr, o, none⟩ L' c1 wr) (fun i _ => (intOf i).toNat)
        case atStart => exact ⟨r, L, by omega, rfl, rfl, HD3.out.more (by omega)⟩
        case round =>
          obtain ⟨j, L', hj, rfl, hLL, hD⟩ := hrel
          clear HD3
          have HD := Lib.hid hD
          obtain ⟨x0, x1, x2⟩ := hD.box.cells
          clear hD
          rcases Nat.eq_zero_or_pos j with hj0 | hj0
          · subst hj0
            clear x0 x1 x2
            go_wp2_with fail
            go_meet
            exact ⟨L', hLL, HD.out.more (by omega)⟩
          · obtain ⟨i, rfl⟩ : ∃ i, j = i + 1 := ⟨j - 1, by omega⟩
            have p1 : ((i + 1 : Nat) : Int) - 1 = (i : Int) := by omega
            have p2 : (0 : Int) < ((i + 1 : Nat) : Int) := by omega
            have p3 : (0 : Int) < (L'.length : Int) := by omega
            have hi6 : (i : Int) ≤ 6 := by omega
            have bd : Below wr.heap.size wr wr.drew := ⟨rfl, rfl, rfl, Nat.le_refl _, fun _ _ => rfl⟩
            have HDB := Lib.hid (HD.out.step bd)
            have hL6 : L'.length ≤ 64 := by omega
            have HLL := Lib.hid hLL
            clear bd hLL
            go_wp2_with fail
            go_region_held3 (fun w' => w'.cell? ⟨fb, 0, none⟩ = some (.int .i64 wd) ∧ w'.cell? ⟨fb, 1, none⟩ = some (.int .i64 hg) ∧ w'.cell? ⟨fb, 2, none⟩ = some (.slice (some ⟨gr, o, none⟩) L'.length c1))
              (first | exact HD10.out.box.cells | exact (HD10.out.box.other (show fb ≠ gr by omega) _).cells | exact HDB.out.box.cells | go_keep)
              (first
                | (go_at_call 61; refine (pick_any _ _ a l c _ L'.length (by omega) (by omega) (by omega) HDB.out.cur).mono ?_; rintro e w10 ⟨v, ⟨r2, hr2, rfl⟩, rfl, hc10, ho10⟩; have HD10 := Lib.hid (HDB.out.turn hc10 ho10.1); have hov := own2_cell HD10.out.own hr2; have hfz := own2_frozen HD10.out.own (by omega) (o + r2); have pp0 : (0 : Int) ≤ (r2 : Int) := (by omega); have pp1 : (r2 : Int) < (L'.length : Int) := (by omega); clear hc10 ho10))
            all_goals
              rename_i hHeld
              clear hHeld
              go_wp2_with fail
              go_roundw
              case rel => exact ⟨i, _, by omega, by go_num, by rw [List.length_set]; exact HLL.out, (HD10.out.cell hgB hgf hr2 (-9999)).more (by omega)⟩
              case measure => simp [intOf] <;> omega
      · have hl1 : ¬ (0 : Int) < (L.length : Int) := by omega
        clear hgr
        go_wp2_with fail
        go_loopw [6] (fun i wr => i = .int .i64 r ∧ wr = w3) (fun i _ => 0)
        case atStart => exact ⟨rfl, rfl⟩
        case round =>
          obtain ⟨rfl, rfl⟩ := hrel
          obtain ⟨x0, x1, x2⟩ := HD3.out.box.cells
          rcases Nat.eq_zero_or_pos r with hr0 | hr0
          · subst hr0
            clear x0 x1 x2
            go_wp2_with fail
            go_meet
            exact ⟨L, rfl, HD3.out.more (by omega)⟩
          · have hr1 : (0 : Int) < (r : Int) := by omega
            go_wp2_with fail
            go_meet
            exact ⟨L, rfl, HD3.out.more (by omega)⟩
  case rest =>
  obtain ⟨L', hLL, hD⟩ := hcut
  have HLL := Lib.hid hLL
  clear hLL
  have HDB := Lib.hid (hD.step (w2 := wc.drew) ⟨rfl, rfl, rfl, Nat.le_refl _, fun _ _ => rfl⟩)
  have hfne := hD.n
  clear hD HD3
  obtain ⟨x0, x1, x2⟩ := HDB.out.box.cells
  go_wp2_with fail
  go_region_held3 (fun w' => w'.cell? ⟨fb, 0, none⟩ = some (.int .i64 wd) ∧ w'.cell? ⟨fb, 1, none⟩ = some (.int .i64 hg) ∧ w'.cell? ⟨fb, 2, none⟩ = some (.slice (some a1) L'.length c1))
    (first | exact HD9.out.box.cells | exact (box_other3 HD9.out.box (show fb ≠ w.heap.size by omega) _ _ _).cells | exact HDB.out.box.cells | go_keep)
    (first | (go_at_call 50; refine (radius_any _ _ a l c _ (by omega) HDB.out.cur).mono ?_; rintro e w9 ⟨z, hz, rfl, hc9, ho9⟩; have HD9 := Lib.hid (HDB.out.turn hc9 ho9); obtain ⟨t0, t1, t2⟩ := HD9.out.res.cells; have g0 := HD9.out.res.frozen 0; have g1 := HD9.out.res.frozen 1; have g2 := HD9.out.res.frozen 2; clear hc9 ho9))
  rename_i hHeld
  clear hHeld
  go_wp2
  have K1 := own2_box (HD9.out.own.more (Nat.le_succ _)) (show w.heap.size < w.heap.size + 1 by omega) (.int .i64 wd) (.int .i64 hg) (.slice (some a1) L'.length c1)
  have K3 := below_set3 HD9.out.b (Nat.le_refl w.heap.size) (.int .i64 wd) (.int .i64 hg) (.slice (some a1) L'.length c1)
  refine bodyPost_ret (v := .tuple #[.agg #[.int .i64 wd, .int .i64 hg, .slice (some a1) L'.length c1], .int .i64 z]) (by simp [results, Try.results32, go_sem, t0, t1, t2]) rfl ⟨wd, hg, L', a1, c1, z, ⟨by have := HLL.out; omega, by have := HLL.out; omega⟩, rfl, K1, K3⟩
set_option maxRecDepth 100000 in
set_option maxHeartbeats 4000000 in
theorem drawSmooth_any (w : World) (a : Option Addr) (l : List Int) (c : Nat) (hi : Ints .u8 w w.heap.size a l) (hb : ∀ z ∈ l, 0 ≤ z ∧ z ≤ 255) (hl : l.length ≤ 1048576) :
    Calls Try.prog 38 #[.slice a l.length c] w (DrawFN w) := by
  have HD := Lib.hid (drawFillM_any (w.alloc (.cells #[.int .i64 0, .int .i64 0, .slice none 0 0] 26)) a l c (ints_alloc hi _) hb hl)
  have R0 := Lib.hid (Box.new w 26 (.int .i64 0) (.int .i64 0) (.slice none 0 0))
  clear hi hb
  go_enter Try.func38, Try.ntmps38
  go_wp2_with fail
  refine HD.out.mono ?_
  rintro e w2 ⟨wd, hg, L, a1, c1, z, m1, rfl, o1, b1⟩
  rw [World.size_alloc] at o1
  have R2 := Lib.hid (R0.out.below b1)
  have B2 := Lib.hid (below_then (below_all w (.cells #[.int .i64 0, .int .i64 0, .slice none 0 0] 26)) b1)
  have O2 := Lib.hid o1
  clear o1 b1 R0 HD
  obtain ⟨t0, t1, t2⟩ := R2.out.cells
  have g0 := R2.out.frozen 0
  have g1 := R2.out.frozen 1
  have g2 := R2.out.frozen 2
  go_wp2
  have K1 := own2_box O2.out (show w.heap.size < _ by omega) (.int .i64 wd) (.int .i64 hg) (.slice (some a1) L.length c1)
  have K3 := below_set3 B2.out (Nat.le_refl w.heap.size) (.int .i64 wd) (.int .i64 hg) (.slice (some a1) L.length c1)
  refine bodyPost_ret (v := .tuple #[.agg #[.int .i64 wd, .int .i64 hg, .slice (some a1) L.length c1], .int .i64 z]) (by simp [results, Try.results38, go_sem, t0, t1, t2]) rfl ⟨wd, hg, L, a1, c1, z, m1, rfl, K1, K3⟩
set_option maxRecDepth 100000 in
set_option maxHeartbeats 4000000 in
theorem drawPeak_any (w : World) (a : Option Addr) (l : List Int) (c : Nat) (hi : Ints .u8 w w.heap.size a l) (hb : ∀ z ∈ l, 0 ≤ z ∧ z ≤ 255) (hl : l.length ≤ 1048576) :
    Calls Try.prog 28 #[.slice a l.length c] w (DrawFN w) := by
  have HD := Lib.hid (drawMax_any (w.alloc (.cells #[.int .i64 0, .int .i64 0, .slice none 0 0] 26)) a l c (ints_alloc hi _) hb hl)
  have R0 := Lib.hid (Box.new w 26 (.int .i64 0) (.int .i64 0) (.slice none 0 0))
  clear hi hb
  go_enter Try.func28, Try.ntmps28
  go_wp2_with fail
  refine HD.out.mono ?_
  rintro e w2 ⟨wd, hg, L, a1, c1, z, m1, rfl, o1, b1⟩
  rw [World.size_alloc] at o1
  have R2 := Lib.hid (R0.out.below b1)
  have B2 := Lib.hid (below_then (below_all w (.cells #[.int .i64 0, .int .i64 0, .slice none 0 0] 26)) b1)
  have O2 := Lib.hid o1
  clear o1 b1 R0 HD
  obtain ⟨t0, t1, t2⟩ := R2.out.cells
  have g0 := R2.out.frozen 0
  have g1 := R2.out.frozen 1
  have g2 := R2.out.frozen 2
  go_wp2
  have K1 := own2_box O2.out (show w.heap.size < _ by omega) (.int .i64 wd) (.int .i64 hg) (.slice (some a1) L.length c1)
  have K3 := below_set3 B2.out (Nat.le_refl w.heap.size) (.int .i64 wd) (.int .i64 hg) (.slice (some a1) L.length c1)
  refine bodyPost_ret (v := .tuple #[.agg #[.int .i64 wd, .int .i64 hg, .slice (some a1) L.length c1], .int .i64 z]) (by simp [results, Try.results28, go_sem, t0, t1, t2]) rfl ⟨wd, hg, L, a1, c1, z, m1, rfl, K1, K3⟩
end Go.Proofs.Ytdkffljnfemngaa
namespace Go.Proofs.Ytdkffljnfemngaa
open Go.RowKit
set_option linter.unusedVariables false
set_option linter.unusedSimpArgs false
/-- what the law knows of a later world -/
def Gc (w : World) (a : Option Addr) (l : List Int) (w' : World) : Prop := Below w.heap.size w w' ∧ Ints .u8 w' w'.heap.size a l
theorem Gc.step {w w1 w2 : World} {a : Option Addr} {l : List Int} (h : Gc w a l w1) (hb : Below w1.heap.size w1 w2) : Gc w a l w2 :=
  ⟨below_then h.1 hb, ints_below h.2 hb⟩
/-- a field in a box of the law's own -/
structure Fd (w : World) (b : Nat) (wd hg : Int) (a : Option Addr) (L : List Int) (c : Nat) : Prop where
  k : Box w b 26 (.int .i64 wd) (.int .i64 hg) (.slice a L.length c)
  i : Ints .i64 w w.heap.size a L
theorem Fd.new {w : World} {wd hg : Int} {a : Option Addr} {L : List Int} {c : Nat} (h : Ints .i64 w w.heap.size a L) : Fd (w.alloc (.cells #[.int .i64 wd, .int .i64 hg, .slice a L.length c] 26)) w.heap.size wd hg a L c := ⟨Box.new _ _ _ _ _, ints_alloc h _⟩
theorem Fd.step {w w' : World} {b : Nat} {wd hg : Int} {a : Option Addr} {L : List Int} {c : Nat} (h : Fd w b wd hg a L c) (hb : Below w.heap.size w w') : Fd w' b wd hg a L c := ⟨h.k.below hb, ints_below h.i hb⟩
end Go.Proofs.Ytdkffljnfemngaa
namespace Go.Proofs.Ytdkffljnfemngaa
open Go.RowKit
set_option linter.unusedVariables false
set_option linter.unusedSimpArgs false
set_option maxRecDepth 100000 in
set_option maxHeartbeats 16000000 in
theorem walk_Peaks (a : Option Addr) (l : List Int) (c : Nat) (w : World) (hi : Ints .u8 w w.heap.size a l) (hb : ∀ z ∈ l, 0 ≤ z ∧ z ≤ 255) (hlm : l.length ≤ maxLen) :
    Calls Try.prog 4 #[.slice a l.length c] w fun e w' => e = .returned (.bool true) ∧ Below w.heap.size w w' := by
  unfold maxLen at hlm
  by_cases hbig : (65536 : Int) < (l.length : Int)
  · clear hi hb
    go_enter Try.func4, Try.ntmps4
    go_wp2_with (go_at_call 14; go_in)
    go_ret
    exact ⟨rfl, Below.refl _ _⟩
  · have G0 := Lib.hid (show Gc w a l w from ⟨Below.refl _ _, hi⟩)
    have HBY := Lib.hid hb
    have hl : l.length ≤ 65536 := by omega
    clear hi hb hlm
    go_enter Try.func4, Try.ntmps4
    go_wp2_with (first | (go_at_call 14; go_in) | fail)
    go_wp2_with fail
    refine (drawPeak_any _ a l c G0.out.2 HBY.out (by omega)).mono ?_
    rintro e w1 ⟨wd, hg, LA, aA, cA, r, ⟨m1, m2⟩, rfl, o1, b1⟩
    have T_F := Fd.new (wd := wd) (hg := hg) (c := cA) (L := LA) (a := (some aA)) o1.ints
    have T_G := (G0.out.step b1).step (below_all w1 (.cells #[.int .i64 wd, .int .i64 hg, .slice (some aA) (LA : List Int).length cA] 26))
    obtain ⟨f1, hf1⟩ : ∃ q, w1.heap.size = q := ⟨_, rfl⟩
    obtain ⟨W1, hW1⟩ : ∃ W, w1.alloc (.cells #[.int .i64 wd, .int .i64 hg, .slice (some aA) (LA : List Int).length cA] 26) = W := ⟨_, rfl⟩
    rw [hW1] at T_G T_F
    rw [hf1] at T_F
    have G1 := Lib.hid T_G
    have F1 := Lib.hid T_F
    clear o1 b1 T_G T_F G0
    have nA : LA.length ≤ 1048576 := by omega
    have HIP := Lib.hid (fun W h => implPeak_any wd hg (some aA) LA cA r W h nA m2)
    have HSP := Lib.hid (fun W h => specPeak_any wd hg (some aA) LA cA r W h nA)
    have HIM := Lib.hid (fun W h => implMax_any wd hg (some aA) LA cA r W h nA m2)
    have KEY := Lib.hid (peak_cell wd hg LA r)
    have hlen := pkT_len wd hg LA r
    have HTW := Lib.hid (pkT_two wd hg LA r)
    have hsame := (rW_filt hiV hiV wd hg LA r).2.2.1
    unfold FRet at HIM
    rw [hsame] at HIM
    clear hsame
    generalize pkT wd hg LA r = R at *
    generalize rL (filtR hiV wd hg LA r) = LH at *
    generalize rW (filtR hiV wd hg LA r) = p at *
    generalize rH (filtR hiV wd hg LA r) = q at *
    generalize nbB wd hg LA r = ok at *
    obtain ⟨F0_, F1_, F2_⟩ := F1.out.k.cells
    go_wp2_with fail
    refine (HIP.out _ F1.out.i).mono ?_
    rintro e w2 ⟨a2, c2, E2, rfl, t2, b2⟩
    have P2 := Lib.hid (show Tk w2 a2 E2 R from ⟨_, _, t2, Nat.le_refl _⟩)
    have G2 := Lib.hid (G1.out.step b2)
    have F2 := Lib.hid (F1.out.step b2)
    clear t2 b2 G1 F1
    clear F0_ F1_ F2_
    clear hf1 hW1
    obtain ⟨F0_, F1_, F2_⟩ := F2.out.k.cells
    go_wp2_with fail
    refine (HSP.out _ F2.out.i).mono ?_
    rintro e w3 ⟨a3, c3, E3, rfl, t3, b3⟩
    have V3 := Lib.hid (show Tk w3 a3 E3 R from ⟨_, _, t3, Nat.le_refl _⟩)
    have G3 := Lib.hid (G2.out.step b3)
    have F3 := Lib.hid (F2.out.step b3)
    have P3 := Lib.hid (P2.out.step b3)
    clear t3 b3 G2 F2 P2
    clear F0_ F1_ F2_
    go_wp2_with fail
    refine (Tk.alike P3.out V3.out (by omega) (fun r0 h0 => by have := HTW.out r0 h0; omega)).mono ?_
    rintro e w4 ⟨rfl, b4⟩
    have G4 := Lib.hid (G3.out.step b4)
    have F4 := Lib.hid (F3.out.step b4)
    have P4 := Lib.hid (P3.out.step b4)
    have V4 := Lib.hid (V3.out.step b4)
    clear b4 G3 F3 P3 V3
    clear V4
    obtain ⟨F0_, F1_, F2_⟩ := F4.out.k.cells
    go_wp2_with fail
    refine (HIM.out _ F4.out.i).mono ?_
    rintro e w5 ⟨a5, c5, rfl, o5, b5⟩
    have T_H := Fd.new (wd := p) (hg := q) (c := c5) (L := LH) (a := a5) o5.ints
    have T_G := (G4.out.step b5).step (below_all w5 (.cells #[.int .i64 p, .int .i64 q, .slice a5 (LH : List Int).length c5] 26))
    have T_F := (F4.out.step b5).step (below_all w5 (.cells #[.int .i64 p, .int .i64 q, .slice a5 (LH : List Int).length c5] 26))
    have T_P := (P4.out.step b5).step (below_all w5 (.cells #[.int .i64 p, .int .i64 q, .slice a5 (LH : List Int).length c5] 26))
    obtain ⟨f5, hf5⟩ : ∃ q, w5.heap.size = q := ⟨_, rfl⟩
    obtain ⟨W5, hW5⟩ : ∃ W, w5.alloc (.cells #[.int .i64 p, .int .i64 q, .slice a5 (LH : List Int).length c5] 26) = W := ⟨_, rfl⟩
    rw [hW5] at T_G T_F T_P T_H
    rw [hf5] at T_H
    have G5 := Lib.hid T_G
    have F5 := Lib.hid T_F
    have P5 := Lib.hid T_P
    have H5 := Lib.hid T_H
    clear o5 b5 T_G T_F T_P T_H G4 F4 P4
    clear F0_ F1_ F2_
    clear HIP HSP HIM HTW
    go_upto_block 0 with fail
    go_cut [] (fun wx => Gc w a l wx)
    case first =>
      as_aux_lemma =>
        --[1
        obtain ⟨F0_, F1_, F2_⟩ := F5.out.k.cells
        obtain ⟨H0_, H1_, H2_⟩ := H5.out.k.cells
        go_wp2_with fail
        go_loopw [11] (fun i wr => ∃ k : Nat, k ≤ R.length ∧ i = .int .i64 k ∧ Drew W5 wr) (fun i _ => R.length - (intOf i).toNat)
        case atStart => exact ⟨0, Nat.zero_le _, rfl, Drew.refl _⟩
        case round =>
          obtain ⟨k, hk, rfl, hw⟩ := hrel
          have HW := Lib.hid hw
          have ff0 := (hw.cell ⟨f1, 0, none⟩).trans F0_
          have ff2 := (hw.cell ⟨f1, 2, none⟩).trans F2_
          have hh2 := (hw.cell ⟨f5, 2, none⟩).trans H2_
          have GE := Lib.hid (G5.out.step (hw.below _))
          clear hw F0_ F1_ F2_ H0_ H1_ H2_
          by_cases hlt : k < R.length
          · have hi1 : (k : Int) < (R.length : Int) := by omega
            have hi0 : (0 : Int) ≤ (k : Int) := by omega
            obtain ⟨x, y, pp, m, hm, hm1, e1, e2, e3, x0, x64, y0, y64, w0, w8, p64, nz, eq⟩ := KEY.out k hlt
            have c012 := Tk.at_ P5.out HW.out hlt e1
            obtain ⟨g, ge, ce, ra, c0, c1, c2⟩ := c012
            obtain ⟨bf, of, ef, _, cf⟩ := (F5.out.i.drew HW.out).at_ hm
            obtain ⟨bh, oh, eh, _, ch⟩ := (H5.out.i.drew HW.out).at_ hm1
            injection ef with ef
            subst ef eh ra
            rw [eq] at ch
            have hi2 : (m : Int) < (LA.length : Int) := by omega
            have hi3 : (m : Int) < (LH.length : Int) := by omega
            have hi4 : (0 : Int) ≤ (m : Int) := by omega
            generalize LA[m] = z at *
            have q1 : IntKind.i64.wrap (wd * y) = (pp : Int) := by rw [e2]; exact IntWalk.i64_in _ (by omega)
            have q2 : IntKind.i64.wrap ((pp : Int) + x) = (m : Int) := by rw [e3]; exact IntWalk.i64_in _ (by omega)
            have n1 : (z == -9999) = false := by simp [nz]
            have n2 : (z != z) = false := by simp
            clear eq e1 e2 e3 nz
            go_wp2_with fail
            first | go_quiet (fail) | skip
            go_wp2_with fail
            first | go_quiet (fail) | skip
            go_wp2_with fail
            go_roundw
            case rel => exact ⟨k + 1, by omega, by go_num, HW.out.more _⟩
            case measure => simp [intOf]; omega
          · obtain rfl : k = R.length := by omega
            clear ff0 ff2 hh2
            go_wp2_with fail
            go_meet
            exact GE.out
        --]1
    case rest =>
    have G25 := Lib.hid hcut
    clear hcut KEY G5 F5 P5 H5
    go_wp2_with fail
    refine (drawFillM_any _ a l c G25.out.2 HBY.out (by omega)).mono ?_
    rintro e w26 ⟨wd2, hg2, LB, aB, cB, r2, ⟨m3, m4⟩, rfl, o26, b26⟩
    have T_B := Fd.new (wd := wd2) (hg := hg2) (c := cB) (L := LB) (a := (some aB)) o26.ints
    have T_G := (G25.out.step b26).step (below_all w26 (.cells #[.int .i64 wd2, .int .i64 hg2, .slice (some aB) (LB : List Int).length cB] 26))
    obtain ⟨f26, hf26⟩ : ∃ q, w26.heap.size = q := ⟨_, rfl⟩
    obtain ⟨W26, hW26⟩ : ∃ W, w26.alloc (.cells #[.int .i64 wd2, .int .i64 hg2, .slice (some aB) (LB : List Int).length cB] 26) = W := ⟨_, rfl⟩
    rw [hW26] at T_G T_B
    rw [hf26] at T_B
    have G26 := Lib.hid T_G
    have B26 := Lib.hid T_B
    clear o26 b26 T_G T_B G25
    have nB : LB.length ≤ 1048576 := by omega
    have HIF := Lib.hid (fun W h => implFBM_any wd2 hg2 (some aB) LB cB r2 W h nB m4)
    have HSF := Lib.hid (fun W h => specFBM_any wd2 hg2 (some aB) LB cB r2 W h nB)
    have KEY := Lib.hid (fbm_cell wd2 hg2 LB r2)
    have hlenC := fbmR_len wd2 hg2 LB r2
    unfold FRet at HIF HSF
    generalize rB (fbmR wd2 hg2 LB r2) = okc at *
    generalize rW (fbmR wd2 hg2 LB r2) = pc at *
    generalize rH (fbmR wd2 hg2 LB r2) = qc at *
    generalize rL (fbmR wd2 hg2 LB r2) = LC at *
    obtain ⟨B0_, B1_, B2_⟩ := B26.out.k.cells
    go_wp2_with fail
    refine (HIF.out _ B26.out.i).mono ?_
    rintro e w27 ⟨a27, c27, rfl, o27, b27⟩
    have T_C := Fd.new (wd := pc) (hg := qc) (c := c27) (L := LC) (a := a27) o27.ints
    have T_G := (G26.out.step b27).step (below_all w27 (.cells #[.int .i64 pc, .int .i64 qc, .slice a27 (LC : List Int).length c27] 26))
    have T_B := (B26.out.step b27).step (below_all w27 (.cells #[.int .i64 pc, .int .i64 qc, .slice a27 (LC : List Int).length c27] 26))
    obtain ⟨f27, hf27⟩ : ∃ q, w27.heap.size = q := ⟨_, rfl⟩
    obtain ⟨W27, hW27⟩ : ∃ W, w27.alloc (.cells #[.int .i64 pc, .int .i64 qc, .slice a27 (LC : List Int).length c27] 26) = W := ⟨_, rfl⟩
    rw [hW27] at T_G T_B T_C
    rw [hf27] at T_C
    have G27 := Lib.hid T_G
    have B27 := Lib.hid T_B
    have C27 := Lib.hid T_C
    clear o27 b27 T_G T_B T_C G26 B26
    clear B0_ B1_ B2_
    clear hf26 hW26
    obtain ⟨B0_, B1_, B2_⟩ := B27.out.k.cells
    go_wp2_with fail
    refine (HSF.out _ B27.out.i).mono ?_
    rintro e w28 ⟨a28, c28, rfl, o28, b28⟩
    have T_V := Fd.new (wd := pc) (hg := qc) (c := c28) (L := LC) (a := a28) o28.ints
    have T_G := (G27.out.step b28).step (below_all w28 (.cells #[.int .i64 pc, .int .i64 qc, .slice a28 (LC : List Int).length c28] 26))
    have T_B := (B27.out.step b28).step (below_all w28 (.cells #[.int .i64 pc, .int .i64 qc, .slice a28 (LC : List Int).length c28] 26))
    have T_C := (C27.out.step b28).step (below_all w28 (.cells #[.int .i64 pc, .int .i64 qc, .slice a28 (LC : List Int).length c28] 26))
    obtain ⟨f28, hf28⟩ : ∃ q, w28.heap.size = q := ⟨_, rfl⟩
    obtain ⟨W28, hW28⟩ : ∃ W, w28.alloc (.cells #[.int .i64 pc, .int .i64 qc, .slice a28 (LC : List Int).length c28] 26) = W := ⟨_, rfl⟩
    rw [hW28] at T_G T_B T_C T_V
    rw [hf28] at T_V
    have G28 := Lib.hid T_G
    have B28 := Lib.hid T_B
    have C28 := Lib.hid T_C
    have V28 := Lib.hid T_V
    clear o28 b28 T_G T_B T_C T_V G27 B27 C27
    clear B0_ B1_ B2_
    clear hf27 hW27
    obtain ⟨C0_, C1_, C2_⟩ := C28.out.k.cells
    obtain ⟨V0_, V1_, V2_⟩ := V28.out.k.cells
    go_wp2_with fail
    refine (rField_yes pc qc _ _ LC _ _ _ C28.out.i V28.out.i (by omega)).mono ?_
    rintro e w29 ⟨rfl, b29⟩
    have G29 := Lib.hid (G28.out.step b29)
    have B29 := Lib.hid (B28.out.step b29)
    have C29 := Lib.hid (C28.out.step b29)
    have V29 := Lib.hid (V28.out.step b29)
    clear b29 G28 B28 C28 V28
    clear C0_ C1_ C2_ V0_ V1_ V2_
    clear hf28 hW28
    clear V29
    clear HIF HSF
    go_upto_block 2 with fail
    go_cut [] (fun wx => Gc w a l wx)
    case first =>
      as_aux_lemma =>
        --[2
        obtain ⟨B0_, B1_, B2_⟩ := B29.out.k.cells
        obtain ⟨C0_, C1_, C2_⟩ := C29.out.k.cells
        go_wp2_with fail
        go_loopw [19] (fun i wr => ∃ k : Nat, k ≤ LB.length ∧ i = .int .i64 k ∧ Drew w29 wr) (fun i _ => LB.length - (intOf i).toNat)
        case atStart => exact ⟨0, Nat.zero_le _, rfl, Drew.refl _⟩
        case round =>
          obtain ⟨k, hk, rfl, hw⟩ := hrel
          have HW := Lib.hid hw
          have xx2 := (hw.cell ⟨f26, 2, none⟩).trans B2_
          have yy2 := (hw.cell ⟨f27, 2, none⟩).trans C2_
          have GE := Lib.hid (G29.out.step (hw.below _))
          clear hw B0_ B1_ B2_ C0_ C1_ C2_
          by_cases hlt : k < LB.length
          · have hi1 : (k : Int) < (LB.length : Int) := by omega
            have hi0 : (0 : Int) ≤ (k : Int) := by omega
            cases okc with
            | false =>
              clear yy2
              go_wp2_with fail
              go_meet
              exact GE.out
            | true =>
              obtain ⟨h1, o1⟩ := KEY.out rfl k hlt
              obtain ⟨bf, of, ef, _, cf⟩ := (B29.out.i.drew HW.out).at_ hlt
              obtain ⟨bh, oh, eh, _, ch⟩ := (C29.out.i.drew HW.out).at_ h1
              injection ef with ef
              subst ef eh
              have hi2 : (k : Int) < (LC.length : Int) := by omega
              generalize LB[k] = z at *
              generalize LC[k] = u at *
              by_cases hz : z = -9999
              · have e1 : (z != -9999) = false := by simp [hz]
                clear o1 hz
                go_wp2_with fail
                first | go_quiet (fail) | skip
                go_wp2_with fail
                go_roundw
                case rel => exact ⟨k + 1, by omega, by go_num, HW.out.more _⟩
                case measure => simp [intOf]; omega
              · have e1 : (z != -9999) = true := by simp [hz]
                have e2 : (u != z) = false := by rw [o1 hz]; simp
                clear o1 hz
                go_wp2_with fail
                first | go_quiet (fail) | skip
                go_wp2_with fail
                go_roundw
                case rel => exact ⟨k + 1, by omega, by go_num, HW.out.more _⟩
                case measure => simp [intOf]; omega
          · obtain rfl : k = LB.length := by omega
            clear yy2
            go_wp2_with fail
            go_meet
            exact GE.out
        --]2
    case rest =>
    have G49 := Lib.hid hcut
    clear hcut KEY G29 B29 C29
    go_wp2_with fail
    refine (drawRep_any _ a l c G49.out.2 HBY.out (by omega)).mono ?_
    rintro e w50 ⟨wd3, hg3, LD, aD, cD, r3, t3, ⟨m5, m6⟩, rfl, o50, b50⟩
    have T_D := Fd.new (wd := wd3) (hg := hg3) (c := cD) (L := LD) (a := (some aD)) o50.ints
    have T_G := (G49.out.step b50).step (below_all w50 (.cells #[.int .i64 wd3, .int .i64 hg3, .slice (some aD) (LD : List Int).length cD] 26))
    obtain ⟨f50, hf50⟩ : ∃ q, w50.heap.size = q := ⟨_, rfl⟩
    obtain ⟨W50, hW50⟩ : ∃ W, w50.alloc (.cells #[.int .i64 wd3, .int .i64 hg3, .slice (some aD) (LD : List Int).length cD] 26) = W := ⟨_, rfl⟩
    rw [hW50] at T_G T_D
    rw [hf50] at T_D
    have G50 := Lib.hid T_G
    have D50 := Lib.hid T_D
    clear o50 b50 T_G T_D G49
    have nD : LD.length ≤ 1048576 := by omega
    have HIR := Lib.hid (fun W h => implRep_any wd3 hg3 (some aD) LD cD r3 t3 W h nD m6)
    have HSR := Lib.hid (fun W h => specRep_any wd3 hg3 (some aD) LD cD r3 t3 W h nD)
    have KEY := Lib.hid (rep_cell wd3 hg3 LD r3 t3)
    have hlenE := repR_len wd3 hg3 LD r3 t3
    unfold FRet at HIR HSR
    generalize rB (repR wd3 hg3 LD r3 t3) = oke at *
    generalize rW (repR wd3 hg3 LD r3 t3) = pe at *
    generalize rH (repR wd3 hg3 LD r3 t3) = qe at *
    generalize rL (repR wd3 hg3 LD r3 t3) = LE at *
    obtain ⟨D0_, D1_, D2_⟩ := D50.out.k.cells
    go_wp2_with fail
    refine (HIR.out _ D50.out.i).mono ?_
    rintro e w51 ⟨a51, c51, rfl, o51, b51⟩
    have T_E := Fd.new (wd := pe) (hg := qe) (c := c51) (L := LE) (a := a51) o51.ints
    have T_G := (G50.out.step b51).step (below_all w51 (.cells #[.int .i64 pe, .int .i64 qe, .slice a51 (LE : List Int).length c51] 26))
    have T_D := (D50.out.step b51).step (below_all w51 (.cells #[.int .i64 pe, .int .i64 qe, .slice a51 (LE : List Int).length c51] 26))
    obtain ⟨f51, hf51⟩ : ∃ q, w51.heap.size = q := ⟨_, rfl⟩
    obtain ⟨W51, hW51⟩ : ∃ W, w51.alloc (.cells #[.int .i64 pe, .int .i64 qe, .slice a51 (LE : List Int).length c51] 26) = W := ⟨_, rfl⟩
    rw [hW51] at T_G T_D T_E
    rw [hf51] at T_E
    have G51 := Lib.hid T_G
    have D51 := Lib.hid T_D
    have E51 := Lib.hid T_E
    clear o51 b51 T_G T_D T_E G50 D50
    clear D0_ D1_ D2_
    clear hf50 hW50
    obtain ⟨D0_, D1_, D2_⟩ := D51.out.k.cells
    go_wp2_with fail
    refine (HSR.out _ D51.out.i).mono ?_
    rintro e w52 ⟨a52, c52, rfl, o52, b52⟩
    have T_V := Fd.new (wd := pe) (hg := qe) (c := c52) (L := LE) (a := a52) o52.ints
    have T_G := (G51.out.step b52).step (below_all w52 (.cells #[.int .i64 pe, .int .i64 qe, .slice a52 (LE : List Int).length c52] 26))
    have T_D := (D51.out.step b52).step (below_all w52 (.cells #[.int .i64 pe, .int .i64 qe, .slice a52 (LE : List Int).length c52] 26))
    have T_E := (E51.out.step b52).step (below_all w52 (.cells #[.int .i64 pe, .int .i64 qe, .slice a52 (LE : List Int).length c52] 26))
    obtain ⟨f52, hf52⟩ : ∃ q, w52.heap.size = q := ⟨_, rfl⟩
    obtain ⟨W52, hW52⟩ : ∃ W, w52.alloc (.cells #[.int .i64 pe, .int .i64 qe, .slice a52 (LE : List Int).length c52] 26) = W := ⟨_, rfl⟩
    rw [hW52] at T_G T_D T_E T_V
    rw [hf52] at T_V
    have G52 := Lib.hid T_G
    have D52 := Lib.hid T_D
    have E52 := Lib.hid T_E
    have V52 := Lib.hid T_V
    clear o52 b52 T_G T_D T_E T_V G51 D51 E51
    clear D0_ D1_ D2_
    clear hf51 hW51
    obtain ⟨E0_, E1_, E2_⟩ := E52.out.k.cells
    obtain ⟨V0_, V1_, V2_⟩ := V52.out.k.cells
    go_wp2_with fail
    refine (rField_yes pe qe _ _ LE _ _ _ E52.out.i V52.out.i (by omega)).mono ?_
    rintro e w53 ⟨rfl, b53⟩
    have G53 := Lib.hid (G52.out.step b53)
    have D53 := Lib.hid (D52.out.step b53)
    have E53 := Lib.hid (E52.out.step b53)
    have V53 := Lib.hid (V52.out.step b53)
    clear b53 G52 D52 E52 V52
    clear E0_ E1_ E2_ V0_ V1_ V2_
    clear hf52 hW52
    clear V53
    clear HIR HSR
    go_upto_block 4 with fail
    go_cut [] (fun wx => Gc w a l wx)
    case first =>
      as_aux_lemma =>
        --[3
        obtain ⟨D0_, D1_, D2_⟩ := D53.out.k.cells
        obtain ⟨E0_, E1_, E2_⟩ := E53.out.k.cells
        go_wp2_with fail
        go_loopw [27] (fun i wr => ∃ k : Nat, k ≤ LD.length ∧ i = .int .i64 k ∧ Drew w53 wr) (fun i _ => LD.length - (intOf i).toNat)
        case atStart => exact ⟨0, Nat.zero_le _, rfl, Drew.refl _⟩
        case round =>
          obtain ⟨k, hk, rfl, hw⟩ := hrel
          have HW := Lib.hid hw
          have xx2 := (hw.cell ⟨f50, 2, none⟩).trans D2_
          have yy2 := (hw.cell ⟨f51, 2, none⟩).trans E2_
          have GE := Lib.hid (G53.out.step (hw.below _))
          clear hw D0_ D1_ D2_ E0_ E1_ E2_
          by_cases hlt : k < LD.length
          · have hi1 : (k : Int) < (LD.length : Int) := by omega
            have hi0 : (0 : Int) ≤ (k : Int) := by omega
            cases oke with
            | false =>
              clear yy2
              go_wp2_with fail
              go_meet
              exact GE.out
            | true =>
              obtain ⟨h1, o1⟩ := KEY.out rfl k hlt
              obtain ⟨bf, of, ef, _, cf⟩ := (D53.out.i.drew HW.out).at_ hlt
              obtain ⟨bh, oh, eh, _, ch⟩ := (E53.out.i.drew HW.out).at_ h1
              injection ef with ef
              subst ef eh
              have hi2 : (k : Int) < (LE.length : Int) := by omega
              generalize LD[k] = z at *
              generalize LE[k] = u at *
              have e1 : ¬ u < z := by omega
              clear o1
              go_wp2_with fail
              first | go_quiet (fail) | skip
              go_wp2_with fail
              go_roundw
              case rel => exact ⟨k + 1, by omega, by go_num, HW.out.more _⟩
              case measure => simp [intOf]; omega
          · obtain rfl : k = LD.length := by omega
            clear yy2
            go_wp2_with fail
            go_meet
            exact GE.out
        --]3
    case rest =>
    have G73 := Lib.hid hcut
    clear hcut KEY G53 D53 E53
    go_wp2_with fail
    refine (drawSmooth_any _ a l c G73.out.2 HBY.out (by omega)).mono ?_
    rintro e w74 ⟨wd4, hg4, LK, aK, cK, r4, ⟨m7, m8⟩, rfl, o74, b74⟩
    have T_K := Fd.new (wd := wd4) (hg := hg4) (c := cK) (L := LK) (a := (some aK)) o74.ints
    have T_G := (G73.out.step b74).step (below_all w74 (.cells #[.int .i64 wd4, .int .i64 hg4, .slice (some aK) (LK : List Int).length cK] 26))
    obtain ⟨f74, hf74⟩ : ∃ q, w74.heap.size = q := ⟨_, rfl⟩
    obtain ⟨W74, hW74⟩ : ∃ W, w74.alloc (.cells #[.int .i64 wd4, .int .i64 hg4, .slice (some aK) (LK : List Int).length cK] 26) = W := ⟨_, rfl⟩
    rw [hW74] at T_G T_K
    rw [hf74] at T_K
    have G74 := Lib.hid T_G
    have K74 := Lib.hid T_K
    clear o74 b74 T_G T_K G73
    have nK : LK.length ≤ 1048576 := by omega
    have HIS := Lib.hid (fun W h => implSm_any wd4 hg4 (some aK) LK cK r4 W h nK m8)
    have HSS := Lib.hid (fun W h => specSm_any wd4 hg4 (some aK) LK cK r4 W h nK)
    have hsn := sm_nonneg wd4 hg4 LK r4
    generalize smN wd4 hg4 LK r4 = sn at *
    generalize nbB wd4 hg4 LK r4 = okk at *
    obtain ⟨K0_, K1_, K2_⟩ := K74.out.k.cells
    go_wp2_with fail
    refine (HIS.out _ K74.out.i).mono ?_
    rintro e w75 ⟨rfl, b75⟩
    have G75 := Lib.hid (G74.out.step b75)
    have K75 := Lib.hid (K74.out.step b75)
    clear b75 G74 K74
    clear K0_ K1_ K2_
    clear hf74 hW74
    obtain ⟨K0_, K1_, K2_⟩ := K75.out.k.cells
    go_wp2_with fail
    refine (HSS.out _ K75.out.i).mono ?_
    rintro e w76 ⟨rfl, b76⟩
    have G76 := Lib.hid (G75.out.step b76)
    have K76 := Lib.hid (K75.out.step b76)
    clear b76 G75 K75
    clear K0_ K1_ K2_
    have e9 : ¬ sn < 0 := by omega
    go_wp2_with fail
    first | (go_quiet (fail); go_wp2_with fail) | skip
    go_ret
    exact ⟨rfl, G76.out.1⟩
end Go.Proofs.Ytdkffljnfemngaa
