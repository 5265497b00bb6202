/- Tables: a list of rows of numbers, each row and the list in memory of their own; what the laws do with them: eqIntSS, markIntSS, heldIntSS. -/
import Derived.Test.YtjpiiidjocilcaaFieldLaw
import Derived.Test.YtjpiiidjocilcaaBox
import Derived.Test.YtjpiiidjocilcaaMake
import Derived.Deep.RegionHeld3
namespace Go.Proofs.Ytjpiiidjocilcaa
open Go.RowKit
set_option linter.unusedVariables false
set_option linter.unusedSimpArgs false
/-- a row's slice: its block and its capacity -/
def entV (e : Nat × Nat) (l : List Int) : Value := .slice (some ⟨e.1, 0, none⟩) l.length e.2
def tabV (E : List (Nat × Nat)) (R : List (List Int)) : List Value := List.zipWith entV E R
theorem tabV_len {E : List (Nat × Nat)} {R : List (List Int)} (h : E.length = R.length) : (tabV E R).length = R.length := by unfold tabV; rw [List.length_zipWith]; omega
theorem tabV_snoc {E : List (Nat × Nat)} {R : List (List Int)} (h : E.length = R.length) (e : Nat × Nat) (l : List Int) : tabV (E ++ [e]) (R ++ [l]) = tabV E R ++ [entV e l] := by
  unfold tabV; rw [List.zipWith_append h]; rfl
/-- the rows of a table, in blocks from B on, below U, no two in one -/
structure Tb (w : World) (B U : Nat) (E : List (Nat × Nat)) (R : List (List Int)) : Prop where
  len : E.length = R.length
  row : ∀ j (h1 : j < E.length) (h2 : j < R.length), B ≤ E[j].1 ∧ E[j].1 < U ∧ Row w E[j].1 3 (iv R[j])
  ne : ∀ i j (hi : i < E.length) (hj : j < E.length), i ≠ j → E[i].1 ≠ E[j].1
section
variable {w w' : World} {B U : Nat} {E : List (Nat × Nat)} {R : List (List Int)}
theorem Tb.nil : Tb w B U [] [] := ⟨rfl, fun j h => by simp at h, fun i j h => by simp at h⟩
theorem Tb.keep (h : Tb w B U E R) (k : ∀ g, B ≤ g → g < U → g < w.heap.size → (∃ vs, Row w g 3 vs) → w'.heap[g]? = w.heap[g]?) : Tb w' B U E R :=
  ⟨h.len, fun j h1 h2 => by obtain ⟨a, b, c⟩ := h.row j h1 h2; exact ⟨a, b, c.of_block (k _ a b c.lt ⟨_, c⟩)⟩, h.ne⟩
theorem Tb.below {C : Nat} (h : Tb w B U E R) (hb : Below C w w') (hC : U ≤ C) : Tb w' B U E R := h.keep fun g _ h2 _ _ => hb.block g (by omega)
theorem Tb.turn {g : Nat} (h : Tb w B U E R) (o : w.grownBy w' (some g)) (hg : U ≤ g) : Tb w' B U E R := h.keep fun k _ h2 h3 _ => o.block k h3 (by intro e; injection e with e; omega)
theorem Tb.more {C V : Nat} (h : Tb w B U E R) (hB : C ≤ B) (hV : U ≤ V) : Tb w C V E R := ⟨h.len, fun j h1 h2 => by obtain ⟨a, b, c⟩ := h.row j h1 h2; exact ⟨by omega, by omega, c⟩, h.ne⟩
theorem Tb.snoc {g c : Nat} {l : List Int} (h : Tb w B U E R) (hB : B ≤ g) (hU : U ≤ g) (hr : Row w g 3 (iv l)) : Tb w B (g + 1) (E ++ [(g, c)]) (R ++ [l]) := by
  refine ⟨by simp [h.len], fun j h1 h2 => ?_, fun i j hi hj hne => ?_⟩
  · rw [List.length_append, List.length_singleton] at h1 h2
    by_cases e : j < E.length
    · have e2 : j < R.length := by have := h.len; omega
      rw [List.getElem_append_left e, List.getElem_append_left e2]
      obtain ⟨a, b, c⟩ := h.row j e e2
      exact ⟨a, by omega, c⟩
    · have e2 : j = E.length := by omega
      have e3 : j = R.length := by have := h.len; omega
      rw [List.getElem_append_right (by omega), List.getElem_append_right (by omega)]
      simp only [show j - E.length = 0 by omega, show j - R.length = 0 by omega, List.getElem_singleton]
      exact ⟨hB, Nat.lt_succ_self _, hr⟩
  · rw [List.length_append, List.length_singleton] at hi hj
    have get : ∀ k (hk : k < (E ++ [(g, c)]).length), k < E.length → (E ++ [(g, c)])[k].1 < U := by
      intro k hk h1
      rw [List.getElem_append_left h1]
      exact (h.row k h1 (by have := h.len; omega)).2.1
    have last : ∀ k (hk : k < (E ++ [(g, c)]).length), ¬ k < E.length → (E ++ [(g, c)])[k].1 = g := by
      intro k hk h1
      have hk2 : k < E.length + 1 := by simpa using hk
      rw [List.getElem_append_right (by omega)]
      simp only [show k - E.length = 0 by omega, List.getElem_singleton]
    by_cases e : i < E.length <;> by_cases e2 : j < E.length
    · rw [List.getElem_append_left e, List.getElem_append_left e2]; exact h.ne i j e e2 hne
    · have := get i (by simp; omega) e; have := last j (by simp; omega) e2; omega
    · have := get j (by simp; omega) e2; have := last i (by simp; omega) e; omega
    · omega
end
/-- a table: the list of its rows' slices, and its rows -/
structure Tabl (w : World) (B U : Nat) (a : Option Addr) (E : List (Nat × Nat)) (R : List (List Int)) : Prop where
  t : Tb w B U E R
  o : R = [] ∨ ∃ g, a = some ⟨g, 0, none⟩ ∧ B ≤ g ∧ g < U ∧ Row w g 22 (tabV E R)
section
variable {w w' : World} {B U : Nat} {a : Option Addr} {E : List (Nat × Nat)} {R : List (List Int)}
theorem Tabl.below {C : Nat} (h : Tabl w B U a E R) (hb : Below C w w') (hC : U ≤ C) : Tabl w' B U a E R :=
  ⟨h.t.below hb hC, h.o.imp_right fun ⟨g, h1, h2, h3, h4⟩ => ⟨g, h1, h2, h3, h4.of_block (hb.block g (by omega))⟩⟩
theorem Tabl.turn {g : Nat} (h : Tabl w B U a E R) (o : w.grownBy w' (some g)) (hg : U ≤ g) : Tabl w' B U a E R :=
  ⟨h.t.turn o hg, h.o.imp_right fun ⟨k, h1, h2, h3, h4⟩ => ⟨k, h1, h2, h3, h4.of_block (o.block k h4.lt (by intro e; injection e with e; omega))⟩⟩
theorem Tabl.past {g : Nat} (h : Tabl w B U a E R) (o : w.grownBy w' (some g)) (hg : g < B) : Tabl w' B U a E R :=
  ⟨h.t.keep fun k h1 _ h3 _ => o.block k h3 (by intro e; injection e with e; omega), h.o.imp_right fun ⟨k, h1, h2, h3, h4⟩ => ⟨k, h1, h2, h3, h4.of_block (o.block k h4.lt (by intro e; injection e with e; omega))⟩⟩
theorem Tabl.more {C V : Nat} (h : Tabl w B U a E R) (hB : C ≤ B) (hV : U ≤ V) : Tabl w C V a E R :=
  ⟨h.t.more hB hV, h.o.imp_right fun ⟨g, h1, h2, h3, h4⟩ => ⟨g, h1, by omega, by omega, h4⟩⟩
theorem Tabl.drew (h : Tabl w B U a E R) (d : Drew w w') : Tabl w' B U a E R := h.below (d.below U) (Nat.le_refl _)
theorem Tabl.at_ (h : Tabl w B U a E R) {j : Nat} (h2 : j < R.length) : ∃ g h1, a = some ⟨g, 0, none⟩ ∧ g < U ∧ w.cell? ⟨g, j, none⟩ = some (entV (E[j]'h1) R[j]) := by
  rcases h.o with e | ⟨g, h1, h3, h4, h5⟩
  · rw [e] at h2; simp at h2
  · have he : j < E.length := by have := h.t.len; omega
    refine ⟨g, he, h1, h4, ?_⟩
    rw [h5.cell (k := j) (by rw [tabV_len h.t.len]; exact h2)]
    simp only [tabV, List.getElem_zipWith]
theorem Tabl.ints (h : Tabl w B U a E R) {j : Nat} (h1 : j < E.length) (h2 : j < R.length) : Ints .i64 w U (some ⟨E[j].1, 0, none⟩) R[j] := by
  obtain ⟨h3, h4, h5⟩ := h.t.row j h1 h2
  exact (show At w (some ⟨E[j].1, 0, none⟩) E[j].1 R[j] from .inr ⟨rfl, h5⟩).intsB h4
theorem tabl_of {v : Value} (ho : w.ownsRow B 22 1 v R.length (tabV E R)) (ht : Tb w B U E R) (hU : w.heap.size ≤ U) : ∃ a c, v = .slice a R.length c ∧ Tabl w B U a E R := by
  rcases Nat.eq_zero_or_pos R.length with h0 | h0
  · have e := List.eq_nil_of_length_eq_zero h0
    rcases ho.2 with ⟨h1, h2⟩ | ⟨g, cap, cur, h1, _⟩
    · exact ⟨none, 0, by rw [h1, h2], ht, .inl e⟩
    · exact ⟨_, cap, h1, ht, .inl e⟩
  · obtain ⟨c, g, h1, h2, h3, h4⟩ := Row.of_own ho h0
    exact ⟨_, c, h1, ht, .inr ⟨g, rfl, h2, by have := h3.lt; omega, h3⟩⟩
end
/-- how many numbers stand ahead of row k -/
def offs (R : List (List Int)) (k : Nat) : Nat := (R.take k).flatten.length
theorem offs_zero (R : List (List Int)) : offs R 0 = 0 := by simp [offs]
theorem offs_step {R : List (List Int)} {k : Nat} (h : k < R.length) : offs R (k + 1) = offs R k + R[k].length := by
  unfold offs; rw [List.take_succ_eq_append_getElem h, List.flatten_append, List.length_append]; simp
theorem offs_all (R : List (List Int)) : offs R R.length = R.flatten.length := by simp [offs]
theorem offs_le (R : List (List Int)) (k : Nat) : offs R k ≤ R.flatten.length := by
  unfold offs
  conv => rhs; rw [← List.take_append_drop k R]
  rw [List.flatten_append, List.length_append]; omega
/-- the first k rows marked with numbers from k0 on -/
def partT (k0 : Int) (R : List (List Int)) (k : Nat) : List (List Int) := (List.range R.length).map fun j => if j < k then marks (k0 + (offs R j : Int)) (R.getD j []).length else R.getD j []
theorem partT_len (k0 : Int) (R : List (List Int)) (k : Nat) : (partT k0 R k).length = R.length := by simp [partT]
theorem getDL {R : List (List Int)} {j : Nat} (h : j < R.length) : R.getD j [] = R[j] := by simp [h]
theorem partT_get {k0 : Int} {R : List (List Int)} {k j : Nat} (h : j < (partT k0 R k).length) (h2 : j < R.length) : (partT k0 R k)[j] = if j < k then marks (k0 + (offs R j : Int)) R[j].length else R[j] := by
  simp only [partT, List.getElem_map, List.getElem_range, getDL h2]
theorem partT_zero (k0 : Int) (R : List (List Int)) : partT k0 R 0 = R := by
  refine List.ext_getElem (partT_len _ _ _) fun j h1 h2 => ?_
  rw [partT_get h1 h2, if_neg (by omega)]
theorem partT_lens {k0 : Int} {R : List (List Int)} {k j : Nat} (h : j < (partT k0 R k).length) (h2 : j < R.length) : (partT k0 R k)[j].length = R[j].length := by
  rw [partT_get h h2]; split
  · rw [marks_length]
  · rfl
theorem partT_tab (E : List (Nat × Nat)) (k0 : Int) (R : List (List Int)) (k : Nat) : tabV E (partT k0 R k) = tabV E R := by
  unfold tabV
  refine List.ext_getElem (by simp [partT_len]) fun j h1 h2 => ?_
  rw [List.getElem_zipWith, List.getElem_zipWith]
  rw [List.length_zipWith] at h2
  unfold entV
  rw [partT_lens (by rw [partT_len]; omega) (by omega)]
def marksT (k0 : Int) (R : List (List Int)) : List (List Int) := partT k0 R R.length
theorem marksT_get {k0 : Int} {R : List (List Int)} {j : Nat} (h : j < (marksT k0 R).length) (h2 : j < R.length) : (marksT k0 R)[j] = marks (k0 + (offs R j : Int)) R[j].length :=
  (partT_get (k0 := k0) (k := R.length) h h2).trans (if_pos h2)
theorem marksT_len (k0 : Int) (R : List (List Int)) : (marksT k0 R).length = R.length := partT_len _ _ _
set_option maxHeartbeats 1000000 in
theorem eqIntSS_yes (a a' : Option Addr) (E E' : List (Nat × Nat)) (R : List (List Int)) (c c' B U B' U' : Nat) (w : World) (h : Tabl w B U a E R) (h' : Tabl w B' U' a' E' R) (hn : R.length ≤ 1048576) (hr : ∀ r ∈ R, r.length ≤ 1048576) :
    Calls Try.prog 34 #[.slice a R.length c, .slice a' R.length c'] w (Quiet (.bool true) w) := by
  have HT := Lib.hid h
  have HT' := Lib.hid h'
  have HR := Lib.hid hr
  clear h h' hr
  go_enter Try.func34, Try.ntmps34
  go_wp2
  go_loopw [5] (fun i wr => ∃ k : Nat, k ≤ R.length ∧ i = .int .i64 k ∧ Drew w wr) (fun i _ => R.length - (intOf i).toNat)
  case atStart => exact ⟨0, Nat.zero_le _, rfl, Drew.refl w⟩
  case round =>
    obtain ⟨k, hk, rfl, hw⟩ := hrel
    by_cases hlt : k < R.length
    · have hi : (k : Int) < (R.length : Int) := by omega
      have hi0 : (0 : Int) ≤ (k : Int) := by omega
      obtain ⟨g, he, rfl, _, hc⟩ := (HT.out.drew hw).at_ hlt
      obtain ⟨g', he', rfl, _, hc'⟩ := (HT'.out.drew hw).at_ hlt
      have HE := Lib.hid (fun Wd (d : Drew w Wd) => eqInts_yes (some ⟨E[k].1, 0, none⟩) (some ⟨E'[k].1, 0, none⟩) R[k] E[k].2 E'[k].2 U U' Wd ((HT.out.drew d).ints he hlt) ((HT'.out.drew d).ints he' hlt) (HR.out _ (List.getElem_mem hlt)))
      unfold entV at hc hc'
      generalize E[k] = e1 at *
      generalize E'[k] = e2 at *
      generalize R[k].length = n at *
      have HW := Lib.hid hw
      have HC := Lib.hid hc
      have HC' := Lib.hid hc'
      clear hw
      go_wp2_with fail
      go_region_held3 (fun w' => w'.cell? ⟨g, k, none⟩ = some (.slice (some ⟨e1.1, 0, none⟩) n e1.2) ∧ w'.cell? ⟨g', k, none⟩ = some (.slice (some ⟨e2.1, 0, none⟩) n e2.2))
        (first | exact ⟨(D9.out.cell _).trans HC.out, (D9.out.cell _).trans HC'.out⟩ | exact ⟨HC.out, HC'.out⟩ | go_keep)
        (first | (go_at_call 56; refine (HE.out _ (HW.out.more 1)).mono ?_; rintro e w9 ⟨rfl, d9⟩; have D9 := Lib.hid (Drew.trans (Drew.more (Drew.refl wr) 1) d9); clear d9))
      rename_i hHeld
      clear hHeld
      go_wp2
      go_roundw
      case rel => exact ⟨k + 1, by omega, by go_num, HW.out.trans D9.out⟩
      case measure => simp [intOf]; omega
    · go_wp2
      go_ret
      exact ⟨rfl, hw⟩
set_option maxHeartbeats 1000000 in
theorem markIntSS_any (a : Option Addr) (E : List (Nat × Nat)) (R : List (List Int)) (c B U : Nat) (k0 : Int) (w : World) (h : Tabl w B U a E R) (hpos : ∀ r ∈ R, 0 < r.length) (hn : R.length ≤ 1048576) (h0 : 0 ≤ k0) (h1 : k0 + (R.flatten.length : Int) ≤ 1048576) :
    Calls Try.prog 35 #[.slice a R.length c, .int .i64 k0] w fun e w' => e = .returned (.int .i64 (k0 + (R.flatten.length : Int))) ∧ Tabl w' B U a E (marksT k0 R) ∧ Below B w w' := by
  have HT := Lib.hid h
  have HLE := Lib.hid (offs_le R)
  have HPOS := Lib.hid hpos
  clear h hpos
  go_enter Try.func35, Try.ntmps35
  go_wp2
  go_loopw [1, 5] (fun q i wr => ∃ k : Nat, k ≤ R.length ∧ i = .int .i64 k ∧ q = .int .i64 (k0 + (offs R k : Int)) ∧ Tabl wr B U a E (partT k0 R k) ∧ Below B w wr) (fun _ i _ => R.length - (intOf i).toNat)
  case atStart => exact ⟨0, Nat.zero_le _, rfl, by rw [offs_zero]; simp, by rw [partT_zero]; exact HT.out, Below.refl _ _⟩
  case round =>
    obtain ⟨k, hk, rfl, rfl, ht, hB⟩ := hrel
    have hle := HLE.out k
    by_cases hlt : k < R.length
    · have hi : (k : Int) < (R.length : Int) := by omega
      have hi0 : (0 : Int) ≤ (k : Int) := by omega
      have hkp : k < (partT k0 R k).length := by rw [partT_len]; exact hlt
      obtain ⟨g, he, rfl, hgU, hc⟩ := ht.at_ hkp
      obtain ⟨hb1, hb2, hrow⟩ := ht.t.row k he hkp
      have hgk : (partT k0 R k)[k] = R[k] := by rw [partT_get hkp hlt, if_neg (by omega)]
      rw [hgk] at hc hrow
      have hst := offs_step hlt
      have hle2 := HLE.out (k + 1)
      have HM := Lib.hid (markInts_any (some ⟨E[k].1, 0, none⟩) R[k] E[k].2 E[k].1 (k0 + (offs R k : Int)) wr (.inr ⟨rfl, hrow⟩) (by omega) (by omega) (by omega))
      have HTT := Lib.hid ht
      have HB := Lib.hid hB
      have HST := Lib.hid hst
      unfold entV at hc
      clear ht hB hrow hst
      go_wp2_with fail
      refine HM.out.mono ?_
      rintro e w2 ⟨rfl, hat, ho⟩
      have hat2 : Row w2 E[k].1 3 (iv (marks (k0 + (offs R k : Int)) R[k].length)) := by
        rcases hat with e | ⟨_, h⟩
        · have e9 := congrArg List.length e
          rw [marks_length, List.length_nil] at e9
          have := HPOS.out _ (List.getElem_mem hlt)
          omega
        · exact h
      have T2 : Tabl w2 B U (some ⟨g, 0, none⟩) E (partT k0 R (k + 1)) := by
        refine ⟨⟨by rw [partT_len]; have := HTT.out.t.len; rw [partT_len] at this; exact this, fun j j1 j2 => ?_, HTT.out.t.ne⟩, ?_⟩
        · have j3 : j < R.length := by rw [partT_len] at j2; exact j2
          obtain ⟨p1, p2, p3⟩ := HTT.out.t.row j j1 (by rw [partT_len]; exact j3)
          refine ⟨p1, p2, ?_⟩
          rw [partT_get j2 j3]
          rw [partT_get (by rw [partT_len]; exact j3) j3] at p3
          by_cases ej : j = k
          · subst ej
            rw [if_pos (by omega)]
            exact hat2
          · have hne := HTT.out.t.ne j k j1 he ej
            have p4 := p3.of_block (ho.1.block _ p3.lt (by intro e; injection e with e; exact hne e))
            by_cases ej2 : j < k
            · rw [if_pos ej2] at p4; rw [if_pos (by omega)]; exact p4
            · rw [if_neg ej2] at p4; rw [if_neg (by omega)]; exact p4
        · rcases HTT.out.o with e | ⟨g', e1, e2, e3, e4⟩
          · have := congrArg List.length e; rw [partT_len, List.length_nil] at this; omega
          · right
            refine ⟨g', e1, e2, e3, ?_⟩
            rw [partT_tab] at e4 ⊢
            refine e4.of_block (ho.1.block _ e4.lt ?_)
            intro e
            injection e with e
            obtain ⟨c1, hc1, _⟩ := e4
            obtain ⟨c2, hc2, _⟩ := (HTT.out.t.row k he hkp).2.2
            rw [e, hc2] at hc1
            injection hc1 with hc1
            injection hc1 with _ hty
            exact absurd hty (by decide)
      have HT2 := Lib.hid T2
      have HB2 := Lib.hid (HB.out.trans (ho.below hb1))
      have HRE := Lib.hid (show k0 + (offs R k : Int) + (R[k].length : Int) = k0 + (offs R (k + 1) : Int) by rw [HST.out]; push_cast; omega)
      clear hat hat2 T2 ho HTT HB hc
      go_wp2
      go_roundw
      case rel => exact ⟨k + 1, by omega, by go_num, by rw [HRE.out], HT2.out, HB2.out⟩
      case measure => simp [intOf]; omega
    · obtain rfl : k = R.length := by omega
      have HA := Lib.hid (offs_all R)
      have HTT := Lib.hid ht
      have HB := Lib.hid hB
      clear ht hB
      rw [HA.out]
      go_wp2
      go_ret
      exact ⟨rfl, HTT.out, HB.out⟩
set_option maxHeartbeats 1000000 in
theorem heldIntSS_any (a : Option Addr) (E : List (Nat × Nat)) (R : List (List Int)) (c B U : Nat) (k0 : Int) (w : World) (h : Tabl w B U a E (marksT k0 R)) (hn : R.length ≤ 1048576) (h0 : 0 ≤ k0) (h1 : k0 + (R.flatten.length : Int) ≤ 1048576) :
    Calls Try.prog 36 #[.slice a R.length c, .int .i64 k0] w fun e w' => e = .returned (.int .i64 (k0 + (R.flatten.length : Int))) ∧ w = w' := by
  have HT := Lib.hid h
  have HLE := Lib.hid (offs_le R)
  clear h
  go_enter Try.func36, Try.ntmps36
  go_wp2
  go_loop [1, 5] (fun q i => ∃ k : Nat, k ≤ R.length ∧ i = .int .i64 k ∧ q = .int .i64 (k0 + (offs R k : Int))) (fun _ i => R.length - (intOf i).toNat)
  case atStart => exact ⟨0, Nat.zero_le _, rfl, by rw [offs_zero]; simp⟩
  case round =>
    obtain ⟨k, hk, rfl, rfl⟩ := hrel
    have hle := HLE.out k
    by_cases hlt : k < R.length
    · have hi : (k : Int) < (R.length : Int) := by omega
      have hi0 : (0 : Int) ≤ (k : Int) := by omega
      have hkp : k < (marksT k0 R).length := by rw [marksT_len]; exact hlt
      obtain ⟨g, he, rfl, hgU, hc⟩ := HT.out.at_ hkp
      have hgk : (marksT k0 R)[k] = marks (k0 + (offs R k : Int)) R[k].length := marksT_get hkp hlt
      have hin := HT.out.ints he hkp
      rw [hgk] at hc hin
      unfold entV at hc
      rw [marks_length] at hc
      have hst := offs_step hlt
      have hle2 := HLE.out (k + 1)
      have HM := Lib.hid (heldInts_any (some ⟨E[k].1, 0, none⟩) R[k].length E[k].2 U (k0 + (offs R k : Int)) w hin (by omega) (by omega) (by omega))
      have HRE := Lib.hid (show k0 + (offs R k : Int) + (R[k].length : Int) = k0 + (offs R (k + 1) : Int) by rw [hst]; push_cast; omega)
      clear hin
      have hnn : ¬ k0 + (offs R k : Int) + (R[k].length : Int) < 0 := by omega
      clear hst
      go_wp2_with (go_at_call 61; refine HM.out.mono ?_; rintro e w2 ⟨rfl, rfl⟩)
      go_round
      case rel => exact ⟨k + 1, by omega, by go_num, by rw [HRE.out]⟩
      case measure => simp [intOf]; omega
    · obtain rfl : k = R.length := by omega
      have HA := Lib.hid (offs_all R)
      rw [HA.out]
      go_wp2
      go_ret
      exact ⟨rfl, rfl⟩
end Go.Proofs.Ytjpiiidjocilcaa
