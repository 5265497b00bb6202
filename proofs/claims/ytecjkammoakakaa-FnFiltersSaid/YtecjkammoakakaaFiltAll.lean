/- What a law over drawn fields knows: its world, the code, fields in boxes of its own. Minimum, median, mean and maximum of the values of a neighborhood are in order. The laws' rInts and rFields on fields that read alike: true. What the four filters without a threshold answer, by a name for each. The draws of the filters' laws: radius, DrawMaximumFilter, DrawCoverageFilter. The draw of CoverageFilter's arguments. The walk of FnFilters. -/
import Derived.Test.YtecjkammoakakaaBox
import Derived.Test.YtecjkammoakakaaMake
import Derived.Test.YtecjkammoakakaaNbRules
import Derived.Test.YtecjkammoakakaaFieldLaw
import Derived.Test.YtecjkammoakakaaNbFive
import Derived.Test.YtecjkammoakakaaNbSpec5
import Derived.Test.YtecjkammoakakaaMaskDraws
import Derived.Test.YtecjkammoakakaaAmong
import Derived.IntWalk
import Derived.Deep.QuietTactic
import Derived.BigQuiet
import Derived.Deep.DeepCutAuto
import Derived.Deep.CutBlock
namespace Go.Proofs.Ytecjkammoakakaa
open Go.RowKit
set_option linter.unusedVariables false
set_option linter.unusedSimpArgs false
/-- what the law knows of a later world -/
def Gc (w : World) (a : Option Addr) (l : List Int) (w' : World) : Prop := Below w.heap.size w w' ∧ Ints .u8 w' w'.heap.size a l
theorem Gc.step {w w1 w2 : World} {a : Option Addr} {l : List Int} (h : Gc w a l w1) (hb : Below w1.heap.size w1 w2) : Gc w a l w2 :=
  ⟨below_then h.1 hb, ints_below h.2 hb⟩
/-- a field in a box of the law's own -/
structure Fd (w : World) (b : Nat) (wd hg : Int) (a : Option Addr) (L : List Int) (c : Nat) : Prop where
  k : Box w b 26 (.int .i64 wd) (.int .i64 hg) (.slice a L.length c)
  i : Ints .i64 w w.heap.size a L
theorem Fd.new {w : World} {wd hg : Int} {a : Option Addr} {L : List Int} {c : Nat} (h : Ints .i64 w w.heap.size a L) : Fd (w.alloc (.cells #[.int .i64 wd, .int .i64 hg, .slice a L.length c] 26)) w.heap.size wd hg a L c := ⟨Box.new _ _ _ _ _, ints_alloc h _⟩
theorem Fd.step {w w' : World} {b : Nat} {wd hg : Int} {a : Option Addr} {L : List Int} {c : Nat} (h : Fd w b wd hg a L c) (hb : Below w.heap.size w w') : Fd w' b wd hg a L c := ⟨h.k.below hb, ints_below h.i hb⟩
end Go.Proofs.Ytecjkammoakakaa
namespace Go.Proofs.Ytecjkammoakakaa
set_option linter.unusedVariables false
theorem rdiv_bounds {n d lo hi : Int} (hd : 1 ≤ d) (h1 : lo * d ≤ n) (h2 : n ≤ hi * d) : lo ≤ rdiv n d ∧ rdiv n d ≤ hi := by
  have hs : (0 : Int) < 2 * d := by omega
  have e1 : lo * (2 * d) = 2 * (lo * d) := by rw [Int.mul_left_comm]
  have e2 : (hi + 1) * (2 * d) = 2 * (hi * d) + 2 * d := by rw [Int.add_mul, Int.mul_left_comm, Int.one_mul]
  have e3 : (-hi) * (2 * d) = -(2 * (hi * d)) := by rw [Int.neg_mul, Int.mul_left_comm]
  have e4 : (-lo + 1) * (2 * d) = -(2 * (lo * d)) + 2 * d := by rw [Int.add_mul, Int.neg_mul, Int.mul_left_comm, Int.one_mul]
  by_cases h : n < 0
  · rw [rdiv_neg h]
    have a : -hi ≤ (-2 * n + d) / (2 * d) := (Int.le_ediv_iff_mul_le hs).2 (by rw [e3]; omega)
    have b : (-2 * n + d) / (2 * d) < -lo + 1 := (Int.ediv_lt_iff_lt_mul hs).2 (by rw [e4]; omega)
    omega
  · rw [rdiv_pos h]
    have a : lo ≤ (2 * n + d) / (2 * d) := (Int.le_ediv_iff_mul_le hs).2 (by rw [e1]; omega)
    have b : (2 * n + d) / (2 * d) < hi + 1 := (Int.ediv_lt_iff_lt_mul hs).2 (by rw [e2]; omega)
    omega
theorem mean_between {vs : List Int} (h : vs ≠ []) : loV vs ≤ meanF vs ∧ meanF vs ≤ hiV vs := by
  have hn : 0 < vs.length := List.length_pos_iff.2 h
  have := tot_between vs
  exact rdiv_bounds (by omega) this.1 this.2
theorem med_between {vs : List Int} (h : vs ≠ []) : loV vs ≤ medF vs ∧ medF vs ≤ hiV vs := by
  have hn : 0 < vs.length := List.length_pos_iff.2 h
  have hl := insAll_len vs
  have hk : (vs.length - 1) / 2 < (insAll vs).length := by omega
  have hm : medF vs ∈ vs := by unfold medF; rw [getD_at hk]; exact insAll_mem.1 (List.getElem_mem hk)
  exact ⟨loV_le hm, hiV_ge hm⟩
theorem gap_order (c : Int) (vs : List Int) : gapC loV c vs ≤ gapC medF c vs ∧ gapC medF c vs ≤ gapC hiV c vs ∧ gapC loV c vs ≤ gapC meanF c vs ∧ gapC meanF c vs ≤ gapC hiV c vs := by
  by_cases h : vs = []
  · subst h; simp only [gapC_none]; omega
  · simp only [gapC_some h]
    have h1 := med_between h
    have h2 := mean_between h
    omega
theorem gap_in {c z : Int} {vs : List Int} (h : z ∈ vs) : gapC loV c vs ≤ z ∧ z ≤ gapC hiV c vs := by
  have hn : vs ≠ [] := by intro e; rw [e] at h; simp at h
  simp only [gapC_some hn]
  exact ⟨loV_le h, hiV_ge h⟩
theorem rW_filt (F G : List Int → Int) (wd hg : Int) (l : List Int) (r : Int) : rW (filtR F wd hg l r) = rW (filtR G wd hg l r) ∧ rH (filtR F wd hg l r) = rH (filtR G wd hg l r) ∧ rB (filtR F wd hg l r) = nbB wd hg l r ∧ (rL (filtR F wd hg l r)).length = (rL (filtR G wd hg l r)).length := by
  cases h : nbB wd hg l r with
  | false => rw [filtR_no h, filtR_no h]; exact ⟨rfl, rfl, rfl, rfl⟩
  | true => rw [filtR_yes h, filtR_yes h]; exact ⟨rfl, rfl, rfl, by simp only [rL, filtL_len]⟩
/-- the cells of the four filters, and the field's own -/
theorem filt_order {wd hg : Int} {l : List Int} {r : Int} (h : nbB wd hg l r = true) (k : Nat) (hk : k < l.length) :
    ∃ (h1 : k < (rL (filtR hiV wd hg l r)).length) (h2 : k < (rL (filtR loV wd hg l r)).length) (h3 : k < (rL (filtR meanF wd hg l r)).length) (h4 : k < (rL (filtR medF wd hg l r)).length),
      (rL (filtR loV wd hg l r))[k] ≤ (rL (filtR medF wd hg l r))[k] ∧ (rL (filtR medF wd hg l r))[k] ≤ (rL (filtR hiV wd hg l r))[k] ∧ (rL (filtR loV wd hg l r))[k] ≤ (rL (filtR meanF wd hg l r))[k] ∧ (rL (filtR meanF wd hg l r))[k] ≤ (rL (filtR hiV wd hg l r))[k] ∧
      (¬ l[k] = -9999 → (rL (filtR loV wd hg l r))[k] ≤ l[k] ∧ l[k] ≤ (rL (filtR hiV wd hg l r))[k]) := by
  have get : ∀ F, ∃ hF : k < (rL (filtR F wd hg l r)).length, (rL (filtR F wd hg l r))[k] = gapC F (l.getD k 0) (nbv l wd.toNat hg.toNat (k % wd.toNat) (k / wd.toNat) r.toNat) := by
    intro F
    rw [filtR_yes h]
    have h2 : k < (filtL (gapC F) wd.toNat hg.toNat r.toNat l).length := by rw [filtL_len]; exact hk
    exact ⟨h2, filtL_get (gapC F) _ _ _ _ k h2⟩
  obtain ⟨h1, e1⟩ := get hiV
  obtain ⟨h2, e2⟩ := get loV
  obtain ⟨h3, e3⟩ := get meanF
  obtain ⟨h4, e4⟩ := get medF
  refine ⟨h1, h2, h3, h4, ?_⟩
  rw [e1, e2, e3, e4]
  obtain ⟨o1, o2, o3, o4⟩ := gap_order (l.getD k 0) (nbv l wd.toNat hg.toNat (k % wd.toNat) (k / wd.toNat) r.toNat)
  refine ⟨o1, o2, o3, o4, fun hz => ?_⟩
  have hgd := (nbB_iff.1 h).1
  have hs := shapeB_iff.1 (good_shape hgd)
  have hlen := good_len hgd
  have hL : l.length = wd.toNat * hg.toNat := by
    have e5 : (wd.toNat : Int) = wd := by omega
    have e6 : (hg.toNat : Int) = hg := by omega
    rw [← e5, ← e6, ← Int.natCast_mul] at hlen
    omega
  exact gap_in (nbv_self hL hk hz)
end Go.Proofs.Ytecjkammoakakaa
namespace Go.Proofs.Ytecjkammoakakaa
open Go.RowKit
set_option linter.unusedVariables false
set_option linter.unusedSimpArgs false
set_option maxHeartbeats 400000 in
theorem rInts_yes (a a' : Option Addr) (l : List Int) (c c' B B' : Nat) (w : World) (hl : Ints .i64 w B a l) (hl' : Ints .i64 w B' a' l) (hn : l.length ≤ 1048576) :
    Calls Try.prog 59 #[.slice a l.length c, .slice a' l.length c'] w (Quiet (.bool true) w) := by
  have HL := Lib.hid hl
  have HL' := Lib.hid hl'
  clear hl hl'
  go_enter Try.func59, Try.ntmps59
  go_wp2
  go_loopw [5] (fun i wr => ∃ k : Nat, k ≤ l.length ∧ i = .int .i64 k ∧ Drew w wr) (fun i _ => l.length - (intOf i).toNat)
  case atStart => exact ⟨0, Nat.zero_le _, rfl, Drew.refl w⟩
  case round =>
    obtain ⟨k, hk, rfl, hw⟩ := hrel
    by_cases hlt : k < l.length
    · obtain ⟨b, o, rfl, hb, hc⟩ := (HL.out.drew hw).at_ hlt
      obtain ⟨b', o', rfl, hb', hc'⟩ := (HL'.out.drew hw).at_ hlt
      generalize l[k] = x at *
      have hi : (k : Int) < (l.length : Int) := by omega
      have hi0 : (0 : Int) ≤ (k : Int) := by omega
      go_wp2
      go_quiet (fail)
      go_wp2
      go_roundw
      case rel => exact ⟨k + 1, by omega, by go_num, hw.more _⟩
      case measure => simp [intOf]; omega
    · go_wp2
      go_ret
      exact ⟨rfl, hw⟩

set_option maxHeartbeats 400000 in
theorem rField_yes (wd hg : Int) (a a' : Option Addr) (l : List Int) (c c' : Nat) (w : World) (hl : Ints .i64 w w.heap.size a l) (hl' : Ints .i64 w w.heap.size a' l) (hn : l.length ≤ 1048576) :
    Calls Try.prog 21 #[.agg #[.int .i64 wd, .int .i64 hg, .slice a l.length c], .agg #[.int .i64 wd, .int .i64 hg, .slice a' l.length c']] w fun e w' => e = .returned (.bool true) ∧ Below w.heap.size w w' := by
  have HL := Lib.hid hl
  have HL' := Lib.hid hl'
  clear hl hl'
  have b2 : ∀ o1 o2, Below w.heap.size w ((w.alloc o1).alloc o2) := fun o1 o2 => ((Below.refl _ _).alloc (Nat.le_refl _) _).alloc (by simp) _
  have HE := Lib.hid (fun o1 o2 => rInts_yes a a' l c c' w.heap.size w.heap.size ((w.alloc o1).alloc o2) (HL.out.below (b2 o1 o2) (Nat.le_refl _)) (HL'.out.below (b2 o1 o2) (Nat.le_refl _)) hn)
  go_enter Try.func21, Try.ntmps21
  go_wp2_with (go_at_call 59; refine (HE.out _ _).mono ?_; rintro e w1 ⟨rfl, d⟩; have HD := Lib.hid d; clear d)
  go_ret
  exact ⟨rfl, (b2 _ _).trans (HD.out.below _)⟩
end Go.Proofs.Ytecjkammoakakaa
namespace Go.Proofs.Ytecjkammoakakaa
open Go.RowKit
def maxR (wd hg : Int) (l : List Int) (rad : Int) : Option (Int × Int × List Int) := filtR hiV wd hg l rad
theorem maxR_len (wd hg : Int) (l : List Int) (rad : Int) : (rL (maxR wd hg l rad)).length ≤ 64 := filtR_len _ _ _ _ _
theorem implMaxR_any (wd hg : Int) (a : Option Addr) (l : List Int) (c : Nat) (rad : Int) (w : World) (hl : Ints .i64 w w.heap.size a l) (hn : l.length ≤ 1048576) (hcap : l.length ≤ c) :
    Calls Try.prog 16 #[.agg #[.int .i64 wd, .int .i64 hg, .slice a l.length c], .int .i64 rad] w (FRet (maxR wd hg l rad) w) := implMax_any wd hg a l c rad w hl hn hcap
theorem specMaxR_any (wd hg : Int) (a : Option Addr) (l : List Int) (c : Nat) (rad : Int) (w : World) (hl : Ints .i64 w w.heap.size a l) (hn : l.length ≤ 1048576) :
    Calls Try.prog 20 #[.agg #[.int .i64 wd, .int .i64 hg, .slice a l.length c], .int .i64 rad] w (FRet (maxR wd hg l rad) w) := specMax_any wd hg a l c rad w hl hn
def minR (wd hg : Int) (l : List Int) (rad : Int) : Option (Int × Int × List Int) := filtR loV wd hg l rad
theorem minR_len (wd hg : Int) (l : List Int) (rad : Int) : (rL (minR wd hg l rad)).length ≤ 64 := filtR_len _ _ _ _ _
theorem implMinR_any (wd hg : Int) (a : Option Addr) (l : List Int) (c : Nat) (rad : Int) (w : World) (hl : Ints .i64 w w.heap.size a l) (hn : l.length ≤ 1048576) (hcap : l.length ≤ c) :
    Calls Try.prog 17 #[.agg #[.int .i64 wd, .int .i64 hg, .slice a l.length c], .int .i64 rad] w (FRet (minR wd hg l rad) w) := implMin_any wd hg a l c rad w hl hn hcap
theorem specMinR_any (wd hg : Int) (a : Option Addr) (l : List Int) (c : Nat) (rad : Int) (w : World) (hl : Ints .i64 w w.heap.size a l) (hn : l.length ≤ 1048576) :
    Calls Try.prog 22 #[.agg #[.int .i64 wd, .int .i64 hg, .slice a l.length c], .int .i64 rad] w (FRet (minR wd hg l rad) w) := specMin_any wd hg a l c rad w hl hn
def meanR (wd hg : Int) (l : List Int) (rad : Int) : Option (Int × Int × List Int) := filtR meanF wd hg l rad
theorem meanR_len (wd hg : Int) (l : List Int) (rad : Int) : (rL (meanR wd hg l rad)).length ≤ 64 := filtR_len _ _ _ _ _
theorem implMeanR_any (wd hg : Int) (a : Option Addr) (l : List Int) (c : Nat) (rad : Int) (w : World) (hl : Ints .i64 w w.heap.size a l) (hn : l.length ≤ 1048576) (hcap : l.length ≤ c) :
    Calls Try.prog 18 #[.agg #[.int .i64 wd, .int .i64 hg, .slice a l.length c], .int .i64 rad] w (FRet (meanR wd hg l rad) w) := implMean_any wd hg a l c rad w hl hn hcap
theorem specMeanR_any (wd hg : Int) (a : Option Addr) (l : List Int) (c : Nat) (rad : Int) (w : World) (hl : Ints .i64 w w.heap.size a l) (hn : l.length ≤ 1048576) :
    Calls Try.prog 23 #[.agg #[.int .i64 wd, .int .i64 hg, .slice a l.length c], .int .i64 rad] w (FRet (meanR wd hg l rad) w) := specMean_any wd hg a l c rad w hl hn
def medR (wd hg : Int) (l : List Int) (rad : Int) : Option (Int × Int × List Int) := filtR medF wd hg l rad
theorem medR_len (wd hg : Int) (l : List Int) (rad : Int) : (rL (medR wd hg l rad)).length ≤ 64 := filtR_len _ _ _ _ _
theorem implMedR_any (wd hg : Int) (a : Option Addr) (l : List Int) (c : Nat) (rad : Int) (w : World) (hl : Ints .i64 w w.heap.size a l) (hn : l.length ≤ 1048576) (hcap : l.length ≤ c) :
    Calls Try.prog 19 #[.agg #[.int .i64 wd, .int .i64 hg, .slice a l.length c], .int .i64 rad] w (FRet (medR wd hg l rad) w) := implMed_any wd hg a l c rad w hl hn hcap
theorem specMedR_any (wd hg : Int) (a : Option Addr) (l : List Int) (c : Nat) (rad : Int) (w : World) (hl : Ints .i64 w w.heap.size a l) (hn : l.length ≤ 1048576) :
    Calls Try.prog 24 #[.agg #[.int .i64 wd, .int .i64 hg, .slice a l.length c], .int .i64 rad] w (FRet (medR wd hg l rad) w) := specMed_any wd hg a l c rad w hl hn
end Go.Proofs.Ytecjkammoakakaa
namespace Go.Proofs.Ytecjkammoakakaa
open Go.RowKit
set_option linter.unusedVariables false
set_option linter.unusedSimpArgs false
/-- a number is drawn, the cursor further; blocks may be laid -/
def NDraw (g : Nat) (a : Option Addr) (l : List Int) (c K : Nat) (w : World) (e : Ending) (w' : World) : Prop :=
  ∃ z : Int, (-10000 ≤ z ∧ z ≤ 10000) ∧ e = .returned (.int .i64 z) ∧ CurIs w' g a l c K ∧ w.grownBy w' (some g)
/-- a literal of numbers that was laid, cut -/
theorem lit_cut {w w1 : World} {g : Nat} (L : List Int) (n : Nat) (hg : g < w.heap.size) (ho : Only g (w.alloc (.cells (L.map (Value.int .i64)).toArray 3)) w1) : ∀ k (h : k < (L.take n).length), w1.cell? ⟨w.heap.size, k, none⟩ = some (.int .i64 (L.take n)[k]) := by
  intro k hk
  have h1 : k < L.length := by rw [List.length_take] at hk; omega
  rw [List.getElem_take]
  exact (World.cell?_of_block (ho.1.block w.heap.size (by simp) (by intro e; injection e with e; omega))).trans (lit_ints w L 3 k h1)
set_option maxRecDepth 100000 in
set_option maxHeartbeats 4000000 in
theorem radius_any (w : World) (g : Nat) (a : Option Addr) (l : List Int) (c K : Nat) (hK : K ≤ 900000) (h : CurIs w g a l c K) :
    Calls Try.prog 50 #[.pointer (some ⟨g, 0, none⟩)] w (NDraw g a l c (K + 10) w) := by
  have hg := h.lt
  have C0 := Lib.hid (h.alloc (.cells ([0, 1, 1, 2, 3, -1, 4].map (Value.int .i64)).toArray 3))
  clear h
  go_enter Try.func50, Try.ntmps50
  go_wp2_with fail
  refine (pick_any _ g a l c K 24 (by omega) (by omega) (by omega) C0.out).mono ?_
  rintro e w1 ⟨v, ⟨r, hr, rfl⟩, rfl, hc, ho⟩
  have HLC := Lib.hid (fun n => lit_cut [0, 1, 1, 2, 3, -1, 4] n hg ho)
  have HC := Lib.hid hc
  have T1 := Lib.hid (turn_trans (turn_below (g := g) (below_all w _)) ho.1)
  have hsz := ho.2
  rw [World.size_alloc] at hsz
  clear hc ho C0
  obtain ⟨d, hd⟩ : ∃ d, r / 11 = d := ⟨_, rfl⟩
  have p5 : Int.tdiv (r : Int) 11 = (d : Int) := by rw [← hd]; exact (Int.ofNat_tdiv r 11).symm
  have hd2 : d ≤ 2 := by omega
  have p6 : IntKind.i64.wrap (d : Int) = (d : Int) := IntWalk.i64_in _ (by omega)
  clear hd
  go_wp2_with fail
  refine (among_any w1 g a l c _ w.heap.size (5 + d) ([0, 1, 1, 2, 3, -1, 4].take (5 + d)) (by omega) (by rw [List.length_take]; simp only [List.length_cons, List.length_nil]; omega) (by omega) (by omega) HC.out (by omega) (by omega) (HLC.out (5 + d)) 7).mono ?_
  rintro e w2 ⟨v, ⟨z, hz, rfl⟩, rfl, hc, ho⟩
  have hzb : -10000 ≤ z ∧ z ≤ 10000 := by
    have := List.mem_of_mem_take hz
    simp only [List.mem_cons, List.not_mem_nil, or_false] at this
    omega
  have HC2 := Lib.hid (hc.more (show K + 2 + 2 ≤ K + 10 by omega))
  have T2 := Lib.hid (turn_trans T1.out ho.1)
  clear hc ho HC T1 HLC hz
  go_wp2
  go_ret
  exact ⟨z, hzb, rfl, HC2.out, T2.out⟩
/-- a field and a number are drawn -/
def DrawFN (w : World) (e : Ending) (w' : World) : Prop :=
  ∃ (wd hg : Int) (L : List Int) (a1 : Addr) (c1 : Nat) (z : Int), (L.length ≤ 64 ∧ L.length ≤ c1) ∧ e = .returned (.tuple #[.agg #[.int .i64 wd, .int .i64 hg, .slice (some a1) L.length c1], .int .i64 z]) ∧ Own2 w' w.heap.size (some a1) L ∧ Below w.heap.size w w'
def DrawFNN (w : World) (e : Ending) (w' : World) : Prop :=
  ∃ (wd hg : Int) (L : List Int) (a1 : Addr) (c1 : Nat) (z y : Int), (L.length ≤ 64 ∧ L.length ≤ c1) ∧ e = .returned (.tuple #[.agg #[.int .i64 wd, .int .i64 hg, .slice (some a1) L.length c1], .int .i64 z, .int .i64 y]) ∧ Own2 w' w.heap.size (some a1) L ∧ Below w.heap.size w w'
/-- what a draw of a field in a box of its own knows: its result's box at w.heap.size, its cursor behind it, the field's box at fb -/
structure Dw (w : World) (a : Option Addr) (l : List Int) (c K fb : Nat) (wd hg : Int) (a1 : Addr) (L : List Int) (c1 : Nat) (w1 : World) : Prop where
  cur : CurIs w1 (w.heap.size + 1) a l c K
  res : Box w1 w.heap.size 26 (.int .i64 0) (.int .i64 0) (.slice none 0 0)
  box : Box w1 fb 26 (.int .i64 wd) (.int .i64 hg) (.slice (some a1) L.length c1)
  own : Own2 w1 (w.heap.size + 2) (some a1) L
  b : Below w.heap.size w w1
  n : w.heap.size + 2 ≤ fb
section
variable {w w1 w2 : World} {a : Option Addr} {l : List Int} {c K K' fb : Nat} {wd hg : Int} {a1 : Addr} {L : List Int} {c1 : Nat}
theorem Dw.step (h : Dw w a l c K fb wd hg a1 L c1 w1) (b : Below w1.heap.size w1 w2) : Dw w a l c K fb wd hg a1 L c1 w2 :=
  ⟨h.cur.below b, h.res.below b, h.box.below b, h.own.below b, below_then h.b b, h.n⟩
theorem Dw.turn (h : Dw w a l c K fb wd hg a1 L c1 w1) (hc : CurIs w2 (w.heap.size + 1) a l c K') (t : w1.grownBy w2 (some (w.heap.size + 1))) : Dw w a l c K' fb wd hg a1 L c1 w2 :=
  ⟨hc, h.res.turn t (by omega), h.box.turn t (by have := h.n; omega), h.own.turn t (by omega), below_grown h.b t (by omega), h.n⟩
end
set_option maxRecDepth 100000 in
set_option maxHeartbeats 4000000 in
theorem drawMax_any (w : World) (a : Option Addr) (l : List Int) (c : Nat) (hi : Ints .u8 w w.heap.size a l) (hb : ∀ z ∈ l, 0 ≤ z ∧ z ≤ 255) (hl : l.length ≤ 1048576) :
    Calls Try.prog 15 #[.slice a l.length c] w (DrawFN w) := by
  have i1 := ints_alloc hi (.cells #[.int .i64 0, .int .i64 0, .slice none 0 0] 26)
  have hcn := cur_new (w.alloc (.cells #[.int .i64 0, .int .i64 0, .slice none 0 0] 26)) a l c i1 hb hl
  rw [World.size_alloc] at hcn
  obtain ⟨W0, hW0⟩ : ∃ W, (w.alloc (.cells #[.int .i64 0, .int .i64 0, .slice none 0 0] 26)).alloc (.cells #[.slice a l.length c, .int .i64 0, .int .u64 0] 51) = W := ⟨_, rfl⟩
  rw [hW0] at hcn
  have C0 := Lib.hid hcn
  have R0 := Lib.hid (show Box W0 w.heap.size 26 (.int .i64 0) (.int .i64 0) (.slice none 0 0) by rw [← hW0]; exact (Box.new w _ _ _ _).alloc _)
  have B0 := Lib.hid (show Below w.heap.size w W0 by rw [← hW0]; exact ((below_all w _).alloc (by simp) _))
  clear hi hb hcn i1
  have hz0 := C0.out.lt
  go_enter Try.func15, Try.ntmps15
  go_wp2_with fail
  refine (anyField_any W0 (w.heap.size + 1) a l c 0 (by omega) C0.out).mono ?_
  rintro e w2 ⟨wd, hg, L, a1, c1, ⟨m1, m2, m3, m4, m5, m6⟩, rfl, o1, hc, ho⟩
  have hsz := ho.size
  have D2 : Dw w a l c (0 + 400) w2.heap.size wd hg a1 L c1 (w2.alloc (.cells #[.int .i64 wd, .int .i64 hg, .slice (some a1) L.length c1] 26)) :=
    ⟨hc.alloc _, (R0.out.turn ho (by omega)).alloc _, Box.new _ _ _ _ _, (o1.below (below_all _ _)).more (by omega), (below_grown B0.out ho (by omega)).alloc (below_grown B0.out ho (by omega)).size _, by omega⟩
  obtain ⟨W2, hW2⟩ : ∃ W, w2.alloc (.cells #[.int .i64 wd, .int .i64 hg, .slice (some a1) L.length c1] 26) = W := ⟨_, rfl⟩
  obtain ⟨fb, hfb⟩ : ∃ q, w2.heap.size = q := ⟨_, rfl⟩
  rw [hW2, hfb] at D2
  have HD2 := Lib.hid (D2.step (w2 := W2.drew) ⟨rfl, rfl, rfl, Nat.le_refl _, fun _ _ => rfl⟩)
  obtain ⟨x0, x1, x2⟩ := HD2.out.box.cells
  clear hc ho o1 R0 B0 C0 D2
  go_wp2_with fail
  skip
  clear hW2 hfb
  go_region_held3 (fun w' => w'.cell? ⟨fb, 0, none⟩ = some (.int .i64 wd) ∧ w'.cell? ⟨fb, 1, none⟩ = some (.int .i64 hg) ∧ w'.cell? ⟨fb, 2, none⟩ = some (.slice (some a1) L.length c1))
    (first | exact HD9.out.box.cells | exact (box_other3 HD9.out.box (show fb ≠ w.heap.size by have := HD9.out.n; omega) _ _ _).cells | exact HD2.out.box.cells | go_keep)
    (first | (go_at_call 50; refine (radius_any _ _ a l c _ (by omega) HD2.out.cur).mono ?_; rintro e w9 ⟨z, hz, rfl, hc9, ho9⟩; have HD9 := Lib.hid (HD2.out.turn hc9 ho9); obtain ⟨t0, t1, t2⟩ := HD9.out.res.cells; have g0 := HD9.out.res.frozen 0; have g1 := HD9.out.res.frozen 1; have g2 := HD9.out.res.frozen 2; clear hc9 ho9))
  rename_i hHeld
  clear hHeld
  go_wp2
  have K1 := own2_box (HD9.out.own.more (Nat.le_succ _)) (show w.heap.size < w.heap.size + 1 by omega) (.int .i64 wd) (.int .i64 hg) (.slice (some a1) L.length c1)
  have K3 := below_set3 HD9.out.b (Nat.le_refl w.heap.size) (.int .i64 wd) (.int .i64 hg) (.slice (some a1) L.length c1)
  refine bodyPost_ret (v := .tuple #[.agg #[.int .i64 wd, .int .i64 hg, .slice (some a1) L.length c1], .int .i64 z]) (by simp [results, Try.results15, go_sem, t0, t1, t2]) rfl ⟨wd, hg, L, a1, c1, z, ⟨m1, m2⟩, rfl, K1, K3⟩
theorem lit_cutd {w w1 : World} {g : Nat} (L : List Int) (n : Nat) (hg : g < w.heap.size) (ho : Only g ((w.alloc (.cells (L.map (Value.int .i64)).toArray 3)).drew) w1) : ∀ k (h : k < (L.take n).length), w1.cell? ⟨w.heap.size, k, none⟩ = some (.int .i64 (L.take n)[k]) := by
  intro k hk
  have h1 : k < L.length := by rw [List.length_take] at hk; omega
  rw [List.getElem_take]
  exact (World.cell?_of_block (ho.1.block w.heap.size (by show w.heap.size < (w.alloc _).heap.size; simp) (by intro e; injection e with e; omega))).trans (lit_ints w L 3 k h1)
theorem lit_cutn (w : World) (L : List Int) (n : Nat) : ∀ k (h : k < (L.take n).length), (w.alloc (.cells (L.map (Value.int .i64)).toArray 3)).cell? ⟨w.heap.size, k, none⟩ = some (.int .i64 (L.take n)[k]) := by
  intro k hk
  have h1 : k < L.length := by rw [List.length_take] at hk; omega
  rw [List.getElem_take]
  exact lit_ints w L 3 k h1
theorem lt_of_cell {w : World} {b o : Nat} {v : Value} (h : w.cell? ⟨b, o, none⟩ = some v) : b < w.heap.size := by
  rcases Nat.lt_or_ge b w.heap.size with hlt | hge
  · exact hlt
  · simp [World.cell?, Array.getElem?_eq_none hge] at h
theorem pick_lit (w : World) (g : Nat) (a : Option Addr) (l : List Int) (c K n : Nat) (z : Int) (hz : z = (n : Int)) (hK : K ≤ 1000000) (hn : 1 ≤ n) (hn2 : n ≤ 1048576) (h : CurIs w g a l c K) :
    Calls Try.prog 61 #[.pointer (some ⟨g, 0, none⟩), .int .i64 z] w (Drawn g a l c (K + 2) (IsNum n) w) := by subst hz; exact pick_any w g a l c K n hK hn hn2 h
set_option maxRecDepth 100000 in
set_option maxHeartbeats 8000000 in
theorem drawRep_any (w : World) (a : Option Addr) (l : List Int) (c : Nat) (hi : Ints .u8 w w.heap.size a l) (hb : ∀ z ∈ l, 0 ≤ z ∧ z ≤ 255) (hl : l.length ≤ 1048576) :
    Calls Try.prog 35 #[.slice a l.length c] w (DrawFNN w) := by
  have i1 := ints_alloc hi (.cells #[.int .i64 0, .int .i64 0, .slice none 0 0] 26)
  have hcn := cur_new (w.alloc (.cells #[.int .i64 0, .int .i64 0, .slice none 0 0] 26)) a l c i1 hb hl
  rw [World.size_alloc] at hcn
  obtain ⟨W0, hW0⟩ : ∃ W, (w.alloc (.cells #[.int .i64 0, .int .i64 0, .slice none 0 0] 26)).alloc (.cells #[.slice a l.length c, .int .i64 0, .int .u64 0] 51) = W := ⟨_, rfl⟩
  rw [hW0] at hcn
  have C0 := Lib.hid hcn
  have R0 := Lib.hid (show Box W0 w.heap.size 26 (.int .i64 0) (.int .i64 0) (.slice none 0 0) by rw [← hW0]; exact (Box.new w _ _ _ _).alloc _)
  have B0 := Lib.hid (show Below w.heap.size w W0 by rw [← hW0]; exact ((below_all w _).alloc (by simp) _))
  clear hi hb hcn i1
  have hz0 := C0.out.lt
  go_enter Try.func35, Try.ntmps35
  go_wp2_with fail
  refine (anyField_any W0 (w.heap.size + 1) a l c 0 (by omega) C0.out).mono ?_
  rintro e w2 ⟨wd, hg, L, a1, c1, ⟨m1, m2, m3, m4, m5, m6⟩, rfl, o1, hc, ho⟩
  have hsz := ho.size
  have D2 : Dw w a l c (0 + 400) w2.heap.size wd hg a1 L c1 (w2.alloc (.cells #[.int .i64 wd, .int .i64 hg, .slice (some a1) L.length c1] 26)) :=
    ⟨hc.alloc _, (R0.out.turn ho (by omega)).alloc _, Box.new _ _ _ _ _, (o1.below (below_all _ _)).more (by omega), (below_grown B0.out ho (by omega)).alloc (below_grown B0.out ho (by omega)).size _, by omega⟩
  obtain ⟨W2, hW2⟩ : ∃ W, w2.alloc (.cells #[.int .i64 wd, .int .i64 hg, .slice (some a1) L.length c1] 26) = W := ⟨_, rfl⟩
  obtain ⟨fb, hfb⟩ : ∃ q, w2.heap.size = q := ⟨_, rfl⟩
  rw [hW2, hfb] at D2
  have HD2 := Lib.hid D2
  clear hc ho o1 R0 B0 C0 D2
  go_wp2_with fail
  clear hW2 hfb
  refine (radius_any _ _ a l c _ (by omega) HD2.out.cur).mono ?_
  rintro e w3 ⟨z, hz, rfl, hc3, ho3⟩
  have HD3 := Lib.hid (HD2.out.turn hc3 ho3)
  clear hc3 ho3 HD2
  go_wp2_with fail
  have HDA := Lib.hid ((HD3.out.step (below_all _ (.cells #[.int .i64 0, .int .i64 1, .int .i64 2, .int .i64 5, .int .i64 (-1), .int .i64 6] 3))).step (w2 := (w3.alloc (.cells #[.int .i64 0, .int .i64 1, .int .i64 2, .int .i64 5, .int .i64 (-1), .int .i64 6] 3)).drew) ⟨rfl, rfl, rfl, Nat.le_refl _, fun _ _ => rfl⟩)
  have HDB := Lib.hid (HD3.out.step (w2 := w3.drew) ⟨rfl, rfl, rfl, Nat.le_refl _, fun _ _ => rfl⟩)
  have hfbr := HDB.out.n
  have hcw : w.heap.size + 1 < w3.heap.size := HDB.out.cur.lt
  have hfne : ¬ fb = w.heap.size := by omega
  have hfne2 : ¬ w.heap.size = fb := by omega
  go_region_held3 (fun w' => w'.cell? ⟨fb, 0, none⟩ = some (.int .i64 wd) ∧ w'.cell? ⟨fb, 1, none⟩ = some (.int .i64 hg) ∧ w'.cell? ⟨fb, 2, none⟩ = some (.slice (some a1) L.length c1))
    (first | exact HD10.out.box.cells | exact (box_other3 HD10.out.box (show fb ≠ w.heap.size by omega) _ _ _).cells | exact HD9L.out.box.cells | exact HD9.out.box.cells | exact HDA.out.box.cells | exact HDB.out.box.cells | go_keep)
    (first
      | (go_at_call 61; (first | ((with_reducible refine (pick_lit _ _ a l c _ 24 24 rfl (by omega) (by omega) (by omega) HDA.out.cur).mono ?_); rintro e w9 ⟨v, ⟨r, hr, rfl⟩, rfl, hc9, ho9⟩; have HLC := Lib.hid (fun n => lit_cutd [0, 1, 2, 5, -1, 6] n hcw ho9); have HD9 := Lib.hid (HDA.out.turn hc9 ho9.1); clear hc9 ho9; obtain ⟨d, hd⟩ : ∃ d, r / 11 = d := ⟨_, rfl⟩; have p5 : Int.tdiv (r : Int) 11 = (d : Int) := (by rw [← hd]; exact (Int.ofNat_tdiv r 11).symm); have hd2 : d ≤ 2 := (by omega); have p6 : IntKind.i64.wrap (d : Int) = (d : Int) := (IntWalk.i64_in _ (by omega)); obtain ⟨N, hN⟩ : ∃ N, 4 + d = N := ⟨_, rfl⟩; have p7 : IntKind.i64.wrap (4 + (d : Int)) = (N : Int) := (by rw [IntWalk.i64_in _ (by omega)]; omega); have pp0 : (0 : Int) ≤ (N : Int) := (by omega); have pp1 : (N : Int) ≤ 6 := (by omega); have pN1 : 1 ≤ N := (by omega); have pN6 : N ≤ 6 := (by omega); clear hd hN) | ((with_reducible refine (pick_lit _ _ a l c _ 24 24 rfl (by omega) (by omega) (by omega) HDB.out.cur).mono ?_); rintro e w9 ⟨v, ⟨r, hr, rfl⟩, rfl, hc9, ho9⟩; have HD9 := Lib.hid (HDB.out.turn hc9 ho9.1); have HD9L := Lib.hid (HD9.out.step (below_all _ (.cells #[.int .i64 0, .int .i64 1, .int .i64 2, .int .i64 5, .int .i64 (-1), .int .i64 6] 3))); have hcw9 := HD9.out.cur.lt; have HLC : Hid (∀ (n k : Nat) (h : k < (List.take n ([0, 1, 2, 5, -1, 6] : List Int)).length), (w9.alloc (.cells #[.int .i64 0, .int .i64 1, .int .i64 2, .int .i64 5, .int .i64 (-1), .int .i64 6] 3)).cell? ⟨w9.heap.size, k, none⟩ = some (.int .i64 (List.take n ([0, 1, 2, 5, -1, 6] : List Int))[k])) := Lib.hid (fun n => lit_cutn w9 [0, 1, 2, 5, -1, 6] n); clear hc9 ho9; obtain ⟨d, hd⟩ : ∃ d, r / 11 = d := ⟨_, rfl⟩; have p5 : Int.tdiv (r : Int) 11 = (d : Int) := (by rw [← hd]; exact (Int.ofNat_tdiv r 11).symm); have hd2 : d ≤ 2 := (by omega); have p6 : IntKind.i64.wrap (d : Int) = (d : Int) := (IntWalk.i64_in _ (by omega)); obtain ⟨N, hN⟩ : ∃ N, 4 + d = N := ⟨_, rfl⟩; have p7 : IntKind.i64.wrap (4 + (d : Int)) = (N : Int) := (by rw [IntWalk.i64_in _ (by omega)]; omega); have pp0 : (0 : Int) ≤ (N : Int) := (by omega); have pp1 : (N : Int) ≤ 6 := (by omega); have pN1 : 1 ≤ N := (by omega); have pN6 : N ≤ 6 := (by omega); clear hd hN)))
      | (go_at_call 62; (first | ((with_reducible refine (among_any w9 _ a l c _ w3.heap.size N ([0, 1, 2, 5, -1, 6].take N) (by omega) (by rw [List.length_take]; simp only [List.length_cons, List.length_nil]; omega) (by omega) (by omega) HD9.out.cur (by omega) (by have h9 := HLC.out 1 0 (by simp); exact lt_of_cell h9) (HLC.out N) 6).mono ?_); rintro e w10 ⟨v, ⟨y, hzy, rfl⟩, rfl, hc10, ho10⟩; have HD10 := Lib.hid (HD9.out.turn hc10 ho10.1); obtain ⟨t0, t1, t2⟩ := HD10.out.res.cells; have g0 := HD10.out.res.frozen 0; have g1 := HD10.out.res.frozen 1; have g2 := HD10.out.res.frozen 2; clear hc10 ho10) | ((with_reducible refine (among_any _ _ a l c _ w9.heap.size N ([0, 1, 2, 5, -1, 6].take N) (by omega) (by rw [List.length_take]; simp only [List.length_cons, List.length_nil]; omega) (by omega) (by omega) HD9L.out.cur (by omega) (by simp) (HLC.out N) 6).mono ?_); rintro e w10 ⟨v, ⟨y, hzy, rfl⟩, rfl, hc10, ho10⟩; have HD10 := Lib.hid (HD9L.out.turn hc10 ho10.1); obtain ⟨t0, t1, t2⟩ := HD10.out.res.cells; have g0 := HD10.out.res.frozen 0; have g1 := HD10.out.res.frozen 1; have g2 := HD10.out.res.frozen 2; clear hc10 ho10))))
  all_goals
    rename_i hHeld
    clear hHeld
    go_wp2
    have K1 := own2_box (HD10.out.own.more (Nat.le_succ _)) (show w.heap.size < w.heap.size + 1 by omega) (.int .i64 wd) (.int .i64 hg) (.slice (some a1) L.length c1)
    have K3 := below_set3 HD10.out.b (Nat.le_refl w.heap.size) (.int .i64 wd) (.int .i64 hg) (.slice (some a1) L.length c1)
    refine bodyPost_ret (v := .tuple #[.agg #[.int .i64 wd, .int .i64 hg, .slice (some a1) L.length c1], .int .i64 z, .int .i64 y]) (by simp [results, Try.results35, go_sem, t0, t1, t2]) rfl ⟨wd, hg, L, a1, c1, z, y, ⟨m1, m2⟩, rfl, K1, K3⟩
end Go.Proofs.Ytecjkammoakakaa
namespace Go.Proofs.Ytecjkammoakakaa
open Go.RowKit
set_option linter.unusedVariables false
set_option linter.unusedSimpArgs false
theorem own2_cell {w : World} {B gr o : Nat} {L : List Int} (h : Own2 w B (some ⟨gr, o, none⟩) L) {r : Nat} (hr : r < L.length) : w.cell? ⟨gr, o + r, none⟩ = some (.int .i64 L[r]) := by
  rcases h with h | ⟨g', o', h1, _, _, h2⟩
  · rw [h] at hr; simp at hr
  · injection h1 with h1
    injection h1 with h1 h3
    subst h1 h3
    exact h2 r hr
set_option maxRecDepth 100000 in
set_option maxHeartbeats 8000000 in
theorem drawCov_any (w : World) (a : Option Addr) (l : List Int) (c : Nat) (hi : Ints .u8 w w.heap.size a l) (hb : ∀ z ∈ l, 0 ≤ z ∧ z ≤ 255) (hl : l.length ≤ 1048576) :
    Calls Try.prog 25 #[.slice a l.length c] w (DrawFNN w) := by
  have i1 := ints_alloc hi (.cells #[.int .i64 0, .int .i64 0, .slice none 0 0] 26)
  have hcn := cur_new (w.alloc (.cells #[.int .i64 0, .int .i64 0, .slice none 0 0] 26)) a l c i1 hb hl
  rw [World.size_alloc] at hcn
  obtain ⟨W0, hW0⟩ : ∃ W, (w.alloc (.cells #[.int .i64 0, .int .i64 0, .slice none 0 0] 26)).alloc (.cells #[.slice a l.length c, .int .i64 0, .int .u64 0] 51) = W := ⟨_, rfl⟩
  rw [hW0] at hcn
  have C0 := Lib.hid hcn
  have R0 := Lib.hid (show Box W0 w.heap.size 26 (.int .i64 0) (.int .i64 0) (.slice none 0 0) by rw [← hW0]; exact (Box.new w _ _ _ _).alloc _)
  have B0 := Lib.hid (show Below w.heap.size w W0 by rw [← hW0]; exact ((below_all w _).alloc (by simp) _))
  clear hi hb hcn i1
  have hz0 := C0.out.lt
  go_enter Try.func25, Try.ntmps25
  go_wp2_with fail
  refine (anyField_any W0 (w.heap.size + 1) a l c 0 (by omega) C0.out).mono ?_
  rintro e w2 ⟨wd, hg, L, a1, c1, ⟨m1, m2, m3, m4, m5, m6⟩, rfl, o1, hc, ho⟩
  have hsz := ho.size
  have D2 : Dw w a l c (0 + 400) w2.heap.size wd hg a1 L c1 (w2.alloc (.cells #[.int .i64 wd, .int .i64 hg, .slice (some a1) L.length c1] 26)) :=
    ⟨hc.alloc _, (R0.out.turn ho (by omega)).alloc _, Box.new _ _ _ _ _, (o1.below (below_all _ _)).more (by omega), (below_grown B0.out ho (by omega)).alloc (below_grown B0.out ho (by omega)).size _, by omega⟩
  obtain ⟨W2, hW2⟩ : ∃ W, w2.alloc (.cells #[.int .i64 wd, .int .i64 hg, .slice (some a1) L.length c1] 26) = W := ⟨_, rfl⟩
  obtain ⟨fb, hfb⟩ : ∃ q, w2.heap.size = q := ⟨_, rfl⟩
  rw [hW2, hfb] at D2
  have HD2 := Lib.hid D2
  clear hc ho o1 R0 B0 C0 D2
  go_wp2_with fail
  clear hW2 hfb
  refine (radius_any _ _ a l c _ (by omega) HD2.out.cur).mono ?_
  rintro e w3 ⟨z, hz, rfl, hc3, ho3⟩
  have HD3 := Lib.hid (HD2.out.turn hc3 ho3)
  clear hc3 ho3 HD2
  obtain ⟨x0, x1, x2⟩ := HD3.out.box.cells
  by_cases hl0 : 0 < L.length
  · have hl1 : (0 : Int) < (L.length : Int) := by omega
    go_wp2_with fail
    refine (one_any _ _ a l c _ 2 (by omega) (by omega) (by omega) HD3.out.cur).mono ?_
    rintro e w4 ⟨v, ⟨b, rfl⟩, rfl, hc4, ho4⟩
    have HD4 := Lib.hid (HD3.out.turn hc4 ho4.1)
    clear hc4 ho4 HD3 x0 x1 x2
    obtain ⟨x0, x1, x2⟩ := HD4.out.box.cells
    cases b with
    | true =>
      go_wp2_with fail
      have HDB := Lib.hid (HD4.out.step (w2 := w4.drew) ⟨rfl, rfl, rfl, Nat.le_refl _, fun _ _ => rfl⟩)
      have hfbr := HDB.out.n
      have hfne : ¬ fb = w.heap.size := by omega
      have hfne2 : ¬ w.heap.size = fb := by omega
      obtain ⟨gr, o, ha1, hgB, hgl, hcs⟩ : ∃ gr o, a1 = ⟨gr, o, none⟩ ∧ w.heap.size + 2 ≤ gr ∧ True ∧ True := by
        rcases HDB.out.own with h | ⟨gr, o, h1, h2, _, _⟩
        · rw [h] at hl0; simp at hl0
        · injection h1 with h1; exact ⟨gr, o, h1, h2, trivial, trivial⟩
      subst ha1
      have hgne : ¬ gr = w.heap.size := by omega
      have hgne2 : ¬ w.heap.size = gr := by omega
      clear hgl hcs x0 x1 x2
      obtain ⟨x0, x1, x2⟩ := HDB.out.box.cells
      go_region_held3 (fun w' => (w'.cell? ⟨fb, 0, none⟩ = some (.int .i64 wd) ∧ w'.cell? ⟨fb, 1, none⟩ = some (.int .i64 hg) ∧ w'.cell? ⟨fb, 2, none⟩ = some (.slice (some ⟨gr, o, none⟩) L.length c1)) ∧ ∀ j (h : j < L.length), w'.cell? ⟨gr, o + j, none⟩ = some (.int .i64 L[j]))
        (first | exact ⟨HD10.out.box.cells, fun j h => own2_cell HD10.out.own h⟩ | exact ⟨(box_other3 HD10.out.box (show fb ≠ w.heap.size by omega) _ _ _).cells, fun j h => own2_cell (own2_set3 HD10.out.own (show w.heap.size < w.heap.size + 2 by omega) _ _ _) h⟩ | exact ⟨HDB.out.box.cells, fun j h => own2_cell HDB.out.own h⟩ | go_keep)
        (first
          | (go_at_call 61; refine (pick_any _ _ a l c _ L.length (by omega) (by omega) (by omega) HDB.out.cur).mono ?_; rintro e w10 ⟨v, ⟨r, hr, rfl⟩, rfl, hc10, ho10⟩; have HD10 := Lib.hid (HDB.out.turn hc10 ho10.1); obtain ⟨t0, t1, t2⟩ := HD10.out.res.cells; have g0 := HD10.out.res.frozen 0; have g1 := HD10.out.res.frozen 1; have g2 := HD10.out.res.frozen 2; have pp0 : (0 : Int) ≤ (r : Int) := (by omega); have pp1 : (r : Int) < (L.length : Int) := (by omega); clear hc10 ho10))
      all_goals
        rename_i hHeld
        clear hHeld
        go_wp2
        have K1 := own2_box (HD10.out.own.more (Nat.le_succ _)) (show w.heap.size < w.heap.size + 1 by omega) (.int .i64 wd) (.int .i64 hg) (.slice (some ⟨gr, o, none⟩) L.length c1)
        have K3 := below_set3 HD10.out.b (Nat.le_refl w.heap.size) (.int .i64 wd) (.int .i64 hg) (.slice (some ⟨gr, o, none⟩) L.length c1)
        refine bodyPost_ret (v := .tuple #[.agg #[.int .i64 wd, .int .i64 hg, .slice (some ⟨gr, o, none⟩) L.length c1], .int .i64 z, .int .i64 L[r]]) (by simp [results, Try.results25, go_sem, t0, t1, t2]) rfl ⟨wd, hg, L, ⟨gr, o, none⟩, c1, z, L[r], ⟨m1, m2⟩, rfl, K1, K3⟩
    | false =>
      clear x0 x1 x2
      go_wp2_with fail
      have HDA := Lib.hid ((HD4.out.step (below_all _ (.cells #[.int .i64 0, .int .i64 5, .int .i64 (-5), .int .i64 9000, .int .i64 (-9000), .int .i64 9001, .int .i64 (-9001)] 3))).step (w2 := (w4.alloc (.cells #[.int .i64 0, .int .i64 5, .int .i64 (-5), .int .i64 9000, .int .i64 (-9000), .int .i64 9001, .int .i64 (-9001)] 3)).drew) ⟨rfl, rfl, rfl, Nat.le_refl _, fun _ _ => rfl⟩)
      have HDB := Lib.hid (HD4.out.step (w2 := w4.drew) ⟨rfl, rfl, rfl, Nat.le_refl _, fun _ _ => rfl⟩)
      have hfbr := HDB.out.n
      have hcw : w.heap.size + 1 < w4.heap.size := HDB.out.cur.lt
      have hfne : ¬ fb = w.heap.size := by omega
      have hfne2 : ¬ w.heap.size = fb := by omega
      obtain ⟨x0, x1, x2⟩ := HDB.out.box.cells
      go_region_held3 (fun w' => w'.cell? ⟨fb, 0, none⟩ = some (.int .i64 wd) ∧ w'.cell? ⟨fb, 1, none⟩ = some (.int .i64 hg) ∧ w'.cell? ⟨fb, 2, none⟩ = some (.slice (some a1) L.length c1))
        (first | exact HD10.out.box.cells | exact (box_other3 HD10.out.box (show fb ≠ w.heap.size by omega) _ _ _).cells | exact HD9L.out.box.cells | exact HD9.out.box.cells | exact HDA.out.box.cells | exact HDB.out.box.cells | go_keep)
        (first
          | (go_at_call 61; (first | ((with_reducible refine (pick_lit _ _ a l c _ 24 24 rfl (by omega) (by omega) (by omega) HDA.out.cur).mono ?_); rintro e w9 ⟨v, ⟨r, hr, rfl⟩, rfl, hc9, ho9⟩; have HLC := Lib.hid (fun n => lit_cutd [0, 5, -5, 9000, -9000, 9001, -9001] n hcw ho9); have HD9 := Lib.hid (HDA.out.turn hc9 ho9.1); clear hc9 ho9; obtain ⟨d, hd⟩ : ∃ d, r / 11 = d := ⟨_, rfl⟩; have p5 : Int.tdiv (r : Int) 11 = (d : Int) := (by rw [← hd]; exact (Int.ofNat_tdiv r 11).symm); have hd2 : d ≤ 2 := (by omega); have p6 : IntKind.i64.wrap (d : Int) = (d : Int) := (IntWalk.i64_in _ (by omega)); obtain ⟨N, hN⟩ : ∃ N, 5 + d = N := ⟨_, rfl⟩; have p7 : IntKind.i64.wrap (5 + (d : Int)) = (N : Int) := (by rw [IntWalk.i64_in _ (by omega)]; omega); have pp0 : (0 : Int) ≤ (N : Int) := (by omega); have pp1 : (N : Int) ≤ 7 := (by omega); have pN1 : 1 ≤ N := (by omega); have pN6 : N ≤ 7 := (by omega); clear hd hN) | ((with_reducible refine (pick_lit _ _ a l c _ 24 24 rfl (by omega) (by omega) (by omega) HDB.out.cur).mono ?_); rintro e w9 ⟨v, ⟨r, hr, rfl⟩, rfl, hc9, ho9⟩; have HD9 := Lib.hid (HDB.out.turn hc9 ho9.1); have HD9L := Lib.hid (HD9.out.step (below_all _ (.cells #[.int .i64 0, .int .i64 5, .int .i64 (-5), .int .i64 9000, .int .i64 (-9000), .int .i64 9001, .int .i64 (-9001)] 3))); have hcw9 := HD9.out.cur.lt; have HLC : Hid (∀ (n k : Nat) (h : k < (List.take n ([0, 5, -5, 9000, -9000, 9001, -9001] : List Int)).length), (w9.alloc (.cells #[.int .i64 0, .int .i64 5, .int .i64 (-5), .int .i64 9000, .int .i64 (-9000), .int .i64 9001, .int .i64 (-9001)] 3)).cell? ⟨w9.heap.size, k, none⟩ = some (.int .i64 (List.take n ([0, 5, -5, 9000, -9000, 9001, -9001] : List Int))[k])) := Lib.hid (fun n => lit_cutn w9 [0, 5, -5, 9000, -9000, 9001, -9001] n); clear hc9 ho9; obtain ⟨d, hd⟩ : ∃ d, r / 11 = d := ⟨_, rfl⟩; have p5 : Int.tdiv (r : Int) 11 = (d : Int) := (by rw [← hd]; exact (Int.ofNat_tdiv r 11).symm); have hd2 : d ≤ 2 := (by omega); have p6 : IntKind.i64.wrap (d : Int) = (d : Int) := (IntWalk.i64_in _ (by omega)); obtain ⟨N, hN⟩ : ∃ N, 5 + d = N := ⟨_, rfl⟩; have p7 : IntKind.i64.wrap (5 + (d : Int)) = (N : Int) := (by rw [IntWalk.i64_in _ (by omega)]; omega); have pp0 : (0 : Int) ≤ (N : Int) := (by omega); have pp1 : (N : Int) ≤ 7 := (by omega); have pN1 : 1 ≤ N := (by omega); have pN6 : N ≤ 7 := (by omega); clear hd hN)))
          | (go_at_call 62; (first | ((with_reducible refine (among_any w9 _ a l c _ w4.heap.size N ([0, 5, -5, 9000, -9000, 9001, -9001].take N) (by omega) (by rw [List.length_take]; simp only [List.length_cons, List.length_nil]; omega) (by omega) (by omega) HD9.out.cur (by omega) (by have h9 := HLC.out 1 0 (by simp); exact lt_of_cell h9) (HLC.out N) 7).mono ?_); rintro e w10 ⟨v, ⟨y, hz10, rfl⟩, rfl, hc10, ho10⟩; have HD10 := Lib.hid (HD9.out.turn hc10 ho10.1); obtain ⟨t0, t1, t2⟩ := HD10.out.res.cells; have g0 := HD10.out.res.frozen 0; have g1 := HD10.out.res.frozen 1; have g2 := HD10.out.res.frozen 2; clear hc10 ho10) | ((with_reducible refine (among_any _ _ a l c _ w9.heap.size N ([0, 5, -5, 9000, -9000, 9001, -9001].take N) (by omega) (by rw [List.length_take]; simp only [List.length_cons, List.length_nil]; omega) (by omega) (by omega) HD9L.out.cur (by omega) (by simp) (HLC.out N) 7).mono ?_); rintro e w10 ⟨v, ⟨y, hz10, rfl⟩, rfl, hc10, ho10⟩; have HD10 := Lib.hid (HD9L.out.turn hc10 ho10.1); obtain ⟨t0, t1, t2⟩ := HD10.out.res.cells; have g0 := HD10.out.res.frozen 0; have g1 := HD10.out.res.frozen 1; have g2 := HD10.out.res.frozen 2; clear hc10 ho10))))
      all_goals
        rename_i hHeld
        clear hHeld
        go_wp2
        have K1 := own2_box (HD10.out.own.more (Nat.le_succ _)) (show w.heap.size < w.heap.size + 1 by omega) (.int .i64 wd) (.int .i64 hg) (.slice (some a1) L.length c1)
        have K3 := below_set3 HD10.out.b (Nat.le_refl w.heap.size) (.int .i64 wd) (.int .i64 hg) (.slice (some a1) L.length c1)
        refine bodyPost_ret (v := .tuple #[.agg #[.int .i64 wd, .int .i64 hg, .slice (some a1) L.length c1], .int .i64 z, .int .i64 y]) (by simp [results, Try.results25, go_sem, t0, t1, t2]) rfl ⟨wd, hg, L, a1, c1, z, y, ⟨m1, m2⟩, rfl, K1, K3⟩
  · have hl1 : ¬ (0 : Int) < (L.length : Int) := by omega
    go_wp2_with fail
    clear x0 x1 x2
    have HDA := Lib.hid ((HD3.out.step (below_all _ (.cells #[.int .i64 0, .int .i64 5, .int .i64 (-5), .int .i64 9000, .int .i64 (-9000), .int .i64 9001, .int .i64 (-9001)] 3))).step (w2 := (w3.alloc (.cells #[.int .i64 0, .int .i64 5, .int .i64 (-5), .int .i64 9000, .int .i64 (-9000), .int .i64 9001, .int .i64 (-9001)] 3)).drew) ⟨rfl, rfl, rfl, Nat.le_refl _, fun _ _ => rfl⟩)
    have HDB := Lib.hid (HD3.out.step (w2 := w3.drew) ⟨rfl, rfl, rfl, Nat.le_refl _, fun _ _ => rfl⟩)
    have hfbr := HDB.out.n
    have hcw : w.heap.size + 1 < w3.heap.size := HDB.out.cur.lt
    have hfne : ¬ fb = w.heap.size := by omega
    have hfne2 : ¬ w.heap.size = fb := by omega
    obtain ⟨x0, x1, x2⟩ := HDB.out.box.cells
    go_region_held3 (fun w' => w'.cell? ⟨fb, 0, none⟩ = some (.int .i64 wd) ∧ w'.cell? ⟨fb, 1, none⟩ = some (.int .i64 hg) ∧ w'.cell? ⟨fb, 2, none⟩ = some (.slice (some a1) L.length c1))
      (first | exact HD10.out.box.cells | exact (box_other3 HD10.out.box (show fb ≠ w.heap.size by omega) _ _ _).cells | exact HD9L.out.box.cells | exact HD9.out.box.cells | exact HDA.out.box.cells | exact HDB.out.box.cells | go_keep)
      (first
        | (go_at_call 61; (first | ((with_reducible refine (pick_lit _ _ a l c _ 24 24 rfl (by omega) (by omega) (by omega) HDA.out.cur).mono ?_); rintro e w9 ⟨v, ⟨r, hr, rfl⟩, rfl, hc9, ho9⟩; have HLC := Lib.hid (fun n => lit_cutd [0, 5, -5, 9000, -9000, 9001, -9001] n hcw ho9); have HD9 := Lib.hid (HDA.out.turn hc9 ho9.1); clear hc9 ho9; obtain ⟨d, hd⟩ : ∃ d, r / 11 = d := ⟨_, rfl⟩; have p5 : Int.tdiv (r : Int) 11 = (d : Int) := (by rw [← hd]; exact (Int.ofNat_tdiv r 11).symm); have hd2 : d ≤ 2 := (by omega); have p6 : IntKind.i64.wrap (d : Int) = (d : Int) := (IntWalk.i64_in _ (by omega)); obtain ⟨N, hN⟩ : ∃ N, 5 + d = N := ⟨_, rfl⟩; have p7 : IntKind.i64.wrap (5 + (d : Int)) = (N : Int) := (by rw [IntWalk.i64_in _ (by omega)]; omega); have pp0 : (0 : Int) ≤ (N : Int) := (by omega); have pp1 : (N : Int) ≤ 7 := (by omega); have pN1 : 1 ≤ N := (by omega); have pN6 : N ≤ 7 := (by omega); clear hd hN) | ((with_reducible refine (pick_lit _ _ a l c _ 24 24 rfl (by omega) (by omega) (by omega) HDB.out.cur).mono ?_); rintro e w9 ⟨v, ⟨r, hr, rfl⟩, rfl, hc9, ho9⟩; have HD9 := Lib.hid (HDB.out.turn hc9 ho9.1); have HD9L := Lib.hid (HD9.out.step (below_all _ (.cells #[.int .i64 0, .int .i64 5, .int .i64 (-5), .int .i64 9000, .int .i64 (-9000), .int .i64 9001, .int .i64 (-9001)] 3))); have hcw9 := HD9.out.cur.lt; have HLC : Hid (∀ (n k : Nat) (h : k < (List.take n ([0, 5, -5, 9000, -9000, 9001, -9001] : List Int)).length), (w9.alloc (.cells #[.int .i64 0, .int .i64 5, .int .i64 (-5), .int .i64 9000, .int .i64 (-9000), .int .i64 9001, .int .i64 (-9001)] 3)).cell? ⟨w9.heap.size, k, none⟩ = some (.int .i64 (List.take n ([0, 5, -5, 9000, -9000, 9001, -9001] : List Int))[k])) := Lib.hid (fun n => lit_cutn w9 [0, 5, -5, 9000, -9000, 9001, -9001] n); clear hc9 ho9; obtain ⟨d, hd⟩ : ∃ d, r / 11 = d := ⟨_, rfl⟩; have p5 : Int.tdiv (r : Int) 11 = (d : Int) := (by rw [← hd]; exact (Int.ofNat_tdiv r 11).symm); have hd2 : d ≤ 2 := (by omega); have p6 : IntKind.i64.wrap (d : Int) = (d : Int) := (IntWalk.i64_in _ (by omega)); obtain ⟨N, hN⟩ : ∃ N, 5 + d = N := ⟨_, rfl⟩; have p7 : IntKind.i64.wrap (5 + (d : Int)) = (N : Int) := (by rw [IntWalk.i64_in _ (by omega)]; omega); have pp0 : (0 : Int) ≤ (N : Int) := (by omega); have pp1 : (N : Int) ≤ 7 := (by omega); have pN1 : 1 ≤ N := (by omega); have pN6 : N ≤ 7 := (by omega); clear hd hN)))
        | (go_at_call 62; (first | ((with_reducible refine (among_any w9 _ a l c _ w3.heap.size N ([0, 5, -5, 9000, -9000, 9001, -9001].take N) (by omega) (by rw [List.length_take]; simp only [List.length_cons, List.length_nil]; omega) (by omega) (by omega) HD9.out.cur (by omega) (by have h9 := HLC.out 1 0 (by simp); exact lt_of_cell h9) (HLC.out N) 7).mono ?_); rintro e w10 ⟨v, ⟨y, hz10, rfl⟩, rfl, hc10, ho10⟩; have HD10 := Lib.hid (HD9.out.turn hc10 ho10.1); obtain ⟨t0, t1, t2⟩ := HD10.out.res.cells; have g0 := HD10.out.res.frozen 0; have g1 := HD10.out.res.frozen 1; have g2 := HD10.out.res.frozen 2; clear hc10 ho10) | ((with_reducible refine (among_any _ _ a l c _ w9.heap.size N ([0, 5, -5, 9000, -9000, 9001, -9001].take N) (by omega) (by rw [List.length_take]; simp only [List.length_cons, List.length_nil]; omega) (by omega) (by omega) HD9L.out.cur (by omega) (by simp) (HLC.out N) 7).mono ?_); rintro e w10 ⟨v, ⟨y, hz10, rfl⟩, rfl, hc10, ho10⟩; have HD10 := Lib.hid (HD9L.out.turn hc10 ho10.1); obtain ⟨t0, t1, t2⟩ := HD10.out.res.cells; have g0 := HD10.out.res.frozen 0; have g1 := HD10.out.res.frozen 1; have g2 := HD10.out.res.frozen 2; clear hc10 ho10))))
    all_goals
      rename_i hHeld
      clear hHeld
      go_wp2
      have K1 := own2_box (HD10.out.own.more (Nat.le_succ _)) (show w.heap.size < w.heap.size + 1 by omega) (.int .i64 wd) (.int .i64 hg) (.slice (some a1) L.length c1)
      have K3 := below_set3 HD10.out.b (Nat.le_refl w.heap.size) (.int .i64 wd) (.int .i64 hg) (.slice (some a1) L.length c1)
      refine bodyPost_ret (v := .tuple #[.agg #[.int .i64 wd, .int .i64 hg, .slice (some a1) L.length c1], .int .i64 z, .int .i64 y]) (by simp [results, Try.results25, go_sem, t0, t1, t2]) rfl ⟨wd, hg, L, a1, c1, z, y, ⟨m1, m2⟩, rfl, K1, K3⟩
end Go.Proofs.Ytecjkammoakakaa
namespace Go.Proofs.Ytecjkammoakakaa
open Go.RowKit
set_option linter.unusedVariables false
set_option linter.unusedSimpArgs false
/-- the four filters answer alike but for the cells -/
theorem fret_same {F : List Int → Int} {wd hg : Int} {l : List Int} {r : Int} {w : World} {e : Ending} {w' : World} (h : FRet (filtR F wd hg l r) w e w') :
    ∃ a c, e = .returned (.tuple #[.agg #[.int .i64 (rW (filtR hiV wd hg l r)), .int .i64 (rH (filtR hiV wd hg l r)), .slice a (rL (filtR F wd hg l r)).length c], .bool (nbB wd hg l r)]) ∧ OwnI w' w.heap.size a (rL (filtR F wd hg l r)) ∧ Below w.heap.size w w' := by
  obtain ⟨h1, h2, h3, _⟩ := rW_filt F hiV wd hg l r
  unfold FRet at h
  rw [h1, h2, h3] at h
  exact h
set_option maxRecDepth 100000 in
set_option maxHeartbeats 16000000 in
theorem walk_Filters (a : Option Addr) (l : List Int) (c : Nat) (w : World) (hi : Ints .u8 w w.heap.size a l) (hb : ∀ z ∈ l, 0 ≤ z ∧ z ≤ 255) (hlm : l.length ≤ maxLen) :
    Calls Try.prog 3 #[.slice a l.length c] w fun e w' => e = .returned (.bool true) ∧ Below w.heap.size w w' := by
  unfold maxLen at hlm
  by_cases hbig : (65536 : Int) < (l.length : Int)
  · clear hi hb
    go_enter Try.func3, Try.ntmps3
    go_wp2_with (go_at_call 14; go_in)
    go_ret
    exact ⟨rfl, Below.refl _ _⟩
  · have G0 := Lib.hid (show Gc w a l w from ⟨Below.refl _ _, hi⟩)
    have HBY := Lib.hid hb
    have hl : l.length ≤ 65536 := by omega
    clear hi hb hlm
    go_enter Try.func3, Try.ntmps3
    go_wp2_with (first | (go_at_call 14; go_in) | fail)
    go_wp2_with fail
    refine (drawMax_any _ a l c G0.out.2 HBY.out (by omega)).mono ?_
    rintro e w1 ⟨wd, hg, LA, aA, cA, r, ⟨m1, m2⟩, rfl, o1, b1⟩
    have T_F := Fd.new (wd := wd) (hg := hg) (c := cA) (L := LA) (a := (some aA)) o1.ints
    have T_G := (G0.out.step b1).step (below_all w1 (.cells #[.int .i64 wd, .int .i64 hg, .slice (some aA) (LA : List Int).length cA] 26))
    obtain ⟨f1, hf1⟩ : ∃ q, w1.heap.size = q := ⟨_, rfl⟩
    obtain ⟨W1, hW1⟩ : ∃ W, w1.alloc (.cells #[.int .i64 wd, .int .i64 hg, .slice (some aA) (LA : List Int).length cA] 26) = W := ⟨_, rfl⟩
    rw [hW1] at T_G T_F
    rw [hf1] at T_F
    have G1 := Lib.hid T_G
    have F1 := Lib.hid T_F
    clear o1 b1 T_G T_F G0
    have nA : LA.length ≤ 1048576 := by omega
    have HIMax := Lib.hid (fun W h => (implMax_any wd hg (some aA) LA cA r W h nA m2).mono fun _ _ h => fret_same h)
    have HSMax := Lib.hid (fun W h => (specMax_any wd hg (some aA) LA cA r W h nA).mono fun _ _ h => fret_same h)
    have hlenMax := filtR_len hiV wd hg LA r
    have HIMin := Lib.hid (fun W h => (implMin_any wd hg (some aA) LA cA r W h nA m2).mono fun _ _ h => fret_same h)
    have HSMin := Lib.hid (fun W h => (specMin_any wd hg (some aA) LA cA r W h nA).mono fun _ _ h => fret_same h)
    have hlenMin := filtR_len loV wd hg LA r
    have HIMean := Lib.hid (fun W h => (implMean_any wd hg (some aA) LA cA r W h nA m2).mono fun _ _ h => fret_same h)
    have HSMean := Lib.hid (fun W h => (specMean_any wd hg (some aA) LA cA r W h nA).mono fun _ _ h => fret_same h)
    have hlenMean := filtR_len meanF wd hg LA r
    have HIMed := Lib.hid (fun W h => (implMed_any wd hg (some aA) LA cA r W h nA m2).mono fun _ _ h => fret_same h)
    have HSMed := Lib.hid (fun W h => (specMed_any wd hg (some aA) LA cA r W h nA).mono fun _ _ h => fret_same h)
    have hlenMed := filtR_len medF wd hg LA r
    have KEY := Lib.hid (fun h k hk => filt_order (wd := wd) (hg := hg) (l := LA) (r := r) h k hk)
    generalize rL (filtR hiV wd hg LA r) = LHx at *
    generalize rL (filtR loV wd hg LA r) = LLx at *
    generalize rL (filtR meanF wd hg LA r) = LMx at *
    generalize rL (filtR medF wd hg LA r) = LDx at *
    generalize rW (filtR hiV wd hg LA r) = p at *
    generalize rH (filtR hiV wd hg LA r) = q at *
    generalize nbB wd hg LA r = ok at *
    obtain ⟨F0_, F1_, F2_⟩ := F1.out.k.cells
    go_wp2_with fail
    refine (HIMax.out _ F1.out.i).mono ?_
    rintro e w2 ⟨a2, c2, rfl, o2, b2⟩
    have T_H := Fd.new (wd := p) (hg := q) (c := c2) (L := LHx) (a := a2) o2.ints
    have T_G := (G1.out.step b2).step (below_all w2 (.cells #[.int .i64 p, .int .i64 q, .slice a2 (LHx : List Int).length c2] 26))
    have T_F := (F1.out.step b2).step (below_all w2 (.cells #[.int .i64 p, .int .i64 q, .slice a2 (LHx : List Int).length c2] 26))
    obtain ⟨f2, hf2⟩ : ∃ q, w2.heap.size = q := ⟨_, rfl⟩
    obtain ⟨W2, hW2⟩ : ∃ W, w2.alloc (.cells #[.int .i64 p, .int .i64 q, .slice a2 (LHx : List Int).length c2] 26) = W := ⟨_, rfl⟩
    rw [hW2] at T_G T_F T_H
    rw [hf2] at T_H
    have G2 := Lib.hid T_G
    have F2 := Lib.hid T_F
    have H2 := Lib.hid T_H
    clear o2 b2 T_G T_F T_H G1 F1
    clear F0_ F1_ F2_
    clear hf1 hW1
    obtain ⟨F0_, F1_, F2_⟩ := F2.out.k.cells
    go_wp2_with fail
    refine (HIMin.out _ F2.out.i).mono ?_
    rintro e w3 ⟨a3, c3, rfl, o3, b3⟩
    have T_L := Fd.new (wd := p) (hg := q) (c := c3) (L := LLx) (a := a3) o3.ints
    have T_G := (G2.out.step b3).step (below_all w3 (.cells #[.int .i64 p, .int .i64 q, .slice a3 (LLx : List Int).length c3] 26))
    have T_F := (F2.out.step b3).step (below_all w3 (.cells #[.int .i64 p, .int .i64 q, .slice a3 (LLx : List Int).length c3] 26))
    have T_H := (H2.out.step b3).step (below_all w3 (.cells #[.int .i64 p, .int .i64 q, .slice a3 (LLx : List Int).length c3] 26))
    obtain ⟨f3, hf3⟩ : ∃ q, w3.heap.size = q := ⟨_, rfl⟩
    obtain ⟨W3, hW3⟩ : ∃ W, w3.alloc (.cells #[.int .i64 p, .int .i64 q, .slice a3 (LLx : List Int).length c3] 26) = W := ⟨_, rfl⟩
    rw [hW3] at T_G T_F T_H T_L
    rw [hf3] at T_L
    have G3 := Lib.hid T_G
    have F3 := Lib.hid T_F
    have H3 := Lib.hid T_H
    have L3 := Lib.hid T_L
    clear o3 b3 T_G T_F T_H T_L G2 F2 H2
    clear F0_ F1_ F2_
    clear hf2 hW2
    obtain ⟨F0_, F1_, F2_⟩ := F3.out.k.cells
    go_wp2_with fail
    refine (HIMean.out _ F3.out.i).mono ?_
    rintro e w4 ⟨a4, c4, rfl, o4, b4⟩
    have T_M := Fd.new (wd := p) (hg := q) (c := c4) (L := LMx) (a := a4) o4.ints
    have T_G := (G3.out.step b4).step (below_all w4 (.cells #[.int .i64 p, .int .i64 q, .slice a4 (LMx : List Int).length c4] 26))
    have T_F := (F3.out.step b4).step (below_all w4 (.cells #[.int .i64 p, .int .i64 q, .slice a4 (LMx : List Int).length c4] 26))
    have T_H := (H3.out.step b4).step (below_all w4 (.cells #[.int .i64 p, .int .i64 q, .slice a4 (LMx : List Int).length c4] 26))
    have T_L := (L3.out.step b4).step (below_all w4 (.cells #[.int .i64 p, .int .i64 q, .slice a4 (LMx : List Int).length c4] 26))
    obtain ⟨f4, hf4⟩ : ∃ q, w4.heap.size = q := ⟨_, rfl⟩
    obtain ⟨W4, hW4⟩ : ∃ W, w4.alloc (.cells #[.int .i64 p, .int .i64 q, .slice a4 (LMx : List Int).length c4] 26) = W := ⟨_, rfl⟩
    rw [hW4] at T_G T_F T_H T_L T_M
    rw [hf4] at T_M
    have G4 := Lib.hid T_G
    have F4 := Lib.hid T_F
    have H4 := Lib.hid T_H
    have L4 := Lib.hid T_L
    have M4 := Lib.hid T_M
    clear o4 b4 T_G T_F T_H T_L T_M G3 F3 H3 L3
    clear F0_ F1_ F2_
    clear hf3 hW3
    obtain ⟨F0_, F1_, F2_⟩ := F4.out.k.cells
    go_wp2_with fail
    refine (HIMed.out _ F4.out.i).mono ?_
    rintro e w5 ⟨a5, c5, rfl, o5, b5⟩
    have T_D := Fd.new (wd := p) (hg := q) (c := c5) (L := LDx) (a := a5) o5.ints
    have T_G := (G4.out.step b5).step (below_all w5 (.cells #[.int .i64 p, .int .i64 q, .slice a5 (LDx : List Int).length c5] 26))
    have T_F := (F4.out.step b5).step (below_all w5 (.cells #[.int .i64 p, .int .i64 q, .slice a5 (LDx : List Int).length c5] 26))
    have T_H := (H4.out.step b5).step (below_all w5 (.cells #[.int .i64 p, .int .i64 q, .slice a5 (LDx : List Int).length c5] 26))
    have T_L := (L4.out.step b5).step (below_all w5 (.cells #[.int .i64 p, .int .i64 q, .slice a5 (LDx : List Int).length c5] 26))
    have T_M := (M4.out.step b5).step (below_all w5 (.cells #[.int .i64 p, .int .i64 q, .slice a5 (LDx : List Int).length c5] 26))
    obtain ⟨f5, hf5⟩ : ∃ q, w5.heap.size = q := ⟨_, rfl⟩
    obtain ⟨W5, hW5⟩ : ∃ W, w5.alloc (.cells #[.int .i64 p, .int .i64 q, .slice a5 (LDx : List Int).length c5] 26) = W := ⟨_, rfl⟩
    rw [hW5] at T_G T_F T_H T_L T_M T_D
    rw [hf5] at T_D
    have G5 := Lib.hid T_G
    have F5 := Lib.hid T_F
    have H5 := Lib.hid T_H
    have L5 := Lib.hid T_L
    have M5 := Lib.hid T_M
    have D5 := Lib.hid T_D
    clear o5 b5 T_G T_F T_H T_L T_M T_D G4 F4 H4 L4 M4
    clear F0_ F1_ F2_
    clear hf4 hW4
    obtain ⟨F0_, F1_, F2_⟩ := F5.out.k.cells
    go_wp2_with fail
    refine (HSMax.out _ F5.out.i).mono ?_
    rintro e w6 ⟨a6, c6, rfl, o6, b6⟩
    have T_V := Fd.new (wd := p) (hg := q) (c := c6) (L := LHx) (a := a6) o6.ints
    have T_G := (G5.out.step b6).step (below_all w6 (.cells #[.int .i64 p, .int .i64 q, .slice a6 (LHx : List Int).length c6] 26))
    have T_F := (F5.out.step b6).step (below_all w6 (.cells #[.int .i64 p, .int .i64 q, .slice a6 (LHx : List Int).length c6] 26))
    have T_H := (H5.out.step b6).step (below_all w6 (.cells #[.int .i64 p, .int .i64 q, .slice a6 (LHx : List Int).length c6] 26))
    have T_L := (L5.out.step b6).step (below_all w6 (.cells #[.int .i64 p, .int .i64 q, .slice a6 (LHx : List Int).length c6] 26))
    have T_M := (M5.out.step b6).step (below_all w6 (.cells #[.int .i64 p, .int .i64 q, .slice a6 (LHx : List Int).length c6] 26))
    have T_D := (D5.out.step b6).step (below_all w6 (.cells #[.int .i64 p, .int .i64 q, .slice a6 (LHx : List Int).length c6] 26))
    obtain ⟨f6, hf6⟩ : ∃ q, w6.heap.size = q := ⟨_, rfl⟩
    obtain ⟨W6, hW6⟩ : ∃ W, w6.alloc (.cells #[.int .i64 p, .int .i64 q, .slice a6 (LHx : List Int).length c6] 26) = W := ⟨_, rfl⟩
    rw [hW6] at T_G T_F T_H T_L T_M T_D T_V
    rw [hf6] at T_V
    have G6 := Lib.hid T_G
    have F6 := Lib.hid T_F
    have H6 := Lib.hid T_H
    have L6 := Lib.hid T_L
    have M6 := Lib.hid T_M
    have D6 := Lib.hid T_D
    have V6 := Lib.hid T_V
    clear o6 b6 T_G T_F T_H T_L T_M T_D T_V G5 F5 H5 L5 M5 D5
    clear F0_ F1_ F2_
    clear hf5 hW5
    obtain ⟨H0_, H1_, H2_⟩ := H6.out.k.cells
    obtain ⟨V0_, V1_, V2_⟩ := V6.out.k.cells
    go_wp2_with fail
    refine (rField_yes p q _ _ LHx _ _ _ H6.out.i V6.out.i (by omega)).mono ?_
    rintro e w7 ⟨rfl, b7⟩
    have G7 := Lib.hid (G6.out.step b7)
    have F7 := Lib.hid (F6.out.step b7)
    have H7 := Lib.hid (H6.out.step b7)
    have L7 := Lib.hid (L6.out.step b7)
    have M7 := Lib.hid (M6.out.step b7)
    have D7 := Lib.hid (D6.out.step b7)
    have V7 := Lib.hid (V6.out.step b7)
    clear b7 G6 F6 H6 L6 M6 D6 V6
    clear H0_ H1_ H2_ V0_ V1_ V2_
    clear hf6 hW6
    clear V7
    obtain ⟨F0_, F1_, F2_⟩ := F7.out.k.cells
    go_wp2_with fail
    refine (HSMin.out _ F7.out.i).mono ?_
    rintro e w8 ⟨a8, c8, rfl, o8, b8⟩
    have T_X := Fd.new (wd := p) (hg := q) (c := c8) (L := LLx) (a := a8) o8.ints
    have T_G := (G7.out.step b8).step (below_all w8 (.cells #[.int .i64 p, .int .i64 q, .slice a8 (LLx : List Int).length c8] 26))
    have T_F := (F7.out.step b8).step (below_all w8 (.cells #[.int .i64 p, .int .i64 q, .slice a8 (LLx : List Int).length c8] 26))
    have T_H := (H7.out.step b8).step (below_all w8 (.cells #[.int .i64 p, .int .i64 q, .slice a8 (LLx : List Int).length c8] 26))
    have T_L := (L7.out.step b8).step (below_all w8 (.cells #[.int .i64 p, .int .i64 q, .slice a8 (LLx : List Int).length c8] 26))
    have T_M := (M7.out.step b8).step (below_all w8 (.cells #[.int .i64 p, .int .i64 q, .slice a8 (LLx : List Int).length c8] 26))
    have T_D := (D7.out.step b8).step (below_all w8 (.cells #[.int .i64 p, .int .i64 q, .slice a8 (LLx : List Int).length c8] 26))
    obtain ⟨f8, hf8⟩ : ∃ q, w8.heap.size = q := ⟨_, rfl⟩
    obtain ⟨W8, hW8⟩ : ∃ W, w8.alloc (.cells #[.int .i64 p, .int .i64 q, .slice a8 (LLx : List Int).length c8] 26) = W := ⟨_, rfl⟩
    rw [hW8] at T_G T_F T_H T_L T_M T_D T_X
    rw [hf8] at T_X
    have G8 := Lib.hid T_G
    have F8 := Lib.hid T_F
    have H8 := Lib.hid T_H
    have L8 := Lib.hid T_L
    have M8 := Lib.hid T_M
    have D8 := Lib.hid T_D
    have X8 := Lib.hid T_X
    clear o8 b8 T_G T_F T_H T_L T_M T_D T_X G7 F7 H7 L7 M7 D7
    clear F0_ F1_ F2_
    obtain ⟨F0_, F1_, F2_⟩ := F8.out.k.cells
    go_wp2_with fail
    refine (HSMean.out _ F8.out.i).mono ?_
    rintro e w9 ⟨a9, c9, rfl, o9, b9⟩
    have T_Y := Fd.new (wd := p) (hg := q) (c := c9) (L := LMx) (a := a9) o9.ints
    have T_G := (G8.out.step b9).step (below_all w9 (.cells #[.int .i64 p, .int .i64 q, .slice a9 (LMx : List Int).length c9] 26))
    have T_F := (F8.out.step b9).step (below_all w9 (.cells #[.int .i64 p, .int .i64 q, .slice a9 (LMx : List Int).length c9] 26))
    have T_H := (H8.out.step b9).step (below_all w9 (.cells #[.int .i64 p, .int .i64 q, .slice a9 (LMx : List Int).length c9] 26))
    have T_L := (L8.out.step b9).step (below_all w9 (.cells #[.int .i64 p, .int .i64 q, .slice a9 (LMx : List Int).length c9] 26))
    have T_M := (M8.out.step b9).step (below_all w9 (.cells #[.int .i64 p, .int .i64 q, .slice a9 (LMx : List Int).length c9] 26))
    have T_D := (D8.out.step b9).step (below_all w9 (.cells #[.int .i64 p, .int .i64 q, .slice a9 (LMx : List Int).length c9] 26))
    have T_X := (X8.out.step b9).step (below_all w9 (.cells #[.int .i64 p, .int .i64 q, .slice a9 (LMx : List Int).length c9] 26))
    obtain ⟨f9, hf9⟩ : ∃ q, w9.heap.size = q := ⟨_, rfl⟩
    obtain ⟨W9, hW9⟩ : ∃ W, w9.alloc (.cells #[.int .i64 p, .int .i64 q, .slice a9 (LMx : List Int).length c9] 26) = W := ⟨_, rfl⟩
    rw [hW9] at T_G T_F T_H T_L T_M T_D T_X T_Y
    rw [hf9] at T_Y
    have G9 := Lib.hid T_G
    have F9 := Lib.hid T_F
    have H9 := Lib.hid T_H
    have L9 := Lib.hid T_L
    have M9 := Lib.hid T_M
    have D9 := Lib.hid T_D
    have X9 := Lib.hid T_X
    have Y9 := Lib.hid T_Y
    clear o9 b9 T_G T_F T_H T_L T_M T_D T_X T_Y G8 F8 H8 L8 M8 D8 X8
    clear F0_ F1_ F2_
    clear hf8 hW8
    obtain ⟨F0_, F1_, F2_⟩ := F9.out.k.cells
    go_wp2_with fail
    refine (HSMed.out _ F9.out.i).mono ?_
    rintro e w10 ⟨a10, c10, rfl, o10, b10⟩
    have T_Z := Fd.new (wd := p) (hg := q) (c := c10) (L := LDx) (a := a10) o10.ints
    have T_G := (G9.out.step b10).step (below_all w10 (.cells #[.int .i64 p, .int .i64 q, .slice a10 (LDx : List Int).length c10] 26))
    have T_F := (F9.out.step b10).step (below_all w10 (.cells #[.int .i64 p, .int .i64 q, .slice a10 (LDx : List Int).length c10] 26))
    have T_H := (H9.out.step b10).step (below_all w10 (.cells #[.int .i64 p, .int .i64 q, .slice a10 (LDx : List Int).length c10] 26))
    have T_L := (L9.out.step b10).step (below_all w10 (.cells #[.int .i64 p, .int .i64 q, .slice a10 (LDx : List Int).length c10] 26))
    have T_M := (M9.out.step b10).step (below_all w10 (.cells #[.int .i64 p, .int .i64 q, .slice a10 (LDx : List Int).length c10] 26))
    have T_D := (D9.out.step b10).step (below_all w10 (.cells #[.int .i64 p, .int .i64 q, .slice a10 (LDx : List Int).length c10] 26))
    have T_X := (X9.out.step b10).step (below_all w10 (.cells #[.int .i64 p, .int .i64 q, .slice a10 (LDx : List Int).length c10] 26))
    have T_Y := (Y9.out.step b10).step (below_all w10 (.cells #[.int .i64 p, .int .i64 q, .slice a10 (LDx : List Int).length c10] 26))
    obtain ⟨f10, hf10⟩ : ∃ q, w10.heap.size = q := ⟨_, rfl⟩
    obtain ⟨W10, hW10⟩ : ∃ W, w10.alloc (.cells #[.int .i64 p, .int .i64 q, .slice a10 (LDx : List Int).length c10] 26) = W := ⟨_, rfl⟩
    rw [hW10] at T_G T_F T_H T_L T_M T_D T_X T_Y T_Z
    rw [hf10] at T_Z
    have G10 := Lib.hid T_G
    have F10 := Lib.hid T_F
    have H10 := Lib.hid T_H
    have L10 := Lib.hid T_L
    have M10 := Lib.hid T_M
    have D10 := Lib.hid T_D
    have X10 := Lib.hid T_X
    have Y10 := Lib.hid T_Y
    have Z10 := Lib.hid T_Z
    clear o10 b10 T_G T_F T_H T_L T_M T_D T_X T_Y T_Z G9 F9 H9 L9 M9 D9 X9 Y9
    clear F0_ F1_ F2_
    clear hf9 hW9
    obtain ⟨L0_, L1_, L2_⟩ := L10.out.k.cells
    obtain ⟨X0_, X1_, X2_⟩ := X10.out.k.cells
    go_wp2_with fail
    refine (rField_yes p q _ _ LLx _ _ _ L10.out.i X10.out.i (by omega)).mono ?_
    rintro e w11 ⟨rfl, b11⟩
    have G11 := Lib.hid (G10.out.step b11)
    have F11 := Lib.hid (F10.out.step b11)
    have H11 := Lib.hid (H10.out.step b11)
    have L11 := Lib.hid (L10.out.step b11)
    have M11 := Lib.hid (M10.out.step b11)
    have D11 := Lib.hid (D10.out.step b11)
    have X11 := Lib.hid (X10.out.step b11)
    have Y11 := Lib.hid (Y10.out.step b11)
    have Z11 := Lib.hid (Z10.out.step b11)
    clear b11 G10 F10 H10 L10 M10 D10 X10 Y10 Z10
    clear L0_ L1_ L2_ X0_ X1_ X2_
    clear hf10 hW10
    obtain ⟨M0_, M1_, M2_⟩ := M11.out.k.cells
    obtain ⟨Y0_, Y1_, Y2_⟩ := Y11.out.k.cells
    go_wp2_with fail
    refine (rField_yes p q _ _ LMx _ _ _ M11.out.i Y11.out.i (by omega)).mono ?_
    rintro e w12 ⟨rfl, b12⟩
    have G12 := Lib.hid (G11.out.step b12)
    have F12 := Lib.hid (F11.out.step b12)
    have H12 := Lib.hid (H11.out.step b12)
    have L12 := Lib.hid (L11.out.step b12)
    have M12 := Lib.hid (M11.out.step b12)
    have D12 := Lib.hid (D11.out.step b12)
    have X12 := Lib.hid (X11.out.step b12)
    have Y12 := Lib.hid (Y11.out.step b12)
    have Z12 := Lib.hid (Z11.out.step b12)
    clear b12 G11 F11 H11 L11 M11 D11 X11 Y11 Z11
    clear M0_ M1_ M2_ Y0_ Y1_ Y2_
    obtain ⟨D0_, D1_, D2_⟩ := D12.out.k.cells
    obtain ⟨Z0_, Z1_, Z2_⟩ := Z12.out.k.cells
    go_wp2_with fail
    refine (rField_yes p q _ _ LDx _ _ _ D12.out.i Z12.out.i (by omega)).mono ?_
    rintro e w13 ⟨rfl, b13⟩
    have G13 := Lib.hid (G12.out.step b13)
    have F13 := Lib.hid (F12.out.step b13)
    have H13 := Lib.hid (H12.out.step b13)
    have L13 := Lib.hid (L12.out.step b13)
    have M13 := Lib.hid (M12.out.step b13)
    have D13 := Lib.hid (D12.out.step b13)
    have X13 := Lib.hid (X12.out.step b13)
    have Y13 := Lib.hid (Y12.out.step b13)
    have Z13 := Lib.hid (Z12.out.step b13)
    clear b13 G12 F12 H12 L12 M12 D12 X12 Y12 Z12
    clear D0_ D1_ D2_ Z0_ Z1_ Z2_
    clear X13 Y13 Z13
    clear HIMax HIMin HIMean HIMed HSMax HSMin HSMean HSMed
    go_upto_block 0 with fail
    go_cut [] (fun wx => Gc w a l wx)
    case first =>
      as_aux_lemma =>
        --[1
        obtain ⟨F0_, F1_, F2_⟩ := F13.out.k.cells
        obtain ⟨H0_, H1_, H2_⟩ := H13.out.k.cells
        obtain ⟨L0_, L1_, L2_⟩ := L13.out.k.cells
        obtain ⟨M0_, M1_, M2_⟩ := M13.out.k.cells
        obtain ⟨D0_, D1_, D2_⟩ := D13.out.k.cells
        go_wp2_with fail
        go_loopw [21] (fun i wr => ∃ k : Nat, k ≤ LA.length ∧ i = .int .i64 k ∧ Drew w13 wr) (fun i _ => LA.length - (intOf i).toNat)
        case atStart => exact ⟨0, Nat.zero_le _, rfl, Drew.refl _⟩
        case round =>
          obtain ⟨k, hk, rfl, hw⟩ := hrel
          have HW := Lib.hid hw
          have ff2 := (hw.cell ⟨f1, 2, none⟩).trans F2_
          have hh2 := (hw.cell ⟨f2, 2, none⟩).trans H2_
          have ll2 := (hw.cell ⟨f3, 2, none⟩).trans L2_
          have mm2 := (hw.cell ⟨f4, 2, none⟩).trans M2_
          have dd2 := (hw.cell ⟨f5, 2, none⟩).trans D2_
          have GE := Lib.hid (G13.out.step (hw.below _))
          clear hw F0_ F1_ F2_ H0_ H1_ H2_ L0_ L1_ L2_ M0_ M1_ M2_ D0_ D1_ D2_
          by_cases hlt : k < LA.length
          · have hi1 : (k : Int) < (LA.length : Int) := by omega
            cases ok with
            | false =>
              clear hh2 ll2 mm2 dd2
              go_wp2_with fail
              go_meet
              exact GE.out
            | true =>
              obtain ⟨h1, h2, h3, h4, o1, o2, o3, o4, o5⟩ := KEY.out rfl k hlt
              obtain ⟨bf, of, ef, _, cf⟩ := (F13.out.i.drew HW.out).at_ hlt
              obtain ⟨bh, oh, eh, _, ch⟩ := (H13.out.i.drew HW.out).at_ h1
              obtain ⟨bl, ol, el, _, cl⟩ := (L13.out.i.drew HW.out).at_ h2
              obtain ⟨bm, om, em, _, cm⟩ := (M13.out.i.drew HW.out).at_ h3
              obtain ⟨bd, od, ed, _, cd⟩ := (D13.out.i.drew HW.out).at_ h4
              injection ef with ef
              subst ef eh el em ed
              have hi2 : (k : Int) < (LHx.length : Int) := by omega
              have hi3 : (k : Int) < (LLx.length : Int) := by omega
              have hi4 : (k : Int) < (LMx.length : Int) := by omega
              have hi5 : (k : Int) < (LDx.length : Int) := by omega
              have hi0 : (0 : Int) ≤ (k : Int) := by omega
              generalize LA[k] = zf at *
              generalize LHx[k] = zh at *
              generalize LLx[k] = zl at *
              generalize LMx[k] = zm at *
              generalize LDx[k] = zd at *
              have n1 : ¬ zd < zl := by omega
              have n2 : ¬ zh < zd := by omega
              have n3 : ¬ zm < zl := by omega
              have n4 : ¬ zh < zm := by omega
              clear o1 o2 o3 o4 h1 h2 h3 h4
              go_wp2_with fail
              go_quiet (fail)
              go_wp2_with fail
              clear n1 n2 n3 n4
              by_cases hz : zf = -9999
              · have e1 : (zf != -9999) = false := by simp [hz]
                clear o5 hz
                go_quiet (fail)
                go_wp2_with fail
                go_roundw
                case rel => exact ⟨k + 1, by omega, by go_num, HW.out.more _⟩
                case measure => simp [intOf]; omega
              · have e1 : (zf != -9999) = true := by simp [hz]
                have n5 : ¬ zh < zf := by have := (o5 hz).2; omega
                have n6 : ¬ zf < zl := by have := (o5 hz).1; omega
                clear o5 hz
                go_quiet (fail)
                go_wp2_with fail
                go_roundw
                case rel => exact ⟨k + 1, by omega, by go_num, HW.out.more _⟩
                case measure => simp [intOf]; omega
          · obtain rfl : k = LA.length := by omega
            clear hh2 ll2 mm2 dd2
            go_wp2_with fail
            go_meet
            exact GE.out
        --]1
    case rest =>
    have G30 := Lib.hid hcut
    clear hcut KEY G13 F13 H13 L13 M13 D13
    go_wp2_with fail
    refine (drawCov_any _ a l c G30.out.2 HBY.out (by omega)).mono ?_
    rintro e w31 ⟨wd2, hg2, LB, aB, cB, r2, t2, ⟨m3, m4⟩, rfl, o31, b31⟩
    have T_B := Fd.new (wd := wd2) (hg := hg2) (c := cB) (L := LB) (a := (some aB)) o31.ints
    have T_G := (G30.out.step b31).step (below_all w31 (.cells #[.int .i64 wd2, .int .i64 hg2, .slice (some aB) (LB : List Int).length cB] 26))
    obtain ⟨f31, hf31⟩ : ∃ q, w31.heap.size = q := ⟨_, rfl⟩
    obtain ⟨W31, hW31⟩ : ∃ W, w31.alloc (.cells #[.int .i64 wd2, .int .i64 hg2, .slice (some aB) (LB : List Int).length cB] 26) = W := ⟨_, rfl⟩
    rw [hW31] at T_G T_B
    rw [hf31] at T_B
    have G31 := Lib.hid T_G
    have B31 := Lib.hid T_B
    clear o31 b31 T_G T_B G30
    have nB : LB.length ≤ 1048576 := by omega
    have HIC := Lib.hid (fun W h => implCov_any wd2 hg2 (some aB) LB cB r2 t2 W h nB m4)
    have HSC := Lib.hid (fun W h => specCov_any wd2 hg2 (some aB) LB cB r2 t2 W h nB)
    have hlenC := covR_len wd2 hg2 LB r2 t2
    unfold FRet at HIC HSC
    generalize rB (covR wd2 hg2 LB r2 t2) = okc at *
    generalize rW (covR wd2 hg2 LB r2 t2) = pc at *
    generalize rH (covR wd2 hg2 LB r2 t2) = qc at *
    generalize rL (covR wd2 hg2 LB r2 t2) = LC at *
    obtain ⟨B0_, B1_, B2_⟩ := B31.out.k.cells
    go_wp2_with fail
    refine (HIC.out _ B31.out.i).mono ?_
    rintro e w32 ⟨a32, c32, rfl, o32, b32⟩
    have T_C := Fd.new (wd := pc) (hg := qc) (c := c32) (L := LC) (a := a32) o32.ints
    have T_G := (G31.out.step b32).step (below_all w32 (.cells #[.int .i64 pc, .int .i64 qc, .slice a32 (LC : List Int).length c32] 26))
    have T_B := (B31.out.step b32).step (below_all w32 (.cells #[.int .i64 pc, .int .i64 qc, .slice a32 (LC : List Int).length c32] 26))
    obtain ⟨f32, hf32⟩ : ∃ q, w32.heap.size = q := ⟨_, rfl⟩
    obtain ⟨W32, hW32⟩ : ∃ W, w32.alloc (.cells #[.int .i64 pc, .int .i64 qc, .slice a32 (LC : List Int).length c32] 26) = W := ⟨_, rfl⟩
    rw [hW32] at T_G T_B T_C
    rw [hf32] at T_C
    have G32 := Lib.hid T_G
    have B32 := Lib.hid T_B
    have C32 := Lib.hid T_C
    clear o32 b32 T_G T_B T_C G31 B31
    clear B0_ B1_ B2_
    clear hf31 hW31
    obtain ⟨B0_, B1_, B2_⟩ := B32.out.k.cells
    go_wp2_with fail
    refine (HSC.out _ B32.out.i).mono ?_
    rintro e w33 ⟨a33, c33, rfl, o33, b33⟩
    have T_V := Fd.new (wd := pc) (hg := qc) (c := c33) (L := LC) (a := a33) o33.ints
    have T_G := (G32.out.step b33).step (below_all w33 (.cells #[.int .i64 pc, .int .i64 qc, .slice a33 (LC : List Int).length c33] 26))
    have T_B := (B32.out.step b33).step (below_all w33 (.cells #[.int .i64 pc, .int .i64 qc, .slice a33 (LC : List Int).length c33] 26))
    have T_C := (C32.out.step b33).step (below_all w33 (.cells #[.int .i64 pc, .int .i64 qc, .slice a33 (LC : List Int).length c33] 26))
    obtain ⟨f33, hf33⟩ : ∃ q, w33.heap.size = q := ⟨_, rfl⟩
    obtain ⟨W33, hW33⟩ : ∃ W, w33.alloc (.cells #[.int .i64 pc, .int .i64 qc, .slice a33 (LC : List Int).length c33] 26) = W := ⟨_, rfl⟩
    rw [hW33] at T_G T_B T_C T_V
    rw [hf33] at T_V
    have G33 := Lib.hid T_G
    have B33 := Lib.hid T_B
    have C33 := Lib.hid T_C
    have V33 := Lib.hid T_V
    clear o33 b33 T_G T_B T_C T_V G32 B32 C32
    clear B0_ B1_ B2_
    clear hf32 hW32
    obtain ⟨C0_, C1_, C2_⟩ := C33.out.k.cells
    obtain ⟨V0_, V1_, V2_⟩ := V33.out.k.cells
    go_wp2_with fail
    refine (rField_yes pc qc _ _ LC _ _ _ C33.out.i V33.out.i (by omega)).mono ?_
    rintro e w34 ⟨rfl, b34⟩
    have G34 := Lib.hid (G33.out.step b34)
    have B34 := Lib.hid (B33.out.step b34)
    have C34 := Lib.hid (C33.out.step b34)
    have V34 := Lib.hid (V33.out.step b34)
    clear b34 G33 B33 C33 V33
    clear C0_ C1_ C2_ V0_ V1_ V2_
    clear hf33 hW33
    go_wp2_with fail
    go_ret
    exact ⟨rfl, G34.out.1⟩
end Go.Proofs.Ytecjkammoakakaa
