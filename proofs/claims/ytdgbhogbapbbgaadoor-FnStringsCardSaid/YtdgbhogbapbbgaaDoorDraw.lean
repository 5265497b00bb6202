/- DrawParseInt and DrawAppendChecksum give some text; any1 gives one of nine. -/
import Derived.Test.YtdgbhogbapbbgaaDoorAmong
import Derived.Test.YtdgbhogbapbbgaaDoorFormat
import Derived.Lib.SlBytesRow
import Derived.Deep.OwnRows
namespace Go.Proofs.YtdgbhogbapbbgaaDoor
open Go.RowKit
set_option linter.unusedVariables false
def parseTexts : List ByteArray := [⟨#[]⟩, ⟨#[45]⟩, ⟨#[45, 48]⟩, ⟨#[48, 48]⟩, ⟨#[48, 49]⟩, ⟨#[45, 45, 49]⟩, ⟨#[49, 120]⟩, ⟨#[57, 57, 57, 57, 57, 57]⟩, ⟨#[49, 48, 48, 48, 48, 48, 48]⟩, ⟨#[45, 57, 57, 57, 57, 57, 57]⟩, ⟨#[49, 56, 52, 52, 54, 55, 52, 52, 48, 55, 51, 55, 48, 57, 53, 53, 49, 54, 49, 55]⟩]
def anyTexts : List ByteArray := [⟨#[]⟩, ⟨#[97]⟩, ⟨#[97, 44, 98]⟩, ⟨#[115, 111, 109, 101, 32, 119, 111, 114, 100, 115]⟩, ⟨#[120, 35, 121]⟩, ⟨#[45, 49, 50]⟩, ⟨#[0, 255]⟩, ⟨#[44, 44]⟩, ⟨#[48]⟩]
theorem parseTexts_size : ∀ s ∈ parseTexts, s.size ≤ 4000 := by
  have h : parseTexts.all (fun s => decide (s.size ≤ 4000)) = true := by decide
  intro s hs
  simpa using List.all_eq_true.1 h s hs
theorem anyTexts_size : ∀ s ∈ anyTexts, s.size ≤ 4000 := by
  have h : anyTexts.all (fun s => decide (s.size ≤ 4000)) = true := by decide
  intro s hs
  simpa using List.all_eq_true.1 h s hs
/-- some text of at most 4000 bytes -/
def SomeText (w : World) (e : Ending) (w' : World) : Prop := ∃ s : ByteArray, s.size ≤ 4000 ∧ e = .returned (.string s) ∧ Below w.heap.size w w'

set_option maxHeartbeats 1000000 in
theorem any1_any (w : World) (g : Nat) (a : Option Addr) (l : List Int) (c K : Nat) (hK : K ≤ 1000000) (h : CurIs w g a l c K) :
    Calls Tryd.prog 36 #[.pointer (some ⟨g, 0, none⟩)] w fun e w' => ∃ s ∈ anyTexts, e = .returned (.string s) ∧ CurIs w' g a l c (K + 2) ∧ Below g w w' := by
  have H := Lib.hid h
  clear h
  go_enter Tryd.func36, Tryd.ntmps36
  go_wp2_with fail
  refine (of_any _ g a l c K _ 9 anyTexts hK rfl (by omega) (by omega) (H.out.alloc _) (by have := H.out.lt; omega) (by simp) (by intro k hk; exact lit_strs w anyTexts _ k hk) 9).mono ?_
  rintro e w1 ⟨v, ⟨s, hs, rfl⟩, rfl, hc, ho⟩
  have HC := Lib.hid hc
  have HO := Lib.hid ho
  have HM := Lib.hid hs
  have hlt := H.out.lt
  clear hc ho hs
  go_wp2
  go_ret
  exact ⟨s, HM.out, rfl, HC.out, ((Below.refl g w).alloc (by omega) _).trans (HO.out.below (Nat.le_refl _))⟩

set_option maxHeartbeats 1000000 in
theorem drawParse_any (w : World) (a : Option Addr) (l : List Int) (c : Nat) (hi : Ints .u8 w w.heap.size a l) (hb : ∀ z ∈ l, 0 ≤ z ∧ z ≤ 255) (hl : l.length ≤ 1048576) :
    Calls Tryd.prog 9 #[.slice a l.length c] w (SomeText w) := by
  have HC0 := Lib.hid (cur_new w a l c hi hb hl)
  clear hi hb
  go_enter Tryd.func9, Tryd.ntmps9
  go_wp2_with fail
  refine (one_any _ _ a l c 0 2 (by omega) (by omega) (by omega) HC0.out).mono ?_
  rintro e w1 ⟨v, ⟨b, rfl⟩, rfl, hc, ho⟩
  have HC := Lib.hid hc
  have HB1 := Lib.hid (((Below.refl w.heap.size w).alloc (Nat.le_refl _) _).trans (ho.below (Nat.le_refl _)))
  have hlt := hc.lt
  clear hc ho
  cases b with
  | true =>
    go_wp2_with fail
    refine (of_any _ _ a l c 2 _ 11 parseTexts (by omega) rfl (by omega) (by omega) (HC.out.alloc _) (by have := HC.out.lt; omega) (by simp) (by intro k hk; exact lit_strs w1 parseTexts _ k hk) 11).mono ?_
    rintro e w2 ⟨v, ⟨s, hs, rfl⟩, rfl, hc, ho⟩
    have HO2 := Lib.hid ho
    have HM := Lib.hid (parseTexts_size s hs)
    clear hc ho hs
    go_wp2
    go_ret
    exact ⟨s, HM.out, rfl, HB1.out.trans (((Below.refl w.heap.size w1).alloc (by omega) _).trans (HO2.out.below (Nat.le_refl _)))⟩
  | false =>
    go_wp2_with fail
    refine (pick_any _ _ a l c 2 2000 (by omega) (by omega) (by omega) HC.out).mono ?_
    rintro e w2 ⟨v, ⟨r, hr, rfl⟩, rfl, hc, ho⟩
    have HO2 := Lib.hid ho
    clear hc ho
    have HN := Lib.hid (fun W => num_any ((r : Int) - 1000) W (by omega) (by omega))
    have HS := Lib.hid (Lib.itoa_length_le ((r : Int) - 1000) (by omega) (by omega))
    go_wp2_with (go_at_call 31; refine (HN.out _).mono ?_; rintro e w3 ⟨rfl, d3⟩; have HD := Lib.hid d3; clear d3)
    go_ret
    exact ⟨⟨(Lib.itoa ((r : Int) - 1000)).toArray⟩, by have := HS.out; simp [ByteArray.size]; omega, rfl, (HB1.out.trans (HO2.out.below (Nat.le_refl _))).trans (HD.out.below _)⟩

theorem infoU8 : (Tryd.prog.info? 5).map (fun i => (i.zero, i.size, i.bytes)) = some (some (.int .u8 0), 1, 1) := by kernel_rfl
/-- n zero bytes -/
def zeros (n : Nat) : ByteArray := ⟨(List.replicate n (0 : UInt8)).toArray⟩
theorem zeros_size (n : Nat) : (zeros n).size = n := by simp [zeros, ByteArray.size]
theorem zeros_row (w : World) (n : Nat) (t : TypeId) : Lib.Bytes (w.alloc (.cells (madeCells #[.int .u8 0] n) t)) w.heap.size 0 (zeros n) := by
  intro i hi
  rw [zeros_size] at hi
  rw [Nat.zero_add, (World.rowIs_made w (.int .u8 0) n t).cell hi]
  simp [zeros, ByteArray.getElem_eq_getElem_data]

set_option maxHeartbeats 1000000 in
theorem drawAppend_any (w : World) (a : Option Addr) (l : List Int) (c : Nat) (hi : Ints .u8 w w.heap.size a l) (hb : ∀ z ∈ l, 0 ≤ z ∧ z ≤ 255) (hl : l.length ≤ 1048576) :
    Calls Tryd.prog 12 #[.slice a l.length c] w (SomeText w) := by
  have HC0 := Lib.hid (cur_new w a l c hi hb hl)
  clear hi hb
  go_enter Tryd.func12, Tryd.ntmps12
  go_wp2_with fail
  refine (one_any _ _ a l c 0 20 (by omega) (by omega) (by omega) HC0.out).mono ?_
  rintro e w1 ⟨v, ⟨b, rfl⟩, rfl, hc, ho⟩
  have HC := Lib.hid hc
  have HB1 := Lib.hid (((Below.refl w.heap.size w).alloc (Nat.le_refl _) _).trans (ho.below (Nat.le_refl _)))
  have hlt := hc.lt
  clear hc ho
  cases b with
  | false =>
    go_wp2_with fail
    refine (any1_any _ _ a l c 2 (by omega) HC.out).mono ?_
    rintro e w2 ⟨s, hs, rfl, hc, ho⟩
    have HO2 := Lib.hid ho
    have HM := Lib.hid (anyTexts_size s hs)
    clear hc ho hs
    go_wp2
    go_ret
    exact ⟨s, HM.out, rfl, HB1.out.trans HO2.out⟩
  | true =>
    go_wp2_with fail
    refine (pick_any _ _ a l c 2 10 (by omega) (by omega) (by omega) HC.out).mono ?_
    rintro e w2 ⟨v, ⟨r, hr, rfl⟩, rfl, hc, ho⟩
    have HO2 := Lib.hid ho
    have hlt2 := hc.lt
    clear hc ho
    have ec : ((3990 + r : Nat) : Int) = 3990 + (r : Int) := by omega
    have hmk := run_make_row' (P := Tryd.prog) 22 5 (.int .u8 0) 1 Tryd.underlying22 infoU8 rfl .i64 .i64 (3990 + r) (by omega) (by omega) w2
    have hcv := Lib.run_convert_whole (P := Tryd.prog) (w2.alloc (.cells (madeCells #[.int .u8 0] (3990 + r)) 5)) 22 5 9 Tryd.underlying22 Tryd.underlying5 Tryd.underlying9 w2.heap.size 0 (zeros (3990 + r)) (zeros_row w2 (3990 + r) 5) (3990 + r)
    rw [zeros_size] at hcv
    rw [ec] at hmk
    have hzs := zeros_size (3990 + r)
    generalize zeros (3990 + r) = zs at *
    have HZ := Lib.hid hzs
    clear hzs ec
    go_wp2
    go_ret
    exact ⟨zs, by have := HZ.out; omega, rfl, (HB1.out.trans (HO2.out.below (Nat.le_refl _))).trans ((Below.refl w.heap.size w2).alloc (by omega) _)⟩
end Go.Proofs.YtdgbhogbapbbgaaDoor
