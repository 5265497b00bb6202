/- The draws of FnSplitJoin. -/
import Derived.Test.YtnafnkilmiebiaaAmong
import Derived.Test.YtnafnkilmiebiaaMark
namespace Go.Proofs.Ytnafnkilmiebiaa
open Go.RowKit
set_option linter.unusedVariables false
def any1Texts : List ByteArray := [⟨#[]⟩, ⟨#[97]⟩, ⟨#[97, 44, 98]⟩, ⟨#[115, 111, 109, 101, 32, 119, 111, 114, 100, 115]⟩, ⟨#[120, 35, 121]⟩, ⟨#[45, 49, 50]⟩, ⟨#[0, 255]⟩, ⟨#[44, 44]⟩, ⟨#[48]⟩]
theorem any1Texts_size : ∀ s ∈ any1Texts, s.size ≤ 4000 := by
  intro s hs
  simp only [any1Texts, List.mem_cons, List.not_mem_nil, or_false] at hs
  rcases hs with rfl | rfl | rfl | rfl | rfl | rfl | rfl | rfl | rfl <;> decide
theorem grown_alloc {w w1 w2 : World} {o : Obj} {g : Nat} (h : (w.alloc o).grownBy w2 (some g)) : w.grownBy w2 (some g) :=
  ⟨h.os, h.tape, h.output, by have := h.size; simp at this; omega, fun k hk hne => (h.block k (by simp; omega) hne).trans (Below.heap_alloc w o k hk)⟩

set_option maxHeartbeats 1000000 in
theorem any1_is (w : World) (g : Nat) (a : Option Addr) (l : List Int) (c K : Nat) (hK : K ≤ 1000000) (h : CurIs w g a l c K) :
    Calls Try.prog 33 #[.pointer (some ⟨g, 0, none⟩)] w fun e w' => ∃ s : ByteArray, s.size ≤ 4000 ∧ e = .returned (.string s) ∧ CurIs w' g a l c (K + 2) ∧ w.grownBy w' (some g) := by
  have H := Lib.hid h
  clear h
  go_enter Try.func33, Try.ntmps33
  go_wp2_with fail
  refine (of_any _ g a l c K _ 9 any1Texts hK rfl (by omega) (by omega) (H.out.alloc _) (by have := H.out.lt; omega) (by simp) (by intro k hk; exact lit_strs w any1Texts _ k hk) 9).mono ?_
  rintro e w1 ⟨v, ⟨s, hs, rfl⟩, rfl, hc, ho⟩
  have HC := Lib.hid hc
  have HO := Lib.hid ho
  have HM := Lib.hid (any1Texts_size s hs)
  have hlt := H.out.lt
  clear hc ho hs
  go_wp2
  go_ret
  exact ⟨s, HM.out, rfl, HC.out, grown_alloc (w1 := w) HO.out.1⟩

/-- two texts are returned -/
def TwoTexts (w : World) (e : Ending) (w' : World) : Prop := ∃ s t : ByteArray, s.size ≤ 4000 ∧ t.size ≤ 4000 ∧ e = .returned (.tuple #[.string s, .string t]) ∧ Below w.heap.size w w'

set_option maxHeartbeats 1000000 in
theorem drawLess_is (w : World) (a : Option Addr) (l : List Int) (c : Nat) (hi : Ints .u8 w w.heap.size a l) (hb : ∀ z ∈ l, 0 ≤ z ∧ z ≤ 255) (hl : l.length ≤ 1048576) :
    Calls Try.prog 13 #[.slice a l.length c] w (TwoTexts w) := by
  have HC0 := Lib.hid (cur_new w a l c hi hb hl)
  clear hi hb
  go_enter Try.func13, Try.ntmps13
  go_wp2_with fail
  refine (any1_is _ _ a l c 0 (by omega) HC0.out).mono ?_
  rintro e w1 ⟨s, hs, rfl, hc, ho⟩
  have HC := Lib.hid hc
  have HB1 := Lib.hid (((Below.refl w.heap.size w).alloc (Nat.le_refl _) _).grown ho (by simp) (fun k e => by injection e with e; omega))
  clear hc ho
  go_wp2_with fail
  refine (any1_is _ _ a l c 2 (by omega) HC.out).mono ?_
  rintro e w2 ⟨t, ht, rfl, hc, ho⟩
  have HB2 := Lib.hid (HB1.out.grown ho HB1.out.size (fun k e => by injection e with e; omega))
  clear hc ho
  go_wp2
  go_ret2
  exact ⟨s, t, hs, ht, rfl, HB2.out⟩

set_option maxHeartbeats 1000000 in
theorem drawSplit_is (w : World) (a : Option Addr) (l : List Int) (c : Nat) (hi : Ints .u8 w w.heap.size a l) (hb : ∀ z ∈ l, 0 ≤ z ∧ z ≤ 255) (hl : l.length ≤ 1048576) :
    Calls Try.prog 8 #[.slice a l.length c] w (TwoTexts w) := by
  have HC0 := Lib.hid (cur_new w a l c hi hb hl)
  clear hi hb
  go_enter Try.func8, Try.ntmps8
  go_wp2_with fail
  refine (any1_is _ _ a l c 0 (by omega) HC0.out).mono ?_
  rintro e w1 ⟨s, hs, rfl, hc, ho⟩
  have HC := Lib.hid hc
  have HB1 := Lib.hid (((Below.refl w.heap.size w).alloc (Nat.le_refl _) _).grown ho (by simp) (fun k e => by injection e with e; omega))
  clear hc ho
  go_wp2_with fail
  refine (of_any _ _ a l c 2 _ 5 [⟨#[44]⟩, ⟨#[44]⟩, ⟨#[32]⟩, ⟨#[]⟩, ⟨#[44, 44]⟩] (by omega) rfl (by omega) (by omega) (HC.out.alloc _) (by have := HC.out.lt; omega) (by simp) (by intro k hk; exact lit_strs w1 _ _ k hk) 5).mono ?_
  rintro e w2 ⟨v, ⟨t, ht, rfl⟩, rfl, hc, ho⟩
  have hts : t.size ≤ 4000 := by
    simp only [List.mem_cons, List.not_mem_nil, or_false] at ht
    rcases ht with rfl | rfl | rfl | rfl | rfl <;> decide
  have HB2 := Lib.hid ((HB1.out.alloc HB1.out.size _).trans (ho.below (Nat.le_refl _)))
  clear hc ho ht
  go_wp2
  go_ret2
  exact ⟨s, t, hs, hts, rfl, HB2.out⟩
end Go.Proofs.Ytnafnkilmiebiaa
