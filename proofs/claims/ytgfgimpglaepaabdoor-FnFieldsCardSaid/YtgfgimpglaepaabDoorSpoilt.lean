/- The model's draw of a spoilt text. -/
import Derived.Test.YtgfgimpglaepaabDoorAmong
import Derived.Deep.RegionHeld3
import Derived.Laws.Strings
namespace Go.Proofs.YtgfgimpglaepaabDoor
open Go.RowKit
set_option linter.unusedVariables false
set_option linter.unusedSimpArgs false
def IsText (n : Nat) (v : Value) : Prop := ∃ s : ByteArray, s.size ≤ n ∧ v = .string s
theorem cur_drewN {w : World} {g : Nat} {a : Option Addr} {l : List Int} {c K : Nat} (h : CurIs w g a l c K) (n : Nat) : CurIs (w.drewN n) g a l c K := by
  obtain ⟨h1, p, s, h2, h3⟩ := h
  exact ⟨h1.only ((Only.refl g w).drewN n), p, s, h2, h3⟩
theorem cat_run2 (P : Program) (a b : ByteArray) (h : a.size + b.size ≤ 4000) (W : World) : (Op.stringOp .add a b).run P W = .ok (.string (a ++ b)) W := run_string_add_sum W a b (by omega)
set_option maxRecDepth 100000 in
set_option maxHeartbeats 1000000 in
theorem spoilt_any (w : World) (g : Nat) (a : Option Addr) (l : List Int) (c K : Nat) (t z : ByteArray) (hK : K ≤ 900000) (ht : t.size ≤ 1000) (hz1 : 1 ≤ z.size) (hz2 : z.size ≤ 100) (h : CurIs w g a l c K) :
    Calls Tryd.prog 48 #[.pointer (some ⟨g, 0, none⟩), .string t, .string z] w (Drawn g a l c (K + 6) (IsText (t.size + 1)) w) := by
  have H := Lib.hid h
  clear h
  by_cases h0 : t.size = 0
  · obtain rfl : t = ⟨#[]⟩ := ByteArray.ext (Array.eq_empty_of_size_eq_zero h0)
    have k1 : (1 : Int) ≤ (z.size : Int) := by omega
    go_enter Tryd.func48, Tryd.ntmps48
    go_wp2
    go_ret
    exact ⟨_, ⟨z.extract 0 1, by simp; omega, rfl⟩, rfl, H.out.more (by omega), Only.refl g w⟩
  · have hne : t.toList.isEmpty = false := by
      rw [ByteArray.toList_eq, List.isEmpty_eq_false_iff]
      intro e
      apply h0
      have := congrArg List.length e
      simpa using this
    go_enter Tryd.func48, Tryd.ntmps48
    go_wp2_with fail
    refine (pick_any w g a l c K t.size (by omega) (by omega) (by omega) H.out).mono ?_
    rintro e w1 ⟨v, ⟨i, hi, rfl⟩, rfl, hc, ho⟩
    have HC := Lib.hid hc
    have HO := Lib.hid ho
    clear hc ho
    go_wp2_with fail
    refine (pick_any w1 g a l c _ z.size (by omega) (by omega) (by omega) HC.out).mono ?_
    rintro e w2 ⟨v, ⟨j, hj, rfl⟩, rfl, hc, ho⟩
    have HC2 := Lib.hid hc
    have HO2 := Lib.hid (HO.out.trans ho)
    clear hc ho HC HO
    have j0 : (0 : Int) ≤ (j : Int) := by omega
    have j1 : (j : Int) ≤ (z.size : Int) := by omega
    have j2 : (j : Int) < (z.size : Int) := by omega
    have hsz : (z.extract j z.size).size = z.size - j := by simp
    have hj3 : 1 ≤ z.size - j := by omega
    obtain ⟨y, hy⟩ : ∃ y, (z.extract j z.size).extract 0 1 = y := ⟨_, rfl⟩
    have hys : y.size ≤ 1 := by rw [← hy]; simp; omega
    obtain ⟨t1, ht1⟩ : ∃ y, t.extract 0 i = y := ⟨_, rfl⟩
    have h1s : t1.size = i := by rw [← ht1]; simp; omega
    obtain ⟨t2, ht2⟩ : ∃ y, t.extract i t.size = y := ⟨_, rfl⟩
    have h2s : t2.size = t.size - i := by rw [← ht2]; simp
    obtain ⟨t3, ht3⟩ : ∃ y, t.extract (i + 1) t.size = y := ⟨_, rfl⟩
    have h3s : t3.size = t.size - (i + 1) := by rw [← ht3]; simp
    have i0 : (0 : Int) ≤ (i : Int) := by omega
    have i1 : (i : Int) ≤ (t.size : Int) := by omega
    have i2 : (i : Int) + 1 ≤ (t.size : Int) := by omega
    have e1 := cat_run2 Tryd.prog t1 y (by omega)
    have e2 := cat_run2 Tryd.prog (t1 ++ y) t2 (by simp; omega)
    have e3 := cat_run2 Tryd.prog (t1 ++ y) t3 (by simp; omega)
    have e4 := cat_run2 Tryd.prog t1 t3 (by omega)
    have HQ := Lib.hid (And.intro hys (And.intro h1s (And.intro h2s h3s)))
    clear hys h1s h2s h3s
    go_wp2_with fail
    refine (pick_any w2 g a l c _ 3 (by omega) (by omega) (by omega) HC2.out).mono ?_
    rintro e w3 ⟨v, ⟨r, hr, rfl⟩, rfl, hc, ho⟩
    have HC3 := Lib.hid hc
    have HO3 := Lib.hid (HO2.out.trans ho)
    clear hc ho HC2 HO2
    have hcs : r = 0 ∨ r = 1 ∨ r = 2 := by omega
    rcases hcs with rfl | rfl | rfl
    · go_wp2
      go_quiet (fail)
      go_wp2
      go_ret
      exact ⟨_, ⟨t1 ++ y ++ t2, by have := HQ.out; simp; omega, rfl⟩, rfl, (by first | exact HC3.out.more (by omega) | exact (cur_drewN HC3.out _).more (by omega)), (by first | exact HO3.out | exact HO3.out.drewN _)⟩
    · go_wp2
      go_quiet (fail)
      go_wp2
      go_ret
      exact ⟨_, ⟨t1 ++ y ++ t3, by have := HQ.out; simp; omega, rfl⟩, rfl, (by first | exact HC3.out.more (by omega) | exact (cur_drewN HC3.out _).more (by omega)), (by first | exact HO3.out | exact HO3.out.drewN _)⟩
    · go_wp2
      go_quiet (fail)
      go_wp2
      go_ret
      exact ⟨_, ⟨t1 ++ t3, by have := HQ.out; simp; omega, rfl⟩, rfl, (by first | exact HC3.out.more (by omega) | exact (cur_drewN HC3.out _).more (by omega)), (by first | exact HO3.out | exact HO3.out.drewN _)⟩
end Go.Proofs.YtgfgimpglaepaabDoor
