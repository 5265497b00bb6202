/- The cursor's choice among numbers; DrawFormatInt. -/
import Derived.Test.YtdgbhogbapbbgaaDoorCur
namespace Go.Proofs.YtdgbhogbapbbgaaDoor
open Go.RowKit
set_option linter.unusedVariables false
set_option maxHeartbeats 1000000 in
theorem among_any (w : World) (g : Nat) (a : Option Addr) (l : List Int) (c K b n : Nat) (L : List Int) (hK : K ≤ 1000000) (hn : n = L.length) (hn1 : 1 ≤ n) (hn2 : n ≤ 1048576) (h : CurIs w g a l c K) (hb : b ≠ g) (hbs : b < w.heap.size) (hL : ∀ k (h : k < L.length), w.cell? ⟨b, k, none⟩ = some (.int .i64 L[k])) (cap : Nat) :
    Calls Tryd.prog 27 #[.pointer (some ⟨g, 0, none⟩), .slice (some ⟨b, 0, none⟩) n cap] w (Drawn g a l c (K + 2) (fun v => ∃ z ∈ L, v = .int .i64 z) w) := by
  have H := Lib.hid h
  have HL := Lib.hid hL
  have HN := Lib.hid hn
  clear h hL hn
  go_enter Tryd.func27, Tryd.ntmps27
  go_wp2_with fail
  refine (pick_any w g a l c K n hK hn1 hn2 H.out).mono ?_
  rintro e w1 ⟨v, ⟨r, hr, rfl⟩, rfl, hc, ho⟩
  have hr' : r < L.length := by have := HN.out; omega
  have hcell : w1.cell? ⟨b, r, none⟩ = some (.int .i64 L[r]) := (World.cell?_of_block (ho.1.block b hbs (by intro e; injection e with e; exact hb e))).trans (HL.out r hr')
  have HC := Lib.hid hc
  have HO := Lib.hid ho
  have HM := Lib.hid (List.getElem_mem hr')
  clear hc ho
  generalize L[r] = x at *
  go_wp2
  go_ret
  exact ⟨_, ⟨x, HM.out, rfl⟩, rfl, HC.out, HO.out⟩

set_option maxHeartbeats 1000000 in
theorem drawFormat_any (w : World) (a : Option Addr) (l : List Int) (c : Nat) (hi : Ints .u8 w w.heap.size a l) (hb : ∀ z ∈ l, 0 ≤ z ∧ z ≤ 255) (hl : l.length ≤ 1048576) :
    Calls Tryd.prog 6 #[.slice a l.length c] w fun e w' => ∃ n : Int, -1000000 ≤ n ∧ n ≤ 1000000 ∧ e = .returned (.int .i64 n) ∧ Below w.heap.size w w' := by
  have HC0 := Lib.hid (cur_new w a l c hi hb hl)
  clear hi hb
  go_enter Tryd.func6, Tryd.ntmps6
  go_wp2_with fail
  refine (pick_any _ _ a l c 0 1000 (by omega) (by omega) (by omega) HC0.out).mono ?_
  rintro e w1 ⟨v, ⟨r, hr, rfl⟩, rfl, hc, ho⟩
  have HC := Lib.hid hc
  have HO := Lib.hid ho
  clear hc ho
  go_wp2_with fail
  refine (among_any _ _ a l c 2 _ 9 [0, 1, -1, 10, 999999, -999999, 1000000, -1000000, (r : Int) - 500] (by omega) rfl (by omega) (by omega) (HC.out.alloc _) (by have := HC.out.lt; omega) (by simp) (by intro k hk; exact lit_ints w1 _ _ k hk) 9).mono ?_
  rintro e w2 ⟨v, ⟨z, hz, rfl⟩, rfl, hc, ho⟩
  have HO2 := Lib.hid ho
  have hzb : -1000000 ≤ z ∧ z ≤ 1000000 := by
    simp only [List.mem_cons, List.not_mem_nil, or_false] at hz
    omega
  have hlt := HC.out.lt
  clear hc ho hz HC
  go_wp2
  go_ret
  refine ⟨z, hzb.1, hzb.2, rfl, ?_⟩
  exact (((Below.refl w.heap.size w).alloc (Nat.le_refl _) _).trans (HO.out.below (Nat.le_refl _))).trans (((Below.refl w.heap.size w1).alloc (by omega) _).trans (HO2.out.below (Nat.le_refl _)))
end Go.Proofs.YtdgbhogbapbbgaaDoor
