/- The cursor's choice among numbers; DrawFormatInt. -/
import Derived.Test.YtgfgimpglaepaaaCur
namespace Go.Proofs.Ytgfgimpglaepaaa
open Go.RowKit
set_option linter.unusedVariables false
set_option maxHeartbeats 1000000 in
theorem among_any (w : World) (g : Nat) (a : Option Addr) (l : List Int) (c K b n : Nat) (L : List Int) (hK : K ≤ 1000000) (hn : n = L.length) (hn1 : 1 ≤ n) (hn2 : n ≤ 1048576) (h : CurIs w g a l c K) (hb : b ≠ g) (hbs : b < w.heap.size) (hL : ∀ k (h : k < L.length), w.cell? ⟨b, k, none⟩ = some (.int .i64 L[k])) (cap : Nat) :
    Calls Try.prog 87 #[.pointer (some ⟨g, 0, none⟩), .slice (some ⟨b, 0, none⟩) n cap] w (Drawn g a l c (K + 2) (fun v => ∃ z ∈ L, v = .int .i64 z) w) := by
  have H := Lib.hid h
  have HL := Lib.hid hL
  have HN := Lib.hid hn
  clear h hL hn
  go_enter Try.func87, Try.ntmps87
  go_wp2_with fail
  refine (pick_any w g a l c K n hK hn1 hn2 H.out).mono ?_
  rintro e w1 ⟨v, ⟨r, hr, rfl⟩, rfl, hc, ho⟩
  have hr' : r < L.length := by have := HN.out; omega
  have hcell : w1.cell? ⟨b, r, none⟩ = some (.int .i64 L[r]) := (World.cell?_of_block (ho.1.block b hbs (by intro e; injection e with e; exact hb e))).trans (HL.out r hr')
  have HC := Lib.hid hc
  have HO := Lib.hid ho
  have HM := Lib.hid (List.getElem_mem hr')
  clear hc ho
  generalize L[r] = x at *
  go_wp2
  go_ret
  exact ⟨_, ⟨x, HM.out, rfl⟩, rfl, HC.out, HO.out⟩

end Go.Proofs.Ytgfgimpglaepaaa
