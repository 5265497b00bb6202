/- The walk of FnExactIsMonotone. -/
import Derived.Test.YtjpiiidjocilcaaMonoS
import Derived.Test.YtjpiiidjocilcaaMonoI
import Derived.Test.YtjpiiidjocilcaaShLaw
import Derived.Test.YtjpiiidjocilcaaBox
namespace Go.Proofs.Ytjpiiidjocilcaa
open Go.RowKit
set_option linter.unusedVariables false
set_option linter.unusedSimpArgs false
set_option maxRecDepth 100000 in
set_option maxHeartbeats 16000000 in
theorem walk_MonoLaw (a0 : Option Addr) (l0 : List ShT) (c0 : Nat) (w : World) (hl0 : Shs w w.heap.size a0 l0) (hm0 : l0.length ≤ maxLen) :
    Calls Try.prog 9 #[.slice a0 l0.length c0] w fun e w' => e = .returned (.bool true) ∧ Below w.heap.size w w' := by
  have HZ := Lib.hid (fun W => szSh_any a0 l0.length c0 1048576 W hm0 (by omega) (by omega))
  by_cases hn : (l0.length : Int) ≤ 1048576
  · rw [if_pos hn] at HZ
    have q0 : l0.length ≤ 1048576 := by omega
    have hz : ¬ (1048576 : Int) - (l0.length : Int) < 0 := by omega
    have HT := Lib.hid (fun W (G : Below w.heap.size w W) => toShs_any a0 l0 c0 W ((hl0.below G (Nat.le_refl _)).more G.size) q0)
    have HS := Lib.hid (fun p W (h : Shs W W.heap.size (some ⟨p, 0, none⟩) l0) => specMono_any (some ⟨p, 0, none⟩) l0 l0.length W h)
    have HI := Lib.hid (fun p W (h : Shs W W.heap.size (some ⟨p, 0, none⟩) l0) => implMono_any (some ⟨p, 0, none⟩) l0 l0.length W h)
    have HE := Lib.hid (fun p q W (h : Shs W W.heap.size (some ⟨p, 0, none⟩) l0) (h' : Shs W W.heap.size (some ⟨q, 0, none⟩) l0) => eqShs_yes (some ⟨p, 0, none⟩) (some ⟨q, 0, none⟩) l0 l0.length l0.length W h h' q0)
    have G0 := Lib.hid (Below.refl w.heap.size w)
    clear hl0 hn
    generalize (shsB l0 && upB l0) = r0 at *
    generalize shsB l0 = r1 at *
    go_enter Try.func9, Try.ntmps9
    go_wp2_with fail
    refine (HZ.out _).mono ?_
    rintro e w1 ⟨rfl, rfl⟩
    go_wp2_with fail
    refine (HT.out _ G0.out).mono ?_
    rintro e w2 ⟨rfl, r2, b2, z2⟩
    have G2 := Lib.hid (below_then G0.out b2)
    have P2 := Lib.hid (Shs.of_row r2)
    clear r2 b2 z2
    go_wp2_with fail
    refine (HS.out _ _ P2.out).mono ?_
    rintro e w3 ⟨rfl, b3⟩
    have G3 := Lib.hid (below_then G2.out b3)
    clear b3 P2 G2
    go_wp2_with fail
    refine (HT.out _ G3.out).mono ?_
    rintro e w4 ⟨rfl, r4, b4, z4⟩
    have G4 := Lib.hid (below_then G3.out b4)
    have X4 := Lib.hid (Shs.of_row r4)
    clear r4 b4 z4 G3
    go_wp2_with fail
    refine (HI.out _ _ X4.out).mono ?_
    rintro e w5 ⟨rfl, b5⟩
    have G5 := Lib.hid (below_then G4.out b5)
    have X5 := Lib.hid (shs_below X4.out b5)
    clear b5 X4 G4
    cases r0 <;> cases r1 <;> (go_wp2_with fail)
    all_goals
      refine (HT.out _ G5.out).mono ?_
      rintro e w6 ⟨rfl, r6, b6, z6⟩
      have G6 := Lib.hid (below_then G5.out b6)
      have X6 := Lib.hid (shs_below X5.out b6)
      have E6 := Lib.hid (Shs.of_row r6)
      clear r6 b6 z6 X5 G5
      go_wp2_with fail
      refine (HE.out _ _ _ X6.out E6.out).mono ?_
      rintro e w7 ⟨rfl, b7⟩
      have G7 := Lib.hid (below_then G6.out b7)
      clear b7 X6 E6 G6
      go_wp2_with fail
      go_ret
      exact ⟨rfl, G7.out⟩
  · rw [if_neg hn] at HZ
    go_enter Try.func9, Try.ntmps9
    go_wp2_with fail
    refine (HZ.out _).mono ?_
    rintro e w1 ⟨rfl, rfl⟩
    go_wp2_with fail
    go_ret
    exact ⟨rfl, Below.refl _ _⟩
end Go.Proofs.Ytjpiiidjocilcaa
