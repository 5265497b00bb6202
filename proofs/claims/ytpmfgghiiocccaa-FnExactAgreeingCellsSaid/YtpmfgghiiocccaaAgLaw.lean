/- The walk of FnExactAgreeingCells. -/
import Derived.Test.YtpmfgghiiocccaaEnAg
import Derived.Test.YtpmfgghiiocccaaLawRes
namespace Go.Proofs.Ytpmfgghiiocccaa
open Go.RowKit
set_option linter.unusedVariables false
set_option linter.unusedSimpArgs false
set_option maxRecDepth 100000 in
set_option maxHeartbeats 16000000 in
theorem walk_AgLaw (a0 : Option Addr) (es0 : List FE) (c0 : Nat) (x1 : Int) (w : World) (hl0 : Flds w w.heap.size a0 es0) (hm0 : es0.length ≤ maxLen) (hs0 : ∀ e ∈ es0, e.l.length ≤ maxLen) :
    Calls Try.prog 11 #[.slice a0 es0.length c0, .int .i64 x1] w fun e w' => e = .returned (.bool true) ∧ Below w.heap.size w w' := by
  have HZ0 := Lib.hid (fun W (h : Flds W W.heap.size a0 es0) h1 h2 => szFields_any a0 es0 c0 1048576 W h hm0 hs0 h1 h2)
  have G0 := Lib.hid (Below.refl w.heap.size w)
  have HL0 := Lib.hid hl0
  unfold maxLen at hm0 hs0
  by_cases hn0 : ((es0.length + lenFs es0 : Nat) : Int) ≤ 1048576
  · have HY0 := HZ0
    unfold szF at HY0
    rw [if_pos hn0] at HY0
    have q0 : es0.length ≤ 1048576 := by omega
    have r0 : lenFs es0 ≤ 1048576 := by omega
    have t0 : ∀ e ∈ es0, e.l.length ≤ 1048576 := fun e h => Nat.le_trans (le_lenFs e h) r0
    have HT0 := Lib.hid (fun W (G : Below w.heap.size w W) => toFields_any a0 es0 c0 W ((hl0.below G (Nat.le_refl _)).more G.size) q0 t0)
    have HS : Hid (∀ p0 eq0 W (h0 : Flds W W.heap.size (some ⟨p0, 0, none⟩) eq0) (m0 : eq0.length = es0.length) (n0 : eq0.map FE.plain = es0.map FE.plain), Calls Try.prog 39 #[.slice (some ⟨p0, 0, none⟩) es0.length es0.length, .int .i64 x1] W fun e w' => e = .returned (.tuple #[.int .i64 (onA (agR (plains es0) x1)), .bool (twO (agR (plains es0) x1))]) ∧ Below W.heap.size W w') := Lib.hid (fun p0 eq0 W h0 m0 n0 => by
      have h9 := specAg_any (some ⟨p0, 0, none⟩) eq0 es0.length x1 W h0 (by omega) (fun e h => Nat.le_trans (le_lenFs e h) (by rw [lenFs_plain n0]; exact r0))
      rw [m0, show plains eq0 = plains es0 from n0] at h9
      exact h9)
    have HI : Hid (∀ p0 eq0 W (h0 : Flds W W.heap.size (some ⟨p0, 0, none⟩) eq0) (m0 : eq0.length = es0.length) (n0 : eq0.map FE.plain = es0.map FE.plain), Calls Try.prog 40 #[.slice (some ⟨p0, 0, none⟩) es0.length es0.length, .int .i64 x1] W fun e w' => e = .returned (.tuple #[.int .i64 (onA (agR (plains es0) x1)), .bool (twO (agR (plains es0) x1))]) ∧ Below W.heap.size W w') := Lib.hid (fun p0 eq0 W h0 m0 n0 => by
      have h9 := implAg_any p0 eq0 es0.length x1 W h0 (by omega) (fun e h => Nat.le_trans (le_lenFs e h) (by rw [lenFs_plain n0]; exact r0))
      rw [m0, show plains eq0 = plains es0 from n0] at h9
      exact h9)
    generalize onA (agR (plains es0) x1) = v0 at *
    generalize twO (agR (plains es0) x1) = vb at *
    clear hl0
    go_enter Try.func11, Try.ntmps11
    go_wp2_with fail
    refine (HY0.out _ ((HL0.out.below G0.out (Nat.le_refl _)).more G0.out.size) (by omega) (by omega)).mono ?_
    rintro e w11 ⟨rfl, b1⟩
    have G1 := Lib.hid (below_then G0.out b1)
    clear b1 G0
    go_wp2_with fail
    clear HY0 HZ0
    have sb := G1.out.size
--@0
    refine (HT0.out _ G1.out).mono ?_
    rintro e w12 ⟨f2, hf2, lk2, rfl, ow2, b2⟩
    have s2 := b2.size
    have G2 := Lib.hid (below_then G1.out b2)
    clear b2 G1
    have P02 := Lib.hid ow2
    have eP0 := Lib.hid (And.intro hf2 (like_plain hf2 lk2))
    have ubP0 := ow2.u
    clear hf2 lk2 ow2
    go_wp2_with fail
--@1
    refine (HS.out _ _ _ (P02.out.flds.more (by omega)) eP0.out.1 eP0.out.2).mono ?_
    rintro e w13 ⟨rfl, b3⟩
    have s3 := b3.size
    have G3 := Lib.hid (below_then G2.out b3)
    have P03 := Lib.hid (P02.out.below b3 (by omega))
    clear b3 G2 P02
    clear P03 eP0 ubP0
    go_wp2_with fail
--@2
    refine (HT0.out _ G3.out).mono ?_
    rintro e w14 ⟨f4, hf4, lk4, rfl, ow4, b4⟩
    have s4 := b4.size
    have G4 := Lib.hid (below_then G3.out b4)
    clear b4 G3
    have X04 := Lib.hid ow4
    have eX0 := Lib.hid (And.intro hf4 (like_plain hf4 lk4))
    have ubX0 := ow4.u
    clear hf4 lk4 ow4
    go_wp2_with fail
--@3
    refine (HI.out _ _ _ (X04.out.flds.more (by omega)) eX0.out.1 eX0.out.2).mono ?_
    rintro e w15 ⟨rfl, b5⟩
    have s5 := b5.size
    have G5 := Lib.hid (below_then G4.out b5)
    have X05 := Lib.hid (X04.out.below b5 (by omega))
    clear b5 G4 X04
    all_goals skip
    cases vb <;> (go_wp2_with fail)
    all_goals
--@4
      refine (HT0.out _ G5.out).mono ?_
      rintro e w16 ⟨f6, hf6, lk6, rfl, ow6, b6⟩
      have s6 := b6.size
      have G6 := Lib.hid (below_then G5.out b6)
      have X06 := Lib.hid (X05.out.below b6 (by omega))
      clear b6 G5 X05
      have E6 := Lib.hid ow6
      have eE := Lib.hid (And.intro hf6 (like_plain hf6 lk6))
      have ubE := ow6.u
      clear hf6 lk6 ow6
      go_wp2_with fail
      refine (eqFields_n _ _ _ _ es0.length _ _ _ (X06.out.flds.more (by omega)) (E6.out.flds.more (by omega)) eX0.out.1 (eE.out.2.trans eX0.out.2.symm) q0 (by rw [lenFs_plain eX0.out.2]; exact r0)).mono ?_
      rintro e w17 ⟨rfl, b7⟩
      have s7 := b7.size
      have G7 := Lib.hid (below_then G6.out b7)
      have X07 := Lib.hid (X06.out.below b7 (by omega))
      have E7 := Lib.hid (E6.out.below b7 (by omega))
      clear b7 G6 X06 E6
      clear E7 eE ubE
      clear X07 eX0 ubX0
      go_wp2_with fail
      go_ret
      exact ⟨rfl, G7.out⟩
  · have HY0 := HZ0
    unfold szF at HY0
    rw [if_neg hn0] at HY0
    go_enter Try.func11, Try.ntmps11
    go_wp2_with fail
    refine (HY0.out _ ((HL0.out.below G0.out (Nat.le_refl _)).more G0.out.size) (by omega) (by omega)).mono ?_
    rintro e w11 ⟨rfl, b1⟩
    have G1 := Lib.hid (below_then G0.out b1)
    clear b1 G0
    go_wp2_with fail
    go_ret
    exact ⟨rfl, G1.out⟩
end Go.Proofs.Ytpmfgghiiocccaa
