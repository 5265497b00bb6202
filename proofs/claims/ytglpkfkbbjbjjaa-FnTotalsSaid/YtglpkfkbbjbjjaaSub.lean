/- SubField, the model's and the program's. -/
import Derived.Test.YtglpkfkbbjbjjaaSubMath
import Derived.Deep.RegionLaw
import Derived.Deep.AppendLies
namespace Go.Proofs.Ytglpkfkbbjbjjaa
open Go.RowKit
set_option linter.unusedVariables false
set_option linter.unusedSimpArgs false
/-- what the model's two loops keep: v rows and u cells are laid -/
def SubInv (w : World) (ob W H P Q X Y : Nat) (a : Option Addr) (l : List Int) (c v u : Nat) (wr : World) : Prop :=
  ∃ out, Box wr ob 26 (.int .i64 P) (.int .i64 Q) out ∧ Box wr w.heap.size 26 (.int .i64 W) (.int .i64 H) (.slice a l.length c) ∧ Box wr (w.heap.size + 1) 26 (.int .i64 0) (.int .i64 0) (.slice none 0 0) ∧
    wr.ownsRow (ob + 1) 3 1 out (laidS l W X Y P Q v u).length (iv (laidS l W X Y P Q v u)) ∧ Below w.heap.size w wr ∧ Ints .i64 wr wr.heap.size a l

set_option maxRecDepth 100000 in
set_option maxHeartbeats 4000000 in
/-- the model's SubField -/
theorem specSub_any (wd hg : Int) (a : Option Addr) (l : List Int) (c : Nat) (x : Int) (y : Int) (p : Int) (q : Int) (w : World) (hl : Ints .i64 w w.heap.size a l) (hn : l.length ≤ 1048576) :
    Calls Try.prog 15 #[.agg #[.int .i64 wd, .int .i64 hg, .slice a l.length c], .int .i64 x, .int .i64 y, .int .i64 p, .int .i64 q] w (FRet (subR wd hg l x y p q) w) := by
  have I0 := ints_alloc (ints_alloc hl (.cells #[.int .i64 wd, .int .i64 hg, .slice a l.length c] 26)) (.cells #[.int .i64 0, .int .i64 0, .slice none 0 0] 26)
  have X0 := (Box.new w 26 (.int .i64 wd) (.int .i64 hg) (.slice a l.length c)).alloc (.cells #[.int .i64 0, .int .i64 0, .slice none 0 0] 26)
  have R0 := Box.new (w.alloc (.cells #[.int .i64 wd, .int .i64 hg, .slice a l.length c] 26)) 26 (.int .i64 0) (.int .i64 0) (.slice none 0 0)
  rw [World.size_alloc] at R0
  have B0 := (below_all w (.cells #[.int .i64 wd, .int .i64 hg, .slice a l.length c] 26)).alloc (by simp) (.cells #[.int .i64 0, .int .i64 0, .slice none 0 0] 26)
  have hX0 := Lib.hid X0
  have hR0 := Lib.hid R0
  have hB0 := Lib.hid B0
  have hI0 := Lib.hid I0
  have HAL := Lib.hid hl
  clear hl X0 R0 B0 I0
  cases hgd : goodB wd hg l with
  | false =>
    have C1 := Lib.hid (fun W h => specGood_is wd hg a l c _ false W h (Nat.le_refl _) hn hgd)
    rw [subR_no (by unfold subOk; rw [hgd]; simp)]
    clear hgd
    go_enter Try.func15, Try.ntmps15
    go_wp2_with fail
    refine (C1.out _ hI0.out).mono ?_
    rintro e w1 ⟨rfl, b⟩
    have z1 := b.size
    simp only [World.size_alloc] at z1
    have hX1 := Lib.hid (hX0.out.below b)
    have hR1 := Lib.hid (hR0.out.below b)
    have hB1 := Lib.hid (below_then hB0.out b)
    have hI1 := Lib.hid (ints_below hI0.out b)
    clear b hX0 hR0 hB0 hI0
    obtain ⟨r0, r1, r2⟩ := hR1.out.cells
    have g0 := hR1.out.frozen 0
    have g1 := hR1.out.frozen 1
    have g2 := hR1.out.frozen 2
    go_wp2
    refine bodyPost_ret (v := .tuple #[.agg #[.int .i64 0, .int .i64 0, .slice none 0 0], .bool false]) (by simp [results, Try.results15, go_sem, r0, r1, r2]) rfl ⟨none, 0, rfl, OwnI.none_, ?_⟩
    exact ((hB1.out.setCell (by simp) _).setCell (by simp) _).setCell (by simp) _
  | true =>
    have C1 := Lib.hid (fun W h => specGood_is wd hg a l c _ true W h (Nat.le_refl _) hn hgd)
    cases hh : inB wd hg x y with
    | false =>
      have C2 := Lib.hid (fun W => specHas_is wd hg a l.length c x y false W (good_shape hgd) hh)
      rw [subR_no (by unfold subOk; rw [hh]; simp)]
      clear hgd hh
      go_enter Try.func15, Try.ntmps15
      go_wp2_with fail
      refine (C1.out _ hI0.out).mono ?_
      rintro e w1 ⟨rfl, b⟩
      have z1 := b.size
      simp only [World.size_alloc] at z1
      have hX1 := Lib.hid (hX0.out.below b)
      have hR1 := Lib.hid (hR0.out.below b)
      have hB1 := Lib.hid (below_then hB0.out b)
      have hI1 := Lib.hid (ints_below hI0.out b)
      clear b hX0 hR0 hB0 hI0
      obtain ⟨k0, k1, k2⟩ := hX1.out.cells
      go_wp2_with fail
      refine (C2.out _).mono ?_
      rintro e w2 ⟨rfl, b⟩
      have z2 := b.size
      have hX2 := Lib.hid (hX1.out.below b)
      have hR2 := Lib.hid (hR1.out.below b)
      have hB2 := Lib.hid (below_then hB1.out b)
      have hI2 := Lib.hid (ints_below hI1.out b)
      clear b hX1 hR1 hB1 hI1
      clear k0 k1 k2
      obtain ⟨r0, r1, r2⟩ := hR2.out.cells
      have g0 := hR2.out.frozen 0
      have g1 := hR2.out.frozen 1
      have g2 := hR2.out.frozen 2
      go_wp2
      refine bodyPost_ret (v := .tuple #[.agg #[.int .i64 0, .int .i64 0, .slice none 0 0], .bool false]) (by simp [results, Try.results15, go_sem, r0, r1, r2]) rfl ⟨none, 0, rfl, OwnI.none_, ?_⟩
      exact ((hB2.out.setCell (by simp) _).setCell (by simp) _).setCell (by simp) _
    | true =>
      have C2 := Lib.hid (fun W => specHas_is wd hg a l.length c x y true W (good_shape hgd) hh)
      cases hs : shapeB p q with
      | false =>
        have C3 := Lib.hid (fun W => specShape_is p q false W hs)
        rw [subR_no (by unfold subOk; rw [hs]; simp)]
        clear hgd hh hs
        go_enter Try.func15, Try.ntmps15
        go_wp2_with fail
        refine (C1.out _ hI0.out).mono ?_
        rintro e w1 ⟨rfl, b⟩
        have z1 := b.size
        simp only [World.size_alloc] at z1
        have hX1 := Lib.hid (hX0.out.below b)
        have hR1 := Lib.hid (hR0.out.below b)
        have hB1 := Lib.hid (below_then hB0.out b)
        have hI1 := Lib.hid (ints_below hI0.out b)
        clear b hX0 hR0 hB0 hI0
        obtain ⟨k0, k1, k2⟩ := hX1.out.cells
        go_wp2_with fail
        refine (C2.out _).mono ?_
        rintro e w2 ⟨rfl, b⟩
        have z2 := b.size
        have hX2 := Lib.hid (hX1.out.below b)
        have hR2 := Lib.hid (hR1.out.below b)
        have hB2 := Lib.hid (below_then hB1.out b)
        have hI2 := Lib.hid (ints_below hI1.out b)
        clear b hX1 hR1 hB1 hI1
        clear k0 k1 k2
        obtain ⟨k0, k1, k2⟩ := hX2.out.cells
        go_wp2_with fail
        refine (C3.out _).mono ?_
        rintro e w3 ⟨rfl, rfl⟩
        have hX3 := Lib.hid hX2.out
        have hR3 := Lib.hid hR2.out
        have hB3 := Lib.hid hB2.out
        have hI3 := Lib.hid hI2.out
        clear hX2 hR2 hB2 hI2
        clear k0 k1 k2
        obtain ⟨r0, r1, r2⟩ := hR3.out.cells
        have g0 := hR3.out.frozen 0
        have g1 := hR3.out.frozen 1
        have g2 := hR3.out.frozen 2
        go_wp2
        refine bodyPost_ret (v := .tuple #[.agg #[.int .i64 0, .int .i64 0, .slice none 0 0], .bool false]) (by simp [results, Try.results15, go_sem, r0, r1, r2]) rfl ⟨none, 0, rfl, OwnI.none_, ?_⟩
        exact ((hB3.out.setCell (by simp) _).setCell (by simp) _).setCell (by simp) _
      | true =>
        have C3 := Lib.hid (fun W => specShape_is p q true W hs)
        cases hh2 : inB wd hg (x + p - 1) (y + q - 1) with
        | false =>
          have C4 := Lib.hid (fun W => specHas_is wd hg a l.length c (x + p - 1) (y + q - 1) false W (good_shape hgd) hh2)
          rw [subR_no (by unfold subOk; rw [hh2]; simp)]
          have ix := inB_iff.1 hh
          have iw := shapeB_iff.1 (good_shape hgd)
          have ip := shapeB_iff.1 hs
          have x0 : 0 ≤ x := ix.1.1
          have x8 : x ≤ 8 := by omega
          have y0 : 0 ≤ y := ix.2.1
          have y8 : y ≤ 8 := by omega
          have p0 : 1 ≤ p := ip.1.1
          have p8 : p ≤ 8 := ip.1.2
          have q0 : 1 ≤ q := ip.2.1
          have q8 : q ≤ 8 := ip.2.2
          clear ix iw ip
          clear hgd hh hs hh2
          go_enter Try.func15, Try.ntmps15
          go_wp2_with fail
          refine (C1.out _ hI0.out).mono ?_
          rintro e w1 ⟨rfl, b⟩
          have z1 := b.size
          simp only [World.size_alloc] at z1
          have hX1 := Lib.hid (hX0.out.below b)
          have hR1 := Lib.hid (hR0.out.below b)
          have hB1 := Lib.hid (below_then hB0.out b)
          have hI1 := Lib.hid (ints_below hI0.out b)
          clear b hX0 hR0 hB0 hI0
          obtain ⟨k0, k1, k2⟩ := hX1.out.cells
          go_wp2_with fail
          refine (C2.out _).mono ?_
          rintro e w2 ⟨rfl, b⟩
          have z2 := b.size
          have hX2 := Lib.hid (hX1.out.below b)
          have hR2 := Lib.hid (hR1.out.below b)
          have hB2 := Lib.hid (below_then hB1.out b)
          have hI2 := Lib.hid (ints_below hI1.out b)
          clear b hX1 hR1 hB1 hI1
          clear k0 k1 k2
          obtain ⟨k0, k1, k2⟩ := hX2.out.cells
          go_wp2_with fail
          refine (C3.out _).mono ?_
          rintro e w3 ⟨rfl, rfl⟩
          have hX3 := Lib.hid hX2.out
          have hR3 := Lib.hid hR2.out
          have hB3 := Lib.hid hB2.out
          have hI3 := Lib.hid hI2.out
          clear hX2 hR2 hB2 hI2
          clear k0 k1 k2
          obtain ⟨k0, k1, k2⟩ := hX3.out.cells
          go_wp2_with fail
          refine (C4.out _).mono ?_
          rintro e w4 ⟨rfl, b⟩
          have z4 := b.size
          have hX4 := Lib.hid (hX3.out.below b)
          have hR4 := Lib.hid (hR3.out.below b)
          have hB4 := Lib.hid (below_then hB3.out b)
          have hI4 := Lib.hid (ints_below hI3.out b)
          clear b hX3 hR3 hB3 hI3
          clear k0 k1 k2
          obtain ⟨r0, r1, r2⟩ := hR4.out.cells
          have g0 := hR4.out.frozen 0
          have g1 := hR4.out.frozen 1
          have g2 := hR4.out.frozen 2
          go_wp2
          refine bodyPost_ret (v := .tuple #[.agg #[.int .i64 0, .int .i64 0, .slice none 0 0], .bool false]) (by simp [results, Try.results15, go_sem, r0, r1, r2]) rfl ⟨none, 0, rfl, OwnI.none_, ?_⟩
          exact ((hB4.out.setCell (by simp) _).setCell (by simp) _).setCell (by simp) _
        | true =>
          have C4 := Lib.hid (fun W => specHas_is wd hg a l.length c (x + p - 1) (y + q - 1) true W (good_shape hgd) hh2)
          have hok : subOk wd hg l x y p q = true := by unfold subOk; rw [hgd, hh, hs, hh2]; rfl
          rw [subR_yes hok]
          obtain ⟨W, H, X, Y, P, Q, rfl, rfl, rfl, rfl, rfl, rfl, n1, n2, n3, n4, n5, n6, n7, n8, n9, n10, hLL⟩ := sub_nat hok
          simp only [Int.toNat_natCast]
          have HLL := Lib.hid hLL
          have HA0 := Lib.hid HAL.out
          clear hgd hh hs hh2 hok hLL
          go_enter Try.func15, Try.ntmps15
          go_wp2_with fail
          refine (C1.out _ hI0.out).mono ?_
          rintro e w1 ⟨rfl, b⟩
          have z1 := b.size
          simp only [World.size_alloc] at z1
          have hX1 := Lib.hid (hX0.out.below b)
          have hR1 := Lib.hid (hR0.out.below b)
          have hB1 := Lib.hid (below_then hB0.out b)
          have hI1 := Lib.hid (ints_below hI0.out b)
          clear b hX0 hR0 hB0 hI0
          obtain ⟨k0, k1, k2⟩ := hX1.out.cells
          go_wp2_with fail
          refine (C2.out _).mono ?_
          rintro e w2 ⟨rfl, b⟩
          have z2 := b.size
          have hX2 := Lib.hid (hX1.out.below b)
          have hR2 := Lib.hid (hR1.out.below b)
          have hB2 := Lib.hid (below_then hB1.out b)
          have hI2 := Lib.hid (ints_below hI1.out b)
          clear b hX1 hR1 hB1 hI1
          clear k0 k1 k2
          obtain ⟨k0, k1, k2⟩ := hX2.out.cells
          go_wp2_with fail
          refine (C3.out _).mono ?_
          rintro e w3 ⟨rfl, rfl⟩
          have hX3 := Lib.hid hX2.out
          have hR3 := Lib.hid hR2.out
          have hB3 := Lib.hid hB2.out
          have hI3 := Lib.hid hI2.out
          clear hX2 hR2 hB2 hI2
          clear k0 k1 k2
          obtain ⟨k0, k1, k2⟩ := hX3.out.cells
          go_wp2_with fail
          refine (C4.out _).mono ?_
          rintro e w4 ⟨rfl, b⟩
          have z4 := b.size
          have hX4 := Lib.hid (hX3.out.below b)
          have hR4 := Lib.hid (hR3.out.below b)
          have hB4 := Lib.hid (below_then hB3.out b)
          have hI4 := Lib.hid (ints_below hI3.out b)
          clear b hX3 hR3 hB3 hI3
          clear k0 k1 k2
          go_wp2
          have hob : w.heap.size + 1 < w4.heap.size := by omega
          obtain ⟨i0, hi0', hz0, hz1, hz2⟩ := info_parts infoInt
          have hinv : SubInv w w4.heap.size W H P Q X Y a l c 0 0 (w4.alloc (.cells #[.int .i64 P, .int .i64 Q, .slice none 0 0] 26)) := by
            refine ⟨.slice none 0 0, Box.new _ _ _ _ _, hX4.out.alloc _, hR4.out.alloc _, ?_, below_then hB4.out (below_all _ _), ints_alloc hI4.out _⟩
            rw [laidS_zero]
            exact World.ownsRow_nil _ _ _ _
          have HINV := Lib.hid hinv
          clear hinv hX4 hR4 hB4 hI4 C1 C2 C3 C4
          generalize w4.heap.size = ob at *
          go_loopw [13] (fun i wr => ∃ v : Nat, v ≤ Q ∧ i = .int .i64 v ∧ SubInv w ob W H P Q X Y a l c v 0 wr) (fun i _ => Q - (intOf i).toNat)
          case atStart => exact ⟨0, Nat.zero_le _, rfl, HINV.out⟩
          case round =>
            obtain ⟨v, hv, rfl, hS⟩ := hrel
            have HS := Lib.hid hS
            clear hS HINV
            by_cases hlt : v < Q
            · have hi : (v : Int) < (Q : Int) := by omega
              go_wp2
              go_loopw [14] (fun i wr => ∃ u : Nat, u ≤ P ∧ i = .int .i64 u ∧ SubInv w ob W H P Q X Y a l c v u wr) (fun i _ => P - (intOf i).toNat)
              case atStart => exact ⟨0, Nat.zero_le _, rfl, HS.out⟩
              case round =>
                clear HS
                rename_i wr' _ _
                obtain ⟨u, hu, rfl, hS⟩ := hrel
                by_cases hlt2 : u < P
                · obtain ⟨out, hO, hX, hR, hown, hB, hI⟩ := hS
                  obtain ⟨k0, k1, k2⟩ := hX.cells
                  obtain ⟨o0, o1, o2⟩ := hO.cells
                  have of := hO.frozen 2
                  have hi2 : (u : Int) < (P : Int) := by omega
                  have hfit := sub_fits n9 n10 hlt HLL.out
                  obtain ⟨k, hk⟩ : ∃ k, (Y + v) * W + X + u = k := ⟨_, rfl⟩
                  have hkl : k < l.length := by omega
                  have hkk : ((Y : Int) + (v : Int)) * (W : Int) + ((X : Int) + (u : Int)) = (k : Int) := by rw [← hk]; push_cast; omega
                  have hY0 : 0 ≤ ((Y : Int) + (v : Int)) * (W : Int) := Int.mul_nonneg (by omega) (by omega)
                  have hY1 : ((Y : Int) + (v : Int)) * (W : Int) ≤ 64 := by
                    have h2 : (Y + v) * W ≤ 8 * 8 := Nat.mul_le_mul (by omega) n2
                    have h3 : (((Y + v) * W : Nat) : Int) = ((Y : Int) + (v : Int)) * (W : Int) := by push_cast; rfl
                    omega
                  have HAt := Lib.hid (specAt_any (W : Int) (H : Int) a l c wr.heap.size ((X : Int) + (u : Int)) ((Y : Int) + (v : Int)) k wr.drew hI (Nat.le_refl _) hkl hn hkk hY0 hY1 (by omega) (by omega))
                  have hcell := laidS_cell (l := l) (W := W) (X := X) (Y := Y) (P := P) (Q := Q) (v := v) (u := u) (by omega)
                  simp only [hk] at hcell
                  have HCELL := Lib.hid hcell
                  have hlen : (laidS l W X Y P Q v u).length ≤ 64 := by
                    rw [laidS_length n9 n10 HLL.out hlt (by omega)]
                    have h2 : v * P + P ≤ Q * P := by have := Nat.mul_le_mul_right P (show v + 1 ≤ Q by omega); rw [Nat.add_mul] at this; omega
                    have h3 : Q * P ≤ 8 * 8 := Nat.mul_le_mul n8 n6
                    omega
                  have HO := Lib.hid hO
                  have HX := Lib.hid hX
                  have HR := Lib.hid hR
                  have HOWN := Lib.hid hown
                  have HB := Lib.hid hB
                  have HI := Lib.hid hI
                  generalize l[k] = z at *
                  generalize hxs : laidS l W X Y P Q v u = xs at *
                  have HXS := Lib.hid hxs
                  clear hcell hxs hO hX hR hown hB hI hk hkk hY0 hY1 hkl hfit
                  have s1 : IntKind.i64.wrap ((X : Int) + (u : Int)) = (X : Int) + (u : Int) := IntWalk.i64_in _ (by omega)
                  have s2 : IntKind.i64.wrap ((Y : Int) + (v : Int)) = (Y : Int) + (v : Int) := IntWalk.i64_in _ (by omega)
                  go_wp2
                  have zo := HO.out.lt
                  go_region_law (first
                    | (refine step_append_lies _ (by rfl) _ _ _ (by rfl) (ob + 1) 3 i0 _ 1 8 Try.underlying24 hi0' hz0 hz1 hz2 rfl (by omega) out xs.length (iv xs) (by rfl) (HOWN2.out.alloc _) ⟨w7.heap.size, 0, none⟩ 1 1 [.int .i64 z] (by rfl) (by rfl) (cell_one_new _ _ _) (by simp [Value.oneCell']) (by omega) (by unfold maxLen; omega) (by omega) (by simp <;> omega) (w7.heap.size + 1) (by simp) ?_; intro gg cap w8 hown8 hgrow8 hat8 hlt8; have HO8 := Lib.hid ((HO7.out.alloc _).grown hgrow8 (Ne.symm (own_ne_box HOWN2.out HO7.out (by decide)))); have f8 := HO8.out.frozen 2; obtain ⟨d0, d1, d2⟩ := HO8.out.cells)
                    | (go_simp; go_at_call 51; refine HAt.out.mono ?_; rintro e w7 ⟨rfl, b7⟩; have b7' : Below wr.heap.size wr w7 := below_then ((Drew.more (Drew.refl wr) 1).below _) b7; have z7 : wr.heap.size ≤ w7.heap.size := b7'.size; have zq : ob < w7.heap.size := (by omega); have zq2 : ¬ ob = w7.heap.size := (by omega); have zq3 : w.heap.size < w7.heap.size := (by omega); have zq4 : ¬ w.heap.size = w7.heap.size := (by omega); have HOWN2 := Lib.hid (own_keeps HOWN.out b7'); have HO7 := Lib.hid (HO.out.below b7'); have HX7 := Lib.hid (HX.out.below b7'); have HR7 := Lib.hid (HR.out.below b7'); have HB7 := Lib.hid (below_then HB.out b7'); obtain ⟨k0, k1, k2⟩ := HX7.out.cells; obtain ⟨o0, o1, o2⟩ := HO7.out.cells; clear b7 b7'))
                  all_goals
                    have HOWN8 := Lib.hid hown8
                    have hne8 := Lib.hid (own_ne_box hown8 HO8.out (by decide))
                    have HX8 := Lib.hid ((HX7.out.alloc (.cells #[.int .i64 z] 3)).grown hgrow8 (Ne.symm (own_ne_box HOWN2.out HX7.out (by decide))))
                    have HR8 := Lib.hid ((HR7.out.alloc (.cells #[.int .i64 z] 3)).grown hgrow8 (Ne.symm (own_ne_box HOWN2.out HR7.out (by decide))))
                    have HB8 := Lib.hid ((HB7.out.alloc (by omega) (.cells #[.int .i64 z] 3)).grown hgrow8 (by simp; omega) (fun j hj => by have := (HOWN2.out.lt j hj).1; omega))
                    clear hown8 hgrow8 hat8
                    go_wp2
                    go_roundw
                    case rel => exact ⟨u + 1, by omega, by go_num, _, HO8.out.set _, HX8.out.other (by simp <;> omega) _, HR8.out.other (by simp <;> omega) _, by rw [HCELL.out, iv_snoc, List.length_append]; exact own_setBox HOWN8.out hne8.out _ _, HB8.out.setCell (by simp <;> omega) _, (HA0.out.below (HB8.out.setCell (p := ⟨ob, 2, none⟩) (by simp <;> omega) _) (Nat.le_refl _)).more (by have := HB8.out.size; simp [World.setCell]; exact this)⟩
                    case measure => simp [intOf]; omega
                · obtain rfl : u = P := by omega
                  have hrow := laidS_row (l := l) (W := W) (X := X) (Y := Y) (P := u) hlt
                  have HROW := Lib.hid hrow
                  have HS := Lib.hid hS
                  clear hS hrow
                  go_wp2
                  go_roundw
                  case rel => exact ⟨v + 1, by omega, by go_num, by have h := HS.out; unfold SubInv at h ⊢; rw [← HROW.out]; exact h⟩
                  case measure => simp [intOf]; omega
            · obtain rfl : v = Q := by omega
              obtain ⟨out, hO, hX, hR, hown, hB, hI⟩ := HS.out
              have hall := laidS_all l W X Y P v
              rw [hall] at hown
              obtain ⟨a', c', hv', ho⟩ := ownI_of hown rfl
              subst hv'
              obtain ⟨o0, o1, o2⟩ := hO.cells
              obtain ⟨r0, r1, r2⟩ := hR.cells
              have g0 := hR.frozen 0
              have g1 := hR.frozen 1
              have g2 := hR.frozen 2
              have HO2 := Lib.hid ho
              have HB := Lib.hid hB
              generalize (subRows l W X Y P v).flatten = rl at *
              clear HS hall hown hO hX hR hB hI ho
              go_wp2
              refine bodyPost_ret (v := .tuple #[.agg #[.int .i64 P, .int .i64 v, .slice a' rl.length c'], .bool true]) (by simp [results, Try.results15, go_sem, r0, r1, r2]) rfl ⟨a', c', rfl, ?_, ?_⟩
              · exact (ownI_set (ownI_set (ownI_set HO2.out (by omega) _) (by omega) _) (by omega) _).more (by omega)
              · exact ((HB.out.setCell (by simp) _).setCell (by simp) _).setCell (by simp) _
end Go.Proofs.Ytglpkfkbbjbjjaa
