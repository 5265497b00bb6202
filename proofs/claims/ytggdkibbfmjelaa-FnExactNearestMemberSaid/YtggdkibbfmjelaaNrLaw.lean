/- The walk of FnExactNearestMember. -/
import Derived.Test.YtggdkibbfmjelaaEnNrS
import Derived.Test.YtggdkibbfmjelaaEnNrI
import Derived.Test.YtggdkibbfmjelaaLawRes
namespace Go.Proofs.Ytggdkibbfmjelaa
open Go.RowKit
set_option linter.unusedVariables false
set_option linter.unusedSimpArgs false
set_option maxRecDepth 100000 in
set_option maxHeartbeats 16000000 in
theorem walk_NrLaw (a0 : Option Addr) (es0 : List FE) (c0 : Nat) (wd1 hg1 : Int) (a1 : Option Addr) (l1 : List Int) (c1 : Nat) (w : World) (hl0 : Flds w w.heap.size a0 es0) (hm0 : es0.length ≤ maxLen) (hs0 : ∀ e ∈ es0, e.l.length ≤ maxLen) (hl1 : Ints .i64 w w.heap.size a1 l1) (hm1 : l1.length ≤ maxLen) :
    Calls Try.prog 12 #[.slice a0 es0.length c0, .agg #[.int .i64 wd1, .int .i64 hg1, .slice a1 l1.length c1]] w fun e w' => e = .returned (.bool true) ∧ Below w.heap.size w w' := by
  have HZ0 := Lib.hid (fun W (h : Flds W W.heap.size a0 es0) h1 h2 => szFields_any a0 es0 c0 1048576 W h hm0 hs0 h1 h2)
  have HZ1 := Lib.hid (fun W h1 h2 => szField_any wd1 hg1 a1 l1.length c1 (1048576 - ((es0.length + lenFs es0 : Nat) : Int)) W hm1 h1 h2)
  have G0 := Lib.hid (Below.refl w.heap.size w)
  have HL0 := Lib.hid hl0
  have HL1 := Lib.hid hl1
  unfold maxLen at hm0 hm1 hs0
  by_cases hn0 : ((es0.length + lenFs es0 : Nat) : Int) ≤ 1048576
  · have HY0 := HZ0
    unfold szF at HY0
    rw [if_pos hn0] at HY0
    by_cases hn1 : (l1.length : Int) ≤ (1048576 - ((es0.length + lenFs es0 : Nat) : Int))
    · have HY1 := HZ1
      rw [if_pos hn1] at HY1
      have q0 : es0.length ≤ 1048576 := by omega
      have r0 : lenFs es0 ≤ 1048576 := by omega
      have t0 : ∀ e ∈ es0, e.l.length ≤ 1048576 := fun e h => Nat.le_trans (le_lenFs e h) r0
      have q1 : l1.length ≤ 1048576 := by omega
      have HT0 := Lib.hid (fun W (G : Below w.heap.size w W) => toFields_any a0 es0 c0 W ((hl0.below G (Nat.le_refl _)).more G.size) q0 t0)
      have HT1 := Lib.hid (fun W (G : Below w.heap.size w W) => toField_any wd1 hg1 a1 l1 c1 W ((hl1.below G (Nat.le_refl _)).more G.size) q1)
      have HS : Hid (∀ p0 eq0 p1 W (h0 : Flds W W.heap.size (some ⟨p0, 0, none⟩) eq0) (h1 : Ints .i64 W W.heap.size (some ⟨p1, 0, none⟩) l1) (m0 : eq0.length = es0.length) (n0 : eq0.map FE.plain = es0.map FE.plain), Calls Try.prog 49 #[.slice (some ⟨p0, 0, none⟩) es0.length es0.length, .agg #[.int .i64 wd1, .int .i64 hg1, .slice (some ⟨p1, 0, none⟩) l1.length l1.length]] W fun e w' => e = .returned (.tuple #[.int .i64 (twA (nrR (plains es0) (wd1, hg1, l1))), .int .i64 (twB (nrR (plains es0) (wd1, hg1, l1))), .bool (twO (nrR (plains es0) (wd1, hg1, l1)))]) ∧ Below W.heap.size W w') := Lib.hid (fun p0 eq0 p1 W h0 h1 m0 n0 => by
        have h9 := specNear_any (some ⟨p0, 0, none⟩) eq0 es0.length wd1 hg1 (some ⟨p1, 0, none⟩) l1 l1.length W h0 h1 (by omega) (fun e h => Nat.le_trans (le_lenFs e h) (by rw [lenFs_plain n0]; exact r0)) q1
        rw [m0, show plains eq0 = plains es0 from n0] at h9
        exact h9)
      have HI : Hid (∀ p0 eq0 p1 W (h0 : Flds W W.heap.size (some ⟨p0, 0, none⟩) eq0) (h1 : Ints .i64 W W.heap.size (some ⟨p1, 0, none⟩) l1) (m0 : eq0.length = es0.length) (n0 : eq0.map FE.plain = es0.map FE.plain), Calls Try.prog 51 #[.slice (some ⟨p0, 0, none⟩) es0.length es0.length, .agg #[.int .i64 wd1, .int .i64 hg1, .slice (some ⟨p1, 0, none⟩) l1.length l1.length]] W fun e w' => e = .returned (.tuple #[.int .i64 (twA (nrR (plains es0) (wd1, hg1, l1))), .int .i64 (twB (nrR (plains es0) (wd1, hg1, l1))), .bool (twO (nrR (plains es0) (wd1, hg1, l1)))]) ∧ Below W.heap.size W w') := Lib.hid (fun p0 eq0 p1 W h0 h1 m0 n0 => by
        have h9 := implNear_any p0 eq0 es0.length wd1 hg1 (some ⟨p1, 0, none⟩) l1 l1.length W h0 h1 (by omega) (fun e h => Nat.le_trans (le_lenFs e h) (by rw [lenFs_plain n0]; exact r0)) q1
        rw [m0, show plains eq0 = plains es0 from n0] at h9
        exact h9)
      generalize twA (nrR (plains es0) (wd1, hg1, l1)) = v0 at *
      generalize twB (nrR (plains es0) (wd1, hg1, l1)) = v1 at *
      generalize twO (nrR (plains es0) (wd1, hg1, l1)) = vb at *
      clear hl0 hl1
      go_enter Try.func12, Try.ntmps12
      have BX1 := Lib.hid (Box.new w 32 (.int .i64 wd1) (.int .i64 hg1) (.slice a1 l1.length c1))
      have G1 := Lib.hid (below_all w (.cells #[.int .i64 wd1, .int .i64 hg1, .slice a1 l1.length c1] 32))
      have hsz1 : w.heap.size < (w.alloc (.cells #[.int .i64 wd1, .int .i64 hg1, .slice a1 l1.length c1] 32)).heap.size := by simp
      go_wp2_with fail
      obtain ⟨w11, hw11⟩ : ∃ W, w.alloc (.cells #[.int .i64 wd1, .int .i64 hg1, .slice a1 l1.length c1] 32) = W := ⟨_, rfl⟩
      rw [hw11] at BX1 G1 hsz1 ⊢
      have HSZ := Lib.hid hsz1
      obtain ⟨q0_, q1_, q2_⟩ := BX1.out.cells
      clear hw11 G0 hsz1
      refine (HY0.out _ ((HL0.out.below G1.out (Nat.le_refl _)).more G1.out.size) (by omega) (by omega)).mono ?_
      rintro e w12 ⟨rfl, b2⟩
      have G2 := Lib.hid (below_then G1.out b2)
      have BX2 := Lib.hid (BX1.out.below b2)
      clear b2 G1 BX1
      clear q0_ q1_ q2_
      obtain ⟨q0_, q1_, q2_⟩ := BX2.out.cells
      go_wp2_with fail
      refine (HY1.out _ (by omega) (by omega)).mono ?_
      rintro e w13 ⟨rfl, b3⟩
      have G3 := Lib.hid (below_then G2.out b3)
      have BX3 := Lib.hid (BX2.out.below b3)
      clear b3 G2 BX2
      clear q0_ q1_ q2_
      obtain ⟨q0_, q1_, q2_⟩ := BX3.out.cells
      go_wp2_with fail
      clear HY0 HZ0 HY1 HZ1
      have sb := G3.out.size
--@0
      have dw := (Below.refl w13.heap.size w13).drew
      have GD := Lib.hid (below_then G3.out dw)
      have BD := Lib.hid (BX3.out.below dw)
      clear dw G3
      go_region_held3 (fun w' => w'.cell? ⟨w.heap.size, 0, none⟩ = some (.int .i64 wd1) ∧ w'.cell? ⟨w.heap.size, 1, none⟩ = some (.int .i64 hg1) ∧ w'.cell? ⟨w.heap.size, 2, none⟩ = some (.slice a1 l1.length c1))
        (first | (with_reducible exact BX33.out.cells) | (with_reducible exact BX32.out.cells) | (with_reducible exact BX31.out.cells) | (with_reducible exact BD.out.cells) | go_keep)
        (first
          | (go_at_call 50; ((with_reducible refine (HT0.out _ GD.out).mono ?_)); rintro e w31 ⟨f31, hf31, lk31, rfl, ow31, b31⟩; have G31 := Lib.hid (below_then GD.out b31); have BX31 := Lib.hid (BD.out.below b31); have u31 := ow31.u; have P31 := Lib.hid ow31; have eP := Lib.hid (And.intro hf31 (like_plain hf31 lk31)); clear ow31 lk31 hf31 b31)
          | (go_at_call 20; ((with_reducible refine (HT1.out _ G31.out).mono ?_)); rintro e w32 ⟨g32, hg32, hz32, rfl, at32, b32⟩; have G32 := Lib.hid (below_then G31.out b32); have BX32 := Lib.hid (BX31.out.below b32); have s32 := b32.size; have P32 := Lib.hid (P31.out.below b32 (by omega)); have Q32 := Lib.hid at32; clear at32 b32)
          | (go_at_call 49; refine (HS.out _ _ _ _ (P32.out.flds.more (by omega)) Q32.out.ints eP.out.1 eP.out.2).mono ?_; rintro e w33 ⟨rfl, b33⟩; have G33 := Lib.hid (below_then G32.out b33); have BX33 := Lib.hid (BX32.out.below b33); clear b33))
      rename_i hHeld
      clear hHeld BD GD BX3 G31 BX31 P31 G32 BX32 P32 Q32 eP q0_ q1_ q2_
      obtain ⟨q0_, q1_, q2_⟩ := BX33.out.cells
      have G23 := G33
      have BX23 := BX33
      clear G33 BX33
      go_wp2_with fail
--@1
      refine (HT0.out _ G23.out).mono ?_
      rintro e w34 ⟨f24, hf24, lk24, rfl, ow24, b24⟩
      have s24 := b24.size
      have G24 := Lib.hid (below_then G23.out b24)
      have BX24 := Lib.hid (BX23.out.below b24)
      clear b24 G23 BX23
      clear q0_ q1_ q2_
      obtain ⟨q0_, q1_, q2_⟩ := BX24.out.cells
      have X024 := Lib.hid ow24
      have eX0 := Lib.hid (And.intro hf24 (like_plain hf24 lk24))
      have ubX0 := ow24.u
      clear hf24 lk24 ow24
      go_wp2_with fail
--@2
      refine (HT1.out _ G24.out).mono ?_
      rintro e w35p ⟨g25, hg25_, hz25_, rfl, at25, b25⟩
      have bb25 := below_then b25 (below_all w35p (.cells #[.int .i64 wd1, .int .i64 hg1, .slice (some ⟨g25, 0, none⟩) l1.length l1.length] 34))
      have Y25 := Lib.hid (Box.new w35p 34 (.int .i64 wd1) (.int .i64 hg1) (.slice (some ⟨g25, 0, none⟩) l1.length l1.length))
      have X125 := Lib.hid (at25.alloc (.cells #[.int .i64 wd1, .int .i64 hg1, .slice (some ⟨g25, 0, none⟩) l1.length l1.length] 34))
      obtain ⟨w35, hW25⟩ : ∃ W, w35p.alloc (.cells #[.int .i64 wd1, .int .i64 hg1, .slice (some ⟨g25, 0, none⟩) l1.length l1.length] 34) = W := ⟨_, rfl⟩
      rw [hW25] at bb25 Y25 X125
      obtain ⟨bY, hbY⟩ : ∃ q, w35p.heap.size = q := ⟨_, rfl⟩
      rw [hbY] at Y25
      clear b25 at25
      have b25 := bb25
      clear bb25
      have s25 := b25.size
      have G25 := Lib.hid (below_then G24.out b25)
      have BX25 := Lib.hid (BX24.out.below b25)
      have X025 := Lib.hid (X024.out.below b25 (by omega))
      clear b25 G24 BX24 X024
      clear q0_ q1_ q2_
      obtain ⟨q0_, q1_, q2_⟩ := BX25.out.cells
      obtain ⟨y0_, y1_, y2_⟩ := Y25.out.cells
      go_wp2_with fail
      clear y0_ y1_ y2_
--@3
      refine (HI.out _ _ _ _ (X025.out.flds.more (by omega)) X125.out.ints eX0.out.1 eX0.out.2).mono ?_
      rintro e w36 ⟨rfl, b26⟩
      have s26 := b26.size
      have G26 := Lib.hid (below_then G25.out b26)
      have BX26 := Lib.hid (BX25.out.below b26)
      have X026 := Lib.hid (X025.out.below b26 (by omega))
      have X126 := Lib.hid (X125.out.below b26)
      have Y26 := Lib.hid (Y25.out.below b26)
      clear b26 G25 BX25 X025 X125 Y25
      clear q0_ q1_ q2_
      obtain ⟨q0_, q1_, q2_⟩ := BX26.out.cells
      clear hbY hW25
      all_goals skip
      cases vb <;> (go_wp2_with fail)
      all_goals
--@4
        refine (HT0.out _ G26.out).mono ?_
        rintro e w37 ⟨f27, hf27, lk27, rfl, ow27, b27⟩
        have s27 := b27.size
        have G27 := Lib.hid (below_then G26.out b27)
        have BX27 := Lib.hid (BX26.out.below b27)
        have X027 := Lib.hid (X026.out.below b27 (by omega))
        have X127 := Lib.hid (X126.out.below b27)
        have Y27 := Lib.hid (Y26.out.below b27)
        clear b27 G26 BX26 X026 X126 Y26
        clear q0_ q1_ q2_
        obtain ⟨q0_, q1_, q2_⟩ := BX27.out.cells
        have E27 := Lib.hid ow27
        have eE := Lib.hid (And.intro hf27 (like_plain hf27 lk27))
        have ubE := ow27.u
        clear hf27 lk27 ow27
        go_wp2_with fail
        refine (eqFields_n _ _ _ _ es0.length _ _ _ (X027.out.flds.more (by omega)) (E27.out.flds.more (by omega)) eX0.out.1 (eE.out.2.trans eX0.out.2.symm) q0 (by rw [lenFs_plain eX0.out.2]; exact r0)).mono ?_
        rintro e w38 ⟨rfl, b28⟩
        have s28 := b28.size
        have G28 := Lib.hid (below_then G27.out b28)
        have BX28 := Lib.hid (BX27.out.below b28)
        have X028 := Lib.hid (X027.out.below b28 (by omega))
        have X128 := Lib.hid (X127.out.below b28)
        have Y28 := Lib.hid (Y27.out.below b28)
        have E28 := Lib.hid (E27.out.below b28 (by omega))
        clear b28 G27 BX27 X027 X127 Y27 E27
        clear q0_ q1_ q2_
        obtain ⟨q0_, q1_, q2_⟩ := BX28.out.cells
        clear E28 eE ubE
        clear X028 eX0 ubX0
        go_wp2_with fail
        obtain ⟨y0_, y1_, y2_⟩ := Y28.out.cells
        have dw := (Below.refl w38.heap.size w38).drew
        have GD := Lib.hid (below_then G28.out dw)
        have BD := Lib.hid (BX28.out.below dw)
        have YD := Lib.hid (Y28.out.below dw)
        have XD := Lib.hid (X128.out.below dw)
        clear dw
        go_region_held3 (fun w' => (w'.cell? ⟨w.heap.size, 0, none⟩ = some (.int .i64 wd1) ∧ w'.cell? ⟨w.heap.size, 1, none⟩ = some (.int .i64 hg1) ∧ w'.cell? ⟨w.heap.size, 2, none⟩ = some (.slice a1 l1.length c1)) ∧ (w'.cell? ⟨bY, 0, none⟩ = some (.int .i64 wd1) ∧ w'.cell? ⟨bY, 1, none⟩ = some (.int .i64 hg1) ∧ w'.cell? ⟨bY, 2, none⟩ = some (.slice (some ⟨g25, 0, none⟩) l1.length l1.length)))
          (first | (with_reducible exact ⟨B8.out.cells, Y8.out.cells⟩) | (with_reducible exact ⟨B7.out.cells, Y7.out.cells⟩) | (with_reducible exact ⟨BD.out.cells, YD.out.cells⟩) | go_keep)
          (first
            | (go_at_call 20; ((with_reducible refine (HT1.out _ GD.out).mono ?_)); rintro e w7 ⟨g7, hg7, hz7, rfl, at7, b7⟩; have G7 := Lib.hid (below_then GD.out b7); have B7 := Lib.hid (BD.out.below b7); have Y7 := Lib.hid (YD.out.below b7); have X7 := Lib.hid (XD.out.below b7); have F7 := Lib.hid at7; clear at7 b7)
            | (go_at_call 22; ((with_reducible refine (eqField_yes wd1 hg1 _ _ l1 _ _ _ X7.out.ints F7.out.ints q1).mono ?_)); rintro e w8 ⟨rfl, b8⟩; have G8 := Lib.hid (below_then G7.out b8); have B8 := Lib.hid (B7.out.below b8); have Y8 := Lib.hid (Y7.out.below b8); clear b8))
        go_wp2
        go_ret
        exact ⟨rfl, G8.out⟩
    · have HY1 := HZ1
      rw [if_neg hn1] at HY1
      go_enter Try.func12, Try.ntmps12
      have BX1 := Lib.hid (Box.new w 32 (.int .i64 wd1) (.int .i64 hg1) (.slice a1 l1.length c1))
      have G1 := Lib.hid (below_all w (.cells #[.int .i64 wd1, .int .i64 hg1, .slice a1 l1.length c1] 32))
      have hsz1 : w.heap.size < (w.alloc (.cells #[.int .i64 wd1, .int .i64 hg1, .slice a1 l1.length c1] 32)).heap.size := by simp
      go_wp2_with fail
      obtain ⟨w11, hw11⟩ : ∃ W, w.alloc (.cells #[.int .i64 wd1, .int .i64 hg1, .slice a1 l1.length c1] 32) = W := ⟨_, rfl⟩
      rw [hw11] at BX1 G1 hsz1 ⊢
      have HSZ := Lib.hid hsz1
      obtain ⟨q0_, q1_, q2_⟩ := BX1.out.cells
      clear hw11 G0 hsz1
      refine (HY0.out _ ((HL0.out.below G1.out (Nat.le_refl _)).more G1.out.size) (by omega) (by omega)).mono ?_
      rintro e w12 ⟨rfl, b2⟩
      have G2 := Lib.hid (below_then G1.out b2)
      have BX2 := Lib.hid (BX1.out.below b2)
      clear b2 G1 BX1
      clear q0_ q1_ q2_
      obtain ⟨q0_, q1_, q2_⟩ := BX2.out.cells
      go_wp2_with fail
      refine (HY1.out _ (by omega) (by omega)).mono ?_
      rintro e w13 ⟨rfl, b3⟩
      have G3 := Lib.hid (below_then G2.out b3)
      have BX3 := Lib.hid (BX2.out.below b3)
      clear b3 G2 BX2
      clear q0_ q1_ q2_
      obtain ⟨q0_, q1_, q2_⟩ := BX3.out.cells
      go_wp2_with fail
      go_ret
      exact ⟨rfl, G3.out⟩
  · have HY0 := HZ0
    unfold szF at HY0
    rw [if_neg hn0] at HY0
    go_enter Try.func12, Try.ntmps12
    have BX1 := Lib.hid (Box.new w 32 (.int .i64 wd1) (.int .i64 hg1) (.slice a1 l1.length c1))
    have G1 := Lib.hid (below_all w (.cells #[.int .i64 wd1, .int .i64 hg1, .slice a1 l1.length c1] 32))
    have hsz1 : w.heap.size < (w.alloc (.cells #[.int .i64 wd1, .int .i64 hg1, .slice a1 l1.length c1] 32)).heap.size := by simp
    go_wp2_with fail
    obtain ⟨w11, hw11⟩ : ∃ W, w.alloc (.cells #[.int .i64 wd1, .int .i64 hg1, .slice a1 l1.length c1] 32) = W := ⟨_, rfl⟩
    rw [hw11] at BX1 G1 hsz1 ⊢
    have HSZ := Lib.hid hsz1
    obtain ⟨q0_, q1_, q2_⟩ := BX1.out.cells
    clear hw11 G0 hsz1
    refine (HY0.out _ ((HL0.out.below G1.out (Nat.le_refl _)).more G1.out.size) (by omega) (by omega)).mono ?_
    rintro e w12 ⟨rfl, b2⟩
    have G2 := Lib.hid (below_then G1.out b2)
    have BX2 := Lib.hid (BX1.out.below b2)
    clear b2 G1 BX1
    clear q0_ q1_ q2_
    obtain ⟨q0_, q1_, q2_⟩ := BX2.out.cells
    go_wp2_with fail
    go_ret
    exact ⟨rfl, G2.out⟩
end Go.Proofs.Ytggdkibbfmjelaa
