/- The model's copy of a field, and its SetCell. -/
import Derived.Test.YtgfgimpglaepaabDoorMake
import Derived.Test.YtgfgimpglaepaabDoorHas
namespace Go.Proofs.YtgfgimpglaepaabDoor
open Go.RowKit
set_option linter.unusedVariables false
set_option linter.unusedSimpArgs false
def setR (wd hg : Int) (l : List Int) (x y v : Int) : Option (Int × Int × List Int) := if (goodB wd hg l && inB wd hg x y && cellB v) = true then some (wd, hg, l.set (place wd x y) v) else none
theorem setR_no {wd hg : Int} {l : List Int} {x y v : Int} (h : (goodB wd hg l && inB wd hg x y && cellB v) = false) : setR wd hg l x y v = none := if_neg (by rw [h]; simp)
theorem setR_yes {wd hg : Int} {l : List Int} {x y v : Int} (h : (goodB wd hg l && inB wd hg x y && cellB v) = true) : setR wd hg l x y v = some (wd, hg, l.set (place wd x y) v) := if_pos h
theorem setR_len (wd hg : Int) (l : List Int) (x y v : Int) : (rL (setR wd hg l x y v)).length ≤ 64 := by
  cases h : (goodB wd hg l && inB wd hg x y && cellB v) with
  | false => rw [setR_no h]; simp [rL]
  | true =>
    rw [setR_yes h]
    have hs : goodB wd hg l = true := by simp at h; exact h.1.1
    have := good_le hs
    simp [rL]; omega

set_option maxHeartbeats 1000000 in
theorem l1Own_any (a : Option Addr) (l : List Int) (c : Nat) (w : World) (hl : Ints .i64 w w.heap.size a l) (hn : l.length ≤ 1048576) (h0 : 0 < l.length) :
    Calls Tryd.prog 61 #[.slice a l.length c] w (IntsPost l w) := by
  obtain ⟨i0, hi0', hz0, hz1, hz2⟩ := info_parts infoInt
  rcases hl with rfl | ⟨b, o, rfl, hb, hc⟩
  · simp at h0
  · have HC : Hid (∀ j u, (iv l)[j]? = some u → (w.alloc (.cells #[] 3)).cell? ((⟨b, o, none⟩ : Addr).add j) = some u) := by
      refine Lib.hid ?_
      intro j u hu
      obtain ⟨hj, hu⟩ := List.getElem?_eq_some_iff.1 hu
      rw [iv_length] at hj
      have e : (⟨b, o, none⟩ : Addr).add j = ⟨b, o + j, none⟩ := by unfold Addr.add; split <;> simp_all
      rw [e, World.cell?_alloc_lt _ _ _ (by simpa using hb), hc j hj, ← hu, iv_get]
    have HO := Lib.hid (World.ownsRow_made (base := w.heap.size) (e := 3) (size := 1) w #[] 0 (Nat.le_refl _) (by simp) rfl)
    clear hc
    go_enter Tryd.func61, Tryd.ntmps61
    go_wp2_with (at_builtin; refine wpList_append_own _ rfl _ _ 24 rfl w.heap.size 3 i0 (.int .i64 0) 1 8 Tryd.underlying24 hi0' hz0 hz1 hz2 rfl (by decide) _ 0 [] rfl HO.out ⟨b, o, none⟩ l.length c (iv l) rfl (by rw [iv_length]; simp) HC.out (iv_one l) (by unfold maxLen; omega) (by omega) (by simp) ?_; intro v' w1 hown' hgrow _; rw [Nat.zero_add, List.nil_append] at hown'; have HB := Lib.hid ((below_all w _).grown hgrow (by simp) (fun k hk => (HO.out.lt k hk).1)); obtain ⟨a', c', hv, ho⟩ := ownI_of hown' rfl; subst hv; have HO1 := Lib.hid ho; clear hown' hgrow ho)
    go_ret
    exact ⟨a', c', rfl, HO1.out, HB.out⟩

set_option maxRecDepth 100000 in
set_option maxHeartbeats 1000000 in
theorem l2Own_any (wd hg : Int) (a : Option Addr) (l : List Int) (c : Nat) (w : World) (hl : Ints .i64 w w.heap.size a l) (hn : l.length ≤ 1048576) (h0 : 0 < l.length) :
    Calls Tryd.prog 36 #[.agg #[.int .i64 wd, .int .i64 hg, .slice a l.length c]] w (FOne wd hg l w) := by
  have HW := Lib.hid (fun W h => l1Own_any a l c W h hn h0)
  have I0 := Lib.hid (ints_below (ints_alloc (ints_alloc hl (.cells #[.int .i64 wd, .int .i64 hg, .slice a l.length c] 26)) (.cells #[.int .i64 0, .int .i64 0, .slice none 0 0] 26)) ((Drew.more (Drew.refl _) 1).below _))
  have X0 := (Box.new w 26 (.int .i64 wd) (.int .i64 hg) (.slice a l.length c)).alloc (.cells #[.int .i64 0, .int .i64 0, .slice none 0 0] 26)
  have R0 := Box.new (w.alloc (.cells #[.int .i64 wd, .int .i64 hg, .slice a l.length c] 26)) 26 (.int .i64 0) (.int .i64 0) (.slice none 0 0)
  rw [World.size_alloc] at R0
  have B0 := (below_all w (.cells #[.int .i64 wd, .int .i64 hg, .slice a l.length c] 26)).alloc (by simp) (.cells #[.int .i64 0, .int .i64 0, .slice none 0 0] 26)
  clear hl
  go_enter Tryd.func36, Tryd.ntmps36
  go_wp2_with fail
  obtain ⟨W, hW⟩ : ∃ W, (w.alloc (.cells #[.int .i64 wd, .int .i64 hg, .slice a l.length c] 26)).alloc (.cells #[.int .i64 0, .int .i64 0, .slice none 0 0] 26) = W := ⟨_, rfl⟩
  have sW : W.heap.size = w.heap.size + 2 := by rw [← hW]; simp
  rw [hW] at I0 X0 R0 B0 ⊢
  have HX := Lib.hid X0
  have HR := Lib.hid R0
  have HB := Lib.hid B0
  obtain ⟨k0, k1, k2⟩ := X0.cells
  clear hW X0 R0 B0
  go_region_held3 (fun w' => w'.cell? ⟨w.heap.size, 0, none⟩ = some (.int .i64 wd) ∧ w'.cell? ⟨w.heap.size, 1, none⟩ = some (.int .i64 hg) ∧ w'.cell? ⟨w.heap.size, 2, none⟩ = some (.slice a l.length c))
    (first | exact X1.cells | go_keep)
    (first
      | (go_at_call 61; refine (HW.out _ I0.out).mono ?_; rintro e w1 ⟨a1, c1, rfl, o1, b1⟩; have X1 := (HX.out.below (w' := W.drew) ((Drew.more (Drew.refl W) 1).below _)).below b1; have R1 := (HR.out.below (w' := W.drew) ((Drew.more (Drew.refl W) 1).below _)).below b1; obtain ⟨r0, r1, r2⟩ := R1.cells; have g0 := R1.frozen 0; have g1 := R1.frozen 1; have g2 := R1.frozen 2; have B1 := Lib.hid (below_then (below_then HB.out ((Drew.more (Drew.refl W) 1).below _)) b1)))
  rename_i hHeld
  clear hHeld
  have HO := Lib.hid (o1.more (C := w.heap.size + 2) (by show w.heap.size + 2 ≤ W.heap.size; omega))
  clear o1 b1 X1 R1 k0 k1 k2
  go_wp2
  refine bodyPost_ret (v := .agg #[.int .i64 wd, .int .i64 hg, .slice a1 l.length c1]) (by simp [results, Tryd.results36, go_sem, r0, r1, r2]) rfl ⟨a1, c1, rfl, ?_, ?_⟩
  · exact (ownI_set (ownI_set (ownI_set HO.out (by omega) _) (by omega) _) (by omega) _).more (by omega)
  · exact ((B1.out.setCell (by simp) _).setCell (by simp) _).setCell (by simp) _

set_option maxRecDepth 100000 in
set_option maxHeartbeats 2000000 in
theorem specSet_any (wd hg : Int) (a : Option Addr) (l : List Int) (c : Nat) (x y v : Int) (w : World) (hl : Ints .i64 w w.heap.size a l) (hn : l.length ≤ 1048576) :
    Calls Tryd.prog 9 #[.agg #[.int .i64 wd, .int .i64 hg, .slice a l.length c], .int .i64 x, .int .i64 y, .int .i64 v] w (FRet (setR wd hg l x y v) w) := by
  have I0 := ints_alloc (ints_alloc hl (.cells #[.int .i64 wd, .int .i64 hg, .slice a l.length c] 26)) (.cells #[.int .i64 0, .int .i64 0, .slice none 0 0] 26)
  have X0 := (Box.new w 26 (.int .i64 wd) (.int .i64 hg) (.slice a l.length c)).alloc (.cells #[.int .i64 0, .int .i64 0, .slice none 0 0] 26)
  have R0 := Box.new (w.alloc (.cells #[.int .i64 wd, .int .i64 hg, .slice a l.length c] 26)) 26 (.int .i64 0) (.int .i64 0) (.slice none 0 0)
  rw [World.size_alloc] at R0
  have B0 := (below_all w (.cells #[.int .i64 wd, .int .i64 hg, .slice a l.length c] 26)).alloc (by simp) (.cells #[.int .i64 0, .int .i64 0, .slice none 0 0] 26)
  have HX0 := Lib.hid X0
  have HR0 := Lib.hid R0
  have HB0 := Lib.hid B0
  have HI0 := Lib.hid I0
  clear hl X0 R0 B0 I0
  cases hgd : goodB wd hg l with
  | false =>
    rw [setR_no (by rw [hgd]; rfl)]
    have HC := Lib.hid (specGood_is wd hg a l c _ false _ HI0.out (Nat.le_refl _) hn hgd)
    clear hgd
    go_enter Tryd.func9, Tryd.ntmps9
    go_wp2_with fail
    refine HC.out.mono ?_
    rintro e w1 ⟨rfl, b1⟩
    have R1 := HR0.out.below b1
    have HB := Lib.hid (below_then HB0.out b1)
    obtain ⟨r0, r1, r2⟩ := R1.cells
    have g0 := R1.frozen 0
    have g1 := R1.frozen 1
    have g2 := R1.frozen 2
    clear b1 R1
    go_wp2
    refine bodyPost_ret (v := .tuple #[.agg #[.int .i64 0, .int .i64 0, .slice none 0 0], .bool false]) (by simp [results, Tryd.results9, go_sem, r0, r1, r2]) rfl ⟨none, 0, rfl, OwnI.none_, ?_⟩
    exact ((HB.out.setCell (by simp) _).setCell (by simp) _).setCell (by simp) _
  | true =>
    have HC := Lib.hid (specGood_is wd hg a l c _ true _ HI0.out (Nat.le_refl _) hn hgd)
    have hs := good_shape hgd
    cases hh : inB wd hg x y with
    | false =>
      rw [setR_no (by rw [hgd, hh]; rfl)]
      have HH := Lib.hid (fun W => specHas_is wd hg a l.length c x y false W hs hh)
      clear hgd hh hs
      go_enter Tryd.func9, Tryd.ntmps9
      go_wp2_with fail
      refine HC.out.mono ?_
      rintro e w1 ⟨rfl, b1⟩
      have HX1 := Lib.hid (HX0.out.below b1)
      have HR1 := Lib.hid (HR0.out.below b1)
      have HB1 := Lib.hid (below_then HB0.out b1)
      obtain ⟨k0, k1, k2⟩ := HX1.out.cells
      clear b1
      go_wp2_with fail
      refine (HH.out _).mono ?_
      rintro e w2 ⟨rfl, b2⟩
      have R2 := HR1.out.below b2
      have HB := Lib.hid (below_then HB1.out b2)
      obtain ⟨r0, r1, r2⟩ := R2.cells
      have g0 := R2.frozen 0
      have g1 := R2.frozen 1
      have g2 := R2.frozen 2
      clear b2 R2 k0 k1 k2
      go_wp2
      refine bodyPost_ret (v := .tuple #[.agg #[.int .i64 0, .int .i64 0, .slice none 0 0], .bool false]) (by simp [results, Tryd.results9, go_sem, r0, r1, r2]) rfl ⟨none, 0, rfl, OwnI.none_, ?_⟩
      exact ((HB.out.setCell (by simp) _).setCell (by simp) _).setCell (by simp) _
    | true =>
      have HH := Lib.hid (fun W => specHas_is wd hg a l.length c x y true W hs hh)
      cases hv : cellB v with
      | false =>
        rw [setR_no (by rw [hgd, hh, hv]; rfl)]
        have HV := Lib.hid (fun W => specValue_is v false W hv)
        clear hgd hh hs hv
        go_enter Tryd.func9, Tryd.ntmps9
        go_wp2_with fail
        refine HC.out.mono ?_
        rintro e w1 ⟨rfl, b1⟩
        have HX1 := Lib.hid (HX0.out.below b1)
        have HR1 := Lib.hid (HR0.out.below b1)
        have HB1 := Lib.hid (below_then HB0.out b1)
        obtain ⟨k0, k1, k2⟩ := HX1.out.cells
        clear b1
        go_wp2_with fail
        refine (HH.out _).mono ?_
        rintro e w2 ⟨rfl, b2⟩
        have R2 := HR1.out.below b2
        have HB := Lib.hid (below_then HB1.out b2)
        obtain ⟨r0, r1, r2⟩ := R2.cells
        have g0 := R2.frozen 0
        have g1 := R2.frozen 1
        have g2 := R2.frozen 2
        clear b2 R2 k0 k1 k2
        go_wp2_with (go_at_call 35; refine (HV.out _).mono ?_; rintro e w3 ⟨rfl, rfl⟩)
        refine bodyPost_ret (v := .tuple #[.agg #[.int .i64 0, .int .i64 0, .slice none 0 0], .bool false]) (by simp [results, Tryd.results9, go_sem, r0, r1, r2]) rfl ⟨none, 0, rfl, OwnI.none_, ?_⟩
        exact ((HB.out.setCell (by simp) _).setCell (by simp) _).setCell (by simp) _
      | true =>
        rw [setR_yes (by rw [hgd, hh, hv]; rfl)]
        have HV := Lib.hid (fun W => specValue_is v true W hv)
        obtain ⟨p1, p2, p3, p4⟩ := place_int hs hh
        have hpl := place_lt hgd hh
        have hx := inB_iff.1 hh
        have hx8 := shapeB_iff.1 hs
        have hx0 : 0 ≤ x := hx.1.1
        have hx9 : x ≤ 8 := by omega
        have h64 := good_le hgd
        have HW := Lib.hid (fun W h => l2Own_any wd hg a l c W h hn (by omega))
        generalize place wd x y = k at *
        have P1 := Lib.hid p1
        clear hgd hh hs hv p1 p2 hx hx8
        go_enter Tryd.func9, Tryd.ntmps9
        go_wp2_with fail
        refine HC.out.mono ?_
        rintro e w1 ⟨rfl, b1⟩
        have HX1 := Lib.hid (HX0.out.below b1)
        have HR1 := Lib.hid (HR0.out.below b1)
        have HB1 := Lib.hid (below_then HB0.out b1)
        have HI1 := Lib.hid (ints_below HI0.out b1)
        obtain ⟨k0, k1, k2⟩ := HX1.out.cells
        have z1 := b1.size
        simp at z1
        clear b1
        go_wp2_with fail
        refine (HH.out _).mono ?_
        rintro e w2 ⟨rfl, b2⟩
        have HX2 := Lib.hid (HX1.out.below b2)
        have HR2 := Lib.hid (HR1.out.below b2)
        have HB2 := Lib.hid (below_then HB1.out b2)
        have HI2 := Lib.hid (ints_below HI1.out b2)
        have z2 := b2.size
        clear b2 k0 k1 k2
        obtain ⟨k0, k1, k2⟩ := HX2.out.cells
        go_wp2_with (first | (go_at_call 35; refine (HV.out _).mono ?_; rintro e w3 ⟨rfl, rfl⟩) | fail)
        refine (HW.out _ HI2.out).mono ?_
        rintro e w3 ⟨a3, c3, rfl, o3, b3⟩
        have z3 := b3.size
        have HX3 := HX2.out.below b3
        have HR3 := HR2.out.below b3
        have HB3 := Lib.hid (below_then HB2.out b3)
        clear k0 k1 k2
        obtain ⟨k0, k1, k2⟩ := HX3.cells
        obtain ⟨r0, r1, r2⟩ := HR3.cells
        have g0 := HR3.frozen 0
        have g1 := HR3.frozen 1
        have g2 := HR3.frozen 2
        obtain ⟨g, hg1, hg2⟩ := o3
        rcases hg2 with hnil | ⟨rfl, hrow⟩
        · rw [hnil] at hpl; simp at hpl
        · have hcell := hrow.cell (k := k) (by rw [iv_length]; exact hpl)
          have hfz := hrow.frozen k
          have hglt := hrow.lt
          rw [iv_get] at hcell
          generalize l[k] = z at hcell
          have HROW := Lib.hid (hrow.set k (.int .i64 v))
          rw [iv_set] at HROW
          have hi : (k : Int) < (l.length : Int) := by omega
          have hi0 : (0 : Int) ≤ (k : Int) := by omega
          have p1 := P1.out
          have q0 : w.heap.size + 1 < g := by omega
          have q1 : w.heap.size < w3.heap.size := by omega
          have q2 : ¬ w.heap.size = w3.heap.size := by omega
          have q3 : w.heap.size + 1 < w3.heap.size := by omega
          have q4 : ¬ w.heap.size + 1 = w3.heap.size := by omega
          have q5 : ¬ g = w3.heap.size := by omega
          have q6 : ¬ w3.heap.size = g := by omega
          have q7 : ¬ w.heap.size + 1 = g := by omega
          have q8 : ¬ g = w.heap.size + 1 := by omega
          clear hrow b3 HX3 HR3
          go_wp2
          refine bodyPost_ret (v := .tuple #[.agg #[.int .i64 wd, .int .i64 hg, .slice (some ⟨g, 0, none⟩) l.length c3], .bool true]) (by simp [results, Tryd.results9, go_sem, r0, r1, r2, q3, q4, q7]) rfl ⟨some ⟨g, 0, none⟩, c3, by simp [rW, rH, rL, rB], ⟨g, by omega, .inr ⟨rfl, ?_⟩⟩, ?_⟩
          · exact (((HROW.out.other (by simp <;> omega) _).other (by simp <;> omega) _).other (by simp <;> omega) _).alloc _
          · exact (((((HB3.out.setCell (by simp <;> omega) _).setCell (by simp) _).setCell (by simp) _).setCell (by simp) _)).alloc (by simp <;> omega) _
end Go.Proofs.YtgfgimpglaepaabDoor
