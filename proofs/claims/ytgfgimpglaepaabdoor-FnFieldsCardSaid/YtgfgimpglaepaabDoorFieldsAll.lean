/- The draws of FnFields: DrawSetCell, DrawParseField. The program's SetCell. The program's SetCell: its result has room for its cells. CellAt, the model's and the program's. SplitString, the program's, at a separator of one byte. Contracts of spec.l1Sum and impl.Checksum. spec.l1Stands: whether a byte stands in a text. AppendChecksum: the text, '#', and the decimal checksum. FnExactAppendChecksum: model and program seal a text alike. impl.ParseInt: the number whose text this is. The library's sentinels in later worlds; the bounds of a number that is read. parseCell, parseRow: the program's reading of a line. parseRow. The program's ParseField. The program's ParseField: a text that ends with a line's end. l2Parse of the model on texts that are not too long. ParseField, the model's and the program's. The mathematics of FnFields: a value that is set is found, and set back; a field's text is read back. The program's ParseField: its result has room for its cells. The laws' vInts and vField on fields that read alike: true. The model's IsValidField; the walk of the law FnExactIsValidField. The program's FieldText; the model's, whole. A region that draws its order, reads, and calls what may make memory: walked once, in the class of the worlds in which all that lay lies unturned. The walk of FnFields. -/
import Derived.Test.YtgfgimpglaepaabDoorFieldDraws
import Derived.Test.YtgfgimpglaepaabDoorFieldDraw2
import Derived.Test.YtgfgimpglaepaabDoorSpoilt
import Derived.Test.YtgfgimpglaepaabDoorText
import Derived.Test.YtgfgimpglaepaabDoorPfMath2
import Derived.Test.YtgfgimpglaepaabDoorGrid
import Derived.Test.YtgfgimpglaepaabDoorSet
import Derived.Test.YtgfgimpglaepaabDoorHas
import Derived.Test.YtgfgimpglaepaabDoorSplitImpl
import Derived.Test.YtgfgimpglaepaabDoorClone
import Derived.Test.YtgfgimpglaepaabDoorSplit
import Derived.Test.YtgfgimpglaepaabDoorChecked
import Derived.Test.YtgfgimpglaepaabDoorMath
import Derived.WalkKit
import Derived.WalkLawsBesides
import Derived.WalkSpells
import Derived.Below
import Derived.Lib.Hide
import Derived.Test.YtgfgimpglaepaabDoorJoinMath
import Derived.Test.YtgfgimpglaepaabDoorFormat
import Derived.Lib.Bytealg
import Derived.Test.YtgfgimpglaepaabDoorTab
import Derived.Test.YtgfgimpglaepaabDoorParseMath
import Derived.Test.YtgfgimpglaepaabDoorShelfAtoi
import Derived.Test.YtgfgimpglaepaabDoorPfMath
import Derived.Test.YtgfgimpglaepaabDoorShelfSuf
import Derived.Test.YtgfgimpglaepaabDoorMake
import Derived.Test.YtgfgimpglaepaabDoorPfSpec
import Derived.Test.YtgfgimpglaepaabDoorPfSpecM
import Derived.Test.YtgfgimpglaepaabDoorFieldLaw
import Derived.Test.YtgfgimpglaepaabDoorBox
import Derived.Test.YtgfgimpglaepaabDoorFr
import Derived.Deep.QuietTactic
import Derived.BigQuiet
import Derived.Deep.DeepCutAuto
namespace Go.Proofs.YtgfgimpglaepaabDoor
open Go.RowKit
set_option linter.unusedVariables false
set_option linter.unusedSimpArgs false
set_option maxRecDepth 100000 in
set_option maxHeartbeats 4000000 in
theorem drawSet_any (w : World) (a : Option Addr) (l : List Int) (c : Nat) (hi : Ints .u8 w w.heap.size a l) (hb : ∀ z ∈ l, 0 ≤ z ∧ z ≤ 255) (hl : l.length ≤ 1048576) :
    Calls Tryd.prog 7 #[.slice a l.length c] w fun e w' => ∃ (wd hg : Int) (L : List Int) (a1 : Addr) (c1 : Nat) (x y v : Int), L.length ≤ 64 ∧ L.length ≤ c1 ∧ e = .returned (.tuple #[.agg #[.int .i64 wd, .int .i64 hg, .slice (some a1) L.length c1], .int .i64 x, .int .i64 y, .int .i64 v]) ∧ Own2 w' w.heap.size (some a1) L ∧ Below w.heap.size w w' := by
  have i1 := ints_alloc hi (.cells #[.int .i64 0, .int .i64 0, .slice none 0 0] 26)
  have hcn := cur_new (w.alloc (.cells #[.int .i64 0, .int .i64 0, .slice none 0 0] 26)) a l c i1 hb hl
  rw [World.size_alloc] at hcn
  obtain ⟨W0, hW0⟩ : ∃ W, (w.alloc (.cells #[.int .i64 0, .int .i64 0, .slice none 0 0] 26)).alloc (.cells #[.slice a l.length c, .int .i64 0, .int .u64 0] 49) = W := ⟨_, rfl⟩
  rw [hW0] at hcn
  have C0 := Lib.hid hcn
  have R0 := Lib.hid (show Box W0 w.heap.size 26 (.int .i64 0) (.int .i64 0) (.slice none 0 0) by rw [← hW0]; exact (Box.new w _ _ _ _).alloc _)
  have B0 := Lib.hid (show Below w.heap.size w W0 by rw [← hW0]; exact ((below_all w _).alloc (by simp) _))
  clear hi hb hcn i1
  go_enter Tryd.func7, Tryd.ntmps7
  go_wp2_with fail
  refine (anyField_any W0 (w.heap.size + 1) a l c 0 (by omega) C0.out).mono ?_
  rintro e w1 ⟨wd, hg, L, a1, c1, ⟨m1, m2, m3, m4, m5, m6⟩, rfl, o1, hc, ho⟩
  have hz0 := C0.out.lt
  have R1 := Lib.hid (R0.out.turn ho (by omega))
  have B1 := Lib.hid (below_grown B0.out ho (by omega))
  have C1 := Lib.hid hc
  have O1 := Lib.hid o1
  clear hc ho o1 R0 B0 C0
  go_wp2_with fail
  refine (pick_any w1 (w.heap.size + 1) a l c _ 5 (by omega) (by omega) (by omega) C1.out).mono ?_
  rintro e w2 ⟨v, ⟨r2, hr2, rfl⟩, rfl, hc, ho⟩
  have R2 := Lib.hid (R1.out.turn ho.1 (by omega))
  have B2 := Lib.hid (below_grown B1.out ho.1 (by omega))
  have C2 := Lib.hid hc
  have O2 := Lib.hid (O1.out.turn ho.1 (by omega))
  clear hc ho R1 B1 C1 O1
  go_wp2_with fail
  refine (pick_any w2 (w.heap.size + 1) a l c _ 9 (by omega) (by omega) (by omega) C2.out).mono ?_
  rintro e w3 ⟨v, ⟨r3, hr3, rfl⟩, rfl, hc, ho⟩
  have R3 := Lib.hid (R2.out.turn ho.1 (by omega))
  have B3 := Lib.hid (below_grown B2.out ho.1 (by omega))
  have C3 := Lib.hid hc
  have O3 := Lib.hid (O2.out.turn ho.1 (by omega))
  clear hc ho R2 B2 C2 O2
  go_wp2_with fail
  refine (pick_any w3 (w.heap.size + 1) a l c _ 5 (by omega) (by omega) (by omega) C3.out).mono ?_
  rintro e w4 ⟨v, ⟨r4, hr4, rfl⟩, rfl, hc, ho⟩
  have R4 := Lib.hid (R3.out.turn ho.1 (by omega))
  have B4 := Lib.hid (below_grown B3.out ho.1 (by omega))
  have C4 := Lib.hid hc
  have O4 := Lib.hid (O3.out.turn ho.1 (by omega))
  have hz4 := C4.out.lt
  have hLIT := lit_ints w4 [0, 7, -7, 9000, -9000, 9001, -9999, -9998] 3
  have C5 := Lib.hid (C4.out.alloc (.cells #[.int .i64 0, .int .i64 7, .int .i64 (-7), .int .i64 9000, .int .i64 (-9000), .int .i64 9001, .int .i64 (-9999), .int .i64 (-9998)] 3))
  have R5 := Lib.hid (R4.out.alloc (.cells #[.int .i64 0, .int .i64 7, .int .i64 (-7), .int .i64 9000, .int .i64 (-9000), .int .i64 9001, .int .i64 (-9999), .int .i64 (-9998)] 3))
  have B5 := Lib.hid (B4.out.alloc B4.out.size (.cells #[.int .i64 0, .int .i64 7, .int .i64 (-7), .int .i64 9000, .int .i64 (-9000), .int .i64 9001, .int .i64 (-9999), .int .i64 (-9998)] 3))
  have O5 := Lib.hid (O4.out.below (below_all w4 (.cells #[.int .i64 0, .int .i64 7, .int .i64 (-7), .int .i64 9000, .int .i64 (-9000), .int .i64 9001, .int .i64 (-9999), .int .i64 (-9998)] 3)))
  clear hc ho R3 B3 C3 O3 R4 B4 C4 O4
  go_wp2_with fail
  refine (among_any _ (w.heap.size + 1) a l c _ w4.heap.size 8 [0, 7, -7, 9000, -9000, 9001, -9999, -9998] (by omega) rfl (by omega) (by omega) C5.out (by omega) (by simp) hLIT 8).mono ?_
  rintro e w6 ⟨v, ⟨z, hz, rfl⟩, rfl, hc, ho⟩
  have R6 := Lib.hid (R5.out.turn ho.1 (by omega))
  have B6 := Lib.hid (below_grown B5.out ho.1 (by omega))
  have O6 := Lib.hid (O5.out.turn ho.1 (by omega))
  clear hc ho R5 B5 C5 O5 hLIT hz
  obtain ⟨t0, t1, t2⟩ := R6.out.cells
  have g0 := R6.out.frozen 0
  have g1 := R6.out.frozen 1
  have g2 := R6.out.frozen 2
  go_wp2
  refine bodyPost_ret (v := .tuple #[.agg #[.int .i64 wd, .int .i64 hg, .slice (some a1) L.length c1], .int .i64 ((r2 : Int) - (r3 : Int) / 8), .int .i64 (r4 : Int), .int .i64 z]) (by simp [results, Tryd.results7, go_sem, t0, t1, t2]) rfl ⟨wd, hg, L, a1, c1, _, _, z, m1, m2, rfl, ?_, ?_⟩
  · exact (((O6.out.set (by omega) _).set (by omega) _).set (by omega) _).more (by omega)
  · exact ((B6.out.setCell (Nat.le_refl _) _).setCell (Nat.le_refl _) _).setCell (Nat.le_refl _) _
set_option maxRecDepth 100000 in
set_option maxHeartbeats 4000000 in
theorem drawPf_any (w : World) (a : Option Addr) (l : List Int) (c : Nat) (hi : Ints .u8 w w.heap.size a l) (hb : ∀ z ∈ l, 0 ≤ z ∧ z ≤ 255) (hl : l.length ≤ 1048576) :
    Calls Tryd.prog 16 #[.slice a l.length c] w fun e w' => ∃ t : ByteArray, t.size ≤ 4000 ∧ e = .returned (.string t) ∧ Below w.heap.size w w' := by
  have C0 := Lib.hid (cur_new w a l c hi hb hl)
  have B0 := Lib.hid (below_all w (.cells #[.slice a l.length c, .int .i64 0, .int .u64 0] 49))
  clear hi hb
  go_enter Tryd.func16, Tryd.ntmps16
  go_wp2_with fail
  refine (gfield_any _ _ a l c 0 (by omega) C0.out).mono ?_
  rintro e w1 ⟨wd, hg, L, a1, c1, hgd, hcp, rfl, o1, hc, ho⟩
  have C1 := Lib.hid hc
  have B1 := Lib.hid (below_grown B0.out ho (Nat.le_refl _))
  have O1 := Lib.hid o1.ints
  obtain ⟨W, H, rfl, rfl, n1, n2, n3, n4, hLL⟩ := good_nat hgd
  have hcb := Lib.hid (good_all hgd)
  have hbd : ∀ v ∈ L, -9999 ≤ v ∧ v ≤ 9000 := fun v hv => by
    have := cellB_iff.1 (hcb.out v hv)
    omega
  have HT := Lib.hid (fun W' h => l2Text_any W H a1 L c1 W' h n1 n2 n3 n4 hLL hbd)
  have hts : (⟨(textT (chunks L W H)).toArray⟩ : ByteArray).size ≤ 999 := by
    show (textT (chunks L W H)).toArray.size ≤ 999
    rw [List.size_toArray]
    have h8 := text_len (R := chunks L W H) (fun r hr => by
      have h1 := chunks_each hLL r hr
      refine ⟨by omega, by omega, fun v hv => ?_⟩
      unfold chunks at hr
      obtain ⟨j, _, rfl⟩ := List.mem_map.1 hr
      exact hcb.out v (List.mem_of_mem_drop (List.mem_of_mem_take hv)))
    rw [chunks_length] at h8
    omega
  clear hc ho o1 B0 C0 hgd hLL hbd
  generalize (⟨(textT (chunks L W H)).toArray⟩ : ByteArray) = t at *
  have HTS := Lib.hid hts
  clear hts
  go_wp2_with fail
  refine (HT.out _ O1.out).mono ?_
  rintro e w2 ⟨rfl, b2⟩
  have C2 := Lib.hid (C1.out.below b2)
  have B2 := Lib.hid (below_then B1.out b2)
  clear b2 C1 B1 HT O1
  go_wp2_with fail
  refine (one_any w2 w.heap.size a l c _ 4 (by omega) (by omega) (by omega) C2.out).mono ?_
  rintro e w3 ⟨v, ⟨b, rfl⟩, rfl, hc, ho⟩
  have C3 := Lib.hid hc
  have B3 := Lib.hid (below_grown B2.out ho.1 (Nat.le_refl _))
  clear hc ho C2 B2
  cases b with
  | false =>
    go_wp2
    go_ret
    exact ⟨t, by have := HTS.out; omega, rfl, B3.out⟩
  | true =>
    go_wp2_with fail
    refine (spoilt_any w3 w.heap.size a l c _ t ⟨#[49, 32, 46, 10, 45]⟩ (by omega) (by have := HTS.out; omega) (by decide) (by decide) C3.out).mono ?_
    rintro e w4 ⟨v, ⟨s, hs, rfl⟩, rfl, hc, ho⟩
    have B4 := Lib.hid (below_grown B3.out ho.1 (Nat.le_refl _))
    clear hc ho C3 B3
    go_wp2
    go_ret
    exact ⟨s, by have := HTS.out; omega, rfl, B4.out⟩
end Go.Proofs.YtgfgimpglaepaabDoor
namespace Go.Proofs.YtgfgimpglaepaabDoor
open Go.RowKit
set_option linter.unusedVariables false
set_option linter.unusedSimpArgs false
set_option maxRecDepth 100000 in
set_option maxHeartbeats 2000000 in
theorem implSet_any (wd hg : Int) (a : Option Addr) (l : List Int) (c : Nat) (x y v : Int) (w : World) (hl : Ints .i64 w w.heap.size a l) (hn : l.length ≤ 1048576) (hcap : l.length ≤ c) :
    Calls Tryd.prog 8 #[.agg #[.int .i64 wd, .int .i64 hg, .slice a l.length c], .int .i64 x, .int .i64 y, .int .i64 v] w (FRet (setR wd hg l x y v) w) := by
  have I0 := ints_alloc (ints_alloc hl (.cells #[.int .i64 wd, .int .i64 hg, .slice a l.length c] 26)) (.cells #[.int .i64 0, .int .i64 0, .slice none 0 0] 26)
  have X0 := (Box.new w 26 (.int .i64 wd) (.int .i64 hg) (.slice a l.length c)).alloc (.cells #[.int .i64 0, .int .i64 0, .slice none 0 0] 26)
  have R0 := Box.new (w.alloc (.cells #[.int .i64 wd, .int .i64 hg, .slice a l.length c] 26)) 26 (.int .i64 0) (.int .i64 0) (.slice none 0 0)
  rw [World.size_alloc] at R0
  have B0 := (below_all w (.cells #[.int .i64 wd, .int .i64 hg, .slice a l.length c] 26)).alloc (by simp) (.cells #[.int .i64 0, .int .i64 0, .slice none 0 0] 26)
  have HX0 := Lib.hid X0
  have HR0 := Lib.hid R0
  have HB0 := Lib.hid B0
  have HI0 := Lib.hid I0
  clear hl X0 R0 B0 I0
  cases hgd : goodB wd hg l with
  | false =>
    rw [setR_no (by rw [hgd]; rfl)]
    have HC := Lib.hid (implGood_is wd hg a l c _ false _ HI0.out (Nat.le_refl _) hn hgd)
    clear hgd
    go_enter Tryd.func8, Tryd.ntmps8
    go_wp2_with fail
    refine HC.out.mono ?_
    rintro e w1 ⟨rfl, b1⟩
    have R1 := HR0.out.below b1
    have HB := Lib.hid (below_then HB0.out b1)
    obtain ⟨r0, r1, r2⟩ := R1.cells
    have g0 := R1.frozen 0
    have g1 := R1.frozen 1
    have g2 := R1.frozen 2
    clear b1 R1
    go_wp2
    refine bodyPost_ret (v := .tuple #[.agg #[.int .i64 0, .int .i64 0, .slice none 0 0], .bool false]) (by simp [results, Tryd.results8, go_sem, r0, r1, r2]) rfl ⟨none, 0, rfl, OwnI.none_, ?_⟩
    exact ((HB.out.setCell (by simp) _).setCell (by simp) _).setCell (by simp) _
  | true =>
    have HC := Lib.hid (implGood_is wd hg a l c _ true _ HI0.out (Nat.le_refl _) hn hgd)
    have hs := good_shape hgd
    cases hh : inB wd hg x y with
    | false =>
      rw [setR_no (by rw [hgd, hh]; rfl)]
      have HH := Lib.hid (fun W => implHas_is wd hg a l.length c x y false W hh)
      clear hgd hh hs
      go_enter Tryd.func8, Tryd.ntmps8
      go_wp2_with fail
      refine HC.out.mono ?_
      rintro e w1 ⟨rfl, b1⟩
      have HX1 := Lib.hid (HX0.out.below b1)
      have HR1 := Lib.hid (HR0.out.below b1)
      have HB1 := Lib.hid (below_then HB0.out b1)
      obtain ⟨k0, k1, k2⟩ := HX1.out.cells
      clear b1
      go_wp2_with fail
      refine (HH.out _).mono ?_
      rintro e w2 ⟨rfl, b2⟩
      have R2 := HR1.out.below b2
      have HB := Lib.hid (below_then HB1.out b2)
      obtain ⟨r0, r1, r2⟩ := R2.cells
      have g0 := R2.frozen 0
      have g1 := R2.frozen 1
      have g2 := R2.frozen 2
      clear b2 R2 k0 k1 k2
      go_wp2
      refine bodyPost_ret (v := .tuple #[.agg #[.int .i64 0, .int .i64 0, .slice none 0 0], .bool false]) (by simp [results, Tryd.results8, go_sem, r0, r1, r2]) rfl ⟨none, 0, rfl, OwnI.none_, ?_⟩
      exact ((HB.out.setCell (by simp) _).setCell (by simp) _).setCell (by simp) _
    | true =>
      have HH := Lib.hid (fun W => implHas_is wd hg a l.length c x y true W hh)
      cases hv : cellB v with
      | false =>
        rw [setR_no (by rw [hgd, hh, hv]; rfl)]
        have HV := Lib.hid (fun W => implCell_is v false W hv)
        clear hgd hh hs hv
        go_enter Tryd.func8, Tryd.ntmps8
        go_wp2_with fail
        refine HC.out.mono ?_
        rintro e w1 ⟨rfl, b1⟩
        have HX1 := Lib.hid (HX0.out.below b1)
        have HR1 := Lib.hid (HR0.out.below b1)
        have HB1 := Lib.hid (below_then HB0.out b1)
        obtain ⟨k0, k1, k2⟩ := HX1.out.cells
        clear b1
        go_wp2_with fail
        refine (HH.out _).mono ?_
        rintro e w2 ⟨rfl, b2⟩
        have R2 := HR1.out.below b2
        have HB := Lib.hid (below_then HB1.out b2)
        obtain ⟨r0, r1, r2⟩ := R2.cells
        have g0 := R2.frozen 0
        have g1 := R2.frozen 1
        have g2 := R2.frozen 2
        clear b2 R2 k0 k1 k2
        go_wp2_with (go_at_call 30; refine (HV.out _).mono ?_; rintro e w3 ⟨rfl, rfl⟩)
        refine bodyPost_ret (v := .tuple #[.agg #[.int .i64 0, .int .i64 0, .slice none 0 0], .bool false]) (by simp [results, Tryd.results8, go_sem, r0, r1, r2]) rfl ⟨none, 0, rfl, OwnI.none_, ?_⟩
        exact ((HB.out.setCell (by simp) _).setCell (by simp) _).setCell (by simp) _
      | true =>
        rw [setR_yes (by rw [hgd, hh, hv]; rfl)]
        have HV := Lib.hid (fun W => implCell_is v true W hv)
        obtain ⟨p1, p2, p3, p4⟩ := place_int hs hh
        have hpl := place_lt hgd hh
        have hx := inB_iff.1 hh
        have hx8 := shapeB_iff.1 hs
        have hx0 : 0 ≤ x := hx.1.1
        have hx9 : x ≤ 8 := by omega
        have h64 := good_le hgd
        obtain ⟨WW, HH', rfl, rfl, hW1, hW2, hH1, hH2, hLL⟩ := good_nat hgd
        have HLL := Lib.hid hLL
        have HRO := Lib.hid (fun b o W => rowsOf_any WW HH' b o l.length c W hW1 hW2 hH1 hH2 hLL hcap)
        have HFR := Lib.hid (fun g W C A => fieldOfRows_any g 0 HH' HH' WW (chunks l WW HH') A C W (chunks_length _ _ _) hH1 hH2 hW1 hW2 (chunks_each hLL))
        clear hLL
        generalize place (WW : Int) x y = k at *
        have P1 := Lib.hid p1
        clear hgd hh hs hv p1 p2 hx hx8
        go_enter Tryd.func8, Tryd.ntmps8
        go_wp2_with fail
        refine HC.out.mono ?_
        rintro e w1 ⟨rfl, b1⟩
        have HX1 := Lib.hid (HX0.out.below b1)
        have HR1 := Lib.hid (HR0.out.below b1)
        have HB1 := Lib.hid (below_then HB0.out b1)
        have HI1 := Lib.hid (ints_below HI0.out b1)
        obtain ⟨k0, k1, k2⟩ := HX1.out.cells
        have z1 := b1.size
        simp at z1
        clear b1
        go_wp2_with fail
        refine (HH.out _).mono ?_
        rintro e w2 ⟨rfl, b2⟩
        have HX2 := Lib.hid (HX1.out.below b2)
        have HR2 := Lib.hid (HR1.out.below b2)
        have HB2 := Lib.hid (below_then HB1.out b2)
        have HI2 := Lib.hid (ints_below HI1.out b2)
        have z2 := b2.size
        clear b2 k0 k1 k2
        obtain ⟨k0, k1, k2⟩ := HX2.out.cells
        go_wp2_with (first | (go_at_call 30; refine (HV.out _).mono ?_; rintro e w3 ⟨rfl, rfl⟩) | fail)
        obtain ⟨b, o, rfl⟩ : ∃ b o, a = some ⟨b, o, none⟩ := by
          obtain ⟨b, o, h, _⟩ := HI2.out.at_ hpl
          exact ⟨b, o, h⟩
        refine (HRO.out b o _).mono ?_
        rintro e wm ⟨gm, hgm, rfl, rowm, bm⟩
        have hglm := rowm.lt
        have HIm := (ints_below HI2.out bm)
        have HF := Lib.hid (HFR.out gm wm (fun j => c - j * WW) (fun j => some ⟨b, o + j * WW, none⟩) hglm (fun j hj => by rw [Nat.zero_add, rowm.cell hj]; unfold rowV; rw [if_pos hj]) (fun j hj => chunk_ints (c := c) HIm HLL.out j hj))
        rw [chunks_all HLL.out] at HF
        have HXm := Lib.hid (HX2.out.below bm)
        have HRm := Lib.hid (HR2.out.below bm)
        have HBm := Lib.hid (below_then HB2.out bm)
        have zm := bm.size
        clear bm rowm HIm HX2 HR2 HB2 k0 k1 k2
        obtain ⟨k0, k1, k2⟩ := HXm.out.cells
        go_wp2_with fail
        refine HF.out.mono ?_
        rintro e w3 ⟨a3, c3, rfl, o3, b3⟩
        have z3 := b3.size
        have HX3 := HXm.out.below b3
        have HR3 := HRm.out.below b3
        have HB3 := Lib.hid (below_then HBm.out b3)
        clear k0 k1 k2
        obtain ⟨k0, k1, k2⟩ := HX3.cells
        obtain ⟨r0, r1, r2⟩ := HR3.cells
        have g0 := HR3.frozen 0
        have g1 := HR3.frozen 1
        have g2 := HR3.frozen 2
        obtain ⟨g, hg1, hg2⟩ := o3
        rcases hg2 with hnil | ⟨rfl, hrow⟩
        · rw [hnil] at hpl; simp at hpl
        · have hcell := hrow.cell (k := k) (by rw [iv_length]; exact hpl)
          have hfz := hrow.frozen k
          have hglt := hrow.lt
          rw [iv_get] at hcell
          generalize l[k] = z at hcell
          have HROW := Lib.hid (hrow.set k (.int .i64 v))
          rw [iv_set] at HROW
          have hi : (k : Int) < (l.length : Int) := by omega
          have hi0 : (0 : Int) ≤ (k : Int) := by omega
          have p1 := P1.out
          have q0 : w.heap.size + 1 < g := by omega
          have q1 : w.heap.size < w3.heap.size := by omega
          have q2 : ¬ w.heap.size = w3.heap.size := by omega
          have q3 : w.heap.size + 1 < w3.heap.size := by omega
          have q4 : ¬ w.heap.size + 1 = w3.heap.size := by omega
          have q5 : ¬ g = w3.heap.size := by omega
          have q6 : ¬ w3.heap.size = g := by omega
          have q7 : ¬ w.heap.size + 1 = g := by omega
          have q8 : ¬ g = w.heap.size + 1 := by omega
          clear hrow b3 HX3 HR3
          go_wp2
          refine bodyPost_ret (v := .tuple #[.agg #[.int .i64 WW, .int .i64 HH', .slice (some ⟨g, 0, none⟩) l.length c3], .bool true]) (by simp [results, Tryd.results8, go_sem, r0, r1, r2, q3, q4, q7]) rfl ⟨some ⟨g, 0, none⟩, c3, by simp [rW, rH, rL, rB], ⟨g, by omega, .inr ⟨rfl, ?_⟩⟩, ?_⟩
          · exact (((HROW.out.other (by simp <;> omega) _).other (by simp <;> omega) _).other (by simp <;> omega) _).alloc _
          · exact (((((HB3.out.setCell (by simp <;> omega) _).setCell (by simp) _).setCell (by simp) _).setCell (by simp) _)).alloc (by simp <;> omega) _
end Go.Proofs.YtgfgimpglaepaabDoor
namespace Go.Proofs.YtgfgimpglaepaabDoor
open Go.RowKit
set_option linter.unusedVariables false
set_option linter.unusedSimpArgs false
/-- a field or none is returned, with room for its cells -/
def FRetC (r : Option (Int × Int × List Int)) (w : World) (e : Ending) (w' : World) : Prop :=
  ∃ a c, (rL r).length ≤ c ∧ e = .returned (.tuple #[.agg #[.int .i64 (rW r), .int .i64 (rH r), .slice a (rL r).length c], .bool (rB r)]) ∧ OwnI w' w.heap.size a (rL r) ∧ Below w.heap.size w w'
theorem FRet.c_none {w : World} {e : Ending} {w' : World} (h : FRet none w e w') : FRetC none w e w' := by
  obtain ⟨a, c, h1, h2, h3⟩ := h
  exact ⟨a, c, Nat.zero_le _, h1, h2, h3⟩
set_option maxRecDepth 100000 in
set_option maxHeartbeats 2000000 in
theorem implSet_yes (wd hg : Int) (a : Option Addr) (l : List Int) (c : Nat) (x y v : Int) (w : World) (hl : Ints .i64 w w.heap.size a l) (hn : l.length ≤ 1048576) (hcap : l.length ≤ c) (hgd : goodB wd hg l = true) (hh : inB wd hg x y = true) (hv : cellB v = true) :
    Calls Tryd.prog 8 #[.agg #[.int .i64 wd, .int .i64 hg, .slice a l.length c], .int .i64 x, .int .i64 y, .int .i64 v] w (FRetC (setR wd hg l x y v) w) := by
  have I0 := ints_alloc (ints_alloc hl (.cells #[.int .i64 wd, .int .i64 hg, .slice a l.length c] 26)) (.cells #[.int .i64 0, .int .i64 0, .slice none 0 0] 26)
  have X0 := (Box.new w 26 (.int .i64 wd) (.int .i64 hg) (.slice a l.length c)).alloc (.cells #[.int .i64 0, .int .i64 0, .slice none 0 0] 26)
  have R0 := Box.new (w.alloc (.cells #[.int .i64 wd, .int .i64 hg, .slice a l.length c] 26)) 26 (.int .i64 0) (.int .i64 0) (.slice none 0 0)
  rw [World.size_alloc] at R0
  have B0 := (below_all w (.cells #[.int .i64 wd, .int .i64 hg, .slice a l.length c] 26)).alloc (by simp) (.cells #[.int .i64 0, .int .i64 0, .slice none 0 0] 26)
  have HX0 := Lib.hid X0
  have HR0 := Lib.hid R0
  have HB0 := Lib.hid B0
  have HI0 := Lib.hid I0
  clear hl X0 R0 B0 I0
  have HC := Lib.hid (implGood_is wd hg a l c _ true _ HI0.out (Nat.le_refl _) hn hgd)
  have hs := good_shape hgd
  have HH := Lib.hid (fun W => implHas_is wd hg a l.length c x y true W hh)
  rw [setR_yes (by rw [hgd, hh, hv]; rfl)]
  have HV := Lib.hid (fun W => implCell_is v true W hv)
  obtain ⟨p1, p2, p3, p4⟩ := place_int hs hh
  have hpl := place_lt hgd hh
  have hx := inB_iff.1 hh
  have hx8 := shapeB_iff.1 hs
  have hx0 : 0 ≤ x := hx.1.1
  have hx9 : x ≤ 8 := by omega
  have h64 := good_le hgd
  obtain ⟨WW, HH', rfl, rfl, hW1, hW2, hH1, hH2, hLL⟩ := good_nat hgd
  have HLL := Lib.hid hLL
  have HRO := Lib.hid (fun b o W => rowsOf_any WW HH' b o l.length c W hW1 hW2 hH1 hH2 hLL hcap)
  have HFR := Lib.hid (fun g W C A => fieldOfRows_c g 0 HH' HH' WW (chunks l WW HH') A C W (chunks_length _ _ _) hH1 hH2 hW1 hW2 (chunks_each hLL))
  clear hLL
  generalize place (WW : Int) x y = k at *
  have P1 := Lib.hid p1
  clear hgd hh hs hv p1 p2 hx hx8
  go_enter Tryd.func8, Tryd.ntmps8
  go_wp2_with fail
  refine HC.out.mono ?_
  rintro e w1 ⟨rfl, b1⟩
  have HX1 := Lib.hid (HX0.out.below b1)
  have HR1 := Lib.hid (HR0.out.below b1)
  have HB1 := Lib.hid (below_then HB0.out b1)
  have HI1 := Lib.hid (ints_below HI0.out b1)
  obtain ⟨k0, k1, k2⟩ := HX1.out.cells
  have z1 := b1.size
  simp at z1
  clear b1
  go_wp2_with fail
  refine (HH.out _).mono ?_
  rintro e w2 ⟨rfl, b2⟩
  have HX2 := Lib.hid (HX1.out.below b2)
  have HR2 := Lib.hid (HR1.out.below b2)
  have HB2 := Lib.hid (below_then HB1.out b2)
  have HI2 := Lib.hid (ints_below HI1.out b2)
  have z2 := b2.size
  clear b2 k0 k1 k2
  obtain ⟨k0, k1, k2⟩ := HX2.out.cells
  go_wp2_with (first | (go_at_call 30; refine (HV.out _).mono ?_; rintro e w3 ⟨rfl, rfl⟩) | fail)
  obtain ⟨b, o, rfl⟩ : ∃ b o, a = some ⟨b, o, none⟩ := by
    obtain ⟨b, o, h, _⟩ := HI2.out.at_ hpl
    exact ⟨b, o, h⟩
  refine (HRO.out b o _).mono ?_
  rintro e wm ⟨gm, hgm, rfl, rowm, bm⟩
  have hglm := rowm.lt
  have HIm := (ints_below HI2.out bm)
  have HF := Lib.hid (HFR.out gm wm (fun j => c - j * WW) (fun j => some ⟨b, o + j * WW, none⟩) hglm (fun j hj => by rw [Nat.zero_add, rowm.cell hj]; unfold rowV; rw [if_pos hj]) (fun j hj => chunk_ints (c := c) HIm HLL.out j hj))
  rw [chunks_all HLL.out] at HF
  have HXm := Lib.hid (HX2.out.below bm)
  have HRm := Lib.hid (HR2.out.below bm)
  have HBm := Lib.hid (below_then HB2.out bm)
  have zm := bm.size
  clear bm rowm HIm HX2 HR2 HB2 k0 k1 k2
  obtain ⟨k0, k1, k2⟩ := HXm.out.cells
  go_wp2_with fail
  refine HF.out.mono ?_
  rintro e w3 ⟨a3, c3, hc3, rfl, o3, b3⟩
  have z3 := b3.size
  have HX3 := HXm.out.below b3
  have HR3 := HRm.out.below b3
  have HB3 := Lib.hid (below_then HBm.out b3)
  clear k0 k1 k2
  obtain ⟨k0, k1, k2⟩ := HX3.cells
  obtain ⟨r0, r1, r2⟩ := HR3.cells
  have g0 := HR3.frozen 0
  have g1 := HR3.frozen 1
  have g2 := HR3.frozen 2
  obtain ⟨g, hg1, hg2⟩ := o3
  rcases hg2 with hnil | ⟨rfl, hrow⟩
  · rw [hnil] at hpl; simp at hpl
  · have hcell := hrow.cell (k := k) (by rw [iv_length]; exact hpl)
    have hfz := hrow.frozen k
    have hglt := hrow.lt
    rw [iv_get] at hcell
    generalize l[k] = z at hcell
    have HROW := Lib.hid (hrow.set k (.int .i64 v))
    rw [iv_set] at HROW
    have hi : (k : Int) < (l.length : Int) := by omega
    have hi0 : (0 : Int) ≤ (k : Int) := by omega
    have p1 := P1.out
    have q0 : w.heap.size + 1 < g := by omega
    have q1 : w.heap.size < w3.heap.size := by omega
    have q2 : ¬ w.heap.size = w3.heap.size := by omega
    have q3 : w.heap.size + 1 < w3.heap.size := by omega
    have q4 : ¬ w.heap.size + 1 = w3.heap.size := by omega
    have q5 : ¬ g = w3.heap.size := by omega
    have q6 : ¬ w3.heap.size = g := by omega
    have q7 : ¬ w.heap.size + 1 = g := by omega
    have q8 : ¬ g = w.heap.size + 1 := by omega
    clear hrow b3 HX3 HR3
    go_wp2
    refine bodyPost_ret (v := .tuple #[.agg #[.int .i64 WW, .int .i64 HH', .slice (some ⟨g, 0, none⟩) l.length c3], .bool true]) (by simp [results, Tryd.results8, go_sem, r0, r1, r2, q3, q4, q7]) rfl ⟨some ⟨g, 0, none⟩, c3, by simpa [rL] using hc3, by simp [rW, rH, rL, rB], ⟨g, by omega, .inr ⟨rfl, ?_⟩⟩, ?_⟩
    · exact (((HROW.out.other (by simp <;> omega) _).other (by simp <;> omega) _).other (by simp <;> omega) _).alloc _
    · exact (((((HB3.out.setCell (by simp <;> omega) _).setCell (by simp) _).setCell (by simp) _).setCell (by simp) _)).alloc (by simp <;> omega) _
theorem implSet_c (wd hg : Int) (a : Option Addr) (l : List Int) (c : Nat) (x y v : Int) (w : World) (hl : Ints .i64 w w.heap.size a l) (hn : l.length ≤ 1048576) (hcap : l.length ≤ c) :
    Calls Tryd.prog 8 #[.agg #[.int .i64 wd, .int .i64 hg, .slice a l.length c], .int .i64 x, .int .i64 y, .int .i64 v] w (FRetC (setR wd hg l x y v) w) := by
  cases h : (goodB wd hg l && inB wd hg x y && cellB v) with
  | false =>
    have h1 := implSet_any wd hg a l c x y v w hl hn hcap
    rw [setR_no h] at h1 ⊢
    exact h1.mono fun _ _ h => h.c_none
  | true =>
    simp only [Bool.and_eq_true] at h
    exact implSet_yes wd hg a l c x y v w hl hn hcap h.1.1 h.1.2 h.2
end Go.Proofs.YtgfgimpglaepaabDoor
namespace Go.Proofs.YtgfgimpglaepaabDoor
open Go.RowKit
set_option linter.unusedVariables false
set_option linter.unusedSimpArgs false
/-- what CellAt answers -/
def cellOk (wd hg : Int) (l : List Int) (x y : Int) : Bool := goodB wd hg l && inB wd hg x y
def cellN (wd hg : Int) (l : List Int) (x y : Int) : Int := if cellOk wd hg l x y = true then l.getD (place wd x y) 0 else 0
theorem cellN_no {wd hg : Int} {l : List Int} {x y : Int} (h : cellOk wd hg l x y = false) : cellN wd hg l x y = 0 := if_neg (by rw [h]; simp)
theorem cellN_yes {wd hg : Int} {l : List Int} {x y : Int} (h : cellOk wd hg l x y = true) (hk : place wd x y < l.length) : cellN wd hg l x y = l[place wd x y] := by
  unfold cellN; rw [if_pos h]; simp [hk]

set_option maxHeartbeats 1000000 in
theorem implCellAt_any (wd hg : Int) (a : Option Addr) (l : List Int) (c : Nat) (x y : Int) (w : World) (hl : Ints .i64 w w.heap.size a l) (hn : l.length ≤ 1048576) :
    Calls Tryd.prog 13 #[.agg #[.int .i64 wd, .int .i64 hg, .slice a l.length c], .int .i64 x, .int .i64 y] w fun e w' => e = .returned (.tuple #[.int .i64 (cellN wd hg l x y), .bool (cellOk wd hg l x y)]) ∧ Below w.heap.size w w' := by
  have HL := Lib.hid (ints_alloc hl (.cells #[.int .i64 wd, .int .i64 hg, .slice a l.length c] 26))
  have X0 := Lib.hid (Box.new w 26 (.int .i64 wd) (.int .i64 hg) (.slice a l.length c))
  clear hl
  cases hgd : goodB wd hg l with
  | false =>
    have hok : cellOk wd hg l x y = false := by unfold cellOk; rw [hgd]; rfl
    rw [cellN_no hok, hok]
    have HC := Lib.hid (implGood_is wd hg a l c _ false _ HL.out (Nat.le_refl _) hn hgd)
    clear hok hgd
    go_enter Tryd.func13, Tryd.ntmps13
    go_wp2_with (go_at_call 11; refine HC.out.mono ?_; rintro e w1 ⟨rfl, b⟩; have HB := Lib.hid b; obtain ⟨k0, k1, k2⟩ := (X0.out.below b).cells; clear b)
    go_ret2
    exact ⟨rfl, below_then (below_all _ _) HB.out⟩
  | true =>
    have HC := Lib.hid (implGood_is wd hg a l c _ true _ HL.out (Nat.le_refl _) hn hgd)
    have hs := good_shape hgd
    cases hh : inB wd hg x y with
    | false =>
      have hok : cellOk wd hg l x y = false := by unfold cellOk; rw [hgd, hh]; rfl
      rw [cellN_no hok, hok]
      have HH := Lib.hid (fun W => implHas_is wd hg a l.length c x y false W hh)
      clear hok hgd hh hs
      go_enter Tryd.func13, Tryd.ntmps13
      go_wp2_with fail
      refine HC.out.mono ?_
      rintro e w1 ⟨rfl, b1⟩
      have HB1 := Lib.hid (below_then (below_all _ _) b1)
      obtain ⟨k0, k1, k2⟩ := (X0.out.below b1).cells
      clear b1
      go_wp2_with fail
      refine (HH.out _).mono ?_
      rintro e w2 ⟨rfl, b2⟩
      have HB2 := Lib.hid (below_then HB1.out b2)
      clear b2 HB1
      go_wp2
      go_ret2
      exact ⟨rfl, HB2.out⟩
    | true =>
      have hok : cellOk wd hg l x y = true := by unfold cellOk; rw [hgd, hh]; rfl
      have hpl := place_lt hgd hh
      rw [cellN_yes hok hpl, hok]
      have HH := Lib.hid (fun W => implHas_is wd hg a l.length c x y true W hh)
      obtain ⟨p1, p2, p3, p4⟩ := place_int hs hh
      have hxy := inB_iff.1 hh
      have hss := shapeB_iff.1 hs
      have hx0 : 0 ≤ x := hxy.1.1
      have hx8 : x ≤ 8 := by omega
      clear hok hgd hh hs p2 hxy hss
      go_enter Tryd.func13, Tryd.ntmps13
      generalize place wd x y = k at *
      have P1 := Lib.hid p1
      clear p1
      go_wp2_with fail
      refine HC.out.mono ?_
      rintro e w1 ⟨rfl, b1⟩
      have HB1 := Lib.hid (below_then (below_all _ _) b1)
      have HL1 := Lib.hid (ints_below HL.out b1)
      have X1 := Lib.hid (X0.out.below b1)
      obtain ⟨k0, k1, k2⟩ := X1.out.cells
      clear b1 HL X0
      go_wp2_with fail
      refine (HH.out _).mono ?_
      rintro e w2 ⟨rfl, b2⟩
      have HB2 := Lib.hid (below_then HB1.out b2)
      have HL2 := Lib.hid (ints_below HL1.out b2)
      have X2 := Lib.hid (X1.out.below b2)
      clear b2 HB1 HL1 X1 k0 k1 k2
      obtain ⟨k0, k1, k2⟩ := X2.out.cells
      obtain ⟨b, o, rfl, hb, hc⟩ := HL2.out.at_ hpl
      have hi : (k : Int) < (l.length : Int) := by omega
      have hi0 : (0 : Int) ≤ (k : Int) := by omega
      have p1 := P1.out
      obtain ⟨z, hz⟩ : ∃ z, l[k] = z := ⟨_, rfl⟩
      rw [hz] at hc
      have HZ := Lib.hid hz
      clear hz
      go_wp2
      go_ret2
      exact ⟨by rw [HZ.out]; rfl, HB2.out⟩
end Go.Proofs.YtgfgimpglaepaabDoor
namespace Go.Proofs.YtgfgimpglaepaabDoor
open Go.RowKit
set_option linter.unusedVariables false
/-- the pieces in a row of the call's own -/
def StPost (l : List (List UInt8)) (w : World) (e : Ending) (w' : World) : Prop :=
  ∃ v, e = .returned (.tuple #[v, .bool true]) ∧ w'.ownsRow w.heap.size 9 1 v l.length (txt l) ∧ Below w.heap.size w w'
theorem splitTo_yes (s sep : ByteArray) (w : World) (h1 : s.size ≤ 4000) (h2 : sep.size = 1) : Calls Tryd.prog 43 #[.string s, .string sep] w (StPost (splitL s.data.toList (sep[0].toNat : Int)) w) := by
  refine (callsIn_wide.1 (splitIn s sep w h1 h2 (fun x hx W => clone_is x W (by omega)))).mono ?_
  rintro e W' ⟨v, rfl, hown, hb⟩
  have e1 : (pieces s (sep[0].toNat : Int)).length = (splitL s.data.toList (sep[0].toNat : Int)).length := by unfold pieces; simp
  have e2 : (pieces s (sep[0].toNat : Int)).map Value.string = txt (splitL s.data.toList (sep[0].toNat : Int)) := by unfold txt pieces; rw [List.map_map]; rfl
  rw [e1, e2] at hown
  exact ⟨v, rfl, hown, hb⟩
set_option maxHeartbeats 1000000 in
theorem splitTo_no (s sep : ByteArray) (w : World) (h1 : 4000 < s.size) (h3 : s.size ≤ 1048576) : Calls Tryd.prog 43 #[.string s, .string sep] w fun e w' => (∃ v, e = .returned (.tuple #[v, .bool false])) ∧ Below w.heap.size w w' := by
  have hi : (4000 : Int) < (s.size : Int) := by omega
  go_enter Tryd.func43, Tryd.ntmps43
  go_wp2
  go_ret2
  exact ⟨⟨_, rfl⟩, (Below.refl _ _).alloc (Nat.le_refl _) _⟩
end Go.Proofs.YtgfgimpglaepaabDoor
namespace Go.Proofs.YtgfgimpglaepaabDoor
open Go.RowKit
set_option linter.unusedVariables false

end Go.Proofs.YtgfgimpglaepaabDoor
namespace Go.Proofs.YtgfgimpglaepaabDoor
open Go.RowKit
set_option linter.unusedVariables false

end Go.Proofs.YtgfgimpglaepaabDoor
namespace Go.Proofs.YtgfgimpglaepaabDoor
open Go.RowKit
set_option linter.unusedVariables false
/-- the sealed text -/
def sealL (l : List UInt8) : List UInt8 := l ++ [35] ++ Lib.itoa (ck l)
/-- whether a text can be sealed, and what it becomes -/
def apB (s : ByteArray) : Bool := decide (s.size ≤ 4000) && !hasB s.data.toList 35 && decide ((sealL s.data.toList).length ≤ 4000)
def apS (s : ByteArray) : ByteArray := if apB s = true then ⟨(sealL s.data.toList).toArray⟩ else ⟨#[]⟩
theorem apS_yes {s : ByteArray} (h : apB s = true) : apS s = ⟨(sealL s.data.toList).toArray⟩ := if_pos h
theorem apS_no {s : ByteArray} (h : apB s = false) : apS s = ⟨#[]⟩ := if_neg (by rw [h]; simp)
theorem apB_long {s : ByteArray} (h : 4000 < s.size) : apB s = false := by
  have : decide (s.size ≤ 4000) = false := decide_eq_false (by omega)
  unfold apB; rw [this]; rfl
theorem apB_has {s : ByteArray} (h : hasB s.data.toList 35 = true) : apB s = false := by
  unfold apB; rw [h]; simp
theorem apB_out {s : ByteArray} (h : 4000 < (sealL s.data.toList).length) : apB s = false := by
  have : decide ((sealL s.data.toList).length ≤ 4000) = false := decide_eq_false (by omega)
  unfold apB; rw [this]; simp
theorem apB_yes {s : ByteArray} (h0 : s.size ≤ 4000) (h1 : hasB s.data.toList 35 = false) (h2 : (sealL s.data.toList).length ≤ 4000) : apB s = true := by
  have e0 : decide (s.size ≤ 4000) = true := decide_eq_true h0
  have e2 : decide ((sealL s.data.toList).length ≤ 4000) = true := decide_eq_true h2
  unfold apB; rw [e0, h1, e2]; rfl
theorem sealL_len (s : ByteArray) : (sealL s.data.toList).length = s.size + 1 + (Lib.itoa (ck s.data.toList)).length := by
  simp [sealL]; omega
theorem itoa_ck (l : List UInt8) : (Lib.itoa (ck l)).length ≤ 21 := by
  have := ck_bd l
  exact Lib.itoa_length_le _ (by omega) (by omega)
theorem seal_str (s : ByteArray) (d : List UInt8) (h : d = Lib.itoa (ck s.data.toList)) : s ++ ⟨#[35]⟩ ++ ⟨d.toArray⟩ = (⟨(sealL s.data.toList).toArray⟩ : ByteArray) := by
  subst h; apply ByteArray.ext; simp [sealL]

theorem indexByte_nonneg (l : List UInt8) (c : UInt8) : decide (0 ≤ Lib.indexByte l c) = hasB l c.toNat ∧ -1 ≤ Lib.indexByte l c := by
  induction l with
  | nil => exact ⟨rfl, by simp [Lib.indexByte]⟩
  | cons b r ih =>
    have hb : hasB (b :: r) c.toNat = ((b == c) || hasB r c.toNat) := by
      have : (((b.toNat : Nat) : Int) == ((c.toNat : Nat) : Int)) = (b == c) := by
        rw [Bool.eq_iff_iff, beq_iff_eq, beq_iff_eq]
        exact ⟨fun h => UInt8.toNat_inj.1 (by omega), fun h => by rw [h]⟩
      simp only [hasB, List.any_cons, this]
    unfold Lib.indexByte
    cases e : (b == c) with
    | true => rw [hb, e]; exact ⟨rfl, by simp⟩
    | false =>
      rw [hb, e]
      simp only [Bool.false_eq_true, if_false, Bool.false_or]
      rw [← ih.1]
      cases e2 : (Lib.indexByte r c == -1) with
      | true =>
        have := beq_iff_eq.1 e2
        rw [this]; simp
      | false =>
        have := beq_eq_false_iff_ne.1 e2
        have h3 := ih.2
        simp only [Bool.false_eq_true, if_false]
        exact ⟨decide_eq_decide.2 (by omega), by omega⟩
end Go.Proofs.YtgfgimpglaepaabDoor
namespace Go.Proofs.YtgfgimpglaepaabDoor
open Go.RowKit
set_option linter.unusedVariables false
end Go.Proofs.YtgfgimpglaepaabDoor
namespace Go.Proofs.YtgfgimpglaepaabDoor
open Go.RowKit
set_option linter.unusedVariables false
/-- the two errors of strconv lie in their variables -/
def Errs (w : World) : Prop := (∃ tp p, w.var? Tryd.prog "strconv.ErrSyntax" = some #[.iface tp p]) ∧ ∃ tp p, w.var? Tryd.prog "strconv.ErrRange" = some #[.iface tp p]
theorem bytes_below (w : World) (t : TypeId) (l : ByteArray) : Below w.heap.size w (Lib.bytesWorld w t l) :=
  Lib.bytesWorld_below w t l
theorem str_isl {l : List UInt8} {s : ByteArray} (h : l = s.data.toList) : (l == s.toList) = true := by rw [beq_iff_eq, Lib.toList_data, h]
theorem str_notl {l : List UInt8} {s : ByteArray} (h : l ≠ s.data.toList) : (l == s.toList) = false := by rw [beq_eq_false_iff_ne, Lib.toList_data]; exact h

set_option maxHeartbeats 1000000 in
theorem implParse_ok (s : ByteArray) (v : Int) (w : World) (hs : s.size ≤ 1048576) (ht : Tab w) (h : Lib.atoiAll s.data.toList = .ok v) :
    Calls Tryd.prog 87 #[.string s] w fun e w' => e = .returned (.tuple #[.int .i64 (pN s), .bool (pB s)]) ∧ Below w.heap.size w w' := by
  have HA := Lib.hid ((Tryd.strconv_Atoi_ok s (by omega) v h w).mono (R' := fun e w' => e = .returned (.tuple #[.int .i64 v, .nilIface]) ∧ Below w.heap.size w w') (fun e w' ⟨a, b⟩ => ⟨a, by
    rcases b with rfl | ⟨t, rfl⟩
    · exact Below.refl _ _
    · exact bytes_below w _ t⟩))
  have HF := Lib.hid (fun W (hb : Below w.heap.size w W) => implFormat_any v W (ht.below hb))
  cases hr : inR v with
  | false =>
    have hb : pB s = false := pB_not fun n h0 h1 e => by
      have h2 := atoi_itoa n h0 h1
      rw [e, h] at h2
      injection h2 with h2
      subst h2
      rw [inR_yes h0 h1] at hr; cases hr
    rw [pN_no hb, hb]
    rw [hr, fmtS_no hr] at HF
    clear hb hr h ht
    go_enter Tryd.func87, Tryd.ntmps87
    go_wp2_with (go_at_call 104; refine HA.out.mono ?_; rintro e w1 ⟨rfl, b1⟩; have HB1 := Lib.hid b1; clear b1)
    refine (HF.out _ HB1.out).mono ?_
    rintro e w2 ⟨rfl, b2⟩
    have HB2 := Lib.hid b2
    clear b2
    go_wp2
    go_ret2
    exact ⟨rfl, HB1.out.trans (HB2.out.mono HB1.out.size)⟩
  | true =>
    have hrr := of_decide_eq_true hr
    rw [hr, fmtS_yes hr] at HF
    by_cases hq : Lib.itoa v = s.data.toList
    · obtain ⟨hb, hn⟩ := pB_of hrr.1 hrr.2 hq
      rw [hb, hn]
      have hq2 := str_isl hq
      clear hb hn hr h ht hq hrr
      generalize Lib.itoa v = d at *
      go_enter Tryd.func87, Tryd.ntmps87
      go_wp2_with (go_at_call 104; refine HA.out.mono ?_; rintro e w1 ⟨rfl, b1⟩; have HB1 := Lib.hid b1; clear b1)
      refine (HF.out _ HB1.out).mono ?_
      rintro e w2 ⟨rfl, b2⟩
      have HB2 := Lib.hid b2
      clear b2
      go_wp2
      go_ret2
      exact ⟨rfl, HB1.out.trans (HB2.out.mono HB1.out.size)⟩
    · have hb : pB s = false := pB_not fun n h0 h1 e => by
        have h2 := atoi_itoa n h0 h1
        rw [e, h] at h2
        injection h2 with h2
        subst h2
        exact hq e
      rw [pN_no hb, hb]
      have hq2 := str_notl hq
      clear hb hr h ht hq hrr
      generalize Lib.itoa v = d at *
      go_enter Tryd.func87, Tryd.ntmps87
      go_wp2_with (go_at_call 104; refine HA.out.mono ?_; rintro e w1 ⟨rfl, b1⟩; have HB1 := Lib.hid b1; clear b1)
      refine (HF.out _ HB1.out).mono ?_
      rintro e w2 ⟨rfl, b2⟩
      have HB2 := Lib.hid b2
      clear b2
      go_wp2
      go_ret2
      exact ⟨rfl, HB1.out.trans (HB2.out.mono HB1.out.size)⟩

set_option maxHeartbeats 1000000 in
theorem implParse_err (s : ByteArray) (w : World) (hn : ∀ v, Lib.atoiAll s.data.toList ≠ .ok v)
    (h : Calls Tryd.prog 104 #[.string s] w fun e w' => ∃ (z : Int) (N : Nat), e = .returned (.tuple #[.int .i64 z, .iface 147 (.pointer (some ⟨N, 0, none⟩))]) ∧ Below w.heap.size w w') :
    Calls Tryd.prog 87 #[.string s] w fun e w' => e = .returned (.tuple #[.int .i64 (pN s), .bool (pB s)]) ∧ Below w.heap.size w w' := by
  have hb : pB s = false := pB_not fun n h0 h1 e => by
    have h2 := atoi_itoa n h0 h1
    rw [e] at h2
    exact hn n h2
  rw [pN_no hb, hb]
  have HA := Lib.hid h
  clear h hb hn
  go_enter Tryd.func87, Tryd.ntmps87
  go_wp2_with (go_at_call 104; refine HA.out.mono ?_; rintro e w1 ⟨z, N, rfl, b1⟩; have HB1 := Lib.hid b1; clear b1)
  go_ret2
  exact ⟨rfl, HB1.out⟩

theorem implParse_any (s : ByteArray) (w : World) (hs : s.size ≤ 1048576) (ht : Tab w) (he : Errs w) :
    Calls Tryd.prog 87 #[.string s] w fun e w' => e = .returned (.tuple #[.int .i64 (pN s), .bool (pB s)]) ∧ Below w.heap.size w w' := by
  obtain ⟨⟨tp, p, hv⟩, tp', p', hv'⟩ := he
  cases h : Lib.atoiAll s.data.toList with
  | ok v => exact implParse_ok s v w hs ht h
  | range =>
    exact implParse_err s w (fun v e => by rw [h] at e; cases e) ((Tryd.strconv_Atoi_range_var s (by omega) h tp' p' w hv').mono fun e w' ⟨N, a, _, _, b⟩ => ⟨_, N, a, b⟩)
  | _ =>
    exact implParse_err s w (fun v e => by rw [h] at e; cases e) ((Tryd.strconv_Atoi_syntax_var s (by omega) h tp p w hv).mono fun e w' ⟨N, a, _, _, b⟩ => ⟨_, N, a, b⟩)
end Go.Proofs.YtgfgimpglaepaabDoor
namespace Go.Proofs.YtgfgimpglaepaabDoor
open Go.RowKit
set_option linter.unusedVariables false
theorem syn_global2 : Tryd.prog.globalNamed "strconv.ErrSyntax" = some 2 := by kernel_rfl
theorem ran_global2 : Tryd.prog.globalNamed "strconv.ErrRange" = some 3 := by kernel_rfl
theorem var_below2 {w w' : World} {n : String} {g : Nat} {tp : TypeId} {p : Value} (hg : Tryd.prog.globalNamed n = some g) (hb : Below w.heap.size w w') (h : w.var? Tryd.prog n = some #[.iface tp p]) : w'.var? Tryd.prog n = some #[.iface tp p] := by
  unfold World.var? at *
  rw [hg] at *
  simp only [Option.bind_some] at *
  rcases Nat.lt_or_ge g w.heap.size with hlt | hge
  · rw [hb.block _ hlt]; exact h
  · rw [Array.getElem?_eq_none hge] at h; cases h
theorem Errs.below {w w' : World} (h : Errs w) (hb : Below w.heap.size w w') : Errs w' := by
  obtain ⟨⟨a, b, h1⟩, c, d, h2⟩ := h
  exact ⟨⟨a, b, var_below2 syn_global2 hb h1⟩, c, d, var_below2 ran_global2 hb h2⟩
theorem pN_bd (s : ByteArray) : -999999 ≤ pN s ∧ pN s ≤ 999999 := by
  cases h : pB s with
  | false => rw [pN_no h]; omega
  | true => obtain ⟨n, h0, h1, _, e⟩ := pB_get h; omega
end Go.Proofs.YtgfgimpglaepaabDoor
namespace Go.Proofs.YtgfgimpglaepaabDoor
open Go.RowKit
set_option linter.unusedVariables false
set_option linter.unusedSimpArgs false
def cellZ (w : List UInt8) : Int := match rdC w with | some v => v | none => 0
theorem cellZ_some {w : List UInt8} {v : Int} (h : rdC w = some v) : cellZ w = v := by unfold cellZ; rw [h]
theorem cellZ_none {w : List UInt8} (h : rdC w = none) : cellZ w = 0 := by unfold cellZ; rw [h]
theorem baL_toList (w : List UInt8) : (baL w).toList = w := by rw [ByteArray.toList_eq, baL_list]
set_option maxRecDepth 100000 in
set_option maxHeartbeats 1000000 in
theorem parseCell_any (x : List UInt8) (w : World) (hs : x.length ≤ 1048576) (ht : Tab w) (he : Errs w) :
    Calls Tryd.prog 68 #[.string (baL x)] w fun e w' => e = .returned (.tuple #[.int .i64 (cellZ x), .bool (rdC x).isSome]) ∧ Below w.heap.size w w' := by
  by_cases h46 : x = [46]
  · subst h46
    have R := Lib.hid (show rdC [46] = some (-9999) from if_pos rfl)
    have R2 := Lib.hid (cellZ_some R.out)
    have hb : (baL [46]).toList = [46] := baL_toList _
    go_enter Tryd.func68, Tryd.ntmps68
    go_wp2
    go_ret2
    exact ⟨by rw [R.out, R2.out]; rfl, Below.refl _ _⟩
  · have hb : (baL x).toList = x := baL_toList _
    have hb2 : (x == [46]) = false := by rw [beq_eq_false_iff_ne]; exact h46
    have hsz : (baL x).size ≤ 1048576 := by show x.toArray.size ≤ _; simpa using hs
    have HP := Lib.hid (implParse_any (baL x) w hsz ht he)
    have hrd : rdC x = if pB (baL x) = true ∧ valB (pN (baL x)) = true then some (pN (baL x)) else none := by unfold rdC; rw [if_neg h46]
    cases hp : pB (baL x) with
    | false =>
      have R := Lib.hid (show rdC x = none by rw [hrd, if_neg (by rw [hp]; simp)])
      have R2 := Lib.hid (cellZ_none R.out)
      rw [hp] at HP
      generalize pN (baL x) = n at *
      clear hrd hp ht he h46
      go_enter Tryd.func68, Tryd.ntmps68
      go_wp2_with fail
      refine HP.out.mono ?_
      rintro e w1 ⟨rfl, b1⟩
      have HB := Lib.hid b1
      clear b1
      go_wp2
      go_ret2
      exact ⟨by rw [R.out, R2.out]; rfl, HB.out⟩
    | true =>
      rw [hp] at HP
      have HV := Lib.hid (fun W v h => implValue_is (pN (baL x)) v W h)
      cases hv : valB (pN (baL x)) with
      | false =>
        have R := Lib.hid (show rdC x = none by rw [hrd, if_neg (by rw [hv]; simp)])
        have R2 := Lib.hid (cellZ_none R.out)
        have HV2 := Lib.hid (fun W => HV.out W false hv)
        generalize pN (baL x) = n at *
        clear hrd hp ht he h46 HV hv
        go_enter Tryd.func68, Tryd.ntmps68
        go_wp2_with fail
        refine HP.out.mono ?_
        rintro e w1 ⟨rfl, b1⟩
        have HB := Lib.hid b1
        clear b1
        go_wp2_with fail
        refine (HV2.out _).mono ?_
        rintro e w2 ⟨rfl, rfl⟩
        go_wp2
        go_ret2
        exact ⟨by rw [R.out, R2.out]; rfl, HB.out⟩
      | true =>
        have R := Lib.hid (show rdC x = some (pN (baL x)) by rw [hrd, if_pos ⟨hp, hv⟩])
        have R2 := Lib.hid (cellZ_some R.out)
        have HV2 := Lib.hid (fun W => HV.out W true hv)
        generalize pN (baL x) = n at *
        clear hrd hp ht he h46 HV hv
        go_enter Tryd.func68, Tryd.ntmps68
        go_wp2_with fail
        refine HP.out.mono ?_
        rintro e w1 ⟨rfl, b1⟩
        have HB := Lib.hid b1
        clear b1
        go_wp2_with fail
        refine (HV2.out _).mono ?_
        rintro e w2 ⟨rfl, rfl⟩
        go_wp2
        go_ret2
        exact ⟨by rw [R.out, R2.out]; rfl, HB.out⟩
end Go.Proofs.YtgfgimpglaepaabDoor
namespace Go.Proofs.YtgfgimpglaepaabDoor
open Go.RowKit
set_option linter.unusedVariables false
set_option linter.unusedSimpArgs false
theorem rdAll_snoc {ws : List (List UInt8)} {vs : List Int} {x : List UInt8} {v : Int} (h : rdAll ws = some vs) (hx : rdC x = some v) : rdAll (ws ++ [x]) = some (vs ++ [v]) := by
  induction ws generalizing vs with
  | nil => injection h with h; subst h; show rdAll [x] = _; unfold rdAll; rw [hx]; rfl
  | cons y r ih =>
    unfold rdAll at h
    rw [List.cons_append]
    unfold rdAll
    cases hc : rdC y with
    | none => rw [hc] at h; cases h
    | some u =>
      rw [hc] at h
      simp only at h ⊢
      cases hr : rdAll r with
      | none => rw [hr] at h; cases h
      | some us =>
        rw [hr] at h
        injection h with h
        subst h
        rw [ih hr]
        rfl
theorem rdAll_fail : ∀ {ws : List (List UInt8)} {k : Nat} (hk : k < ws.length), rdC ws[k] = none → rdAll ws = none
  | y :: r, 0, _, h => by unfold rdAll; rw [show rdC y = none from h]
  | y :: r, k + 1, hk, h => by
    have ih := rdAll_fail (ws := r) (k := k) (by simpa using hk) (by simpa using h)
    unfold rdAll
    cases rdC y with
    | none => rfl
    | some u => simp only; rw [ih]
theorem rdAll_len {ws : List (List UInt8)} {vs : List Int} (h : rdAll ws = some vs) : vs.length = ws.length := by
  rw [← (rdAll_some h).1, List.length_map]
theorem rdAll_step {ws : List (List UInt8)} {k : Nat} {vs : List Int} {v : Int} (hk : k < ws.length) (h : rdAll (ws.take k) = some vs) (hx : rdC ws[k] = some v) : rdAll (ws.take (k + 1)) = some (vs ++ [v]) := by
  rw [List.take_succ_eq_append_getElem hk]; exact rdAll_snoc h hx
/-- the row as far as it is read -/
def rowAt (vs : List Int) (n : Nat) : List Int := vs ++ List.replicate (n - vs.length) 0
theorem rowAt_step {vs : List Int} {n : Nat} (h : vs.length < n) (v : Int) : (rowAt vs n).set vs.length v = rowAt (vs ++ [v]) n := by
  unfold rowAt
  rw [List.set_append_right _ _ (Nat.le_refl _), Nat.sub_self]
  have e : n - vs.length = (n - (vs ++ [v]).length) + 1 := by rw [List.length_append, List.length_singleton]; omega
  rw [e, List.replicate_succ, List.set_cons_zero]
  simp
theorem rowAt_len {vs : List Int} {n : Nat} (h : vs.length ≤ n) : (rowAt vs n).length = n := by unfold rowAt; rw [List.length_append, List.length_replicate]; omega
theorem rowAt_all {vs : List Int} {n : Nat} (h : vs.length = n) : rowAt vs n = vs := by unfold rowAt; rw [h, Nat.sub_self]; simp
def optL (r : Option (List Int)) : List Int := match r with | some l => l | none => []
/-- a row of numbers of the call's own, or none -/
def RwPost (r : Option (List Int)) (w : World) (e : Ending) (w' : World) : Prop :=
  ∃ a c, e = .returned (.tuple #[.slice a (optL r).length c, .bool r.isSome]) ∧ OwnI w' w.heap.size a (optL r) ∧ Below w.heap.size w w'
theorem word_len {line : List UInt8} {w : List UInt8} (h : w ∈ splitL line 32) : w.length ≤ line.length := by
  have hj := join_split 32 line
  have key : ∀ (ws : List (List UInt8)), w ∈ ws → w.length ≤ (joinB 32 ws).length := by
    intro ws hw
    cases ws with
    | nil => cases hw
    | cons y r =>
      simp only [joinB, List.length_append]
      rw [List.mem_cons] at hw
      rcases hw with rfl | hw
      · omega
      · have : w.length ≤ ((r.map fun z => (32 : UInt8) :: z).flatten).length := by
          clear hj h
          induction r with
          | nil => cases hw
          | cons x r ih =>
            simp only [List.map_cons, List.flatten_cons, List.length_append, List.length_cons]
            rw [List.mem_cons] at hw
            rcases hw with rfl | hw
            · omega
            · have := ih hw; omega
        omega
  have h32 : splitL line ((32 : UInt8).toNat : Int) = splitL line 32 := rfl
  have := key _ h
  rw [h32] at hj
  rw [hj] at this
  exact this
set_option maxRecDepth 100000 in
set_option maxHeartbeats 1000000 in
theorem parseRow_any (x : List UInt8) (w : World) (hs : x.length ≤ 4000) (ht : Tab w) (he : Errs w) :
    Calls Tryd.prog 44 #[.string (baL x)] w (RwPost (rdRow x) w) := by
  have hz : (baL x).size ≤ 4000 := by show x.toArray.size ≤ _; simpa using hs
  have HSP := Lib.hid (splitTo_yes (baL x) ⟨#[32]⟩ w hz rfl)
  have e32 : (((⟨#[32]⟩ : ByteArray)[0]'(by decide)).toNat : Int) = 32 := rfl
  rw [e32, baL_list] at HSP
  unfold StPost at HSP
  have HT := Lib.hid (fun W (G : Below w.heap.size w W) => ht.below G)
  have HE := Lib.hid (fun W (G : Below w.heap.size w W) => he.below G)
  have HWL := Lib.hid (fun y (h : y ∈ splitL x 32) => Nat.le_trans (word_len h) hs)
  have hpos := splitL_pos x 32
  have hrr : rdRow x = if (splitL x 32).length ≤ 8 then rdAll (splitL x 32) else none := rfl
  clear ht he
  generalize splitL x 32 = ws at *
  obtain ⟨n, hn⟩ : ∃ n, ws.length = n := ⟨_, rfl⟩
  by_cases h8 : n ≤ 8
  · have hmk := fun W => run_make_row' (P := Tryd.prog) 24 3 (.int .i64 0) 8 Tryd.underlying24 infoInt rfl .i64 .i64 n (by omega) (by omega) W
    rw [hn, if_pos h8] at hrr
    have HN := Lib.hid hn
    have HRR := Lib.hid hrr
    rw [hn] at HSP hpos
    have h8i : ¬ (8 : Int) < (n : Int) := by omega
    clear hrr hn hz hs
    go_enter Tryd.func44, Tryd.ntmps44
    go_wp2_with fail
    refine HSP.out.mono ?_
    rintro e w1 ⟨v, rfl, hown, b1⟩
    obtain ⟨cap, gw, rfl, hgw, hrow, hcap⟩ := Row.of_own hown hpos
    have HB1 := Lib.hid b1
    have HW1 := Lib.hid hrow
    have hgl := hrow.lt
    clear hown b1 hrow
    obtain ⟨gr, hgr⟩ : ∃ q, w1.heap.size = q := ⟨_, rfl⟩
    go_wp2
    clear hmk
    have HGR := Lib.hid hgr
    clear hgr
    go_loopw [28] (fun i wr => ∃ (k : Nat) (vs : List Int), k ≤ n ∧ i = .int .i64 k ∧ vs.length = k ∧ rdAll (ws.take k) = some vs ∧ Row wr gr 3 (iv (rowAt vs n)) ∧ Row wr gw 9 (txt ws) ∧ Below w.heap.size w wr) (fun i _ => n - (intOf i).toNat)
    case atStart =>
      refine ⟨0, [], Nat.zero_le _, rfl, rfl, rfl, ?_, HW1.out.alloc _, HB1.out.alloc HB1.out.size _⟩
      have h9 := heap_alloc_new w1 (.cells (madeCells #[.int .i64 0] n) 3)
      rw [HGR.out] at h9
      exact ⟨_, h9, fun j hj => by rw [made_iv]; simp [rowAt, hj]⟩
    case round =>
      obtain ⟨k, vs, hk, rfl, hvl, hrd, hrg, hrw, hB⟩ := hrel
      have HRD := Lib.hid hrd
      have HRG := Lib.hid hrg
      have HRW := Lib.hid hrw
      have HB := Lib.hid hB
      have HVL := Lib.hid hvl
      clear hrd hrg hrw hB hvl
      by_cases hlt : k < n
      · have hi : (k : Int) < (n : Int) := by omega
        have hi0 : (0 : Int) ≤ (k : Int) := by omega
        have hkw : k < ws.length := by have := HN.out; omega
        have ck := HRW.out.cell (k := k) (by rw [txt_length]; exact hkw)
        have ek : (txt ws)[k]'(by rw [txt_length]; exact hkw) = .string (baL ws[k]) := by simp [txt, baL]
        rw [ek] at ck
        have HCELL := Lib.hid (parseCell_any ws[k] wr (by have := HWL.out _ (List.getElem_mem hkw); omega) (HT.out _ HB.out) (HE.out _ HB.out))
        have HSTEP := Lib.hid (fun v (h : rdC ws[k] = some v) => rdAll_step hkw HRD.out h)
        have HFAIL := Lib.hid (rdAll_fail hkw)
        have HZ := Lib.hid (fun v (h : rdC ws[k] = some v) => cellZ_some h)
        have hgrl := HRG.out.lt
        have hgwl := HRW.out.lt
        clear ek
        cases hc : rdC ws[k] with
        | none =>
          have hz := cellZ_none hc
          have HNO := Lib.hid (show rdRow x = none by rw [HRR.out]; exact HFAIL.out hc)
          rw [hc, hz] at HCELL
          clear hz
          generalize baL ws[k] = sk at *
          clear hc
          go_wp2_with fail
          refine HCELL.out.mono ?_
          rintro e w2 ⟨rfl, b2⟩
          have HB2 := Lib.hid (below_then HB.out b2)
          clear b2
          go_wp2
          go_ret2
          exact ⟨none, 0, by rw [HNO.out]; rfl, by rw [HNO.out]; exact OwnI.none_, HB2.out⟩
        | some v =>
          have hz := HZ.out v hc
          have HS2 := Lib.hid (HSTEP.out v hc)
          rw [hc, hz] at HCELL
          clear hz
          generalize baL ws[k] = sk at *
          clear hc
          go_wp2_with fail
          refine HCELL.out.mono ?_
          rintro e w2 ⟨rfl, b2⟩
          have HB2 := Lib.hid (below_then HB.out b2)
          have HRG2 := Lib.hid (HRG.out.of_block (b2.block gr hgrl))
          have HRW2 := Lib.hid (HRW.out.of_block (b2.block gw hgwl))
          have hlen : (iv (rowAt vs n)).length = n := by rw [iv_length, rowAt_len (by have := HVL.out; omega)]
          have ov := HRG2.out.cell (k := k) (by rw [hlen]; exact hlt)
          have fz := HRG2.out.frozen k
          have hset := HRG2.out.set k (.int .i64 v)
          have e9 : (iv (rowAt vs n)).set k (.int .i64 v) = iv (rowAt (vs ++ [v]) n) := by
            rw [iv_set]
            have := HVL.out
            subst this
            rw [rowAt_step hlt]
          rw [e9] at hset
          have HSET := Lib.hid hset
          generalize (iv (rowAt vs n))[k]'(by rw [hlen]; exact hlt) = o0 at ov
          have hne : gr ≠ gw := by
            intro e
            subst e
            obtain ⟨c1, h1, _⟩ := HRG2.out
            obtain ⟨c2, h2, _⟩ := HRW2.out
            rw [h1] at h2
            injection h2 with h2
            injection h2 with _ ht
            exact absurd ht (by decide)
          have HNE := Lib.hid hne
          have hglo : w.heap.size ≤ gr := by have := HB1.out.size; rw [HGR.out] at this; exact this
          clear b2 hset e9 hlen ck hne
          go_wp2
          go_roundw
          case rel => exact ⟨k + 1, vs ++ [v], by omega, by go_num, by have := HVL.out; simp; omega, HS2.out, HSET.out, HRW2.out.other (show gw ≠ gr from Ne.symm HNE.out) _, HB2.out.setCell hglo _⟩
          case measure => simp [intOf]; omega
      · obtain rfl : k = n := by omega
        have hrd := HRD.out
        rw [List.take_of_length_le (by have := HN.out; omega)] at hrd
        have HYES := Lib.hid (show rdRow x = some vs by rw [HRR.out]; exact hrd)
        have HO := Lib.hid (show OwnI wr w.heap.size (some ⟨gr, 0, none⟩) vs from ⟨gr, by have := HB1.out.size; rw [HGR.out] at this; exact this, .inr ⟨rfl, by have h := HRG.out; rw [rowAt_all HVL.out] at h; exact h⟩⟩)
        have hge : ¬ (k : Int) < (k : Int) := by omega
        clear hlt hrd
        go_wp2
        go_ret2
        exact ⟨some ⟨gr, 0, none⟩, k, by rw [HYES.out]; show _ = Ending.returned (.tuple #[.slice _ vs.length k, .bool true]); rw [HVL.out]; rfl, by rw [HYES.out]; exact HO.out, HB.out⟩
  · have HNO := Lib.hid (show rdRow x = none by rw [hrr, if_neg (by omega)])
    rw [hn] at HSP hpos
    have h8i : (8 : Int) < (n : Int) := by omega
    clear hrr hn hz hs
    go_enter Tryd.func44, Tryd.ntmps44
    go_wp2_with fail
    refine HSP.out.mono ?_
    rintro e w1 ⟨v, rfl, hown, b1⟩
    obtain ⟨cap, gw, rfl, hgw, hrow, hcap⟩ := Row.of_own hown hpos
    have HB1 := Lib.hid b1
    clear hown b1 hrow
    go_wp2
    go_ret2
    exact ⟨none, 0, by rw [HNO.out]; rfl, by rw [HNO.out]; exact OwnI.none_, HB1.out⟩
end Go.Proofs.YtgfgimpglaepaabDoor
namespace Go.Proofs.YtgfgimpglaepaabDoor
open Go.RowKit
set_option linter.unusedVariables false
set_option linter.unusedSimpArgs false
theorem fret_put2 {w w1 : World} {r : Option (Int × Int × List Int)} {e : Ending} {a : Option Addr} {c : Nat} (hb : Below w.heap.size w w1) (ho : OwnI w1 (w.heap.size + 1) a (rL r)) (he : e = .returned (.tuple #[.agg #[.int .i64 (rW r), .int .i64 (rH r), .slice a (rL r).length c], .bool (rB r)])) (u0 u1 u2 : Value) :
    FRet r w e (((w1.setCell ⟨w.heap.size, 0, none⟩ u0).setCell ⟨w.heap.size, 1, none⟩ u1).setCell ⟨w.heap.size, 2, none⟩ u2) :=
  ⟨a, c, he, (ownI_set (ownI_set (ownI_set ho (by omega) _) (by omega) _) (by omega) _).more (by omega), ((hb.setCell (p := ⟨w.heap.size, 0, none⟩) (Nat.le_refl _) _).setCell (p := ⟨w.heap.size, 1, none⟩) (Nat.le_refl _) _).setCell (p := ⟨w.heap.size, 2, none⟩) (Nat.le_refl _) _⟩
theorem suffix_yes (b : List UInt8) : Lib.hasSuffix (b ++ [10]) [10] = true ∧ Lib.trimSuffix (b ++ [10]) [10] = b := by
  have h : Lib.hasSuffix (b ++ [10]) [10] = true := by unfold Lib.hasSuffix; rw [List.isSuffixOf_iff_suffix]; exact ⟨b, rfl⟩
  refine ⟨h, ?_⟩
  unfold Lib.trimSuffix
  rw [if_pos h]
  simp
theorem suffix_no {l : List UInt8} (h : ∀ b, l ≠ b ++ [10]) : Lib.hasSuffix l [10] = false := by
  cases hs : Lib.hasSuffix l [10] with
  | false => rfl
  | true =>
    unfold Lib.hasSuffix at hs
    rw [List.isSuffixOf_iff_suffix] at hs
    obtain ⟨b, hb⟩ := hs
    exact absurd hb.symm (h b)
/-- the slices of the rows that are read so far -/
def rowsV (A : Nat → Option Addr) (C : Nat → Nat) (W k j : Nat) : Value := if j < k then .slice (A j) W (C j) else .slice none 0 0
theorem line_len {s : List UInt8} {x : List UInt8} (h : x ∈ splitL s 10) : x.length ≤ s.length := by
  have hj := join_split 10 s
  have key : ∀ (ws : List (List UInt8)), x ∈ ws → x.length ≤ (joinB 10 ws).length := by
    intro ws hw
    cases ws with
    | nil => cases hw
    | cons y r =>
      simp only [joinB, List.length_append]
      rw [List.mem_cons] at hw
      rcases hw with rfl | hw
      · omega
      · have : x.length ≤ ((r.map fun z => (10 : UInt8) :: z).flatten).length := by
          clear hj h
          induction r with
          | nil => cases hw
          | cons z r ih =>
            simp only [List.map_cons, List.flatten_cons, List.length_append, List.length_cons]
            rw [List.mem_cons] at hw
            rcases hw with rfl | hw
            · omega
            · have := ih hw; omega
        omega
  have h10 : splitL s ((10 : UInt8).toNat : Int) = splitL s 10 := rfl
  have := key _ h
  rw [h10] at hj
  rw [hj] at this
  exact this
set_option maxRecDepth 100000 in
set_option maxHeartbeats 1000000 in
theorem implPF_no (s : ByteArray) (w : World) (hs : s.size ≤ 1048576) (h : ∀ b, s.data.toList ≠ b ++ [10]) :
    Calls Tryd.prog 15 #[.string s] w (FRet (pfR s.data.toList) w) := by
  have HR := Lib.hid (pf_noend h)
  have HC := Lib.hid (fun W => Tryd.strings_CutSuffix s ⟨#[10]⟩ W (by omega))
  have e10 : (⟨#[10]⟩ : ByteArray).data.toList = [10] := rfl
  rw [e10, suffix_no h] at HC
  generalize (⟨(Lib.trimSuffix s.data.toList [10]).toArray⟩ : ByteArray) = z at *
  have X0 := Box.new w 26 (.int .i64 0) (.int .i64 0) (.slice none 0 0)
  obtain ⟨t0, t1, t2⟩ := X0.cells
  have g0 := X0.frozen 0
  have g1 := X0.frozen 1
  have g2 := X0.frozen 2
  have B0 := Lib.hid (below_all w (.cells #[.int .i64 0, .int .i64 0, .slice none 0 0] 26))
  clear h X0 e10
  go_enter Tryd.func15, Tryd.ntmps15
  go_wp2_with fail
  refine (HC.out _).mono ?_
  rintro e w1 ⟨rfl, rfl⟩
  go_wp2
  refine bodyPost_ret (v := .tuple #[.agg #[.int .i64 0, .int .i64 0, .slice none 0 0], .bool false]) (by simp [results, Tryd.results15, go_sem, t0, t1, t2]) rfl ?_
  rw [HR.out]
  first | exact ⟨none, 0, rfl, OwnI.none_, B0.out⟩ | exact fret_put2 (r := none) B0.out OwnI.none_ rfl _ _ _
theorem fopt_none {w w1 : World} (hb : Below w.heap.size w w1) : FRet none w (.returned (.tuple #[.agg #[.int .i64 0, .int .i64 0, .slice none 0 0], .bool false])) w1 := ⟨none, 0, rfl, OwnI.none_, hb⟩
/-- the loop of ParseField: rows that are read -/
structure Pf (w : World) (gr gw n : Nat) (ls : List (List UInt8)) (k : Nat) (R : List (List Int)) (A : Nat → Option Addr) (C : Nat → Nat) (W : Nat) (wr : World) : Prop where
  len : R.length = k
  rd : rdRows (ls.take k) = some R
  wid : ∀ r ∈ R, r.length = W
  rows : wr.rowIs gr 24 n (rowsV A C W k)
  words : Row wr gw 9 (txt ls)
  each : ∀ j (h : j < R.length), ∃ g, At wr (A j) g R[j]
  box : Box wr w.heap.size 26 (.int .i64 0) (.int .i64 0) (.slice none 0 0)
  b : Below w.heap.size w wr
theorem Pf.step {w w1 w2 : World} {gr gw n : Nat} {ls : List (List UInt8)} {k : Nat} {R : List (List Int)} {A : Nat → Option Addr} {C : Nat → Nat} {W : Nat} (h : Pf w gr gw n ls k R A C W w1) (b : Below w1.heap.size w1 w2) : Pf w gr gw n ls k R A C W w2 :=
  ⟨h.len, h.rd, h.wid, h.rows.of_block (b.block gr h.rows.lt), h.words.of_block (b.block gw h.words.lt), fun j hj => by obtain ⟨g, hg⟩ := h.each j hj; exact ⟨g, hg.below b⟩, h.box.below b, below_then h.b b⟩
theorem Pf.put {w w1 : World} {gr gw n : Nat} {ls : List (List UInt8)} {k : Nat} {R : List (List Int)} {A : Nat → Option Addr} {C : Nat → Nat} {W : Nat} (h : Pf w gr gw n ls k R A C W w1) (hk : k < ls.length) {v : List Int} (hv : rdRow ls[k] = some v) (hw : v.length = W) {a : Option Addr} {c : Nat} (hi : ∃ g, At w1 a g v) (hne : gw ≠ gr) (hbx : w.heap.size ≠ gr) (hlo : w.heap.size ≤ gr) :
    Pf w gr gw n ls (k + 1) (R ++ [v]) (fun j => if j = k then a else A j) (fun j => if j = k then c else C j) W (w1.setCell ⟨gr, k, none⟩ (.slice a v.length c)) := by
  have hat : ∀ {a' : Option Addr} {g' : Nat} {l : List Int}, At w1 a' g' l → ∃ g, At (w1.setCell ⟨gr, k, none⟩ (.slice a v.length c)) a' g l := by
    intro a' g' l h9
    rcases h9 with h9 | ⟨h9, h10⟩
    · exact ⟨g', .inl h9⟩
    · refine ⟨g', .inr ⟨h9, h10.other (p := ⟨gr, k, none⟩) ?_ _⟩⟩
      rintro rfl
      obtain ⟨c0, h1, _⟩ := h.rows
      obtain ⟨c2, h2, _⟩ := h10
      rw [h1] at h2
      injection h2 with h2
      injection h2 with _ h3
      exact absurd h3 (by decide)
  refine ⟨by rw [List.length_append, h.len]; rfl, rdRows_step hk h.rd hv, fun r hr => ?_, ?_, h.words.other (show gw ≠ gr from hne) _, fun j hj => ?_, h.box.other (show w.heap.size ≠ gr from hbx) _, h.b.setCell hlo _⟩
  · rw [List.mem_append] at hr
    rcases hr with hr | hr
    · exact h.wid r hr
    · rw [List.mem_singleton] at hr; subst hr; exact hw
  · refine (h.rows.set k _).congr (fun j _ => ?_)
    unfold rowsV
    by_cases e : j = k
    · subst e; simp [hw]
    · rw [if_neg e]
      by_cases e2 : j < k
      · rw [if_pos e2, if_pos (by omega)]
        simp only [if_neg e]
      · rw [if_neg e2, if_neg (by omega)]
  · rw [List.length_append, List.length_singleton, h.len] at hj
    by_cases e : j = k
    · subst e
      obtain ⟨g', h9⟩ := hi
      have e9 : (R ++ [v])[j]'(by rw [List.length_append, List.length_singleton, h.len]; omega) = v := by
        rw [List.getElem_append_right (by rw [h.len]; exact Nat.le_refl _)]
        simp
      rw [e9]
      simp only [if_true]
      exact hat h9
    · have hj2 : j < R.length := by rw [h.len]; omega
      obtain ⟨g', h9⟩ := h.each j hj2
      have e9 : (R ++ [v])[j]'(by rw [List.length_append, List.length_singleton, h.len]; omega) = R[j] := List.getElem_append_left hj2
      rw [e9]
      simp only [if_neg e]
      exact hat h9
end Go.Proofs.YtgfgimpglaepaabDoor
namespace Go.Proofs.YtgfgimpglaepaabDoor
open Go.RowKit
set_option linter.unusedVariables false
set_option linter.unusedSimpArgs false
theorem Pf.any {w w1 : World} {gr gw n : Nat} {ls : List (List UInt8)} {R : List (List Int)} {A : Nat → Option Addr} {C : Nat → Nat} {W : Nat} (h : Pf w gr gw n ls 0 R A C W w1) (W' : Nat) : Pf w gr gw n ls 0 R A C W' w1 := by
  have e : R = [] := List.eq_nil_of_length_eq_zero h.len
  subst e
  exact ⟨rfl, h.rd, (fun r hr => by cases hr), h.rows.congr (fun j _ => by unfold rowsV; rw [if_neg (by omega), if_neg (by omega)]), h.words, h.each, h.box, h.b⟩
theorem pf_fail {b : List UInt8} {k : Nat} (hk : k < (splitL b 10).length) (h : rdRow (splitL b 10)[k] = none) : pfR (b ++ [10]) = none := by
  rw [pf_end]
  split
  · rw [rdRows_fail hk h]
  · rfl
theorem pf_uneven {b : List UInt8} {k W : Nat} {R : List (List Int)} {vs : List Int} (hk : k < (splitL b 10).length) (h0 : 0 < k) (hl : R.length = k) (hr : rdRows ((splitL b 10).take k) = some R) (hw : ∀ r ∈ R, r.length = W) (hv : rdRow (splitL b 10)[k] = some vs) (hne : vs.length ≠ W) : pfR (b ++ [10]) = none := by
  rw [pf_end]
  split
  · cases hS : rdRows (splitL b 10) with
    | none => rfl
    | some S =>
      have h1 := rdRows_pre k hS
      rw [hr] at h1
      injection h1 with h1
      have h2 := rdRows_pre (k + 1) hS
      rw [rdRows_step hk hr hv] at h2
      injection h2 with h2
      have hm : vs ∈ S := List.mem_of_mem_take (i := k + 1) (by rw [← h2]; simp)
      obtain ⟨r0, R', rfl⟩ := List.exists_cons_of_ne_nil (l := R) (by intro e; subst e; simp at hl; omega)
      have hm0 : r0 ∈ S := List.mem_of_mem_take (i := k) (by rw [← h1]; simp)
      have := hw r0 (by simp)
      simp only
      rw [rows_uneven hS hm0 hm (by omega)]
      simp
  · rfl
theorem pf_yes {b : List UInt8} {R : List (List Int)} {W : Nat} (h8 : (splitL b 10).length ≤ 8) (hr : rdRows (splitL b 10) = some R) (hw : ∀ r ∈ R, r.length = W) : pfR (b ++ [10]) = some ((W : Int), ((splitL b 10).length : Int), R.flatten) ∧ 1 ≤ W ∧ W ≤ 8 := by
  have hl := rdRows_len hr
  have hp := splitL_pos b 10
  obtain ⟨r0, R', rfl⟩ := List.exists_cons_of_ne_nil (l := R) (by intro e; subst e; simp at hl; omega)
  have h0 := hw r0 (by simp)
  have hs : sameW (r0 :: R') = true := same_iffW.2 (fun r hr' => by rw [hw r hr']; exact h0.symm)
  obtain ⟨h1, h2, _⟩ := (rdRows_some hr).2 r0 (by simp)
  refine ⟨?_, by omega, by omega⟩
  rw [pf_end, if_pos h8, hr]
  simp only
  rw [if_pos hs, hl]
  show some ((r0.length : Int), _, _) = _
  rw [h0]
set_option maxRecDepth 100000 in
set_option maxHeartbeats 2000000 in
theorem implPF_yes (s : ByteArray) (b : List UInt8) (w : World) (hs : s.size ≤ 1048576) (hb : s.data.toList = b ++ [10]) (ht : Tab w) (he : Errs w) :
    Calls Tryd.prog 15 #[.string s] w (FRet (pfR s.data.toList) w) := by
  have hbl : b.length + 1 = s.size := by
    have h1 : s.data.toList.length = s.size := rfl
    rw [hb] at h1
    simpa using h1
  have HC := Lib.hid (fun W => Tryd.strings_CutSuffix s ⟨#[10]⟩ W (by omega))
  have e10 : (⟨#[10]⟩ : ByteArray).data.toList = [10] := rfl
  rw [e10, hb, (suffix_yes b).1, (suffix_yes b).2] at HC
  rw [hb]
  have eb : (⟨b.toArray⟩ : ByteArray) = baL b := rfl
  rw [eb] at HC
  have hbz : (baL b).size = b.length := by show b.toArray.size = _; simp
  have X0 := Box.new w 26 (.int .i64 0) (.int .i64 0) (.slice none 0 0)
  have B0 := Lib.hid (below_all w (.cells #[.int .i64 0, .int .i64 0, .slice none 0 0] 26))
  have HT := Lib.hid (fun W (G : Below w.heap.size w W) => ht.below G)
  have HE := Lib.hid (fun W (G : Below w.heap.size w W) => he.below G)
  clear ht he e10 eb
  by_cases hlong : 4000 < b.length
  · have HR := Lib.hid (show pfR (b ++ [10]) = none from pf_long (by simp; omega))
    have HSP := Lib.hid (fun W => splitTo_no (baL b) ⟨#[10]⟩ W (by omega) (by omega))
    have R0 := Lib.hid X0
    clear X0 hb
    generalize baL b = bs at *
    go_enter Tryd.func15, Tryd.ntmps15
    go_wp2_with fail
    refine (HC.out _).mono ?_
    rintro e w1 ⟨rfl, rfl⟩
    go_wp2_with fail
    refine (HSP.out _).mono ?_
    rintro e w2 ⟨⟨v, rfl⟩, b2⟩
    have R2 := R0.out.below b2
    obtain ⟨t0, t1, t2⟩ := R2.cells
    have g0 := R2.frozen 0
    have g1 := R2.frozen 1
    have g2 := R2.frozen 2
    have B2 := Lib.hid (below_then B0.out b2)
    clear b2 R2 R0 B0
    go_wp2
    refine bodyPost_ret (v := .tuple #[.agg #[.int .i64 0, .int .i64 0, .slice none 0 0], .bool false]) (by simp [results, Tryd.results15, go_sem, t0, t1, t2]) rfl ?_
    rw [HR.out]
    first | exact fopt_none B2.out | exact fret_put2 (r := none) B2.out OwnI.none_ rfl _ _ _
  · have HSP := Lib.hid (fun W => splitTo_yes (baL b) ⟨#[10]⟩ W (by omega) rfl)
    have e10 : (((⟨#[10]⟩ : ByteArray)[0]'(by decide)).toNat : Int) = 10 := rfl
    rw [e10, baL_list] at HSP
    unfold StPost at HSP
    have hpos := splitL_pos b 10
    have HLL := Lib.hid (fun y (h : y ∈ splitL b 10) => Nat.le_trans (line_len h) (show b.length ≤ 4000 by omega))
    have HFAIL := Lib.hid (fun k (hk : k < (splitL b 10).length) h => pf_fail hk h)
    have HUN := Lib.hid (fun k (hk : k < (splitL b 10).length) R W vs h0 h1 h2 h3 h4 h5 => pf_uneven (R := R) (W := W) (vs := vs) hk h0 h1 h2 h3 h4 h5)
    have HYES := Lib.hid (fun R W h8 h1 h2 => pf_yes (b := b) (R := R) (W := W) h8 h1 h2)
    have HLONG := Lib.hid (show 8 < (splitL b 10).length → pfR (b ++ [10]) = none from fun h => by rw [pf_end, if_neg (by omega)])
    generalize splitL b 10 = ls at *
    generalize pfR (b ++ [10]) = r at *
    obtain ⟨n, hn⟩ : ∃ n, ls.length = n := ⟨_, rfl⟩
    rw [hn] at HSP hpos
    have R0 := Lib.hid X0
    clear X0 hb
    by_cases h8 : n ≤ 8
    · have hmk := fun W => run_make_row' (P := Tryd.prog) 56 24 (.slice none 0 0) 24 Tryd.underlying56 infoRow rfl .i64 .i64 n (by omega) (by omega) W
      have h8i : ¬ (8 : Int) < (n : Int) := by omega
      have HN := Lib.hid hn
      clear hn
      generalize baL b = bs at *
      go_enter Tryd.func15, Tryd.ntmps15
      go_wp2_with fail
      refine (HC.out _).mono ?_
      rintro e w1 ⟨rfl, rfl⟩
      go_wp2_with fail
      refine (HSP.out _).mono ?_
      rintro e w2 ⟨v, rfl, hown, b2⟩
      obtain ⟨cap, gw, rfl, hgw, hrow, hcap⟩ := Row.of_own hown hpos
      have R2 := Lib.hid (R0.out.below b2)
      have B2 := Lib.hid (below_then B0.out b2)
      have HW2 := Lib.hid hrow
      have hgl := hrow.lt
      clear hown b2 hrow R0 B0
      obtain ⟨gr, hgr⟩ : ∃ q, w2.heap.size = q := ⟨_, rfl⟩
      have hbl2 := R2.out.lt
      go_wp2
      clear hmk
      have HGR := Lib.hid hgr
      clear hgr
      have HP0 : Hid (Pf w gr gw n ls 0 [] (fun _ => none) (fun _ => 0) 0 (w2.alloc (.cells (madeCells #[.slice none 0 0] n) 24))) := Lib.hid (by
        refine ⟨rfl, rfl, (fun r hr => by cases hr), ?_, HW2.out.alloc _, (fun j hj => by simp at hj), R2.out.alloc _, B2.out.alloc B2.out.size _⟩
        have h9 := (World.rowIs_made w2 (.slice none 0 0) n 24).congr (g := rowsV (fun _ => none) (fun _ => 0) 0 0) (fun i _ => by simp [rowsV])
        rw [HGR.out] at h9
        exact h9)
      have hlo : w.heap.size < gr := by rw [← HGR.out]; exact hbl2
      have hgwr : gw ≠ gr := by rw [← HGR.out]; omega
      have HLO := Lib.hid (And.intro hlo hgwr)
      clear hlo hgwr R2 B2 HW2 hbl2
      go_loopw [39] (fun i wr => ∃ (k : Nat) (R : List (List Int)) (A : Nat → Option Addr) (C : Nat → Nat) (W : Nat), k ≤ n ∧ i = .int .i64 k ∧ Pf w gr gw n ls k R A C W wr) (fun i _ => n - (intOf i).toNat)
      case atStart => exact ⟨0, _, _, _, _, Nat.zero_le _, rfl, HP0.out⟩
      case round =>
        clear HP0
        obtain ⟨k, R, A, C, W, hk, rfl, hP⟩ := hrel
        have HP := Lib.hid hP
        by_cases hlt : k < n
        · have hi : (k : Int) < (n : Int) := by omega
          have hi0 : (0 : Int) ≤ (k : Int) := by omega
          have hkw : k < ls.length := by have := HN.out; omega
          have ck := hP.words.cell (k := k) (by rw [txt_length]; exact hkw)
          have ek : (txt ls)[k]'(by rw [txt_length]; exact hkw) = .string (baL ls[k]) := by simp [txt, baL]
          rw [ek] at ck
          have HROW := Lib.hid (parseRow_any ls[k] wr (HLL.out _ (List.getElem_mem hkw)) (HT.out _ hP.b) (HE.out _ hP.b))
          unfold RwPost at HROW
          clear ek hP
          cases hc : rdRow ls[k] with
          | none =>
            have HNO := Lib.hid (HFAIL.out k hkw hc)
            rw [hc] at HROW
            generalize baL ls[k] = sk at *
            clear hc
            go_wp2_with fail
            refine HROW.out.mono ?_
            rintro e w3 ⟨a3, c3, rfl, o3, b3⟩
            have HP3 := HP.out.step b3
            obtain ⟨t0, t1, t2⟩ := HP3.box.cells
            have g0 := HP3.box.frozen 0
            have g1 := HP3.box.frozen 1
            have g2 := HP3.box.frozen 2
            have B3 := Lib.hid HP3.b
            clear b3 HP3 o3 ck
            go_wp2
            refine bodyPost_ret (v := .tuple #[.agg #[.int .i64 0, .int .i64 0, .slice none 0 0], .bool false]) (by simp [results, Tryd.results15, go_sem, t0, t1, t2]) rfl ?_
            rw [HNO.out]
            first | exact fopt_none B3.out | exact fret_put2 (r := none) B3.out OwnI.none_ rfl _ _ _
          | some vs =>
            have HRD := Lib.hid hc
            rw [hc] at HROW
            generalize baL ls[k] = sk at *
            clear hc
            have HEX : ∀ a w', OwnI w' wr.heap.size a (optL (some vs)) → ∃ g, At w' a g vs := fun a w' h => by obtain ⟨g, _, h9⟩ := h; exact ⟨g, h9⟩
            have HEX := Lib.hid HEX
            by_cases hk0 : k = 0
            · subst hk0
              have HPA := Lib.hid (HP.out.any vs.length)
              go_wp2_with fail
              refine HROW.out.mono ?_
              rintro e w3 ⟨a3, c3, rfl, o3, b3⟩
              have HP3 := Lib.hid (HPA.out.step b3)
              have hfz := HP3.out.rows.frozen 0
              have hov := HP3.out.rows.cell (i := 0) (by omega)
              generalize rowsV A C vs.length 0 0 = ov at hov
              have hA3 := Lib.hid (HEX.out _ _ o3)
              have HP4 := Lib.hid (HP3.out.put hkw HRD.out rfl (c := c3) hA3.out HLO.out.2 (by have := HLO.out.1; omega) (by have := HLO.out.1; omega))
              clear b3 o3 ck
              go_wp2
              go_roundw
              case rel => exact ⟨1, _, _, _, _, by omega, rfl, HP4.out⟩
              case measure => simp [intOf]; omega
            · have hk1 : (0 : Int) < (k : Int) := by omega
              by_cases hw : vs.length = W
              · subst hw
                go_wp2_with fail
                refine HROW.out.mono ?_
                rintro e w3 ⟨a3, c3, rfl, o3, b3⟩
                have HP3 := Lib.hid (HP.out.step b3)
                have h0 := HP3.out.rows.cell (i := 0) (by omega)
                have e0 : rowsV A C vs.length k 0 = .slice (A 0) vs.length (C 0) := if_pos (by omega)
                rw [e0] at h0
                have hfz := HP3.out.rows.frozen k
                have hov := HP3.out.rows.cell (i := k) hlt
                generalize rowsV A C vs.length k k = ov at hov
                have hA3 := Lib.hid (HEX.out _ _ o3)
                have HP4 := Lib.hid (HP3.out.put hkw HRD.out rfl (c := c3) hA3.out HLO.out.2 (by have := HLO.out.1; omega) (by have := HLO.out.1; omega))
                have hoz : (optL (some vs)).length = vs.length := rfl
                rw [hoz]
                clear b3 o3 ck e0 hoz
                go_wp2
                go_roundw
                case rel => exact ⟨k + 1, _, _, _, _, by omega, by go_num, HP4.out⟩
                case measure => simp [intOf]; omega
              · have HNO := Lib.hid (HUN.out k hkw R W vs (by omega) HP.out.len HP.out.rd HP.out.wid HRD.out hw)
                have hne : ((vs.length : Int) != (W : Int)) = true := by simp; omega
                have hne2 : (vs.length != W) = true := by simp; omega
                go_wp2_with fail
                refine HROW.out.mono ?_
                rintro e w3 ⟨a3, c3, rfl, o3, b3⟩
                have HP3 := Lib.hid (HP.out.step b3)
                have h0 := HP3.out.rows.cell (i := 0) (by omega)
                have e0 : rowsV A C W k 0 = .slice (A 0) W (C 0) := if_pos (by omega)
                rw [e0] at h0
                obtain ⟨t0, t1, t2⟩ := HP3.out.box.cells
                have g0 := HP3.out.box.frozen 0
                have g1 := HP3.out.box.frozen 1
                have g2 := HP3.out.box.frozen 2
                have B3 := Lib.hid HP3.out.b
                have hoz : (optL (some vs)).length = vs.length := rfl
                rw [hoz]
                clear b3 o3 ck e0 hoz HP3 hw
                go_wp2
                refine bodyPost_ret (v := .tuple #[.agg #[.int .i64 0, .int .i64 0, .slice none 0 0], .bool false]) (by simp [results, Tryd.results15, go_sem, t0, t1, t2]) rfl ?_
                rw [HNO.out]
                first | exact fopt_none B3.out | exact fret_put2 (r := none) B3.out OwnI.none_ rfl _ _ _
        · obtain rfl : k = n := by omega
          have hrd := hP.rd
          rw [List.take_of_length_le (by have := HN.out; omega)] at hrd
          obtain ⟨hr, hW1, hW8⟩ := HYES.out R W (by have := HN.out; omega) hrd hP.wid
          rw [HN.out] at hr
          have HR := Lib.hid hr
          have HFR := Lib.hid (fieldOfRows_any gr 0 k k W R A C wr hP.len (by omega) h8 hW1 hW8 hP.wid hP.rows.lt (fun j hj => by
            have h9 := hP.rows.cell (i := j) hj
            rw [show rowsV A C W k j = .slice (A j) W (C j) from if_pos hj] at h9
            rw [Nat.zero_add]; exact h9) (fun j hj => by obtain ⟨g9, h9⟩ := hP.each j hj; exact h9.ints))
          clear hP hr hrd hlt
          go_wp2_with fail
          refine HFR.out.mono ?_
          rintro e w3 ⟨a3, c3, rfl, o3, b3⟩
          have HP3 := HP.out.step b3
          obtain ⟨t0, t1, t2⟩ := HP3.box.cells
          have g0 := HP3.box.frozen 0
          have g1 := HP3.box.frozen 1
          have g2 := HP3.box.frozen 2
          have B3 := Lib.hid HP3.b
          have O3 := Lib.hid (o3.more (C := w.heap.size + 1) (by have := HP.out.box.lt; omega))
          clear b3 HP3 o3
          go_wp2
          refine bodyPost_ret (v := .tuple #[.agg #[.int .i64 W, .int .i64 k, .slice a3 R.flatten.length c3], .bool true]) (by simp [results, Tryd.results15, go_sem, t0, t1, t2]) rfl ?_
          rw [HR.out]
          exact fret_put2 (r := some ((W : Int), (k : Int), R.flatten)) B3.out O3.out rfl _ _ _
    · have HNO := Lib.hid (HLONG.out (by omega))
      have h8i : (8 : Int) < (n : Int) := by omega
      generalize baL b = bs at *
      go_enter Tryd.func15, Tryd.ntmps15
      go_wp2_with fail
      refine (HC.out _).mono ?_
      rintro e w1 ⟨rfl, rfl⟩
      go_wp2_with fail
      refine (HSP.out _).mono ?_
      rintro e w2 ⟨v, rfl, hown, b2⟩
      obtain ⟨cap, gw, rfl, hgw, hrow, hcap⟩ := Row.of_own hown hpos
      have R2 := R0.out.below b2
      obtain ⟨t0, t1, t2⟩ := R2.cells
      have g0 := R2.frozen 0
      have g1 := R2.frozen 1
      have g2 := R2.frozen 2
      have B2 := Lib.hid (below_then B0.out b2)
      clear hown b2 hrow R0 B0 R2
      go_wp2
      refine bodyPost_ret (v := .tuple #[.agg #[.int .i64 0, .int .i64 0, .slice none 0 0], .bool false]) (by simp [results, Tryd.results15, go_sem, t0, t1, t2]) rfl ?_
      rw [HNO.out]
      first | exact fopt_none B2.out | exact fret_put2 (r := none) B2.out OwnI.none_ rfl _ _ _
end Go.Proofs.YtgfgimpglaepaabDoor
namespace Go.Proofs.YtgfgimpglaepaabDoor
open Go.RowKit
set_option linter.unusedVariables false
set_option linter.unusedSimpArgs false
theorem rdS_dot {w : List UInt8} (h : w = [46]) : rdS w = some (-9999) := by unfold rdS; rw [if_pos h]
theorem rdS_yes {w : List UInt8} (h : w ≠ [46]) (h1 : pB (baL w) = true) (h2 : pN (baL w) ≠ -9999) : rdS w = some (pN (baL w)) := by unfold rdS; rw [if_neg h, if_pos ⟨h1, h2⟩]
theorem rdS_no {w : List UInt8} (h : w ≠ [46]) (h1 : pB (baL w) = false ∨ pN (baL w) = -9999) : rdS w = none := by
  unfold rdS
  rw [if_neg h, if_neg]
  rintro ⟨h2, h3⟩
  rcases h1 with h1 | h1
  · rw [h1] at h2; cases h2
  · exact h3 h1
theorem row_fail {ls : List (List UInt8)} {k m : Nat} (hk : k < ls.length) (hm : m < (splitL ls[k] 32).length) (h : rdS (splitL ls[k] 32)[m] = none) : spRows ls = none := spRows_fail hk (spAll_fail hm h)
set_option maxRecDepth 100000 in
set_option maxHeartbeats 8000000 in
theorem specPF_in (s : ByteArray) (w : World) (hs : s.size ≤ 500) (hH1 : 1 ≤ (linesP s.data.toList).length) (hH8 : (linesP s.data.toList).length ≤ 8) :
    Calls Tryd.prog 49 #[.string s] w (FRet (pfR s.data.toList) w) := by
  obtain ⟨i0, hi0', hz0, hz1, hz2⟩ := info_parts infoInt
  have HS := Lib.hid (fun W => split_any s 10 W (by omega))
  unfold SplitPost at HS
  have hl := lines_len s.data.toList
  have hsl := splitL_length s.data.toList 10
  have HFAIL := Lib.hid (fun (h : spRows (linesP s.data.toList) = none) => pfS_fail h)
  have HCHK := Lib.hid (fun R h => pfS_check (s := s.data.toList) (R := R) h)
  have HGET := Lib.hid (fun k h => lines_get (s := s.data.toList) (k := k) h)
  have hsz0 : s.data.toList.length = s.size := rfl
  have HLL := Lib.hid (fun k (h : k < (linesP s.data.toList).length) => (show (linesP s.data.toList)[k].length ≤ 500 by
    obtain ⟨h2, e⟩ := lines_get h
    rw [← e]
    have := line_len (List.getElem_mem h2)
    omega))
  obtain ⟨LS, hLS⟩ : ∃ L, linesP s.data.toList = L := ⟨_, rfl⟩
  rw [hLS] at hl HFAIL HCHK HGET HLL hH1 hH8
  clear hLS
  obtain ⟨H, hH⟩ : ∃ H, LS.length = H := ⟨_, rfl⟩
  rw [hH] at hl hH1 hH8
  have HH := Lib.hid hH
  rw [← hl] at HS
  clear hl hH hsl hsz0
  have R0 := Lib.hid (show Box ((w.alloc (.cells #[.int .i64 0, .int .i64 0, .slice none 0 0] 26)).alloc (.cells #[.int .i64 0, .int .i64 0, .slice none 0 0] 26)) w.heap.size 26 (.int .i64 0) (.int .i64 0) (.slice none 0 0) from (Box.new w _ _ _ _).alloc _)
  have N0 := Lib.hid (show Box ((w.alloc (.cells #[.int .i64 0, .int .i64 0, .slice none 0 0] 26)).alloc (.cells #[.int .i64 0, .int .i64 0, .slice none 0 0] 26)) (w.heap.size + 1) 26 (.int .i64 0) (.int .i64 0) (.slice none 0 0) by have h9 := Box.new (w.alloc (.cells #[.int .i64 0, .int .i64 0, .slice none 0 0] 26)) 26 (.int .i64 0) (.int .i64 0) (.slice none 0 0); rw [World.size_alloc] at h9; exact h9)
  have B0 := Lib.hid (show Below w.heap.size w ((w.alloc (.cells #[.int .i64 0, .int .i64 0, .slice none 0 0] 26)).alloc (.cells #[.int .i64 0, .int .i64 0, .slice none 0 0] 26)) from (below_all w _).alloc (by simp) _)
  have eH : ((H + 1 : Nat) : Int) - 1 = (H : Int) := by omega
  have hnl : ¬ (500 : Int) < (s.size : Int) := by omega
  have HIN := Lib.hid (fun W => in_yes (H : Int) 1 8 W (by omega) (by omega))
  go_enter Tryd.func49, Tryd.ntmps49
  go_wp2_with fail
  refine (HS.out _).mono ?_
  rintro e w1 ⟨v, rfl, hown, b1⟩
  have zb := b1.size
  simp only [World.size_alloc] at zb
  obtain ⟨gl, cap, hv⟩ := own_slice hown (by omega)
  subst hv
  have LROW : Row w1 gl 9 (txt (splitL s.data.toList 10)) := by
    obtain ⟨cap2, g2, e2, _, h2, _⟩ := Row.of_own hown (by omega)
    injection e2 with e3
    have e4 := Option.some.inj e3
    injection e4 with e5
    subst e5
    exact h2
  have P1 := Lib.hid (show Ps w w1.heap.size gl (splitL s.data.toList 10) 0 (H : Int) (.slice none 0 0) [] (w1.alloc (.cells #[.int .i64 0, .int .i64 (H : Int), .slice none 0 0] 26)) from
    ⟨(R0.out.below b1).alloc _, (N0.out.below b1).alloc _, Box.new _ _ _ _ _, LROW.alloc _, World.ownsRow_nil _ _ _ _, (below_then B0.out b1).alloc (below_then B0.out b1).size _, by omega⟩)
  obtain ⟨f0, f1, f2⟩ := P1.out.box.cells
  clear hown b1 LROW R0 N0 B0
  go_wp2_with fail
  refine (HIN.out _).mono ?_
  rintro e w2 ⟨rfl, rfl⟩
  go_wp2
  clear f0 f1 f2 eH hnl
  have HLK : Hid (∀ k (h : k < (splitL s.data.toList 10).length), (txt (splitL s.data.toList 10))[k]'(by rw [txt_length]; exact h) = .string (baL (splitL s.data.toList 10)[k])) := Lib.hid (fun k h => by simp [txt, baL])
  go_loopw [7] (fun i wr => ∃ (k : Nat) (R : List (List Int)) (out : Value), k ≤ H ∧ i = .int .i64 k ∧ spRows (LS.take k) = some R ∧ R.flatten.length ≤ 501 * k ∧ Ps w w1.heap.size gl (splitL s.data.toList 10) (lastW R : Int) (H : Int) out R.flatten wr) (fun i _ => H - (intOf i).toNat)
  case atStart => exact ⟨0, [], .slice none 0 0, Nat.zero_le _, rfl, rfl, by simp, P1.out⟩
  case round =>
    obtain ⟨k, R, out, hk, rfl, hR, hfl, hps⟩ := hrel
    have HP := Lib.hid hps
    have HRR := Lib.hid hR
    clear hR
    by_cases hlt : k < H
    · obtain ⟨h2, hg⟩ := HGET.out k (by rw [HH.out]; exact hlt)
      have hcell := hps.lin.cell (k := k) (by rw [txt_length]; exact h2)
      rw [HLK.out k h2, hg] at hcell
      have hll := HLL.out k (by rw [HH.out]; exact hlt)
      have HNX := Lib.hid (fun vs (h : spAll (splitL (LS[k]'(by rw [HH.out]; exact hlt)) 32) = some vs) => spRows_step (ls := LS) (k := k) (by rw [HH.out]; exact hlt) HRR.out h)
      have HNO := Lib.hid (fun m (hm : m < (splitL (LS[k]'(by rw [HH.out]; exact hlt)) 32).length) h => HFAIL.out (row_fail (ls := LS) (k := k) (by rw [HH.out]; exact hlt) hm h))
      obtain ⟨line, hline⟩ : ∃ L, LS[k]'(by rw [HH.out]; exact hlt) = L := ⟨_, rfl⟩
      rw [hline] at hcell hll HNX HNO
      clear hg h2 hline
      have HSP := Lib.hid (fun W => split_any (baL line) 32 W (by show (baL line).data.toList.length ≤ 1048576; rw [baL_list]; omega))
      rw [baL_list] at HSP
      unfold SplitPost at HSP
      have hwl := splitL_length line 32
      have hwp := splitL_pos line 32
      have HWL := Lib.hid (fun w (h : w ∈ splitL line 32) => Nat.le_trans (word_len h) hll)
      obtain ⟨WS, hWS⟩ : ∃ L, splitL line 32 = L := ⟨_, rfl⟩
      rw [hWS] at HSP hwl hwp HNX HNO HWL
      clear hWS
      obtain ⟨n, hn⟩ : ∃ n, WS.length = n := ⟨_, rfl⟩
      rw [hn] at hwl hwp HSP
      have HN := Lib.hid hn
      clear hn
      have hn501 : n ≤ 501 := by omega
      obtain ⟨c0, c1, c2⟩ := hps.box.cells
      have g0 := hps.box.frozen 0
      have zf := hps.box.lt
      have hi : (k : Int) < (H : Int) := by omega
      have hi1 : (k : Int) < (H : Int) + 1 := by omega
      have hi0 : (0 : Int) ≤ (k : Int) := by omega
      clear hps
      go_wp2_with fail
      refine (HSP.out _).mono ?_
      rintro e w3 ⟨v3, rfl, hown3, b3⟩
      obtain ⟨gw, capw, hv3⟩ := own_slice hown3 (by omega)
      subst hv3
      have WROW : Row w3 gw 9 (txt WS) := by
        obtain ⟨cap2, g2, e2, _, h2, _⟩ := Row.of_own hown3 (by omega)
        injection e2 with e3
        have e4 := Option.some.inj e3
        injection e4 with e5
        subst e5
        exact h2
      have P3 := HP.out.step b3
      obtain ⟨c0, c1, c2⟩ := P3.box.cells
      have g0 := P3.box.frozen 0
      have zf3 := P3.box.lt
      have P4 := Lib.hid (P3.wide (n : Int))
      have W4 := Lib.hid (WROW.other (p := ⟨w1.heap.size, 0, none⟩) (show gw ≠ w1.heap.size from row_ne_box P3.box WROW (by decide)) (.int .i64 (n : Int)))
      clear hown3 b3 WROW P3
      go_wp2
      clear c0 c1 c2 g0
      have HLW : Hid (∀ j (h : j < WS.length), (txt WS)[j]'(by rw [txt_length]; exact h) = .string (baL WS[j])) := Lib.hid (fun j h => by simp [txt, baL])
      go_loopw [9] (fun i wr => ∃ (m : Nat) (vs : List Int) (out : Value), m ≤ n ∧ i = .int .i64 m ∧ spAll (WS.take m) = some vs ∧ Ps w w1.heap.size gl (splitL s.data.toList 10) (n : Int) (H : Int) out (R.flatten ++ vs) wr ∧ Row wr gw 9 (txt WS)) (fun i _ => n - (intOf i).toNat)
      case atStart => exact ⟨0, [], out, Nat.zero_le _, rfl, rfl, by rw [List.append_nil]; exact P4.out, W4.out⟩
      case round =>
        obtain ⟨m, vs, out', hm, rfl, hvs, hp5, hw5⟩ := hrel
        have P5 := Lib.hid hp5
        have W5 := Lib.hid hw5
        have HVS := Lib.hid hvs
        have hvl := spAll_len hvs
        rw [List.length_take, HN.out] at hvl
        clear hvs hp5
        by_cases hltm : m < n
        · have hltW : m < WS.length := by rw [HN.out]; exact hltm
          have hcell := hw5.cell (k := m) (by rw [txt_length]; exact hltW)
          rw [HLW.out m hltW] at hcell
          have hxl := HWL.out _ (List.getElem_mem hltW)
          have HST := Lib.hid (fun v (h : rdS WS[m] = some v) => spAll_step hltW HVS.out h)
          have HNM := Lib.hid (HNO.out m hltW)
          have hLl : (R.flatten ++ vs).length ≤ 5000 := by rw [List.length_append]; omega
          obtain ⟨L, hL⟩ : ∃ L, R.flatten ++ vs = L := ⟨_, rfl⟩
          rw [hL] at P5 hLl
          have HLL2 := Lib.hid hL
          obtain ⟨x, hx⟩ : ∃ x, WS[m] = x := ⟨_, rfl⟩
          rw [hx] at hcell hxl HST HNM
          clear hx hL hvl hw5 hltW
          have HRD := Lib.hid (fun W => read_any (baL x) W (by show (baL x).data.toList.length ≤ 1048576; rw [baL_list]; omega))
          have hbd := pN_bd (baL x)
          have HRY := Lib.hid (fun h h1 h2 => rdS_yes (w := x) h h1 h2)
          have HRN := Lib.hid (fun h h1 => rdS_no (w := x) h h1)
          have HRDOT := Lib.hid (fun h => rdS_dot (w := x) h)
          have hbl := baL_toList x
          generalize pN (baL x) = pn at *
          generalize pB (baL x) = pb at *
          have hi5 : (m : Int) < (n : Int) := by omega
          have hi50 : (0 : Int) ≤ (m : Int) := by omega
          go_wp2_with fail
          refine (HRD.out _).mono ?_
          rintro e w6 ⟨rfl, d6⟩
          have P6 := Lib.hid (P5.out.step (d6.below _))
          have W6 := Lib.hid (W5.out.drew d6)
          have hcell6 : w6.cell? ⟨gw, m, none⟩ = some (.string (baL x)) := (d6.cell _).trans hcell
          clear d6 hcell P5 W5
          by_cases hdot : x = [46]
          · have hq : ((baL x).toList == [46]) = true := by rw [hbl]; exact beq_iff_eq.2 hdot
            have RDYES := HRDOT.out hdot
            have HDOT := Lib.hid hdot
            clear hdot hbl
            have HV := Lib.hid (HST.out _ RDYES)
            obtain ⟨c0, c1, c2⟩ := P6.out.box.cells
            have g2 := P6.out.box.frozen 2
            have zb6 := P6.out.b.size
            have zo6 := P6.out.box.lt
            go_wp2_with (at_builtin; refine wpList_append_own _ rfl _ _ 24 rfl (w.heap.size + 1) 3 i0 (.int .i64 0) 1 8 Tryd.underlying24 hi0' hz0 hz1 hz2 rfl (by decide) _ L.length (iv L) rfl (P6.out.own.alloc _) ⟨w6.heap.size, 0, none⟩ 1 1 [.int .i64 (-9999)] rfl rfl (cell_one_new _ _ _) (by simp [Value.oneCell']) (by unfold maxLen; omega) (by omega) (by simp; omega) ?_; intro v' w7 hown7 hgrow7 _; obtain ⟨g7, cap7, rfl, ⟨u7, hu7⟩, hf7, hz7, P7_, KR⟩ := P6.out.put (x := (-9999)) hown7 hgrow7; have P7 := Lib.hid P7_; have W7 := Lib.hid (KR W6.out); clear hown7 hgrow7 P7_ KR)
            go_roundw
            case rel => exact ⟨m + 1, vs ++ [(-9999)], _, by omega, by go_num, HV.out, by rw [← List.append_assoc, HLL2.out]; exact P7.out, W7.out⟩
            case measure => simp [intOf]; omega
          · have hq : ((baL x).toList == [46]) = false := by rw [hbl]; exact beq_eq_false_iff_ne.2 hdot
            by_cases hmis : pn = -9999
            · have RDNO := HRN.out hdot (.inr hmis)
              have e1 : (pn == -9999) = true := by rw [hmis]; rfl
              have HDOT := Lib.hid hdot
              have HMIS := Lib.hid hmis
              clear hdot hmis hbl
              have HF := Lib.hid (HNM.out RDNO)
              obtain ⟨t0, t1, t2⟩ := P6.out.res.cells
              obtain ⟨n0, n1, n2⟩ := P6.out.non.cells
              have g0 := P6.out.res.frozen 0
              have g1 := P6.out.res.frozen 1
              have g2 := P6.out.res.frozen 2
              go_wp2
              refine bodyPost_ret (v := .tuple #[.agg #[.int .i64 0, .int .i64 0, .slice none 0 0], .bool false]) (by simp [results, Tryd.results49, go_sem, t0, t1, t2]) rfl ?_
              rw [HF.out]
              first | exact fopt_none3 P6.out.b | exact fret_put3 (r := none) P6.out.b OwnI.none_ rfl _ _ _
            · have e1 : (pn == -9999) = false := beq_eq_false_iff_ne.2 hmis
              cases hpb : pb with
              | false =>
                have RDNO := HRN.out hdot (.inl hpb)
                subst hpb
                have HDOT := Lib.hid hdot
                have HMIS := Lib.hid hmis
                clear hdot hmis hbl
                have HF := Lib.hid (HNM.out RDNO)
                obtain ⟨t0, t1, t2⟩ := P6.out.res.cells
                obtain ⟨n0, n1, n2⟩ := P6.out.non.cells
                have g0 := P6.out.res.frozen 0
                have g1 := P6.out.res.frozen 1
                have g2 := P6.out.res.frozen 2
                go_wp2
                refine bodyPost_ret (v := .tuple #[.agg #[.int .i64 0, .int .i64 0, .slice none 0 0], .bool false]) (by simp [results, Tryd.results49, go_sem, t0, t1, t2]) rfl ?_
                rw [HF.out]
                first | exact fopt_none3 P6.out.b | exact fret_put3 (r := none) P6.out.b OwnI.none_ rfl _ _ _
              | true =>
                have RDYES := HRY.out hdot hpb hmis
                subst hpb
                have HDOT := Lib.hid hdot
                have HMIS := Lib.hid hmis
                clear hdot hmis hbl
                have HV := Lib.hid (HST.out _ RDYES)
                obtain ⟨c0, c1, c2⟩ := P6.out.box.cells
                have g2 := P6.out.box.frozen 2
                have zb6 := P6.out.b.size
                have zo6 := P6.out.box.lt
                go_wp2_with (at_builtin; refine wpList_append_own _ rfl _ _ 24 rfl (w.heap.size + 1) 3 i0 (.int .i64 0) 1 8 Tryd.underlying24 hi0' hz0 hz1 hz2 rfl (by decide) _ L.length (iv L) rfl (P6.out.own.alloc _) ⟨w6.heap.size, 0, none⟩ 1 1 [.int .i64 pn] rfl rfl (cell_one_new _ _ _) (by simp [Value.oneCell']) (by unfold maxLen; omega) (by omega) (by simp; omega) ?_; intro v' w7 hown7 hgrow7 _; obtain ⟨g7, cap7, rfl, ⟨u7, hu7⟩, hf7, hz7, P7_, KR⟩ := P6.out.put (x := pn) hown7 hgrow7; have P7 := Lib.hid P7_; have W7 := Lib.hid (KR W6.out); clear hown7 hgrow7 P7_ KR)
                go_roundw
                case rel => exact ⟨m + 1, vs ++ [pn], _, by omega, by go_num, HV.out, by rw [← List.append_assoc, HLL2.out]; exact P7.out, W7.out⟩
                case measure => simp [intOf]; omega
        · obtain rfl : m = n := by omega
          rw [List.take_of_length_le (by rw [HN.out]; exact Nat.le_refl _)] at HVS
          have HNK := Lib.hid (HNX.out vs HVS.out)
          have hlw := lastW_snoc R vs
          have hvl2 : vs.length = m := by rw [hvl]; omega
          rw [hvl2] at hlw
          have HLW2 := Lib.hid hlw
          have HFL : Hid ((R ++ [vs]).flatten = R.flatten ++ vs) := Lib.hid (by simp)
          have HFL2 : Hid ((R ++ [vs]).flatten.length ≤ 501 * (k + 1)) := Lib.hid (by rw [HFL.out, List.length_append]; omega)
          clear hlw hvl hvl2 hw5
          go_wp2
          go_roundw
          case rel => exact ⟨k + 1, R ++ [vs], out', by omega, by go_num, HNK.out, HFL2.out, by rw [HLW2.out, HFL.out]; exact P5.out⟩
          case measure => simp [intOf]; omega
    · obtain rfl : k = H := by omega
      rw [List.take_of_length_le (by rw [HH.out]; exact Nat.le_refl _)] at HRR
      have HCK := HCHK.out R HRR.out
      rw [HH.out] at HCK
      clear hps
      obtain ⟨W, hW⟩ : ∃ W, lastW R = W := ⟨_, rfl⟩
      rw [hW] at HP HCK
      clear hW
      obtain ⟨L, hL⟩ : ∃ L, R.flatten = L := ⟨_, rfl⟩
      rw [hL] at HP HCK hfl
      clear hL
      obtain ⟨a, c, hv, ho⟩ := ownI_of HP.out.own rfl
      subst hv
      have HO := Lib.hid ho
      have hLl : L.length ≤ 1048576 := by omega
      have HGD := Lib.hid (fun v Wd h hB => specGood_is (W : Int) (k : Int) a L c (Wd.heap.size) v Wd h hB hLl)
      obtain ⟨c0, c1, c2⟩ := HP.out.box.cells
      have zf := HP.out.box.lt
      have hlt0 : ¬ (k : Int) < (k : Int) := by omega
      clear ho
      go_wp2_with fail
      rcases HCK with ⟨hnone, hbad⟩ | ⟨hsome, hgood, htext⟩
      · by_cases hg : goodB (W : Int) (k : Int) L = true
        · have hsh := shapeB_iff.1 (good_shape hg)
          have hgl := good_len hg
          have hgl2 : L.length = W * k := by (have hq9 : ((W * k : Nat) : Int) = (W : Int) * (k : Int) := by push_cast; rfl); omega
          have HTX := Lib.hid (fun Wd h => l2Text_any W k a L c Wd h (by omega) (by omega) (by omega) (by omega) hgl2 (good_bd hg))
          refine (HGD.out true _ HO.out.ints (Nat.le_refl _) hg).mono ?_
          rintro e w2 ⟨rfl, b2⟩
          have P2 := Lib.hid (HP.out.step b2)
          have O2 := Lib.hid (HO.out.below b2)
          obtain ⟨c0, c1, c2⟩ := P2.out.box.cells
          clear b2 hsh hgl hgl2
          go_wp2_with fail
          refine (HTX.out _ O2.out.ints).mono ?_
          rintro e w3 ⟨rfl, b3⟩
          have P3 := Lib.hid (P2.out.step b3)
          have O3 := Lib.hid (O2.out.below b3)
          obtain ⟨d0, d1, d2⟩ := P3.out.box.cells
          obtain ⟨t0, t1, t2⟩ := P3.out.res.cells
          obtain ⟨n0, n1, n2⟩ := P3.out.non.cells
          have g0 := P3.out.res.frozen 0
          have g1 := P3.out.res.frozen 1
          have g2 := P3.out.res.frozen 2
          clear b3 P2 O2
          have HNN := Lib.hid hnone
          have hne : textT (chunks L W k) ≠ s.data.toList := by
            rcases hbad with h | h
            · rw [hg] at h; cases h
            · exact h
          have hq := str_notl' hne
          generalize textT (chunks L W k) = T at *
          clear hne hbad hnone hg
          go_wp2
          refine bodyPost_ret (v := .tuple #[.agg #[.int .i64 0, .int .i64 0, .slice none 0 0], .bool false]) (by simp [results, Tryd.results49, go_sem, t0, t1, t2]) rfl ?_
          rw [HNN.out]
          first | exact fopt_none3 P3.out.b | exact fret_put3 (r := none) P3.out.b OwnI.none_ rfl _ _ _
        · have hgf : goodB (W : Int) (k : Int) L = false := by simpa using hg
          refine (HGD.out false _ HO.out.ints (Nat.le_refl _) hgf).mono ?_
          rintro e w2 ⟨rfl, b2⟩
          have P2 := HP.out.step b2
          obtain ⟨t0, t1, t2⟩ := P2.res.cells
          obtain ⟨n0, n1, n2⟩ := P2.non.cells
          have g0 := P2.res.frozen 0
          have g1 := P2.res.frozen 1
          have g2 := P2.res.frozen 2
          have PB := Lib.hid P2.b
          have HNN := Lib.hid hnone
          clear b2 hgf hg hbad P2 hnone
          go_wp2
          refine bodyPost_ret (v := .tuple #[.agg #[.int .i64 0, .int .i64 0, .slice none 0 0], .bool false]) (by simp [results, Tryd.results49, go_sem, t0, t1, t2]) rfl ?_
          rw [HNN.out]
          first | exact fopt_none3 PB.out | exact fret_put3 (r := none) PB.out OwnI.none_ rfl _ _ _
      · have hg := hgood
        have hsh := shapeB_iff.1 (good_shape hg)
        have hgl := good_len hg
        have hgl2 : L.length = W * k := by (have hq9 : ((W * k : Nat) : Int) = (W : Int) * (k : Int) := by push_cast; rfl); omega
        have HTX := Lib.hid (fun Wd h => l2Text_any W k a L c Wd h (by omega) (by omega) (by omega) (by omega) hgl2 (good_bd hg))
        refine (HGD.out true _ HO.out.ints (Nat.le_refl _) hg).mono ?_
        rintro e w2 ⟨rfl, b2⟩
        have P2 := Lib.hid (HP.out.step b2)
        have O2 := Lib.hid (HO.out.below b2)
        obtain ⟨c0, c1, c2⟩ := P2.out.box.cells
        clear b2 hsh hgl hgl2
        go_wp2_with fail
        refine (HTX.out _ O2.out.ints).mono ?_
        rintro e w3 ⟨rfl, b3⟩
        have P3 := Lib.hid (P2.out.step b3)
        have O3 := Lib.hid (O2.out.below b3)
        obtain ⟨d0, d1, d2⟩ := P3.out.box.cells
        obtain ⟨t0, t1, t2⟩ := P3.out.res.cells
        obtain ⟨n0, n1, n2⟩ := P3.out.non.cells
        have g0 := P3.out.res.frozen 0
        have g1 := P3.out.res.frozen 1
        have g2 := P3.out.res.frozen 2
        clear b3 P2 O2
        have HSM := Lib.hid hsome
        have hq := str_isl' htext
        have HTT := Lib.hid htext
        generalize textT (chunks L W k) = T at *
        clear htext hsome hgood hg
        go_wp2
        refine bodyPost_ret (v := .tuple #[.agg #[.int .i64 (W : Int), .int .i64 (k : Int), .slice a L.length c], .bool true]) (by simp [results, Tryd.results49, go_sem, t0, t1, t2]) rfl ?_
        rw [HSM.out]
        exact fret_put3 (r := some ((W : Int), (k : Int), L)) P3.out.b O3.out rfl _ _ _
end Go.Proofs.YtgfgimpglaepaabDoor
namespace Go.Proofs.YtgfgimpglaepaabDoor
open Go.RowKit
set_option linter.unusedVariables false
set_option linter.unusedSimpArgs false
def pfRs (s : ByteArray) : Option (Int × Int × List Int) := pfR s.data.toList
theorem flat_le8 : ∀ (R : List (List Int)), (∀ r ∈ R, r.length ≤ 8) → R.flatten.length ≤ 8 * R.length
  | [], _ => by simp
  | r :: R, h => by
    have h1 := h r (by simp)
    have h2 := flat_le8 R (fun x hx => h x (by simp [hx]))
    simp only [List.flatten_cons, List.length_append, List.length_cons]; omega
theorem pfRs_len (s : ByteArray) : (rL (pfRs s)).length ≤ 64 := by
  unfold pfRs
  cases hp : pfR s.data.toList with
  | none => simp [rL]
  | some f =>
    obtain ⟨R, h1, _, h2, _, _, h3, _⟩ := pf_some hp
    have := flat_le8 R (fun r hr => ((rdRows_some h1).2 r hr).2.1)
    subst h2
    show R.flatten.length ≤ 64
    omega
theorem l2Parse_any (s : ByteArray) (w : World) (hs : s.size ≤ 1048576) : Calls Tryd.prog 49 #[.string s] w (FRet (pfRs s) w) := by
  by_cases h : s.size ≤ 500 ∧ 1 ≤ (linesP s.data.toList).length ∧ (linesP s.data.toList).length ≤ 8
  · exact specPF_in s w h.1 h.2.1 h.2.2
  · exact specPF_out s w hs (by omega)
theorem implPF_any (s : ByteArray) (w : World) (hs : s.size ≤ 1048576) (ht : Tab w) (he : Errs w) : Calls Tryd.prog 15 #[.string s] w (FRet (pfRs s) w) := by
  by_cases h : ∃ b, s.data.toList = b ++ [10]
  · obtain ⟨b, hb⟩ := h
    exact implPF_yes s b w hs hb ht he
  · exact implPF_no s w hs (fun b hb => h ⟨b, hb⟩)
set_option maxHeartbeats 1000000 in
theorem specPF_any (s : ByteArray) (w : World) (hs : s.size ≤ 1048576) : Calls Tryd.prog 17 #[.string s] w (FRet (pfRs s) w) := by
  have C := Lib.hid (fun W => l2Parse_any s W hs)
  have X0 := Lib.hid (Box.new w 26 (.int .i64 0) (.int .i64 0) (.slice none 0 0))
  generalize pfRs s = r at *
  unfold FRet at C
  go_enter Tryd.func17, Tryd.ntmps17
  go_wp2_with fail
  refine (C.out _).mono ?_
  rintro e w1 ⟨a1, c1, rfl, o1, b1⟩
  have X1 := X0.out.below b1
  obtain ⟨t0, t1, t2⟩ := X1.cells
  have g0 := X1.frozen 0
  have g1 := X1.frozen 1
  have g2 := X1.frozen 2
  have B1 := Lib.hid (below_then (below_all _ _) b1)
  have O1 := Lib.hid o1
  clear b1 o1 X1
  go_wp2
  refine bodyPost_ret (v := .tuple #[.agg #[.int .i64 (rW r), .int .i64 (rH r), .slice a1 (rL r).length c1], .bool (rB r)]) (by simp [results, Tryd.results17, go_sem, t0, t1, t2]) rfl ?_
  have h := O1.out
  simp only [World.size_alloc] at h
  exact fret_put3 B1.out h rfl _ _ _
end Go.Proofs.YtgfgimpglaepaabDoor
namespace Go.Proofs.YtgfgimpglaepaabDoor
open Go.RowKit
set_option linter.unusedVariables false
set_option linter.unusedSimpArgs false
theorem good_length {wd hg : Int} {l : List Int} (h : goodB wd hg l = true) : (l.length : Int) = wd * hg := by
  unfold goodB at h
  simp only [Bool.and_eq_true, decide_eq_true_eq] at h
  exact h.1.2
theorem good_set {wd hg v : Int} {l : List Int} (h : goodB wd hg l = true) (hv : cellB v = true) (k : Nat) : goodB wd hg (l.set k v) = true :=
  good_mk (good_shape h) (by rw [List.length_set]; exact good_length h) (cells_set (good_all h) hv k)
theorem setR_some {wd hg : Int} {l : List Int} {x y v : Int} {f : Int × Int × List Int} (h : setR wd hg l x y v = some f) : goodB wd hg l = true ∧ inB wd hg x y = true ∧ cellB v = true ∧ f = (wd, hg, l.set (place wd x y) v) := by
  cases hc : (goodB wd hg l && inB wd hg x y && cellB v) with
  | false => rw [setR_no hc] at h; cases h
  | true =>
    rw [setR_yes hc] at h
    injection h with h
    simp only [Bool.and_eq_true] at hc
    exact ⟨hc.1.1, hc.1.2, hc.2, h.symm⟩
theorem set_found {wd hg : Int} {l : List Int} {x y v : Int} (hg' : goodB wd hg l = true) (hi : inB wd hg x y = true) (hv : cellB v = true) :
    cellN wd hg (l.set (place wd x y) v) x y = v ∧ cellOk wd hg (l.set (place wd x y) v) x y = true := by
  have hk := place_lt hg' hi
  have ho : cellOk wd hg (l.set (place wd x y) v) x y = true := by unfold cellOk; rw [good_set hg' hv, hi]; rfl
  refine ⟨?_, ho⟩
  rw [cellN_yes ho (by rw [List.length_set]; exact hk)]
  simp
theorem set_old {wd hg : Int} {l : List Int} {x y : Int} (hg' : goodB wd hg l = true) (hi : inB wd hg x y = true) : cellOk wd hg l x y = true := by
  unfold cellOk; rw [hg', hi]; rfl
theorem set_back {wd hg : Int} {l : List Int} {x y v : Int} (hg' : goodB wd hg l = true) (hi : inB wd hg x y = true) (hv : cellB v = true) :
    setR wd hg (l.set (place wd x y) v) x y (cellN wd hg l x y) = some (wd, hg, l) := by
  have hk := place_lt hg' hi
  rw [cellN_yes (set_old hg' hi) hk]
  have hc := good_all hg' _ (List.getElem_mem hk)
  rw [setR_yes (by rw [good_set hg' hv, hi, hc]; rfl)]
  rw [List.set_set, List.set_getElem_self]
theorem ftS_data {wd hg : Int} {l : List Int} (h : goodB wd hg l = true) : (ftS wd hg l).data.toList = textT (chunks l wd.toNat hg.toNat) := by
  rw [ftS_yes h]
theorem pf_text {wd hg : Int} {l : List Int} (h : goodB wd hg l = true) : pfRs (ftS wd hg l) = some (wd, hg, l) := by
  unfold pfRs
  rw [ftS_data h]
  have hc := good_all h
  obtain ⟨W, H, rfl, rfl, n1, n2, n3, n4, hl⟩ := good_nat h
  rw [Int.toNat_natCast, Int.toNat_natCast]
  exact pf_good n1 n2 n3 n4 hl hc
theorem ftS_size (wd hg : Int) (l : List Int) : (ftS wd hg l).size ≤ 1048576 := by
  cases h : goodB wd hg l with
  | false => rw [ftS_no h]; decide
  | true =>
    have h1 := pf_len (f := (wd, hg, l)) (s := (ftS wd hg l).data.toList) (pf_text h)
    have h2 : (ftS wd hg l).data.toList.length = (ftS wd hg l).size := rfl
    omega
theorem text_back {t : ByteArray} {P Q : Int} {N : List Int} (h : pfRs t = some (P, Q, N)) : ftS P Q N = t ∧ goodB P Q N = true := by
  unfold pfRs at h
  obtain ⟨R, h1, _⟩ := pf_some h
  have h2 := spRows_of h1
  rcases pfS_check h2 with ⟨h3, _⟩ | ⟨h3, h4, h5⟩
  · rw [h] at h3; cases h3
  · rw [h] at h3
    injection h3 with h3
    injection h3 with e1 h3
    injection h3 with e2 e3
    subst e1
    subst e2
    subst e3
    refine ⟨?_, h4⟩
    have h6 := ftS_data h4
    rw [Int.toNat_natCast, Int.toNat_natCast, h5] at h6
    exact ByteArray.ext (Array.ext' h6)
end Go.Proofs.YtgfgimpglaepaabDoor
namespace Go.Proofs.YtgfgimpglaepaabDoor
open Go.RowKit
set_option linter.unusedVariables false
set_option linter.unusedSimpArgs false
theorem fretC_put2 {w w1 : World} {r : Option (Int × Int × List Int)} {e : Ending} {a : Option Addr} {c : Nat} (hc : (rL r).length ≤ c) (hb : Below w.heap.size w w1) (ho : OwnI w1 (w.heap.size + 1) a (rL r)) (he : e = .returned (.tuple #[.agg #[.int .i64 (rW r), .int .i64 (rH r), .slice a (rL r).length c], .bool (rB r)])) (u0 u1 u2 : Value) :
    FRetC r w e (((w1.setCell ⟨w.heap.size, 0, none⟩ u0).setCell ⟨w.heap.size, 1, none⟩ u1).setCell ⟨w.heap.size, 2, none⟩ u2) :=
  ⟨a, c, hc, he, (ownI_set (ownI_set (ownI_set ho (by omega) _) (by omega) _) (by omega) _).more (by omega), ((hb.setCell (p := ⟨w.heap.size, 0, none⟩) (Nat.le_refl _) _).setCell (p := ⟨w.heap.size, 1, none⟩) (Nat.le_refl _) _).setCell (p := ⟨w.heap.size, 2, none⟩) (Nat.le_refl _) _⟩
theorem foptC_none {w w1 : World} (hb : Below w.heap.size w w1) : FRetC none w (.returned (.tuple #[.agg #[.int .i64 0, .int .i64 0, .slice none 0 0], .bool false])) w1 := ⟨none, 0, Nat.le_refl _, rfl, OwnI.none_, hb⟩
set_option maxRecDepth 100000 in
set_option maxHeartbeats 2000000 in
theorem implPFc_yes (s : ByteArray) (b : List UInt8) (w : World) (hs : s.size ≤ 1048576) (hb : s.data.toList = b ++ [10]) (ht : Tab w) (he : Errs w) :
    Calls Tryd.prog 15 #[.string s] w (FRetC (pfR s.data.toList) w) := by
  have hbl : b.length + 1 = s.size := by
    have h1 : s.data.toList.length = s.size := rfl
    rw [hb] at h1
    simpa using h1
  have HC := Lib.hid (fun W => Tryd.strings_CutSuffix s ⟨#[10]⟩ W (by omega))
  have e10 : (⟨#[10]⟩ : ByteArray).data.toList = [10] := rfl
  rw [e10, hb, (suffix_yes b).1, (suffix_yes b).2] at HC
  rw [hb]
  have eb : (⟨b.toArray⟩ : ByteArray) = baL b := rfl
  rw [eb] at HC
  have hbz : (baL b).size = b.length := by show b.toArray.size = _; simp
  have X0 := Box.new w 26 (.int .i64 0) (.int .i64 0) (.slice none 0 0)
  have B0 := Lib.hid (below_all w (.cells #[.int .i64 0, .int .i64 0, .slice none 0 0] 26))
  have HT := Lib.hid (fun W (G : Below w.heap.size w W) => ht.below G)
  have HE := Lib.hid (fun W (G : Below w.heap.size w W) => he.below G)
  clear ht he e10 eb
  by_cases hlong : 4000 < b.length
  · have HR := Lib.hid (show pfR (b ++ [10]) = none from pf_long (by simp; omega))
    have HSP := Lib.hid (fun W => splitTo_no (baL b) ⟨#[10]⟩ W (by omega) (by omega))
    have R0 := Lib.hid X0
    clear X0 hb
    generalize baL b = bs at *
    go_enter Tryd.func15, Tryd.ntmps15
    go_wp2_with fail
    refine (HC.out _).mono ?_
    rintro e w1 ⟨rfl, rfl⟩
    go_wp2_with fail
    refine (HSP.out _).mono ?_
    rintro e w2 ⟨⟨v, rfl⟩, b2⟩
    have R2 := R0.out.below b2
    obtain ⟨t0, t1, t2⟩ := R2.cells
    have g0 := R2.frozen 0
    have g1 := R2.frozen 1
    have g2 := R2.frozen 2
    have B2 := Lib.hid (below_then B0.out b2)
    clear b2 R2 R0 B0
    go_wp2
    refine bodyPost_ret (v := .tuple #[.agg #[.int .i64 0, .int .i64 0, .slice none 0 0], .bool false]) (by simp [results, Tryd.results15, go_sem, t0, t1, t2]) rfl ?_
    rw [HR.out]
    first | exact foptC_none B2.out | exact fretC_put2 (r := none) (Nat.zero_le _) B2.out OwnI.none_ rfl _ _ _
  · have HSP := Lib.hid (fun W => splitTo_yes (baL b) ⟨#[10]⟩ W (by omega) rfl)
    have e10 : (((⟨#[10]⟩ : ByteArray)[0]'(by decide)).toNat : Int) = 10 := rfl
    rw [e10, baL_list] at HSP
    unfold StPost at HSP
    have hpos := splitL_pos b 10
    have HLL := Lib.hid (fun y (h : y ∈ splitL b 10) => Nat.le_trans (line_len h) (show b.length ≤ 4000 by omega))
    have HFAIL := Lib.hid (fun k (hk : k < (splitL b 10).length) h => pf_fail hk h)
    have HUN := Lib.hid (fun k (hk : k < (splitL b 10).length) R W vs h0 h1 h2 h3 h4 h5 => pf_uneven (R := R) (W := W) (vs := vs) hk h0 h1 h2 h3 h4 h5)
    have HYES := Lib.hid (fun R W h8 h1 h2 => pf_yes (b := b) (R := R) (W := W) h8 h1 h2)
    have HLONG := Lib.hid (show 8 < (splitL b 10).length → pfR (b ++ [10]) = none from fun h => by rw [pf_end, if_neg (by omega)])
    generalize splitL b 10 = ls at *
    generalize pfR (b ++ [10]) = r at *
    obtain ⟨n, hn⟩ : ∃ n, ls.length = n := ⟨_, rfl⟩
    rw [hn] at HSP hpos
    have R0 := Lib.hid X0
    clear X0 hb
    by_cases h8 : n ≤ 8
    · have hmk := fun W => run_make_row' (P := Tryd.prog) 56 24 (.slice none 0 0) 24 Tryd.underlying56 infoRow rfl .i64 .i64 n (by omega) (by omega) W
      have h8i : ¬ (8 : Int) < (n : Int) := by omega
      have HN := Lib.hid hn
      clear hn
      generalize baL b = bs at *
      go_enter Tryd.func15, Tryd.ntmps15
      go_wp2_with fail
      refine (HC.out _).mono ?_
      rintro e w1 ⟨rfl, rfl⟩
      go_wp2_with fail
      refine (HSP.out _).mono ?_
      rintro e w2 ⟨v, rfl, hown, b2⟩
      obtain ⟨cap, gw, rfl, hgw, hrow, hcap⟩ := Row.of_own hown hpos
      have R2 := Lib.hid (R0.out.below b2)
      have B2 := Lib.hid (below_then B0.out b2)
      have HW2 := Lib.hid hrow
      have hgl := hrow.lt
      clear hown b2 hrow R0 B0
      obtain ⟨gr, hgr⟩ : ∃ q, w2.heap.size = q := ⟨_, rfl⟩
      have hbl2 := R2.out.lt
      go_wp2
      clear hmk
      have HGR := Lib.hid hgr
      clear hgr
      have HP0 : Hid (Pf w gr gw n ls 0 [] (fun _ => none) (fun _ => 0) 0 (w2.alloc (.cells (madeCells #[.slice none 0 0] n) 24))) := Lib.hid (by
        refine ⟨rfl, rfl, (fun r hr => by cases hr), ?_, HW2.out.alloc _, (fun j hj => by simp at hj), R2.out.alloc _, B2.out.alloc B2.out.size _⟩
        have h9 := (World.rowIs_made w2 (.slice none 0 0) n 24).congr (g := rowsV (fun _ => none) (fun _ => 0) 0 0) (fun i _ => by simp [rowsV])
        rw [HGR.out] at h9
        exact h9)
      have hlo : w.heap.size < gr := by rw [← HGR.out]; exact hbl2
      have hgwr : gw ≠ gr := by rw [← HGR.out]; omega
      have HLO := Lib.hid (And.intro hlo hgwr)
      clear hlo hgwr R2 B2 HW2 hbl2
      go_loopw [39] (fun i wr => ∃ (k : Nat) (R : List (List Int)) (A : Nat → Option Addr) (C : Nat → Nat) (W : Nat), k ≤ n ∧ i = .int .i64 k ∧ Pf w gr gw n ls k R A C W wr) (fun i _ => n - (intOf i).toNat)
      case atStart => exact ⟨0, _, _, _, _, Nat.zero_le _, rfl, HP0.out⟩
      case round =>
        clear HP0
        obtain ⟨k, R, A, C, W, hk, rfl, hP⟩ := hrel
        have HP := Lib.hid hP
        by_cases hlt : k < n
        · have hi : (k : Int) < (n : Int) := by omega
          have hi0 : (0 : Int) ≤ (k : Int) := by omega
          have hkw : k < ls.length := by have := HN.out; omega
          have ck := hP.words.cell (k := k) (by rw [txt_length]; exact hkw)
          have ek : (txt ls)[k]'(by rw [txt_length]; exact hkw) = .string (baL ls[k]) := by simp [txt, baL]
          rw [ek] at ck
          have HROW := Lib.hid (parseRow_any ls[k] wr (HLL.out _ (List.getElem_mem hkw)) (HT.out _ hP.b) (HE.out _ hP.b))
          unfold RwPost at HROW
          clear ek hP
          cases hc : rdRow ls[k] with
          | none =>
            have HNO := Lib.hid (HFAIL.out k hkw hc)
            rw [hc] at HROW
            generalize baL ls[k] = sk at *
            clear hc
            go_wp2_with fail
            refine HROW.out.mono ?_
            rintro e w3 ⟨a3, c3, rfl, o3, b3⟩
            have HP3 := HP.out.step b3
            obtain ⟨t0, t1, t2⟩ := HP3.box.cells
            have g0 := HP3.box.frozen 0
            have g1 := HP3.box.frozen 1
            have g2 := HP3.box.frozen 2
            have B3 := Lib.hid HP3.b
            clear b3 HP3 o3 ck
            go_wp2
            refine bodyPost_ret (v := .tuple #[.agg #[.int .i64 0, .int .i64 0, .slice none 0 0], .bool false]) (by simp [results, Tryd.results15, go_sem, t0, t1, t2]) rfl ?_
            rw [HNO.out]
            first | exact foptC_none B3.out | exact fretC_put2 (r := none) (Nat.zero_le _) B3.out OwnI.none_ rfl _ _ _
          | some vs =>
            have HRD := Lib.hid hc
            rw [hc] at HROW
            generalize baL ls[k] = sk at *
            clear hc
            have HEX : ∀ a w', OwnI w' wr.heap.size a (optL (some vs)) → ∃ g, At w' a g vs := fun a w' h => by obtain ⟨g, _, h9⟩ := h; exact ⟨g, h9⟩
            have HEX := Lib.hid HEX
            by_cases hk0 : k = 0
            · subst hk0
              have HPA := Lib.hid (HP.out.any vs.length)
              go_wp2_with fail
              refine HROW.out.mono ?_
              rintro e w3 ⟨a3, c3, rfl, o3, b3⟩
              have HP3 := Lib.hid (HPA.out.step b3)
              have hfz := HP3.out.rows.frozen 0
              have hov := HP3.out.rows.cell (i := 0) (by omega)
              generalize rowsV A C vs.length 0 0 = ov at hov
              have hA3 := Lib.hid (HEX.out _ _ o3)
              have HP4 := Lib.hid (HP3.out.put hkw HRD.out rfl (c := c3) hA3.out HLO.out.2 (by have := HLO.out.1; omega) (by have := HLO.out.1; omega))
              clear b3 o3 ck
              go_wp2
              go_roundw
              case rel => exact ⟨1, _, _, _, _, by omega, rfl, HP4.out⟩
              case measure => simp [intOf]; omega
            · have hk1 : (0 : Int) < (k : Int) := by omega
              by_cases hw : vs.length = W
              · subst hw
                go_wp2_with fail
                refine HROW.out.mono ?_
                rintro e w3 ⟨a3, c3, rfl, o3, b3⟩
                have HP3 := Lib.hid (HP.out.step b3)
                have h0 := HP3.out.rows.cell (i := 0) (by omega)
                have e0 : rowsV A C vs.length k 0 = .slice (A 0) vs.length (C 0) := if_pos (by omega)
                rw [e0] at h0
                have hfz := HP3.out.rows.frozen k
                have hov := HP3.out.rows.cell (i := k) hlt
                generalize rowsV A C vs.length k k = ov at hov
                have hA3 := Lib.hid (HEX.out _ _ o3)
                have HP4 := Lib.hid (HP3.out.put hkw HRD.out rfl (c := c3) hA3.out HLO.out.2 (by have := HLO.out.1; omega) (by have := HLO.out.1; omega))
                have hoz : (optL (some vs)).length = vs.length := rfl
                rw [hoz]
                clear b3 o3 ck e0 hoz
                go_wp2
                go_roundw
                case rel => exact ⟨k + 1, _, _, _, _, by omega, by go_num, HP4.out⟩
                case measure => simp [intOf]; omega
              · have HNO := Lib.hid (HUN.out k hkw R W vs (by omega) HP.out.len HP.out.rd HP.out.wid HRD.out hw)
                have hne : ((vs.length : Int) != (W : Int)) = true := by simp; omega
                have hne2 : (vs.length != W) = true := by simp; omega
                go_wp2_with fail
                refine HROW.out.mono ?_
                rintro e w3 ⟨a3, c3, rfl, o3, b3⟩
                have HP3 := Lib.hid (HP.out.step b3)
                have h0 := HP3.out.rows.cell (i := 0) (by omega)
                have e0 : rowsV A C W k 0 = .slice (A 0) W (C 0) := if_pos (by omega)
                rw [e0] at h0
                obtain ⟨t0, t1, t2⟩ := HP3.out.box.cells
                have g0 := HP3.out.box.frozen 0
                have g1 := HP3.out.box.frozen 1
                have g2 := HP3.out.box.frozen 2
                have B3 := Lib.hid HP3.out.b
                have hoz : (optL (some vs)).length = vs.length := rfl
                rw [hoz]
                clear b3 o3 ck e0 hoz HP3 hw
                go_wp2
                refine bodyPost_ret (v := .tuple #[.agg #[.int .i64 0, .int .i64 0, .slice none 0 0], .bool false]) (by simp [results, Tryd.results15, go_sem, t0, t1, t2]) rfl ?_
                rw [HNO.out]
                first | exact foptC_none B3.out | exact fretC_put2 (r := none) (Nat.zero_le _) B3.out OwnI.none_ rfl _ _ _
        · obtain rfl : k = n := by omega
          have hrd := hP.rd
          rw [List.take_of_length_le (by have := HN.out; omega)] at hrd
          obtain ⟨hr, hW1, hW8⟩ := HYES.out R W (by have := HN.out; omega) hrd hP.wid
          rw [HN.out] at hr
          have HR := Lib.hid hr
          have HFR := Lib.hid (fieldOfRows_c gr 0 k k W R A C wr hP.len (by omega) h8 hW1 hW8 hP.wid hP.rows.lt (fun j hj => by
            have h9 := hP.rows.cell (i := j) hj
            rw [show rowsV A C W k j = .slice (A j) W (C j) from if_pos hj] at h9
            rw [Nat.zero_add]; exact h9) (fun j hj => by obtain ⟨g9, h9⟩ := hP.each j hj; exact h9.ints))
          clear hP hr hrd hlt
          go_wp2_with fail
          refine HFR.out.mono ?_
          rintro e w3 ⟨a3, c3, hc3, rfl, o3, b3⟩
          have HC3 := Lib.hid hc3
          clear hc3
          have HP3 := HP.out.step b3
          obtain ⟨t0, t1, t2⟩ := HP3.box.cells
          have g0 := HP3.box.frozen 0
          have g1 := HP3.box.frozen 1
          have g2 := HP3.box.frozen 2
          have B3 := Lib.hid HP3.b
          have O3 := Lib.hid (o3.more (C := w.heap.size + 1) (by have := HP.out.box.lt; omega))
          clear b3 HP3 o3
          go_wp2
          refine bodyPost_ret (v := .tuple #[.agg #[.int .i64 W, .int .i64 k, .slice a3 R.flatten.length c3], .bool true]) (by simp [results, Tryd.results15, go_sem, t0, t1, t2]) rfl ?_
          rw [HR.out]
          exact fretC_put2 (r := some ((W : Int), (k : Int), R.flatten)) HC3.out B3.out O3.out rfl _ _ _
    · have HNO := Lib.hid (HLONG.out (by omega))
      have h8i : (8 : Int) < (n : Int) := by omega
      generalize baL b = bs at *
      go_enter Tryd.func15, Tryd.ntmps15
      go_wp2_with fail
      refine (HC.out _).mono ?_
      rintro e w1 ⟨rfl, rfl⟩
      go_wp2_with fail
      refine (HSP.out _).mono ?_
      rintro e w2 ⟨v, rfl, hown, b2⟩
      obtain ⟨cap, gw, rfl, hgw, hrow, hcap⟩ := Row.of_own hown hpos
      have R2 := R0.out.below b2
      obtain ⟨t0, t1, t2⟩ := R2.cells
      have g0 := R2.frozen 0
      have g1 := R2.frozen 1
      have g2 := R2.frozen 2
      have B2 := Lib.hid (below_then B0.out b2)
      clear hown b2 hrow R0 B0 R2
      go_wp2
      refine bodyPost_ret (v := .tuple #[.agg #[.int .i64 0, .int .i64 0, .slice none 0 0], .bool false]) (by simp [results, Tryd.results15, go_sem, t0, t1, t2]) rfl ?_
      rw [HNO.out]
      first | exact foptC_none B2.out | exact fretC_put2 (r := none) (Nat.zero_le _) B2.out OwnI.none_ rfl _ _ _
theorem implPF_c (s : ByteArray) (w : World) (hs : s.size ≤ 1048576) (ht : Tab w) (he : Errs w) : Calls Tryd.prog 15 #[.string s] w (FRetC (pfRs s) w) := by
  by_cases h : ∃ b, s.data.toList = b ++ [10]
  · obtain ⟨b, hb⟩ := h
    exact implPFc_yes s b w hs hb ht he
  · have h1 := implPF_any s w hs ht he
    have h2 : pfRs s = none := pf_noend (fun b hb => h ⟨b, hb⟩)
    rw [h2] at h1 ⊢
    exact h1.mono fun _ _ h => h.c_none
end Go.Proofs.YtgfgimpglaepaabDoor
namespace Go.Proofs.YtgfgimpglaepaabDoor
open Go.RowKit
set_option linter.unusedVariables false
set_option linter.unusedSimpArgs false
set_option maxHeartbeats 400000 in
theorem vInts_yes (a a' : Option Addr) (l : List Int) (c c' B B' : Nat) (w : World) (hl : Ints .i64 w B a l) (hl' : Ints .i64 w B' a' l) (hn : l.length ≤ 1048576) :
    Calls Tryd.prog 37 #[.slice a l.length c, .slice a' l.length c'] w (Quiet (.bool true) w) := by
  have HL := Lib.hid hl
  have HL' := Lib.hid hl'
  clear hl hl'
  go_enter Tryd.func37, Tryd.ntmps37
  go_wp2
  go_loopw [5] (fun i wr => ∃ k : Nat, k ≤ l.length ∧ i = .int .i64 k ∧ Drew w wr) (fun i _ => l.length - (intOf i).toNat)
  case atStart => exact ⟨0, Nat.zero_le _, rfl, Drew.refl w⟩
  case round =>
    obtain ⟨k, hk, rfl, hw⟩ := hrel
    by_cases hlt : k < l.length
    · obtain ⟨b, o, rfl, hb, hc⟩ := (HL.out.drew hw).at_ hlt
      obtain ⟨b', o', rfl, hb', hc'⟩ := (HL'.out.drew hw).at_ hlt
      generalize l[k] = x at *
      have hi : (k : Int) < (l.length : Int) := by omega
      have hi0 : (0 : Int) ≤ (k : Int) := by omega
      go_wp2
      go_quiet (fail)
      go_wp2
      go_roundw
      case rel => exact ⟨k + 1, by omega, by go_num, hw.more _⟩
      case measure => simp [intOf]; omega
    · go_wp2
      go_ret
      exact ⟨rfl, hw⟩

set_option maxHeartbeats 400000 in
theorem vField_yes (wd hg : Int) (a a' : Option Addr) (l : List Int) (c c' : Nat) (w : World) (hl : Ints .i64 w w.heap.size a l) (hl' : Ints .i64 w w.heap.size a' l) (hn : l.length ≤ 1048576) :
    Calls Tryd.prog 10 #[.agg #[.int .i64 wd, .int .i64 hg, .slice a l.length c], .agg #[.int .i64 wd, .int .i64 hg, .slice a' l.length c']] w fun e w' => e = .returned (.bool true) ∧ Below w.heap.size w w' := by
  have HL := Lib.hid hl
  have HL' := Lib.hid hl'
  clear hl hl'
  have b2 : ∀ o1 o2, Below w.heap.size w ((w.alloc o1).alloc o2) := fun o1 o2 => ((Below.refl _ _).alloc (Nat.le_refl _) _).alloc (by simp) _
  have HE := Lib.hid (fun o1 o2 => vInts_yes a a' l c c' w.heap.size w.heap.size ((w.alloc o1).alloc o2) (HL.out.below (b2 o1 o2) (Nat.le_refl _)) (HL'.out.below (b2 o1 o2) (Nat.le_refl _)) hn)
  go_enter Tryd.func10, Tryd.ntmps10
  go_wp2_with (go_at_call 37; refine (HE.out _ _).mono ?_; rintro e w1 ⟨rfl, d⟩; have HD := Lib.hid d; clear d)
  go_ret
  exact ⟨rfl, (b2 _ _).trans (HD.out.below _)⟩
end Go.Proofs.YtgfgimpglaepaabDoor
namespace Go.Proofs.YtgfgimpglaepaabDoor
open Go.RowKit
set_option linter.unusedVariables false
set_option linter.unusedSimpArgs false
set_option maxHeartbeats 400000 in
theorem specValid_is (wd hg : Int) (a : Option Addr) (l : List Int) (c : Nat) (v : Bool) (w : World) (hl : Ints .i64 w w.heap.size a l) (hn : l.length ≤ 1048576) (h : goodB wd hg l = v) :
    Calls Tryd.prog 12 #[.agg #[.int .i64 wd, .int .i64 hg, .slice a l.length c]] w fun e w' => e = .returned (.bool v) ∧ Below w.heap.size w w' := by
  have HC := Lib.hid (fun o => specGood_is wd hg a l c _ v (w.alloc o) (ints_alloc hl o) (Nat.le_refl _) hn h)
  clear hl h
  go_enter Tryd.func12, Tryd.ntmps12
  go_wp2_with (go_at_call 33; refine (HC.out _).mono ?_; rintro e w1 ⟨rfl, b⟩; have HB := Lib.hid b; clear b)
  go_ret
  exact ⟨rfl, below_then (below_all _ _) HB.out⟩

end Go.Proofs.YtgfgimpglaepaabDoor
namespace Go.Proofs.YtgfgimpglaepaabDoor
open Go.RowKit
set_option linter.unusedVariables false
set_option linter.unusedSimpArgs false
theorem fmtS_in {v : Int} (h0 : -9999 ≤ v) (h1 : v ≤ 9000) : fmtS v = ⟨(Lib.itoa v).toArray⟩ ∧ inR v = true := by
  have h := inR_yes (n := v) (by omega) (by omega)
  exact ⟨fmtS_yes h, h⟩
theorem mkS_size (l : List UInt8) : (⟨l.toArray⟩ : ByteArray).size = l.length := by simp [ByteArray.size]
set_option maxHeartbeats 400000 in
theorem cellText_any (v : Int) (w : World) (ht : Tab w) (h0 : -9999 ≤ v) (h1 : v ≤ 9000) :
    Calls Tryd.prog 40 #[.int .i64 v] w fun e w' => e = .returned (.string ⟨(cellT v).toArray⟩) ∧ Below w.heap.size w w' := by
  by_cases hv : v = -9999
  · rw [cellT_gone hv]
    subst hv
    clear ht
    go_enter Tryd.func40, Tryd.ntmps40
    go_wp2
    go_ret
    exact ⟨rfl, Below.refl _ _⟩
  · rw [cellT_val hv]
    have HF := Lib.hid (implFormat_any v w ht)
    rw [(fmtS_in h0 h1).1, (fmtS_in h0 h1).2] at HF
    have hne : (v == -9999) = false := by simp [hv]
    clear hv ht
    go_enter Tryd.func40, Tryd.ntmps40
    go_wp2_with (go_at_call 64; refine HF.out.mono ?_; rintro e w1 ⟨rfl, b⟩; have HB := Lib.hid b; clear b)
    go_ret
    exact ⟨rfl, HB.out⟩

theorem bld_below {T e B b : Nat} {bs : List Value} {w w' : World} (h : Lib.IsBuilderF T e B b bs w) (hb : Below w.heap.size w w') : Lib.IsBuilderF T e B b bs w' := by
  have key : ∀ p, Lib.BuilderAtF T e B b p bs w → Lib.BuilderAtF T e B b p bs w' := by
    rintro p ⟨h1, v, h2, h3, h4⟩
    refine ⟨h1, v, (hb.block b (Array.getElem?_eq_some_iff.1 h2).1).trans h2, ?_, h4⟩
    exact h3.kept (row := none) ⟨hb.os, hb.tape, hb.output, hb.size, fun i hi _ => hb.block i hi⟩ (by cases h5 : v.ownBlock with | none => exact .inl rfl | some k => exact .inr (by simp))
  exact h.elim (fun x => .inl (key _ x)) (fun x => .inr (key _ x))
theorem row_others {w w' : World} {g n : Nat} {t e : TypeId} {b : Nat} {f : Nat → Value} (h : w.rowIs g t n f) (k : Lib.OthersKept e (some b) w w') (hg : g ≠ b) (ht : t ≠ e) : w'.rowIs g t n f := by
  obtain ⟨c, h1, h2, h3⟩ := h
  refine ⟨c, k g _ h1 (by simpa using hg) (fun c' fz he => ?_), h2, h3⟩
  injection he with _ he
  exact ht he

/-- what the program's two loops keep: the builder's bytes, the rows -/
def FtInv (w : World) (b g b' o W H c : Nat) (J : List UInt8) (wr : World) : Prop :=
  Lib.IsBuilderF 63 5 b b (Lib.byteCells J) wr ∧ wr.rowIs g 24 H (rowV b' o W c H) ∧ Below w.heap.size w wr ∧ b ≤ wr.heap.size ∧ g ≠ b ∧ w.heap.size ≤ b
theorem FtInv.step {w wr w1 : World} {b g b' o W H c : Nat} {J : List UInt8} (h : FtInv w b g b' o W H c J wr) (hb : Below wr.heap.size wr w1) : FtInv w b g b' o W H c J w1 :=
  ⟨bld_below h.1 hb, h.2.1.of_block (hb.block _ h.2.1.lt), below_then h.2.2.1 hb, Nat.le_trans h.2.2.2.1 hb.size, h.2.2.2.2⟩
theorem FtInv.write {w wr w1 : World} {b g b' o W H c : Nat} {J J' : List UInt8} (h : FtInv w b g b' o W H c J wr) (hn : Lib.IsBuilderF 63 5 b b (Lib.byteCells J') w1) (hb : Below b wr w1) (hk : Lib.OthersKept 5 (some b) wr w1) : FtInv w b g b' o W H c J' w1 :=
  ⟨hn, row_others h.2.1 hk h.2.2.2.2.1 (by decide), h.2.2.1.trans (hb.mono h.2.2.2.2.2), Nat.le_trans h.2.2.2.1 hb.size, h.2.2.2.2⟩

set_option maxRecDepth 100000 in
set_option maxHeartbeats 4000000 in
theorem implFT_any (wd hg : Int) (a : Option Addr) (l : List Int) (c : Nat) (w : World) (hl : Ints .i64 w w.heap.size a l) (hn : l.length ≤ 1048576) (hcap : l.length ≤ c) (ht : Tab w) :
    Calls Tryd.prog 14 #[.agg #[.int .i64 wd, .int .i64 hg, .slice a l.length c]] w fun e w' => e = .returned (.tuple #[.string (ftS wd hg l), .bool (goodB wd hg l)]) ∧ Below w.heap.size w w' := by
  have HL := Lib.hid (ints_alloc hl (.cells #[.int .i64 wd, .int .i64 hg, .slice a l.length c] 26))
  have X0 := Lib.hid (Box.new w 26 (.int .i64 wd) (.int .i64 hg) (.slice a l.length c))
  have HAL := Lib.hid hl
  have HTB := Lib.hid ht
  clear hl ht
  cases hgd : goodB wd hg l with
  | false =>
    rw [ftS_no hgd]
    have HC := Lib.hid (implGood_is wd hg a l c _ false _ HL.out (Nat.le_refl _) hn hgd)
    clear hgd
    go_enter Tryd.func14, Tryd.ntmps14
    go_wp2_with (go_at_call 11; refine HC.out.mono ?_; rintro e w1 ⟨rfl, b⟩; have HB := Lib.hid b; clear b)
    go_ret2
    exact ⟨rfl, below_then (below_all _ _) HB.out⟩
  | true =>
    rw [ftS_yes hgd]
    have HC := Lib.hid (implGood_is wd hg a l c _ true _ HL.out (Nat.le_refl _) hn hgd)
    have hbd := good_bd hgd
    have HBD := Lib.hid hbd
    have h64 := good_le hgd
    obtain ⟨W, H, rfl, rfl, n1, n2, n3, n4, hLL⟩ := good_nat hgd
    obtain ⟨b', o, rfl⟩ : ∃ b o, a = some ⟨b, o, none⟩ := by
      obtain ⟨b, o, h, _⟩ := HAL.out.at_ (j := 0) (by omega)
      exact ⟨b, o, h⟩
    have HRO := Lib.hid (fun Wd => rowsOf_any W H b' o l.length c Wd n1 n2 n3 n4 hLL hcap)
    have HLL := Lib.hid hLL
    have HPA := Lib.hid (partT_all l W H)
    simp only [Int.toNat_natCast]
    rw [← HPA.out]
    clear hgd hbd hLL
    go_enter Tryd.func14, Tryd.ntmps14
    go_wp2_with fail
    refine HC.out.mono ?_
    rintro e w1 ⟨rfl, b1⟩
    have z1 := b1.size
    simp only [World.size_alloc] at z1
    have HB1 := Lib.hid (below_then (below_all _ _) b1)
    obtain ⟨k0, k1, k2⟩ := (X0.out.below b1).cells
    have hlt1 : w.heap.size < w1.heap.size := by omega
    have hne1 : ¬ w.heap.size = w1.heap.size := by omega
    clear b1 HL X0
    go_wp2_with fail
    refine (HRO.out _).mono ?_
    rintro e w2 ⟨g, hg2, rfl, hrow, b2⟩
    have HINV : Hid (FtInv w w1.heap.size g b' o W H c [] w2) := Lib.hid (by
      refine ⟨bld_below (Lib.IsBuilderF.of (Lib.fresh_isBuilder _ _ w1)) b2, hrow, below_then (HB1.out.alloc HB1.out.size _) b2, ?_, ?_, by omega⟩
      · have := b2.size; simp at this; omega
      · simp at hg2; omega)
    generalize w1.heap.size = bb at *
    clear hrow b2 k0 k1 k2 HRO HC HB1
    go_wp2
    go_loopw [15] (fun i wr => ∃ y : Nat, y ≤ H ∧ i = .int .i64 y ∧ FtInv w bb g b' o W H c (partT l W H y 0) wr) (fun i _ => H - (intOf i).toNat)
    case atStart => exact ⟨0, Nat.zero_le _, rfl, by rw [partT_zero]; exact HINV.out⟩
    case round =>
      obtain ⟨y, hy, rfl, hT⟩ := hrel
      have HT := Lib.hid hT
      by_cases hlt : y < H
      · have hi : (y : Int) < (H : Int) := by omega
        have hi0 : (0 : Int) ≤ (y : Int) := by omega
        have hcell := hT.2.1.cell hlt
        have hrv : rowV b' o W c H y = .slice (some ⟨b', o + y * W, none⟩) W (c - y * W) := if_pos hlt
        rw [hrv] at hcell
        clear hT HINV hrv
        go_wp2
        clear hcell
        go_loopw [21] (fun i wr => ∃ x : Nat, x ≤ W ∧ i = .int .i64 x ∧ FtInv w bb g b' o W H c (partT l W H y x) wr) (fun i _ => W - (intOf i).toNat)
        case atStart => exact ⟨0, Nat.zero_le _, rfl, HT.out⟩
        case round =>
          clear HT
          obtain ⟨x, hx, rfl, hT⟩ := hrel
          have HT := Lib.hid hT
          clear hT
          by_cases hlt2 : x < W
          · have hi2 : (x : Int) < (W : Int) := by omega
            have hi20 : (0 : Int) ≤ (x : Int) := by omega
            have hfit := chunk_fits hlt HLL.out
            have hkl : y * W + x < l.length := by omega
            have hc : wr.cell? ⟨b', o + y * W + x, none⟩ = some (.int .i64 l[y * W + x]) := by
              obtain ⟨b2, o2, he, _, hc⟩ := (HAL.out.below HT.out.2.2.1 (Nat.le_refl _)).at_ hkl
              injection he with he
              injection he with he1 he2
              subst he1 he2
              rw [Nat.add_assoc]
              exact hc
            have hzb := HBD.out l[y * W + x] (List.getElem_mem hkl)
            have hpl := partT_len (l := l) (W := W) (H := H) (y := y) (x := x) HBD.out n2 (by omega) (by omega)
            have HST : Hid (partT l W H y (x + 1) = (if x = 0 then partT l W H y x else partT l W H y x ++ [32]) ++ cellT l[y * W + x]) := Lib.hid (by
              by_cases e : x = 0
              · subst e
                rw [if_pos rfl]
                have := partT_first (l := l) (W := W) (H := H) (y := y) (by omega)
                simpa using this
              · rw [if_neg e]; exact partT_next (by omega) hkl)
            generalize l[y * W + x] = z at *
            have hcl := cellT_len hzb.1 hzb.2
            have HCT := Lib.hid (fun wz ht => cellText_any z wz ht hzb.1 hzb.2)
            generalize partT l W H y x = J at *
            clear hfit hkl
            have hsz := mkS_size (cellT z)
            generalize cellT z = cz at *
            have HSZ := Lib.hid hsz
            clear hsz
            by_cases hx0 : x = 0
            · subst hx0
              rw [if_pos rfl] at HST
              simp only [Nat.add_zero] at hc
              go_wp2_with fail
              refine (HCT.out _ (HTB.out.below HT.out.2.2.1)).mono ?_
              rintro e w3 ⟨rfl, b3⟩
              have HT3 := Lib.hid (HT.out.step b3)
              clear b3 hc
              go_wp2_with fail
              refine (bld_write_k bb bb J _ _ HT3.out.1 (by rw [HSZ.out]; omega) HT3.out.2.2.2.1).mono ?_
              rintro e w4 ⟨rfl, i4, b4, o4⟩
              have HT4 := Lib.hid (HT3.out.write i4 b4 o4)
              clear i4 b4 o4
              go_wp2
              go_roundw
              case rel => exact ⟨1, by omega, by go_num, by rw [HST.out]; exact HT4.out⟩
              case measure => simp [intOf]; omega
            · rw [if_neg hx0] at HST
              have hxp : (0 : Int) < (x : Int) := by omega
              have hbl := HT.out.2.2.1
              go_wp2_with fail
              refine (bld_write_k bb bb J _ _ HT.out.1 (by simp [ByteArray.size]; omega) HT.out.2.2.2.1).mono ?_
              rintro e w5 ⟨rfl, i5, b5, o5⟩
              have HT5 := Lib.hid (HT.out.write i5 b5 o5)
              clear i5 b5 o5 hc
              go_wp2_with fail
              refine (HCT.out _ (HTB.out.below HT5.out.2.2.1)).mono ?_
              rintro e w3 ⟨rfl, b3⟩
              have HT3 := Lib.hid (HT5.out.step b3)
              clear b3
              go_wp2_with fail
              refine (bld_write_k bb bb _ _ _ HT3.out.1 (by rw [HSZ.out]; simp; omega) HT3.out.2.2.2.1).mono ?_
              rintro e w4 ⟨rfl, i4, b4, o4⟩
              have HT4 := Lib.hid (HT3.out.write i4 b4 o4)
              clear i4 b4 o4
              go_wp2
              go_roundw
              case rel => exact ⟨x + 1, by omega, by go_num, by rw [HST.out]; exact HT4.out⟩
              case measure => simp [intOf]; omega
          · obtain rfl : x = W := by omega
            have hpl := partT_len (l := l) (W := x) (H := H) (y := y) (x := x) HBD.out n2 (by omega) (by omega)
            have HR := Lib.hid (partT_row (l := l) (W := x) (H := H) hlt)
            generalize partT l x H y x = J at *
            go_wp2_with fail
            refine (bld_write_k bb bb J _ _ HT.out.1 (by simp [ByteArray.size]; omega) HT.out.2.2.2.1).mono ?_
            rintro e w5 ⟨rfl, i5, b5, o5⟩
            have HT5 := Lib.hid (HT.out.write i5 b5 o5)
            clear i5 b5 o5
            go_wp2
            go_roundw
            case rel => exact ⟨y + 1, by omega, by go_num, by rw [← HR.out]; exact HT5.out⟩
            case measure => simp [intOf]; omega
      · obtain rfl : y = H := by omega
        clear hT HINV
        go_wp2_with fail
        refine (bld_string_k bb bb _ _ HT.out.1 HT.out.2.2.2.1).mono ?_
        rintro e w5 ⟨rfl, b5⟩
        have HB5 := Lib.hid (HT.out.2.2.1.trans (b5.mono HT.out.2.2.2.2.2))
        clear b5
        go_wp2
        go_ret2
        exact ⟨rfl, HB5.out⟩
end Go.Proofs.YtgfgimpglaepaabDoor
namespace Go.Proofs.YtgfgimpglaepaabDoor
open Go.RowKit
set_option linter.unusedVariables false
/-- a world in which all that lay in w lies unturned -/
structure Later (w : World) where
  world : World
  below : Below w.heap.size w world
instance later_some (w : World) : Nonempty (Later w) := ⟨⟨w, Below.refl _ _⟩⟩
theorem wp_region_later {P : Program} {id : Nat} {Q : Exit → Act → World → Prop} {a : Act} {w : World} {l : List Oper} (hm : P.follows .mixedOrders = true) (hB : Region.lexB .any l.toArray = true)
    (h : wpQuiet P l.toArray (fun w' => ∃ p : Later w, w' = p.world) (fun a' => ∀ w', (∃ p : Later w, w' = p.world) → Q .normal a' w') l a) : (Code.region id l.toArray true).wp P Q a w :=
  wp_region_quiet (C := fun w' => ∃ p : Later w, w' = p.world) hm hB ⟨⟨{ w with drawn := w.drawn + 1 }, ⟨rfl, rfl, rfl, Nat.le_refl _, fun _ _ => rfl⟩⟩, rfl⟩ (by simpa using h)
theorem later_cell {w : World} {b o : Nat} {v : Value} (h : w.cell? ⟨b, o, none⟩ = some v) (hb : b < w.heap.size) (p : Later w) : p.world.cell? ⟨b, o, none⟩ = some v := (p.below.cell (p := ⟨b, o, none⟩) hb).trans h
theorem calls_later {P : Program} {f : FuncId} {args : Array Value} {w : World} {p : Later w} {v : Value}
    (h : Calls P f args p.world fun e w' => e = .returned v ∧ Below p.world.heap.size p.world w') : Calls P f args p.world fun e w'' => e = .returned v ∧ ∃ q : Later w, w'' = q.world :=
  h.mono fun _ w'' ⟨he, hb⟩ => ⟨he, ⟨w'', below_then p.below hb⟩, rfl⟩
theorem calls_later_same {P : Program} {f : FuncId} {args : Array Value} {w : World} {p : Later w} {v : Value}
    (h : Calls P f args p.world fun e w' => e = .returned v ∧ p.world = w') : Calls P f args p.world fun e w'' => e = .returned v ∧ ∃ q : Later w, w'' = q.world :=
  h.mono fun _ w'' ⟨he, hb⟩ => ⟨he, p, hb.symm⟩
theorem box_later {w : World} {b : Nat} {t : TypeId} {v0 v1 v2 : Value} (h : Box w b t v0 v1 v2) : (∀ p : Later w, p.world.cell? ⟨b, 0, none⟩ = some v0) ∧ (∀ p : Later w, p.world.cell? ⟨b, 1, none⟩ = some v1) ∧ (∀ p : Later w, p.world.cell? ⟨b, 2, none⟩ = some v2) :=
  ⟨fun p => (h.below p.below).cells.1, fun p => (h.below p.below).cells.2.1, fun p => (h.below p.below).cells.2.2⟩
end Go.Proofs.YtgfgimpglaepaabDoor
namespace Go.Proofs.YtgfgimpglaepaabDoor
open Go.RowKit
set_option linter.unusedVariables false
set_option linter.unusedSimpArgs false
/-- what the law knows of a later world -/
structure Gf (w : World) (a : Option Addr) (l : List Int) (w' : World) : Prop where
  b : Below w.heap.size w w'
  i : Ints .u8 w' w'.heap.size a l
  t : Tab w'
  e : Errs w'
theorem Gf.step {w w1 w2 : World} {a : Option Addr} {l : List Int} (h : Gf w a l w1) (hb : Below w1.heap.size w1 w2) : Gf w a l w2 :=
  ⟨below_then h.b hb, ints_below h.i hb, h.t.below hb, h.e.below hb⟩
/-- a field in a box of the law's own -/
structure Fdf (w : World) (b : Nat) (wd hg : Int) (a : Option Addr) (L : List Int) (c : Nat) : Prop where
  k : Box w b 26 (.int .i64 wd) (.int .i64 hg) (.slice a L.length c)
  i : Ints .i64 w w.heap.size a L
theorem Fdf.new {w : World} {wd hg : Int} {a : Option Addr} {L : List Int} {c : Nat} (h : Ints .i64 w w.heap.size a L) : Fdf (w.alloc (.cells #[.int .i64 wd, .int .i64 hg, .slice a L.length c] 26)) w.heap.size wd hg a L c := ⟨Box.new _ _ _ _ _, ints_alloc h _⟩
theorem Fdf.step {w w' : World} {b : Nat} {wd hg : Int} {a : Option Addr} {L : List Int} {c : Nat} (h : Fdf w b wd hg a L c) (hb : Below w.heap.size w w') : Fdf w' b wd hg a L c := ⟨h.k.below hb, ints_below h.i hb⟩
theorem parts_of (r : Option (Int × Int × List Int)) : ∃ P Q N B, rW r = P ∧ rH r = Q ∧ rL r = N ∧ rB r = B := ⟨_, _, _, _, rfl, rfl, rfl, rfl⟩
set_option maxRecDepth 100000 in
set_option maxHeartbeats 16000000 in
theorem walk_Fields (a : Option Addr) (l : List Int) (c : Nat) (w : World) (hi : Ints .u8 w w.heap.size a l) (hb : ∀ z ∈ l, 0 ≤ z ∧ z ≤ 255) (hlm : l.length ≤ maxLen) (ht : Tab w) (he : Errs w) :
    Calls Tryd.prog 3 #[.slice a l.length c] w fun e w' => e = .returned (.bool true) ∧ Below w.heap.size w w' := by
  unfold maxLen at hlm
  by_cases hbig : (65536 : Int) < (l.length : Int)
  · clear hi hb ht he
    go_enter Tryd.func3, Tryd.ntmps3
    go_wp2
    go_ret
    exact ⟨rfl, Below.refl _ _⟩
  · have G0 := Lib.hid (show Gf w a l w from ⟨Below.refl _ _, hi, ht, he⟩)
    have HBY := Lib.hid hb
    have hl : l.length ≤ 65536 := by omega
    clear hi hb hlm ht he
    go_enter Tryd.func3, Tryd.ntmps3
    go_wp2_with (first | (go_at_call 6; go_in) | fail)
    refine (drawSet_any _ a l c G0.out.i HBY.out (by omega)).mono ?_
    rintro e w1 ⟨wd, hg, L, a1, c1, x, y, v, hL, hcp, rfl, o1, b1⟩
    obtain ⟨f1, hf1⟩ : ∃ q, w1.heap.size = q := ⟨_, rfl⟩
    have T_F := Fdf.new (wd := wd) (hg := hg) (c := c1) (L := L) (a := some a1) o1.ints
    have T_G := (G0.out.step b1).step (below_all w1 (.cells #[.int .i64 wd, .int .i64 hg, .slice (some a1) L.length c1] 26))
    obtain ⟨W1, hW1⟩ : ∃ W, w1.alloc (.cells #[.int .i64 wd, .int .i64 hg, .slice (some a1) L.length c1] 26) = W := ⟨_, rfl⟩
    rw [hW1] at T_F T_G
    rw [hf1] at T_F
    have F1 := Lib.hid T_F
    have G1 := Lib.hid T_G
    have nL : L.length ≤ 1048576 := by omega
    have HCP := Lib.hid hcp
    clear T_F T_G o1 b1 G0 hcp
    obtain ⟨r, hr⟩ : ∃ r, setR wd hg L x y v = r := ⟨_, rfl⟩
    obtain ⟨b, hgb⟩ : ∃ b, goodB wd hg L = b := ⟨_, rfl⟩
    have HR := Lib.hid hr
    have HGB := Lib.hid hgb
    have hlen := setR_len wd hg L x y v
    have HC1 := Lib.hid (fun W h => implSet_c wd hg (some a1) L c1 x y v W h nL HCP.out)
    have HC2 := Lib.hid (fun W h => specSet_any wd hg (some a1) L c1 x y v W h nL)
    rw [hr] at HC1 HC2 hlen
    unfold FRetC at HC1
    unfold FRet at HC2
    obtain ⟨P, Q, N, B, hP, hQ, hN, hB⟩ := parts_of r
    rw [hP, hQ, hN, hB] at HC1 HC2
    rw [hN] at hlen
    have HRR := Lib.hid (And.intro hP (And.intro hQ (And.intro hN hB)))
    have nN : N.length ≤ 1048576 := by omega
    have HIV := Lib.hid (fun W h => implGood_is wd hg (some a1) L c1 _ b W h (Nat.le_refl _) nL hgb)
    have HSV := Lib.hid (fun W h => specValid_is wd hg (some a1) L c1 b W h nL hgb)
    have en : (B != B) = false := by simp
    have eb : (b != b) = false := by simp
    clear hP hQ hN hB hr hgb hlen
    obtain ⟨F0_, F1_, F2_⟩ := F1.out.k.cells
    go_wp2_with fail
    refine (HC1.out _ F1.out.i).mono ?_
    rintro e w2 ⟨a2, c2, hc2, rfl, o2, b2⟩
    have HC2_ := Lib.hid hc2
    have T_C := Fdf.new (wd := P) (hg := Q) (c := c2) (L := N) (a := a2) o2.ints
    have T_G := (G1.out.step b2).step (below_all w2 (.cells #[.int .i64 P, .int .i64 Q, .slice a2 (N : List Int).length c2] 26))
    have T_F := (F1.out.step b2).step (below_all w2 (.cells #[.int .i64 P, .int .i64 Q, .slice a2 (N : List Int).length c2] 26))
    obtain ⟨f2, hf2⟩ : ∃ q, w2.heap.size = q := ⟨_, rfl⟩
    obtain ⟨W2, hW2⟩ : ∃ Wz, w2.alloc (.cells #[.int .i64 P, .int .i64 Q, .slice a2 (N : List Int).length c2] 26) = Wz := ⟨_, rfl⟩
    rw [hW2] at T_G T_F T_C
    rw [hf2] at T_C
    have G2 := Lib.hid T_G
    have F2 := Lib.hid T_F
    have C2 := Lib.hid T_C
    clear hc2 o2 b2 T_G T_F T_C G1 F1
    clear F0_ F1_ F2_
    clear hf1 hW1
    have HK := Lib.hid HC2_.out
    clear HC2_
    obtain ⟨F0_, F1_, F2_⟩ := F2.out.k.cells
    go_wp2_with fail
    refine (HC2.out _ F2.out.i).mono ?_
    rintro e w3 ⟨a3, c3, rfl, o3, b3⟩
    have T_V := Fdf.new (wd := P) (hg := Q) (c := c3) (L := N) (a := a3) o3.ints
    have T_G := (G2.out.step b3).step (below_all w3 (.cells #[.int .i64 P, .int .i64 Q, .slice a3 (N : List Int).length c3] 26))
    have T_F := (F2.out.step b3).step (below_all w3 (.cells #[.int .i64 P, .int .i64 Q, .slice a3 (N : List Int).length c3] 26))
    have T_C := (C2.out.step b3).step (below_all w3 (.cells #[.int .i64 P, .int .i64 Q, .slice a3 (N : List Int).length c3] 26))
    obtain ⟨f3, hf3⟩ : ∃ q, w3.heap.size = q := ⟨_, rfl⟩
    obtain ⟨W3, hW3⟩ : ∃ Wz, w3.alloc (.cells #[.int .i64 P, .int .i64 Q, .slice a3 (N : List Int).length c3] 26) = Wz := ⟨_, rfl⟩
    rw [hW3] at T_G T_F T_C T_V
    rw [hf3] at T_V
    have G3 := Lib.hid T_G
    have F3 := Lib.hid T_F
    have C3 := Lib.hid T_C
    have V3 := Lib.hid T_V
    clear o3 b3 T_G T_F T_C T_V G2 F2 C2
    clear F0_ F1_ F2_
    clear hf2 hW2
    have HVF := Lib.hid (fun W h h' => vField_yes P Q a2 a3 N c2 c3 W h h' nN)
    clear HC1 HC2
    go_wp2_with fail
    obtain ⟨F0_, F1_, F2_⟩ := box_later F3.out.k
    obtain ⟨C0_, C1_, C2_⟩ := box_later C3.out.k
    obtain ⟨V0_, V1_, V2_⟩ := box_later V3.out.k
    clear hf3 hW3
    refine wp_region_later (by kernel_rfl) (by kernel_rfl) ?_
    repeat (quiet_step ((first | (go_at_call 10; exact calls_later (HVF.out _ (ints_below C3.out.i (Later.below _)) (ints_below V3.out.i (Later.below _)))) | (go_at_call 11; exact calls_later (HIV.out _ (ints_below F3.out.i (Later.below _)))) | (go_at_call 12; exact calls_later (HSV.out _ (ints_below F3.out.i (Later.below _)))))))
    refine wpQuiet_nil ?_
    intro _ hw'
    obtain ⟨pq, hw''⟩ := hw'
    subst hw''
    obtain ⟨W4, hW4⟩ : ∃ W, pq.world = W := ⟨_, rfl⟩
    have b4 := pq.below
    rw [hW4] at b4 ⊢
    have G4 := Lib.hid (G3.out.step b4)
    have F4 := Lib.hid (F3.out.step b4)
    have C4 := Lib.hid (C3.out.step b4)
    clear F0_ F1_ F2_ C0_ C1_ C2_ V0_ V1_ V2_ G3 F3 C3 V3 b4 hW4 pq HVF HSV
    go_upto_if 67 with fail
    go_cut [] (fun wx => Gf w a l wx ∧ Fdf wx f1 wd hg (some a1) L c1)
    case first =>
      cases r with
      | none =>
        obtain ⟨hP, hQ, hN, hB⟩ := HRR.out
        obtain rfl : B = false := hB.symm
        clear hP hQ hN hB en
        go_wp2_with fail
        go_meet
        exact ⟨G4.out, F4.out⟩
      | some fr =>
        obtain ⟨hP, hQ, hN, hB⟩ := HRR.out
        obtain ⟨hgd, hin, hv, hfr⟩ := setR_some HR.out
        subst hfr
        obtain rfl : B = true := hB.symm
        obtain rfl : P = wd := hP.symm
        obtain rfl : Q = hg := hQ.symm
        have hN2 : N = L.set (place P x y) v := hN.symm
        have HA1 := Lib.hid (fun W h => implCellAt_any P Q a2 N c2 x y W h nN)
        have HA2 := Lib.hid (fun W h => implCellAt_any P Q (some a1) L c1 x y W h nL)
        have HA3 := Lib.hid (fun W h => implSet_any P Q a2 N c2 x y (cellN P Q L x y) W h nN HK.out)
        have h1 := set_found hgd hin hv
        have h2 := set_old hgd hin
        have h3 := set_back (v := v) hgd hin hv
        rw [← hN2] at h1 h3
        rw [h1.1, h1.2] at HA1
        rw [h2] at HA2
        rw [h3] at HA3
        unfold FRet at HA3
        simp only [rW, rH, rL, rB] at HA3
        generalize cellN P Q L x y = old at *
        have ev : (v != v) = false := by simp
        clear hP hQ hN hB en h1 h2 h3 hN2 hgd hin hv
        obtain ⟨C0_, C1_, C2_⟩ := C4.out.k.cells
        go_wp2_with fail
        refine (HA1.out _ C4.out.i).mono ?_
        rintro e w5 ⟨rfl, b5⟩
        have G5 := Lib.hid (G4.out.step b5)
        have F5 := Lib.hid (F4.out.step b5)
        have C5 := Lib.hid (C4.out.step b5)
        clear b5 G4 F4 C4
        clear C0_ C1_ C2_
        obtain ⟨F0_, F1_, F2_⟩ := F5.out.k.cells
        go_wp2_with fail
        refine (HA2.out _ F5.out.i).mono ?_
        rintro e w6 ⟨rfl, b6⟩
        have G6 := Lib.hid (G5.out.step b6)
        have F6 := Lib.hid (F5.out.step b6)
        have C6 := Lib.hid (C5.out.step b6)
        clear b6 G5 F5 C5
        clear F0_ F1_ F2_
        obtain ⟨C0_, C1_, C2_⟩ := C6.out.k.cells
        go_wp2_with fail
        refine (HA3.out _ C6.out.i).mono ?_
        rintro e w7 ⟨a7, c7, rfl, o7, b7⟩
        have T_D := Fdf.new (wd := P) (hg := Q) (c := c7) (L := L) (a := a7) o7.ints
        have T_G := (G6.out.step b7).step (below_all w7 (.cells #[.int .i64 P, .int .i64 Q, .slice a7 (L : List Int).length c7] 26))
        have T_F := (F6.out.step b7).step (below_all w7 (.cells #[.int .i64 P, .int .i64 Q, .slice a7 (L : List Int).length c7] 26))
        have T_C := (C6.out.step b7).step (below_all w7 (.cells #[.int .i64 P, .int .i64 Q, .slice a7 (L : List Int).length c7] 26))
        obtain ⟨f7, hf7⟩ : ∃ q, w7.heap.size = q := ⟨_, rfl⟩
        obtain ⟨W7, hW7⟩ : ∃ Wz, w7.alloc (.cells #[.int .i64 P, .int .i64 Q, .slice a7 (L : List Int).length c7] 26) = Wz := ⟨_, rfl⟩
        rw [hW7] at T_G T_F T_C T_D
        rw [hf7] at T_D
        have G7 := Lib.hid T_G
        have F7 := Lib.hid T_F
        have C7 := Lib.hid T_C
        have D7 := Lib.hid T_D
        clear o7 b7 T_G T_F T_C T_D G6 F6 C6
        clear C0_ C1_ C2_
        obtain ⟨D0_, D1_, D2_⟩ := D7.out.k.cells
        obtain ⟨F0_, F1_, F2_⟩ := F7.out.k.cells
        go_wp2_with fail
        refine (vField_yes P Q _ _ L _ _ _ D7.out.i F7.out.i nL).mono ?_
        rintro e w8 ⟨rfl, b8⟩
        have G8 := Lib.hid (G7.out.step b8)
        have F8 := Lib.hid (F7.out.step b8)
        have C8 := Lib.hid (C7.out.step b8)
        have D8 := Lib.hid (D7.out.step b8)
        clear b8 G7 F7 C7 D7
        clear D0_ D1_ D2_ F0_ F1_ F2_
        clear hf7 hW7
        go_wp2_with fail
        go_meet
        exact ⟨G8.out, F8.out⟩
    case rest =>
    obtain ⟨hcg, hcf⟩ := hcut
    have G20 := Lib.hid hcg
    have F20 := Lib.hid hcf
    clear hcg hcf G4 F4 C4 en eb HRR HR HK
    obtain ⟨s, hs⟩ : ∃ s, ftS wd hg L = s := ⟨_, rfl⟩
    have hsz := ftS_size wd hg L
    have HT1 := Lib.hid (fun W h t => implFT_any wd hg (some a1) L c1 W h nL HCP.out t)
    rw [hs, HGB.out] at HT1
    rw [hs] at hsz
    have HP1 := Lib.hid (fun W t e => implPF_c s W hsz t e)
    unfold FRetC at HP1
    cases b with
    | false =>
      obtain ⟨r2, hr2⟩ : ∃ r, pfRs s = r := ⟨_, rfl⟩
      have hlen := pfRs_len s
      rw [hr2] at HP1 hlen
      obtain ⟨P, Q, N, B, hP, hQ, hN, hB⟩ := parts_of r2
      rw [hP, hQ, hN, hB] at HP1
      have eb : (false != false) = false := rfl
      clear hP hQ hN hB hr2 hs hsz hlen
      obtain ⟨F0_, F1_, F2_⟩ := F20.out.k.cells
      go_wp2_with fail
      refine (HT1.out _ F20.out.i G20.out.t).mono ?_
      rintro e w21 ⟨rfl, b21⟩
      have G21 := Lib.hid (G20.out.step b21)
      have F21 := Lib.hid (F20.out.step b21)
      clear b21 G20 F20
      clear F0_ F1_ F2_
      go_wp2_with fail
      refine (HP1.out _ G21.out.t G21.out.e).mono ?_
      rintro e w22 ⟨a22, c22, hc22, rfl, o22, b22⟩
      have HC22_ := Lib.hid hc22
      have T_S := Fdf.new (wd := P) (hg := Q) (c := c22) (L := N) (a := a22) o22.ints
      have T_G := (G21.out.step b22).step (below_all w22 (.cells #[.int .i64 P, .int .i64 Q, .slice a22 (N : List Int).length c22] 26))
      have T_F := (F21.out.step b22).step (below_all w22 (.cells #[.int .i64 P, .int .i64 Q, .slice a22 (N : List Int).length c22] 26))
      obtain ⟨f22, hf22⟩ : ∃ q, w22.heap.size = q := ⟨_, rfl⟩
      obtain ⟨W22, hW22⟩ : ∃ Wz, w22.alloc (.cells #[.int .i64 P, .int .i64 Q, .slice a22 (N : List Int).length c22] 26) = Wz := ⟨_, rfl⟩
      rw [hW22] at T_G T_F T_S
      rw [hf22] at T_S
      have G22 := Lib.hid T_G
      have F22 := Lib.hid T_F
      have S22 := Lib.hid T_S
      clear hc22 o22 b22 T_G T_F T_S G21 F21
      obtain ⟨F0_, F1_, F2_⟩ := F22.out.k.cells
      go_wp2_with fail
      refine (HIV.out _ F22.out.i).mono ?_
      rintro e w23 ⟨rfl, b23⟩
      have G23 := Lib.hid (G22.out.step b23)
      have F23 := Lib.hid (F22.out.step b23)
      have S23 := Lib.hid (S22.out.step b23)
      clear b23 G22 F22 S22
      clear F0_ F1_ F2_
      clear hf22 hW22
      go_wp2_with fail
      refine (drawPf_any _ a l c G23.out.i HBY.out (by omega)).mono ?_
      rintro e w24 ⟨t, ht4, rfl, b24⟩
      have G24 := Lib.hid (G23.out.step b24)
      clear b24 G23 F23 S23
      have HP3 := Lib.hid (fun W tb er => implPF_c t W (by omega) tb er)
      have hlen := pfRs_len t
      unfold FRetC at HP3
      cases hr3 : pfRs t with
      | none =>
        rw [hr3] at HP3
        simp only [rW, rH, rL, rB] at HP3
        clear hr3 hlen
        go_wp2_with fail
        refine (HP3.out _ G24.out.t G24.out.e).mono ?_
        rintro e w25 ⟨a25, c25, hc25, rfl, o25, b25⟩
        have HC25_ := Lib.hid hc25
        have T_Q := Fdf.new (wd := 0) (hg := 0) (c := c25) (L := []) (a := a25) o25.ints
        have T_G := (G24.out.step b25).step (below_all w25 (.cells #[.int .i64 0, .int .i64 0, .slice a25 ([] : List Int).length c25] 26))
        obtain ⟨f25, hf25⟩ : ∃ q, w25.heap.size = q := ⟨_, rfl⟩
        obtain ⟨W25, hW25⟩ : ∃ Wz, w25.alloc (.cells #[.int .i64 0, .int .i64 0, .slice a25 ([] : List Int).length c25] 26) = Wz := ⟨_, rfl⟩
        rw [hW25] at T_G T_Q
        rw [hf25] at T_Q
        have G25 := Lib.hid T_G
        have Q25 := Lib.hid T_Q
        clear hc25 o25 b25 T_G T_Q G24
        try rw [List.length_nil] at hW25
        have HT3 := Lib.hid (fun W h t => implFT_any 0 0 a25 [] c25 W h (by simp) (by simp) t)
        obtain ⟨u, hu⟩ : ∃ u, ftS 0 0 [] = u := ⟨_, rfl⟩
        obtain ⟨d, hd⟩ : ∃ d, goodB 0 0 [] = d := ⟨_, rfl⟩
        rw [hu, hd] at HT3
        clear hu hd
        obtain ⟨Q0_, Q1_, Q2_⟩ := Q25.out.k.cells
        go_wp2_with fail
        refine (HT3.out _ Q25.out.i G25.out.t).mono ?_
        rintro e w26 ⟨rfl, b26⟩
        have G26 := Lib.hid (G25.out.step b26)
        have Q26 := Lib.hid (Q25.out.step b26)
        clear b26 G25 Q25
        clear Q0_ Q1_ Q2_
        clear hf25 hW25
        go_wp2
        go_ret
        exact ⟨rfl, G26.out.b⟩
      | some fr =>
        obtain ⟨P3, Q3, N3⟩ := fr
        rw [hr3] at HP3 hlen
        simp only [rW, rH, rL, rB] at HP3 hlen
        have hbk := text_back hr3
        have nN3 : N3.length ≤ 1048576 := by omega
        clear hr3 hlen
        go_wp2_with fail
        refine (HP3.out _ G24.out.t G24.out.e).mono ?_
        rintro e w25 ⟨a25, c25, hc25, rfl, o25, b25⟩
        have HC25_ := Lib.hid hc25
        have T_Q := Fdf.new (wd := P3) (hg := Q3) (c := c25) (L := N3) (a := a25) o25.ints
        have T_G := (G24.out.step b25).step (below_all w25 (.cells #[.int .i64 P3, .int .i64 Q3, .slice a25 (N3 : List Int).length c25] 26))
        obtain ⟨f25, hf25⟩ : ∃ q, w25.heap.size = q := ⟨_, rfl⟩
        obtain ⟨W25, hW25⟩ : ∃ Wz, w25.alloc (.cells #[.int .i64 P3, .int .i64 Q3, .slice a25 (N3 : List Int).length c25] 26) = Wz := ⟨_, rfl⟩
        rw [hW25] at T_G T_Q
        rw [hf25] at T_Q
        have G25 := Lib.hid T_G
        have Q25 := Lib.hid T_Q
        clear hc25 o25 b25 T_G T_Q G24
        have HT3 := Lib.hid (fun W h t => implFT_any P3 Q3 a25 N3 c25 W h nN3 HC25_.out t)
        rw [hbk.1, hbk.2] at HT3
        clear hbk
        obtain ⟨Q0_, Q1_, Q2_⟩ := Q25.out.k.cells
        go_wp2_with fail
        refine (HT3.out _ Q25.out.i G25.out.t).mono ?_
        rintro e w26 ⟨rfl, b26⟩
        have G26 := Lib.hid (G25.out.step b26)
        have Q26 := Lib.hid (Q25.out.step b26)
        clear b26 G25 Q25
        clear Q0_ Q1_ Q2_
        clear hf25 hW25
        go_wp2
        go_ret
        exact ⟨rfl, G26.out.b⟩
    | true =>
      have hpf := pf_text HGB.out
      rw [hs] at hpf
      rw [hpf] at HP1
      simp only [rW, rH, rL, rB] at HP1
      clear hpf hs hsz
      obtain ⟨F0_, F1_, F2_⟩ := F20.out.k.cells
      go_wp2_with fail
      refine (HT1.out _ F20.out.i G20.out.t).mono ?_
      rintro e w21 ⟨rfl, b21⟩
      have G21 := Lib.hid (G20.out.step b21)
      have F21 := Lib.hid (F20.out.step b21)
      clear b21 G20 F20
      clear F0_ F1_ F2_
      go_wp2_with fail
      refine (HP1.out _ G21.out.t G21.out.e).mono ?_
      rintro e w22 ⟨a22, c22, hc22, rfl, o22, b22⟩
      have HC22_ := Lib.hid hc22
      have T_S := Fdf.new (wd := wd) (hg := hg) (c := c22) (L := L) (a := a22) o22.ints
      have T_G := (G21.out.step b22).step (below_all w22 (.cells #[.int .i64 wd, .int .i64 hg, .slice a22 (L : List Int).length c22] 26))
      have T_F := (F21.out.step b22).step (below_all w22 (.cells #[.int .i64 wd, .int .i64 hg, .slice a22 (L : List Int).length c22] 26))
      obtain ⟨f22, hf22⟩ : ∃ q, w22.heap.size = q := ⟨_, rfl⟩
      obtain ⟨W22, hW22⟩ : ∃ Wz, w22.alloc (.cells #[.int .i64 wd, .int .i64 hg, .slice a22 (L : List Int).length c22] 26) = Wz := ⟨_, rfl⟩
      rw [hW22] at T_G T_F T_S
      rw [hf22] at T_S
      have G22 := Lib.hid T_G
      have F22 := Lib.hid T_F
      have S22 := Lib.hid T_S
      clear hc22 o22 b22 T_G T_F T_S G21 F21
      obtain ⟨F0_, F1_, F2_⟩ := F22.out.k.cells
      go_wp2_with fail
      refine (HIV.out _ F22.out.i).mono ?_
      rintro e w23 ⟨rfl, b23⟩
      have G23 := Lib.hid (G22.out.step b23)
      have F23 := Lib.hid (F22.out.step b23)
      have S23 := Lib.hid (S22.out.step b23)
      clear b23 G22 F22 S22
      clear F0_ F1_ F2_
      clear hf22 hW22
      obtain ⟨S0_, S1_, S2_⟩ := S23.out.k.cells
      obtain ⟨F0_, F1_, F2_⟩ := F23.out.k.cells
      go_wp2_with fail
      refine (vField_yes wd hg _ _ L _ _ _ S23.out.i F23.out.i nL).mono ?_
      rintro e w24 ⟨rfl, b24⟩
      have G24 := Lib.hid (G23.out.step b24)
      have F24 := Lib.hid (F23.out.step b24)
      have S24 := Lib.hid (S23.out.step b24)
      clear b24 G23 F23 S23
      clear S0_ S1_ S2_ F0_ F1_ F2_
      go_wp2_with fail
      refine (drawPf_any _ a l c G24.out.i HBY.out (by omega)).mono ?_
      rintro e w25 ⟨t, ht4, rfl, b25⟩
      have G25 := Lib.hid (G24.out.step b25)
      clear b25 G24 F24 S24
      have HP3 := Lib.hid (fun W tb er => implPF_c t W (by omega) tb er)
      have hlen := pfRs_len t
      unfold FRetC at HP3
      cases hr3 : pfRs t with
      | none =>
        rw [hr3] at HP3
        simp only [rW, rH, rL, rB] at HP3
        clear hr3 hlen
        go_wp2_with fail
        refine (HP3.out _ G25.out.t G25.out.e).mono ?_
        rintro e w26 ⟨a26, c26, hc26, rfl, o26, b26⟩
        have HC26_ := Lib.hid hc26
        have T_Q := Fdf.new (wd := 0) (hg := 0) (c := c26) (L := []) (a := a26) o26.ints
        have T_G := (G25.out.step b26).step (below_all w26 (.cells #[.int .i64 0, .int .i64 0, .slice a26 ([] : List Int).length c26] 26))
        obtain ⟨f26, hf26⟩ : ∃ q, w26.heap.size = q := ⟨_, rfl⟩
        obtain ⟨W26, hW26⟩ : ∃ Wz, w26.alloc (.cells #[.int .i64 0, .int .i64 0, .slice a26 ([] : List Int).length c26] 26) = Wz := ⟨_, rfl⟩
        rw [hW26] at T_G T_Q
        rw [hf26] at T_Q
        have G26 := Lib.hid T_G
        have Q26 := Lib.hid T_Q
        clear hc26 o26 b26 T_G T_Q G25
        try rw [List.length_nil] at hW26
        have HT3 := Lib.hid (fun W h t => implFT_any 0 0 a26 [] c26 W h (by simp) (by simp) t)
        obtain ⟨u, hu⟩ : ∃ u, ftS 0 0 [] = u := ⟨_, rfl⟩
        obtain ⟨d, hd⟩ : ∃ d, goodB 0 0 [] = d := ⟨_, rfl⟩
        rw [hu, hd] at HT3
        clear hu hd
        obtain ⟨Q0_, Q1_, Q2_⟩ := Q26.out.k.cells
        go_wp2_with fail
        refine (HT3.out _ Q26.out.i G26.out.t).mono ?_
        rintro e w27 ⟨rfl, b27⟩
        have G27 := Lib.hid (G26.out.step b27)
        have Q27 := Lib.hid (Q26.out.step b27)
        clear b27 G26 Q26
        clear Q0_ Q1_ Q2_
        clear hf26 hW26
        go_wp2
        go_ret
        exact ⟨rfl, G27.out.b⟩
      | some fr =>
        obtain ⟨P3, Q3, N3⟩ := fr
        rw [hr3] at HP3 hlen
        simp only [rW, rH, rL, rB] at HP3 hlen
        have hbk := text_back hr3
        have nN3 : N3.length ≤ 1048576 := by omega
        clear hr3 hlen
        go_wp2_with fail
        refine (HP3.out _ G25.out.t G25.out.e).mono ?_
        rintro e w26 ⟨a26, c26, hc26, rfl, o26, b26⟩
        have HC26_ := Lib.hid hc26
        have T_Q := Fdf.new (wd := P3) (hg := Q3) (c := c26) (L := N3) (a := a26) o26.ints
        have T_G := (G25.out.step b26).step (below_all w26 (.cells #[.int .i64 P3, .int .i64 Q3, .slice a26 (N3 : List Int).length c26] 26))
        obtain ⟨f26, hf26⟩ : ∃ q, w26.heap.size = q := ⟨_, rfl⟩
        obtain ⟨W26, hW26⟩ : ∃ Wz, w26.alloc (.cells #[.int .i64 P3, .int .i64 Q3, .slice a26 (N3 : List Int).length c26] 26) = Wz := ⟨_, rfl⟩
        rw [hW26] at T_G T_Q
        rw [hf26] at T_Q
        have G26 := Lib.hid T_G
        have Q26 := Lib.hid T_Q
        clear hc26 o26 b26 T_G T_Q G25
        have HT3 := Lib.hid (fun W h t => implFT_any P3 Q3 a26 N3 c26 W h nN3 HC26_.out t)
        rw [hbk.1, hbk.2] at HT3
        clear hbk
        obtain ⟨Q0_, Q1_, Q2_⟩ := Q26.out.k.cells
        go_wp2_with fail
        refine (HT3.out _ Q26.out.i G26.out.t).mono ?_
        rintro e w27 ⟨rfl, b27⟩
        have G27 := Lib.hid (G26.out.step b27)
        have Q27 := Lib.hid (Q26.out.step b27)
        clear b27 G26 Q26
        clear Q0_ Q1_ Q2_
        clear hf26 hW26
        go_wp2
        go_ret
        exact ⟨rfl, G27.out.b⟩
end Go.Proofs.YtgfgimpglaepaabDoor
