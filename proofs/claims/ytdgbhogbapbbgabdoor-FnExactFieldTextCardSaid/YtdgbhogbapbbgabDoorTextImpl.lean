/- The program's FieldText; the model's, whole. -/
import Derived.Test.YtdgbhogbapbbgabDoorText
import Derived.Test.YtdgbhogbapbbgabDoorTab
namespace Go.Proofs.YtdgbhogbapbbgabDoor
open Go.RowKit
set_option linter.unusedVariables false
set_option linter.unusedSimpArgs false
theorem fmtS_in {v : Int} (h0 : -9999 ≤ v) (h1 : v ≤ 9000) : fmtS v = ⟨(Lib.itoa v).toArray⟩ ∧ inR v = true := by
  have h := inR_yes (n := v) (by omega) (by omega)
  exact ⟨fmtS_yes h, h⟩
theorem mkS_size (l : List UInt8) : (⟨l.toArray⟩ : ByteArray).size = l.length := by simp [ByteArray.size]
set_option maxHeartbeats 400000 in
theorem cellText_any (v : Int) (w : World) (ht : Tab w) (h0 : -9999 ≤ v) (h1 : v ≤ 9000) :
    Calls Tryd.prog 21 #[.int .i64 v] w fun e w' => e = .returned (.string ⟨(cellT v).toArray⟩) ∧ Below w.heap.size w w' := by
  by_cases hv : v = -9999
  · rw [cellT_gone hv]
    subst hv
    clear ht
    go_enter Tryd.func21, Tryd.ntmps21
    go_wp2
    go_ret
    exact ⟨rfl, Below.refl _ _⟩
  · rw [cellT_val hv]
    have HF := Lib.hid (implFormat_any v w ht)
    rw [(fmtS_in h0 h1).1, (fmtS_in h0 h1).2] at HF
    have hne : (v == -9999) = false := by simp [hv]
    clear hv ht
    go_enter Tryd.func21, Tryd.ntmps21
    go_wp2_with (go_at_call 38; refine HF.out.mono ?_; rintro e w1 ⟨rfl, b⟩; have HB := Lib.hid b; clear b)
    go_ret
    exact ⟨rfl, HB.out⟩

theorem bld_below {T e B b : Nat} {bs : List Value} {w w' : World} (h : Lib.IsBuilderF T e B b bs w) (hb : Below w.heap.size w w') : Lib.IsBuilderF T e B b bs w' := by
  have key : ∀ p, Lib.BuilderAtF T e B b p bs w → Lib.BuilderAtF T e B b p bs w' := by
    rintro p ⟨h1, v, h2, h3, h4⟩
    refine ⟨h1, v, (hb.block b (Array.getElem?_eq_some_iff.1 h2).1).trans h2, ?_, h4⟩
    exact h3.kept (row := none) ⟨hb.os, hb.tape, hb.output, hb.size, fun i hi _ => hb.block i hi⟩ (by cases h5 : v.ownBlock with | none => exact .inl rfl | some k => exact .inr (by simp))
  exact h.elim (fun x => .inl (key _ x)) (fun x => .inr (key _ x))
theorem row_others {w w' : World} {g n : Nat} {t e : TypeId} {b : Nat} {f : Nat → Value} (h : w.rowIs g t n f) (k : Lib.OthersKept e (some b) w w') (hg : g ≠ b) (ht : t ≠ e) : w'.rowIs g t n f := by
  obtain ⟨c, h1, h2, h3⟩ := h
  refine ⟨c, k g _ h1 (by simpa using hg) (fun c' fz he => ?_), h2, h3⟩
  injection he with _ he
  exact ht he

set_option maxHeartbeats 1000000 in
theorem specFT_any (wd hg : Int) (a : Option Addr) (l : List Int) (c : Nat) (w : World) (hl : Ints .i64 w w.heap.size a l) (hn : l.length ≤ 1048576) :
    Calls Tryd.prog 6 #[.agg #[.int .i64 wd, .int .i64 hg, .slice a l.length c]] w fun e w' => e = .returned (.tuple #[.string (ftS wd hg l), .bool (goodB wd hg l)]) ∧ Below w.heap.size w w' := by
  have HL := Lib.hid (ints_alloc hl (.cells #[.int .i64 wd, .int .i64 hg, .slice a l.length c] 28))
  have X0 := Lib.hid (Box.new w 28 (.int .i64 wd) (.int .i64 hg) (.slice a l.length c))
  clear hl
  cases hgd : goodB wd hg l with
  | false =>
    rw [ftS_no hgd]
    have HC := Lib.hid (specGood_is wd hg a l c _ false _ HL.out (Nat.le_refl _) hn hgd)
    clear hgd
    go_enter Tryd.func6, Tryd.ntmps6
    go_wp2_with (go_at_call 15; refine HC.out.mono ?_; rintro e w1 ⟨rfl, b⟩; have HB := Lib.hid b; clear b)
    go_ret2
    exact ⟨rfl, below_then (below_all _ _) HB.out⟩
  | true =>
    rw [ftS_yes hgd]
    have HC := Lib.hid (specGood_is wd hg a l c _ true _ HL.out (Nat.le_refl _) hn hgd)
    have hbd := good_bd hgd
    obtain ⟨W, H, rfl, rfl, h1, h2, h3, h4, h5⟩ := good_nat hgd
    have HT := Lib.hid (fun wz h => l2Text_any W H a l c wz h h1 h2 h3 h4 h5 hbd)
    simp only [Int.toNat_natCast]
    generalize textT (chunks l W H) = tx at *
    clear hgd hbd h5
    go_enter Tryd.func6, Tryd.ntmps6
    go_wp2_with fail
    refine HC.out.mono ?_
    rintro e w1 ⟨rfl, b1⟩
    have HB1 := Lib.hid (below_then (below_all _ _) b1)
    have HL1 := Lib.hid (ints_below HL.out b1)
    obtain ⟨k0, k1, k2⟩ := (X0.out.below b1).cells
    clear b1 HL X0
    go_wp2_with fail
    refine (HT.out _ HL1.out).mono ?_
    rintro e w2 ⟨rfl, b2⟩
    have HB2 := Lib.hid (below_then HB1.out b2)
    clear b2
    go_wp2
    go_ret2
    exact ⟨rfl, HB2.out⟩

/-- what the program's two loops keep: the builder's bytes, the rows -/
def FtInv (w : World) (b g b' o W H c : Nat) (J : List UInt8) (wr : World) : Prop :=
  Lib.IsBuilderF 43 5 b b (Lib.byteCells J) wr ∧ wr.rowIs g 22 H (rowV b' o W c H) ∧ Below w.heap.size w wr ∧ b ≤ wr.heap.size ∧ g ≠ b ∧ w.heap.size ≤ b
theorem FtInv.step {w wr w1 : World} {b g b' o W H c : Nat} {J : List UInt8} (h : FtInv w b g b' o W H c J wr) (hb : Below wr.heap.size wr w1) : FtInv w b g b' o W H c J w1 :=
  ⟨bld_below h.1 hb, h.2.1.of_block (hb.block _ h.2.1.lt), below_then h.2.2.1 hb, Nat.le_trans h.2.2.2.1 hb.size, h.2.2.2.2⟩
theorem FtInv.write {w wr w1 : World} {b g b' o W H c : Nat} {J J' : List UInt8} (h : FtInv w b g b' o W H c J wr) (hn : Lib.IsBuilderF 43 5 b b (Lib.byteCells J') w1) (hb : Below b wr w1) (hk : Lib.OthersKept 5 (some b) wr w1) : FtInv w b g b' o W H c J' w1 :=
  ⟨hn, row_others h.2.1 hk h.2.2.2.2.1 (by decide), h.2.2.1.trans (hb.mono h.2.2.2.2.2), Nat.le_trans h.2.2.2.1 hb.size, h.2.2.2.2⟩

set_option maxRecDepth 100000 in
set_option maxHeartbeats 4000000 in
theorem implFT_any (wd hg : Int) (a : Option Addr) (l : List Int) (c : Nat) (w : World) (hl : Ints .i64 w w.heap.size a l) (hn : l.length ≤ 1048576) (hcap : l.length ≤ c) (ht : Tab w) :
    Calls Tryd.prog 8 #[.agg #[.int .i64 wd, .int .i64 hg, .slice a l.length c]] w fun e w' => e = .returned (.tuple #[.string (ftS wd hg l), .bool (goodB wd hg l)]) ∧ Below w.heap.size w w' := by
  have HL := Lib.hid (ints_alloc hl (.cells #[.int .i64 wd, .int .i64 hg, .slice a l.length c] 28))
  have X0 := Lib.hid (Box.new w 28 (.int .i64 wd) (.int .i64 hg) (.slice a l.length c))
  have HAL := Lib.hid hl
  have HTB := Lib.hid ht
  clear hl ht
  cases hgd : goodB wd hg l with
  | false =>
    rw [ftS_no hgd]
    have HC := Lib.hid (implGood_is wd hg a l c _ false _ HL.out (Nat.le_refl _) hn hgd)
    clear hgd
    go_enter Tryd.func8, Tryd.ntmps8
    go_wp2_with (go_at_call 18; refine HC.out.mono ?_; rintro e w1 ⟨rfl, b⟩; have HB := Lib.hid b; clear b)
    go_ret2
    exact ⟨rfl, below_then (below_all _ _) HB.out⟩
  | true =>
    rw [ftS_yes hgd]
    have HC := Lib.hid (implGood_is wd hg a l c _ true _ HL.out (Nat.le_refl _) hn hgd)
    have hbd := good_bd hgd
    have HBD := Lib.hid hbd
    have h64 := good_le hgd
    obtain ⟨W, H, rfl, rfl, n1, n2, n3, n4, hLL⟩ := good_nat hgd
    obtain ⟨b', o, rfl⟩ : ∃ b o, a = some ⟨b, o, none⟩ := by
      obtain ⟨b, o, h, _⟩ := HAL.out.at_ (j := 0) (by omega)
      exact ⟨b, o, h⟩
    have HRO := Lib.hid (fun Wd => rowsOf_any W H b' o l.length c Wd n1 n2 n3 n4 hLL hcap)
    have HLL := Lib.hid hLL
    have HPA := Lib.hid (partT_all l W H)
    simp only [Int.toNat_natCast]
    rw [← HPA.out]
    clear hgd hbd hLL
    go_enter Tryd.func8, Tryd.ntmps8
    go_wp2_with fail
    refine HC.out.mono ?_
    rintro e w1 ⟨rfl, b1⟩
    have z1 := b1.size
    simp only [World.size_alloc] at z1
    have HB1 := Lib.hid (below_then (below_all _ _) b1)
    obtain ⟨k0, k1, k2⟩ := (X0.out.below b1).cells
    have hlt1 : w.heap.size < w1.heap.size := by omega
    have hne1 : ¬ w.heap.size = w1.heap.size := by omega
    clear b1 HL X0
    go_wp2_with fail
    refine (HRO.out _).mono ?_
    rintro e w2 ⟨g, hg2, rfl, hrow, b2⟩
    have HINV : Hid (FtInv w w1.heap.size g b' o W H c [] w2) := Lib.hid (by
      refine ⟨bld_below (Lib.IsBuilderF.of (Lib.fresh_isBuilder _ _ w1)) b2, hrow, below_then (HB1.out.alloc HB1.out.size _) b2, ?_, ?_, by omega⟩
      · have := b2.size; simp at this; omega
      · simp at hg2; omega)
    generalize w1.heap.size = bb at *
    clear hrow b2 k0 k1 k2 HRO HC HB1
    go_wp2
    go_loopw [15] (fun i wr => ∃ y : Nat, y ≤ H ∧ i = .int .i64 y ∧ FtInv w bb g b' o W H c (partT l W H y 0) wr) (fun i _ => H - (intOf i).toNat)
    case atStart => exact ⟨0, Nat.zero_le _, rfl, by rw [partT_zero]; exact HINV.out⟩
    case round =>
      obtain ⟨y, hy, rfl, hT⟩ := hrel
      have HT := Lib.hid hT
      by_cases hlt : y < H
      · have hi : (y : Int) < (H : Int) := by omega
        have hi0 : (0 : Int) ≤ (y : Int) := by omega
        have hcell := hT.2.1.cell hlt
        have hrv : rowV b' o W c H y = .slice (some ⟨b', o + y * W, none⟩) W (c - y * W) := if_pos hlt
        rw [hrv] at hcell
        clear hT HINV hrv
        go_wp2
        clear hcell
        go_loopw [21] (fun i wr => ∃ x : Nat, x ≤ W ∧ i = .int .i64 x ∧ FtInv w bb g b' o W H c (partT l W H y x) wr) (fun i _ => W - (intOf i).toNat)
        case atStart => exact ⟨0, Nat.zero_le _, rfl, HT.out⟩
        case round =>
          clear HT
          obtain ⟨x, hx, rfl, hT⟩ := hrel
          have HT := Lib.hid hT
          clear hT
          by_cases hlt2 : x < W
          · have hi2 : (x : Int) < (W : Int) := by omega
            have hi20 : (0 : Int) ≤ (x : Int) := by omega
            have hfit := chunk_fits hlt HLL.out
            have hkl : y * W + x < l.length := by omega
            have hc : wr.cell? ⟨b', o + y * W + x, none⟩ = some (.int .i64 l[y * W + x]) := by
              obtain ⟨b2, o2, he, _, hc⟩ := (HAL.out.below HT.out.2.2.1 (Nat.le_refl _)).at_ hkl
              injection he with he
              injection he with he1 he2
              subst he1 he2
              rw [Nat.add_assoc]
              exact hc
            have hzb := HBD.out l[y * W + x] (List.getElem_mem hkl)
            have hpl := partT_len (l := l) (W := W) (H := H) (y := y) (x := x) HBD.out n2 (by omega) (by omega)
            have HST : Hid (partT l W H y (x + 1) = (if x = 0 then partT l W H y x else partT l W H y x ++ [32]) ++ cellT l[y * W + x]) := Lib.hid (by
              by_cases e : x = 0
              · subst e
                rw [if_pos rfl]
                have := partT_first (l := l) (W := W) (H := H) (y := y) (by omega)
                simpa using this
              · rw [if_neg e]; exact partT_next (by omega) hkl)
            generalize l[y * W + x] = z at *
            have hcl := cellT_len hzb.1 hzb.2
            have HCT := Lib.hid (fun wz ht => cellText_any z wz ht hzb.1 hzb.2)
            generalize partT l W H y x = J at *
            clear hfit hkl
            have hsz := mkS_size (cellT z)
            generalize cellT z = cz at *
            have HSZ := Lib.hid hsz
            clear hsz
            by_cases hx0 : x = 0
            · subst hx0
              rw [if_pos rfl] at HST
              simp only [Nat.add_zero] at hc
              go_wp2_with fail
              refine (HCT.out _ (HTB.out.below HT.out.2.2.1)).mono ?_
              rintro e w3 ⟨rfl, b3⟩
              have HT3 := Lib.hid (HT.out.step b3)
              clear b3 hc
              go_wp2_with fail
              refine (bld_write_k bb bb J _ _ HT3.out.1 (by rw [HSZ.out]; omega) HT3.out.2.2.2.1).mono ?_
              rintro e w4 ⟨rfl, i4, b4, o4⟩
              have HT4 := Lib.hid (HT3.out.write i4 b4 o4)
              clear i4 b4 o4
              go_wp2
              go_roundw
              case rel => exact ⟨1, by omega, by go_num, by rw [HST.out]; exact HT4.out⟩
              case measure => simp [intOf]; omega
            · rw [if_neg hx0] at HST
              have hxp : (0 : Int) < (x : Int) := by omega
              have hbl := HT.out.2.2.1
              go_wp2_with fail
              refine (bld_write_k bb bb J _ _ HT.out.1 (by simp [ByteArray.size]; omega) HT.out.2.2.2.1).mono ?_
              rintro e w5 ⟨rfl, i5, b5, o5⟩
              have HT5 := Lib.hid (HT.out.write i5 b5 o5)
              clear i5 b5 o5 hc
              go_wp2_with fail
              refine (HCT.out _ (HTB.out.below HT5.out.2.2.1)).mono ?_
              rintro e w3 ⟨rfl, b3⟩
              have HT3 := Lib.hid (HT5.out.step b3)
              clear b3
              go_wp2_with fail
              refine (bld_write_k bb bb _ _ _ HT3.out.1 (by rw [HSZ.out]; simp; omega) HT3.out.2.2.2.1).mono ?_
              rintro e w4 ⟨rfl, i4, b4, o4⟩
              have HT4 := Lib.hid (HT3.out.write i4 b4 o4)
              clear i4 b4 o4
              go_wp2
              go_roundw
              case rel => exact ⟨x + 1, by omega, by go_num, by rw [HST.out]; exact HT4.out⟩
              case measure => simp [intOf]; omega
          · obtain rfl : x = W := by omega
            have hpl := partT_len (l := l) (W := x) (H := H) (y := y) (x := x) HBD.out n2 (by omega) (by omega)
            have HR := Lib.hid (partT_row (l := l) (W := x) (H := H) hlt)
            generalize partT l x H y x = J at *
            go_wp2_with fail
            refine (bld_write_k bb bb J _ _ HT.out.1 (by simp [ByteArray.size]; omega) HT.out.2.2.2.1).mono ?_
            rintro e w5 ⟨rfl, i5, b5, o5⟩
            have HT5 := Lib.hid (HT.out.write i5 b5 o5)
            clear i5 b5 o5
            go_wp2
            go_roundw
            case rel => exact ⟨y + 1, by omega, by go_num, by rw [← HR.out]; exact HT5.out⟩
            case measure => simp [intOf]; omega
      · obtain rfl : y = H := by omega
        clear hT HINV
        go_wp2_with fail
        refine (bld_string_k bb bb _ _ HT.out.1 HT.out.2.2.2.1).mono ?_
        rintro e w5 ⟨rfl, b5⟩
        have HB5 := Lib.hid (HT.out.2.2.1.trans (b5.mono HT.out.2.2.2.2.2))
        clear b5
        go_wp2
        go_ret2
        exact ⟨rfl, HB5.out⟩
end Go.Proofs.YtdgbhogbapbbgabDoor
