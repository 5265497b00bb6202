/- The program's neighborhoods: hasNeighborhoods, neighborhoodValues. -/
import Derived.Test.YtdkffljnfemngaaNbMath
import Derived.Test.YtdkffljnfemngaaGrid
import Derived.Test.YtdkffljnfemngaaAlgRule
import Derived.IntWalk
import Derived.Deep.DeepCutAuto
import Derived.OwnWalk
import Derived.Maps.AppendAt
namespace Go.Proofs.Ytdkffljnfemngaa
open Go.RowKit
set_option linter.unusedVariables false
set_option linter.unusedSimpArgs false
theorem own_ne_rows {w : World} {g base e n m : Nat} {t : TypeId} {f : Nat → Value} {v : Value} {xs : List Value} (h : w.ownsRow base e 1 v n xs) (hr : w.rowIs g t m f) (hne : e ≠ t) : v.ownBlock ≠ some g := by
  obtain ⟨c, h1, _, _⟩ := hr
  rcases h.2 with ⟨rfl, _⟩ | ⟨g', cap, cur, rfl, _, hh, _⟩
  · simp [Value.ownBlock]
  · intro he
    have : g' = g := by simpa [Value.ownBlock] using he
    subst this
    rw [h1] at hh
    injection hh with hh
    injection hh with _ ht
    exact hne ht.symm
theorem hasNb_is (wd hg : Int) (a : Option Addr) (l : List Int) (c : Nat) (r : Int) (v : Bool) (w : World) (hl : Ints .i64 w w.heap.size a l) (hn : l.length ≤ 1048576) (h : nbB wd hg l r = v) :
    Calls Try.prog 74 #[.agg #[.int .i64 wd, .int .i64 hg, .slice a l.length c], .int .i64 r] w fun e w' => e = .returned (.bool v) ∧ Below w.heap.size w w' := by
  have HC := Lib.hid (fun u hu => implGood_is wd hg a l c _ u _ (ints_alloc hl (.cells #[.int .i64 wd, .int .i64 hg, .slice a l.length c] 26)) (Nat.le_refl _) hn hu)
  have HV := Lib.hid h
  clear hl h
  cases hgd : goodB wd hg l with
  | false =>
    obtain rfl : v = false := by rw [← HV.out]; unfold nbB; rw [hgd]; rfl
    have C1 := Lib.hid (HC.out false hgd)
    clear HC hgd HV
    go_enter Try.func74, Try.ntmps74
    go_wp2_with (go_at_call 97; refine C1.out.mono ?_; rintro e w1 ⟨rfl, b⟩; have HB := Lib.hid (below_then (below_all _ _) b); clear b)
    go_ret
    exact ⟨rfl, HB.out⟩
  | true =>
    have C1 := Lib.hid (HC.out true hgd)
    by_cases h0 : 0 ≤ r
    · by_cases h3 : r ≤ 3
      · obtain rfl : v = true := by rw [← HV.out, nbB_iff]; exact ⟨hgd, radB_iff.2 ⟨h0, h3⟩⟩
        clear HC hgd HV
        go_enter Try.func74, Try.ntmps74
        go_wp2_with (go_at_call 97; refine C1.out.mono ?_; rintro e w1 ⟨rfl, b⟩; have HB := Lib.hid (below_then (below_all _ _) b); clear b)
        go_ret
        exact ⟨rfl, HB.out⟩
      · obtain rfl : v = false := by rw [← HV.out]; unfold nbB; rw [radB_high h3]; simp
        clear HC hgd HV
        go_enter Try.func74, Try.ntmps74
        go_wp2_with (go_at_call 97; refine C1.out.mono ?_; rintro e w1 ⟨rfl, b⟩; have HB := Lib.hid (below_then (below_all _ _) b); clear b)
        go_ret
        exact ⟨by show Ending.returned (.bool (decide (r ≤ 3))) = _; rw [decide_eq_false (show ¬ r ≤ 3 by omega)], HB.out⟩
    · obtain rfl : v = false := by rw [← HV.out]; unfold nbB; rw [radB_low h0]; simp
      clear HC hgd HV
      go_enter Try.func74, Try.ntmps74
      go_wp2_with (go_at_call 97; refine C1.out.mono ?_; rintro e w1 ⟨rfl, b⟩; have HB := Lib.hid (below_then (below_all _ _) b); clear b)
      go_ret
      exact ⟨rfl, HB.out⟩
/-- what the loops over the rows from g know of a world: the field's box, the rows, the values so far -/
structure NbAt (w : World) (W H b o c n : Nat) (g : Nat) (vs : List Int) (out : Value) (wr : World) : Prop where
  x : Box wr w.heap.size 26 (.int .i64 W) (.int .i64 H) (.slice (some ⟨b, o, none⟩) n c)
  r : wr.rowIs g 24 H (rowV b o W c H)
  o : wr.ownsRow w.heap.size 3 1 out vs.length (iv vs)
  b : Below w.heap.size w wr
theorem NbAt.append {w wr w1 : World} {W H b o c n g : Nat} {vs vs' : List Int} {out out' : Value} {ob : Obj} (h : NbAt w W H b o c n g vs out wr) (hg : (wr.alloc ob).grownBy w1 out.ownBlock) (ho : w1.ownsRow w.heap.size 3 1 out' vs'.length (iv vs')) : NbAt w W H b o c n g vs' out' w1 := by
  have hx := own_ne_box h.o h.x (by decide)
  have hr := own_ne_rows h.o h.r (by decide)
  have hl := h.r.lt
  refine ⟨(h.x.alloc ob).grown hg (Ne.symm hx), h.r.of_block ((hg.block g (by simp; omega) (Ne.symm hr)).trans (Below.heap_alloc wr ob g hl)), ho, (h.b.alloc h.b.size ob).grown hg (by have := h.b.size; simp; omega) (fun k hk => (h.o.lt k hk).1)⟩
set_option maxRecDepth 100000 in
set_option maxHeartbeats 4000000 in
theorem nbVals_any (W H b o c x y r : Nat) (l : List Int) (xi yi ri : Int) (w : World) (hxi : (x : Int) = xi) (hyi : (y : Int) = yi) (hri : (r : Int) = ri) (hW8 : W ≤ 8) (hH8 : H ≤ 8) (hn : l.length = W * H) (hcap : l.length ≤ c) (hx : x < W) (hy : y < H) (hr : r ≤ 3)
    (hl : Ints .i64 w w.heap.size (some ⟨b, o, none⟩) l) :
    Calls Try.prog 91 #[.agg #[.int .i64 W, .int .i64 H, .slice (some ⟨b, o, none⟩) l.length c], .int .i64 xi, .int .i64 yi, .int .i64 ri] w (IntsPost (nbv l W H x y r) w) := by
  obtain ⟨i0, hi0', hz0, hz1, hz2⟩ := info_parts infoInt
  have HLE := Lib.hid (nbv_le (l := l) (x := x) (y := y) (r := r) hW8 hH8)
  have HL := Lib.hid hl
  have HN := Lib.hid hn
  have HRO := Lib.hid (fun Wd => rowsOf_any W H b o l.length c Wd (by omega) hW8 (by omega) hH8 hn hcap)
  unfold nbv at *
  obtain ⟨X0, hX0⟩ : ∃ q, x - r = q := ⟨_, rfl⟩
  obtain ⟨X1, hX1⟩ : ∃ q, min (x + r + 1) W = q := ⟨_, rfl⟩
  obtain ⟨Y0, hY0⟩ : ∃ q, y - r = q := ⟨_, rfl⟩
  obtain ⟨Y1, hY1⟩ : ∃ q, min (y + r + 1) H = q := ⟨_, rfl⟩
  obtain ⟨Q, hQ⟩ : ∃ q, Y1 - Y0 = q := ⟨_, rfl⟩
  obtain ⟨P, hP⟩ : ∃ q, X1 - X0 = q := ⟨_, rfl⟩
  rw [hX0, hX1, hY0, hY1, hQ] at HLE ⊢
  obtain ⟨d1, hd1⟩ : ∃ d, yi - ri = d := ⟨_, rfl⟩
  obtain ⟨s1, hs1⟩ : ∃ d, yi + ri = d := ⟨_, rfl⟩
  obtain ⟨s2, hs2⟩ : ∃ d, s1 + 1 = d := ⟨_, rfl⟩
  obtain ⟨d3, hd3⟩ : ∃ d, xi - ri = d := ⟨_, rfl⟩
  obtain ⟨s3, hs3⟩ : ∃ d, xi + ri = d := ⟨_, rfl⟩
  obtain ⟨s4, hs4⟩ : ∃ d, s3 + 1 = d := ⟨_, rfl⟩
  have e1 : (if d1 < 0 then (0 : Int) else d1) = (Y0 : Int) := by split <;> omega
  have e2 : (if (H : Int) < s2 then (H : Int) else s2) = (Y1 : Int) := by split <;> omega
  have e3 : (if d3 < 0 then (0 : Int) else d3) = (X0 : Int) := by split <;> omega
  have e4 : (if (W : Int) < s4 then (W : Int) else s4) = (X1 : Int) := by split <;> omega
  have y0 : (0 : Int) ≤ (Y0 : Int) := by omega
  have y1 : (Y0 : Int) ≤ (Y1 : Int) := by omega
  have y2 : (Y1 : Int) ≤ (H : Int) := by omega
  have y4 : ¬ H = Y0 := by omega
  have x0 : (0 : Int) ≤ (X0 : Int) := by omega
  have x1 : (X0 : Int) ≤ (X1 : Int) := by omega
  have xW : X1 ≤ W := by omega
  have xX : X0 < X1 := by omega
  have yQ : Y0 + Q ≤ H := by omega
  have hQ8 : Q ≤ 8 := by omega
  have hP8 : P ≤ 8 := by omega
  have bd1 : -100 ≤ d1 ∧ d1 ≤ 100 := by omega
  have bs1 : -100 ≤ s1 ∧ s1 ≤ 100 := by omega
  have bs2 : -100 ≤ s2 ∧ s2 ≤ 100 := by omega
  have bd3 : -100 ≤ d3 ∧ d3 ≤ 100 := by omega
  have bs3 : -100 ≤ s3 ∧ s3 ≤ 100 := by omega
  have bs4 : -100 ≤ s4 ∧ s4 ≤ 100 := by omega
  have hw1 : IntKind.i64.wrap (yi - ri) = d1 := by rw [IntWalk.i64_in _ (by omega)]; exact hd1
  have hw2 : IntKind.i64.wrap (yi + ri) = s1 := by rw [IntWalk.i64_in _ (by omega)]; exact hs1
  have hw3 : IntKind.i64.wrap (s1 + 1) = s2 := by rw [IntWalk.i64_in _ (by omega)]; exact hs2
  have hw4 : IntKind.i64.wrap (xi - ri) = d3 := by rw [IntWalk.i64_in _ (by omega)]; exact hd3
  have hw5 : IntKind.i64.wrap (xi + ri) = s3 := by rw [IntWalk.i64_in _ (by omega)]; exact hs3
  have hw6 : IntKind.i64.wrap (s3 + 1) = s4 := by rw [IntWalk.i64_in _ (by omega)]; exact hs4
  have HW8 := Lib.hid hW8
  have HCC := Lib.hid hcap
  clear hX0 hX1 hY0 hY1 hxi hyi hri hx hy hr hn hl hcap hd1 hs1 hs2 hd3 hs3 hs4 bd1 bs1 bs2 bd3 bs3 bs4
  have XX0 := (Box.new w 26 (.int .i64 W) (.int .i64 H) (.slice (some ⟨b, o, none⟩) l.length c)).alloc (.cells #[] 3)
  have O0 := World.ownsRow_made (base := w.heap.size) (e := 3) (size := 1) (w.alloc (.cells #[.int .i64 W, .int .i64 H, .slice (some ⟨b, o, none⟩) l.length c] 26)) #[] 0 (by simp) (by simp) rfl
  have B0 : Below w.heap.size w ((w.alloc (.cells #[.int .i64 W, .int .i64 H, .slice (some ⟨b, o, none⟩) l.length c] 26)).alloc (.cells #[] 3)) := ((Below.refl _ _).alloc (Nat.le_refl _) _).alloc (by simp) _
  simp only [World.size_alloc] at O0
  obtain ⟨w2, hw2⟩ : ∃ w2, (w.alloc (.cells #[.int .i64 W, .int .i64 H, .slice (some ⟨b, o, none⟩) l.length c] 26)).alloc (.cells #[] 3) = w2 := ⟨_, rfl⟩
  have z2 : w2.heap.size = w.heap.size + 2 := by rw [← hw2]; simp
  rw [hw2] at XX0 O0 B0
  have HX := Lib.hid XX0
  have HO := Lib.hid O0
  have HB := Lib.hid B0
  have HW2 := Lib.hid hw2
  obtain ⟨k0, k1, k2⟩ := XX0.cells
  clear XX0 O0 B0 hw2
  go_enter Try.func91, Try.ntmps91
  go_upto_region 2 with fail
  rw [HW2.out]
  go_cut [28, 29, 30] (fun sl n i wx => ∃ g, sl = .slice (some ⟨g, Y0, none⟩) Q (H - Y0) ∧ n = .int .i64 Q ∧ i = .int .i64 0 ∧ NbAt w W H b o c l.length g [] (.slice (some ⟨w.heap.size + 1, 0, none⟩) 0 0) wx)
  case first =>
    go_region_held3 (fun w' => w'.cell? ⟨w.heap.size, 0, none⟩ = some (.int .i64 W) ∧ w'.cell? ⟨w.heap.size, 1, none⟩ = some (.int .i64 H) ∧ w'.cell? ⟨w.heap.size, 2, none⟩ = some (.slice (some ⟨b, o, none⟩) l.length c))
      (first | exact X5.out.cells | go_keep)
      (first | (go_at_call 76; refine (HRO.out _).mono ?_; rintro e w5 ⟨g, hg5, rfl, hrow, b5⟩; have b5' : Below w2.heap.size w2 w5 := below_then ((Drew.more (Drew.refl w2) 1).below _) b5; have X5 := Lib.hid (HX.out.below b5'); have O5 := Lib.hid (own_keeps HO.out b5'); have B5 := Lib.hid (below_then HB.out b5'); have R5 := Lib.hid hrow; clear hrow b5 b5'))
    all_goals (go_wp2_with fail; go_meet)
    all_goals exact ⟨g, rfl, rfl, rfl, X5.out, R5.out, O5.out, B5.out⟩
  case rest =>
    obtain ⟨g, rfl, rfl, rfl, hA⟩ := hcut
    have HA := Lib.hid hA
    clear hA HX HO HB HW2 HRO k0 k1 k2 e1 e2 hw1 hw2 hw3
    go_wp2
    go_loopw [9, 30] (fun out i wr => ∃ k : Nat, k ≤ Q ∧ i = .int .i64 k ∧ NbAt w W H b o c l.length g (nbRows l W X0 X1 Y0 k) out wr) (fun _ i _ => Q - (intOf i).toNat)
    case atStart => exact ⟨0, Nat.zero_le _, rfl, HA.out⟩
    case round =>
      obtain ⟨k, hk, rfl, hA⟩ := hrel
      clear HA
      have hleQ : (nbRows l W X0 X1 Y0 Q).length ≤ 64 := HLE.out
      by_cases hlt : k < Q
      · have hi : (k : Int) < (Q : Int) := by omega
        have hi0 : (0 : Int) ≤ (k : Int) := by omega
        have hcell := hA.r.cell (i := Y0 + k) (by omega)
        have hrv : rowV b o W c H (Y0 + k) = .slice (some ⟨b, o + (Y0 + k) * W, none⟩) W (c - (Y0 + k) * W) := if_pos (by omega)
        rw [hrv] at hcell
        obtain ⟨x0c, x1c, x2c⟩ := hA.x.cells
        have hfit := cut_fits (x1 := W) (y := Y0 + k) HN.out (Nat.le_refl _) (by omega)
        have hclen := cutR_len (y := Y0 + k) HN.out (Nat.le_of_lt xX) xW (by omega)
        rw [hP] at hclen
        have HGET := Lib.hid (fun m h h2 => cutR_get (l := l) (W := W) (x0 := X0) (x1 := X1) (y := Y0 + k) (m := m) h h2)
        have HALL := Lib.hid (nbPart_all l W X0 X1 Y0 k P (by rw [hclen]; exact Nat.le_refl _))
        have HHIT := Lib.hid (fun m h hz => nbPart_hit (l := l) (W := W) (x0 := X0) (x1 := X1) (y0 := Y0) (k := k) (m := m) h hz)
        have HMIS := Lib.hid (fun m h hz => nbPart_miss (l := l) (W := W) (x0 := X0) (x1 := X1) (y0 := Y0) (k := k) (m := m) h hz)
        have HCL := Lib.hid hclen
        have HPL := Lib.hid (fun m => nbPart_le l W X0 X1 Y0 k m)
        have hPL2 : (k + 1) * (X1 - X0) ≤ 64 := by rw [hP]; exact Nat.le_trans (Nat.mul_le_mul (by omega : k + 1 ≤ 8) hP8) (by omega)
        have HZERO := Lib.hid (nbPart_zero l W X0 X1 Y0 k)
        have HCAP := Lib.hid hfit
        obtain ⟨p, hp⟩ : ∃ q, (Y0 + k) * W = q := ⟨_, rfl⟩
        obtain ⟨cc, hcc⟩ : ∃ q, c - p = q := ⟨_, rfl⟩
        rw [hp] at hcell HGET HCAP
        rw [hcc] at hcell
        have x2 : (X1 : Int) ≤ (cc : Int) := by have := HCAP.out; have := HCC.out; omega
        have x4 : ¬ cc = X0 := by have := HCAP.out; have := HCC.out; omega
        have HAk := Lib.hid hA
        have HFIT := Lib.hid hfit
        rw [hp] at HFIT
        clear hA hfit hclen hrv hp hcc
        go_wp2
        go_loopw [9, 48] (fun out i wr' => ∃ m : Nat, m ≤ P ∧ i = .int .i64 m ∧ NbAt w W H b o c l.length g (nbPart l W X0 X1 Y0 k m) out wr') (fun _ i _ => P - (intOf i).toNat)
        case atStart => exact ⟨0, Nat.zero_le _, rfl, by rw [HZERO.out]; exact HAk.out⟩
        case round =>
          obtain ⟨m, hm, rfl, hA⟩ := hrel
          clear x0c x1c x2c hcell e3 e4 hw4 hw5 hw6
          by_cases hlt2 : m < P
          · have mi : (m : Int) < (P : Int) := by omega
            have mi0 : (0 : Int) ≤ (m : Int) := by omega
            have hml : m < (cutR l W X0 X1 (Y0 + k)).length := by rw [HCL.out]; exact hlt2
            have hin : p + X0 + m < l.length := by have := HFIT.out; omega
            obtain ⟨b', o', e, hb', ck⟩ := (HL.out.below hA.b (Nat.le_refl _)).at_ hin
            injection e with e
            injection e with e1 e2
            subst e1 e2
            rw [← HGET.out m hml hin, show o + (p + X0 + m) = o + p + X0 + m by omega] at ck
            have hh := HHIT.out m hml
            have hs := HMIS.out m hml
            have hle2 := HPL.out m
            obtain ⟨z, hzz⟩ : ∃ z, (cutR l W X0 X1 (Y0 + k))[m] = z := ⟨_, rfl⟩
            rw [hzz] at ck hh hs
            have HAm := Lib.hid hA
            clear hA hzz
            by_cases hz : z = -9999
            · have hne : (z != -9999) = false := by simp [hz]
              have HV := Lib.hid (hh hz)
              clear hz hh hs
              go_wp2
              go_roundw
              case rel => exact ⟨m + 1, by omega, by go_num, by rw [HV.out]; exact HAm.out⟩
              case measure => simp [intOf]; omega
            · have hne : (z != -9999) = true := by simp [hz]
              have HV := Lib.hid (hs hz)
              clear hz hh hs
              generalize nbPart l W X0 X1 Y0 k m = vs at *
              go_wp2_with (at_builtin; refine wpList_append_own _ rfl _ _ 24 rfl w.heap.size 3 i0 (.int .i64 0) 1 8 Try.underlying24 hi0' hz0 hz1 hz2 rfl (by decide) _ vs.length (iv vs) rfl (HAm.out.o.alloc _) ⟨wr.heap.size, 0, none⟩ 1 1 [.int .i64 z] rfl rfl (cell_one_new _ _ _) (by simp [Value.oneCell']) (by unfold maxLen; omega) (by omega) (by have := HAm.out.b.size; simp; omega) ?_; intro v' w1 hown' hgrow _; have HO1 := Lib.hid hown'; have HG1 := Lib.hid hgrow; clear hown' hgrow)
              go_roundw
              case rel => exact ⟨m + 1, by omega, by go_num, by rw [HV.out]; exact HAm.out.append HG1.out (by rw [iv_snoc, List.length_append]; exact HO1.out)⟩
              case measure => simp [intOf]; omega
          · obtain rfl : m = P := by omega
            rw [HALL.out] at hA
            have HAm := Lib.hid hA
            clear hA
            go_wp2
            go_roundw
            case rel => exact ⟨k + 1, by omega, by go_num, HAm.out⟩
            case measure => simp [intOf]; omega
      · obtain rfl : k = Q := by omega
        have hA2 := hA
        obtain ⟨a', c', hv, ho⟩ := ownI_of hA.o rfl
        subst hv
        have HO2 := Lib.hid ho
        have HB2 := Lib.hid hA.b
        clear ho hA hA2
        go_wp2
        go_ret
        exact ⟨a', c', rfl, HO2.out, HB2.out⟩
end Go.Proofs.Ytdkffljnfemngaa
