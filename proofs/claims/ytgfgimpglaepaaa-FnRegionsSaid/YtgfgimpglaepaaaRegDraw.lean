/- The model's draw of a region; two tables that are equal. -/
import Derived.Test.YtgfgimpglaepaaaFld
import Derived.Test.YtgfgimpglaepaaaTabl
import Derived.Test.YtgfgimpglaepaaaVField
import Derived.Deep.DeepCutAuto
import Derived.Deep.RegionHeld3
import Derived.Deep.QuietTactic
import Derived.BigQuiet
namespace Go.Proofs.Ytgfgimpglaepaaa
open Go.RowKit
set_option linter.unusedVariables false
set_option linter.unusedSimpArgs false
/-- what the draw of a region knows of a later world -/
structure Rg (w : World) (g : Nat) (a : Option Addr) (l : List Int) (c K : Nat) (out : Value) (L : List Int) (wr : World) : Prop where
  cur : CurIs wr g a l c K
  own : wr.ownsRow w.heap.size 3 1 out L.length (iv L)
  t : w.grownBy wr (some g)
section
variable {w w1 w2 : World} {g : Nat} {a : Option Addr} {l : List Int} {c K K' : Nat} {out out' : Value} {L L' : List Int}
theorem Rg.step (h : Rg w g a l c K out L w1) (hc : CurIs w2 g a l c K') (ho : Only g w1 w2) (hg : g < w.heap.size) : Rg w g a l c K' out L w2 :=
  ⟨hc, own_cur h.own ho.1 hg, turn_trans h.t ho.1⟩
theorem Rg.more (h : Rg w g a l c K out L w1) (hk : K ≤ K') : Rg w g a l c K' out L w1 := ⟨h.cur.more hk, h.own, h.t⟩
theorem Rg.put {o : Obj} (h : Rg w g a l c K out L w1) (hg : g < w.heap.size) (k : (w1.alloc o).grownBy w2 out.ownBlock) (ho : w2.ownsRow w.heap.size 3 1 out' L'.length (iv L')) : Rg w g a l c K out' L' w2 :=
  ⟨(h.cur.alloc o).past k (fun j e => by have := (h.own.lt j e).1; omega), ho, turn_new (turn_of_below h.t (below_all _ _)) k (fun j e => (h.own.lt j e).1)⟩
end
def RegPost (g : Nat) (a : Option Addr) (l : List Int) (c K : Nat) (w : World) (e : Ending) (w' : World) : Prop :=
  ∃ (wd hg : Int) (L : List Int) (a1 : Option Addr) (c1 : Nat), L.length ≤ 64 ∧ e = .returned (.tuple #[.int .i64 wd, .int .i64 hg, .slice a1 L.length c1]) ∧ OwnI w' w.heap.size a1 L ∧ CurIs w' g a l c K ∧ w.grownBy w' (some g)
set_option maxRecDepth 100000 in
set_option maxHeartbeats 8000000 in
theorem region_any (w : World) (g : Nat) (a : Option Addr) (l : List Int) (c K : Nat) (hK : K ≤ 900000) (h : CurIs w g a l c K) :
    Calls Try.prog 55 #[.pointer (some ⟨g, 0, none⟩)] w (RegPost g a l c (K + 200) w) := by
  obtain ⟨i0, hi0', hz0, hz1, hz2⟩ := info_parts infoInt
  have hg := h.lt
  have C0 := Lib.hid h
  clear h
  go_enter Try.func55, Try.ntmps55
  go_wp2_with fail
  refine (pick_any _ g a l c K 5 (by omega) (by omega) (by omega) C0.out).mono ?_
  rintro e w1 ⟨v, ⟨r1, hr1, rfl⟩, rfl, hc, ho⟩
  have C1 := Lib.hid hc
  have T1 := Lib.hid ho.1
  have HR1 := Lib.hid hr1
  clear hc ho C0 hr1
  go_wp2_with fail
  refine (pick_any _ g a l c (K + 2) 5 (by omega) (by omega) (by omega) C1.out).mono ?_
  rintro e w2 ⟨v, ⟨r2, hr2, rfl⟩, rfl, hc, ho⟩
  have C2 := Lib.hid hc
  have T2 := Lib.hid (turn_trans T1.out ho.1)
  have HR2 := Lib.hid hr2
  have s2 := T2.out.size
  clear hc ho C1 T1 hr2
  have hw1 : 1 ≤ (1 + (r1 : Int)) ∧ (1 + (r1 : Int)) ≤ 5 := by have := HR1.out; omega
  have hw2 : 1 ≤ (1 + (r2 : Int)) ∧ (1 + (r2 : Int)) ≤ 5 := by have := HR2.out; omega
  have e1 : wrap64 (1 + (r1 : Int)) = 1 + (r1 : Int) := IntWalk.wrap64_in _ (by omega)
  have e2 : wrap64 (1 + (r2 : Int)) = 1 + (r2 : Int) := IntWalk.wrap64_in _ (by omega)
  have R0 := Lib.hid (show Rg w g a l c (K + 4) (.slice (some ⟨w2.heap.size, 0, none⟩) 0 0) [] (w2.alloc (.cells #[] 3)) from
    ⟨(C2.out.alloc _).more (by omega), World.ownsRow_made (base := w.heap.size) (e := 3) (size := 1) w2 #[] 0 s2 (by unfold maxLen; omega) rfl, turn_of_below T2.out (below_all _ _)⟩)
  clear C2 T2 HR1 HR2
  go_wp2
  generalize 1 + (r1 : Int) = wd at *
  generalize 1 + (r2 : Int) = hi at *
  have hmn : 0 ≤ wd * hi := Int.mul_nonneg (by omega) (by omega)
  have hmx : wd * hi ≤ 25 := by
    have h1 : wd * hi ≤ 5 * hi := Int.mul_le_mul_of_nonneg_right (by omega) (by omega)
    omega
  obtain ⟨n, hn⟩ : ∃ n : Nat, wd * hi = (n : Int) := ⟨(wd * hi).toNat, by omega⟩
  have HN := Lib.hid hn
  have hn1 : n ≤ 25 := by omega
  clear hn hmn hmx e1 e2
  go_loopw [7, 8] (fun out i wr => ∃ (k : Nat) (L : List Int), k ≤ n ∧ L.length ≤ k ∧ i = .int .i64 k ∧ Rg w g a l c (K + 4 + 2 * k) out L wr) (fun _ i _ => n - (intOf i).toNat)
  case atStart => exact ⟨0, [], Nat.zero_le _, Nat.le_refl _, rfl, R0.out⟩
  case round =>
    obtain ⟨k, L, hk, hLk, rfl, hrg⟩ := hrel
    have H0 := Lib.hid hrg
    have hmul := HN.out
    clear hrg R0
    by_cases hlt : k < n
    · have hi1 : (k : Int) < (n : Int) := by omega
      go_wp2_with fail
      refine (one_any wr g a l c _ 3 (by omega) (by omega) (by omega) H0.out.cur).mono ?_
      rintro e w3 ⟨v, ⟨b, rfl⟩, rfl, hc, ho⟩
      have H3 := Lib.hid (H0.out.step hc ho hg)
      clear hc ho H0
      cases b with
      | true =>
        go_wp2
        go_roundw
        case rel => exact ⟨k + 1, L, by omega, by omega, by go_num, H3.out.more (by omega)⟩
        case measure => simp [intOf]; omega
      | false =>
        have hsz := H3.out.t.size
        go_wp2_with (at_builtin; refine wpList_append_own _ rfl _ _ 24 rfl w.heap.size 3 i0 (.int .i64 0) 1 8 Try.underlying24 hi0' hz0 hz1 hz2 rfl (by decide) _ L.length (iv L) rfl (H3.out.own.alloc _) ⟨w3.heap.size, 0, none⟩ 1 1 [.int .i64 (k : Int)] rfl rfl (cell_one_new _ _ _) (by simp [Value.oneCell']) (by unfold maxLen; omega) (by omega) (by simp; omega) ?_; intro v' w9 hown9 hgrow9 _; have R9 := Lib.hid (H3.out.put (L' := L ++ [(k : Int)]) hg hgrow9 (by rw [iv_snoc, List.length_append]; exact hown9)); clear hown9 hgrow9)
        go_roundw
        case rel => exact ⟨k + 1, L ++ [(k : Int)], by omega, by simp; omega, by go_num, R9.out.more (by omega)⟩
        case measure => simp [intOf]; omega
    · obtain rfl : k = n := by omega
      have hge : ¬ ((k : Int) < (k : Int)) := by omega
      go_wp2_with fail
      refine (one_any wr g a l c _ 12 (by omega) (by omega) (by omega) H0.out.cur).mono ?_
      rintro e w3 ⟨v, ⟨b, rfl⟩, rfl, hc, ho⟩
      have H3 := Lib.hid (H0.out.step hc ho hg)
      clear hc ho H0
      go_upto_if 31 with fail
      go_cut [7] (fun out wx => ∃ L' : List Int, L'.length ≤ 26 ∧ Rg w g a l c (K + 60) out L' wx)
      case first =>
        cases b with
        | false =>
          go_wp2_with fail
          go_meet
          exact ⟨L, by omega, H3.out.more (by omega)⟩
        | true =>
          go_wp2_with fail
          refine (pick_any _ g a l c _ 30 (by omega) (by omega) (by omega) H3.out.cur).mono ?_
          rintro e w4 ⟨v, ⟨r, hr, rfl⟩, rfl, hc, ho⟩
          have H4 := Lib.hid (H3.out.step hc ho hg)
          clear hc ho H3
          have hsz := H4.out.t.size
          go_wp2_with (at_builtin; refine wpList_append_own _ rfl _ _ 24 rfl w.heap.size 3 i0 (.int .i64 0) 1 8 Try.underlying24 hi0' hz0 hz1 hz2 rfl (by decide) _ L.length (iv L) rfl (H4.out.own.alloc _) ⟨w4.heap.size, 0, none⟩ 1 1 [.int .i64 (r : Int)] rfl rfl (cell_one_new _ _ _) (by simp [Value.oneCell']) (by unfold maxLen; omega) (by omega) (by simp; omega) ?_; intro v' w9 hown9 hgrow9 _; have R9 := Lib.hid (H4.out.put (L' := L ++ [(r : Int)]) hg hgrow9 (by rw [iv_snoc, List.length_append]; exact hown9)); clear hown9 hgrow9)
          go_meet
          exact ⟨L ++ [(r : Int)], by simp; omega, R9.out.more (by omega)⟩
      case rest =>
        obtain ⟨L2, hL2, hq⟩ := hcut
        have H5 := Lib.hid hq
        clear hq H3
        go_wp2_with fail
        refine (one_any _ g a l c _ 24 (by omega) (by omega) (by omega) H5.out.cur).mono ?_
        rintro e w6 ⟨v, ⟨b2, rfl⟩, rfl, hc, ho⟩
        have H6 := Lib.hid (H5.out.step hc ho hg)
        clear hc ho H5
        cases b2 with
        | false =>
          obtain ⟨a1, c1, rfl, ho1⟩ := ownI_of H6.out.own rfl
          have HO1 := Lib.hid ho1
          clear ho1
          go_wp2
          refine bodyPost_ret (v := .tuple #[.int .i64 wd, .int .i64 hi, .slice a1 L2.length c1]) (by simp [results, Try.results55, go_sem]) rfl ⟨_, _, L2, a1, c1, by omega, rfl, HO1.out, H6.out.cur.more (by omega), H6.out.t⟩
        | true =>
          have hlit := lit_ints w6 [0, 9, 8] 3
          have hcl := H6.out.cur.lt
          obtain ⟨a1, c1, rfl, ho1⟩ := ownI_of H6.out.own rfl
          have C7 := Lib.hid (H6.out.cur.alloc (.cells #[.int .i64 0, .int .i64 9, .int .i64 8] 3))
          clear ho1
          go_wp2_with fail
          refine (among_any _ g a l c _ w6.heap.size 3 [0, 9, 8] (by omega) rfl (by omega) (by omega) C7.out (by omega) (by simp) hlit 3).mono ?_
          rintro e w8 ⟨v, ⟨z, hz, rfl⟩, rfl, hc, ho⟩
          have C8 := Lib.hid hc
          have T8 := Lib.hid (turn_trans (turn_of_below H6.out.t (below_all w6 _)) ho.1)
          obtain ⟨a2, c2, he2, ho2⟩ := ownI_of (own_cur (H6.out.own.alloc _) ho.1 hg) rfl
          injection he2 with e3 _ e4
          subst e3 e4
          have HO2 := Lib.hid ho2
          clear hc ho ho2 hlit
          go_wp2
          refine bodyPost_ret (v := .tuple #[.int .i64 z, .int .i64 hi, .slice a1 L2.length c1]) (by simp [results, Try.results55, go_sem]) rfl ⟨z, _, L2, a1, c1, by omega, rfl, HO2.out, C8.out.more (by omega), T8.out⟩
set_option maxHeartbeats 4000000 in
theorem drawReg_any (w : World) (a : Option Addr) (l : List Int) (c : Nat) (hi : Ints .u8 w w.heap.size a l) (hb : ∀ z ∈ l, 0 ≤ z ∧ z ≤ 255) (hl : l.length ≤ 1048576) :
    Calls Try.prog 14 #[.slice a l.length c] w fun e w' => ∃ (wd hg : Int) (L : List Int) (a1 : Option Addr) (c1 : Nat), L.length ≤ 64 ∧ e = .returned (.tuple #[.int .i64 wd, .int .i64 hg, .slice a1 L.length c1]) ∧ OwnI w' w.heap.size a1 L ∧ Below w.heap.size w w' := by
  have C0 := Lib.hid (cur_new w a l c hi hb hl)
  have B0 := Lib.hid (below_all w (.cells #[.slice a l.length c, .int .i64 0, .int .u64 0] 70))
  clear hi hb
  go_enter Try.func14, Try.ntmps14
  go_wp2_with fail
  refine (region_any _ _ a l c 0 (by omega) C0.out).mono ?_
  rintro e w1 ⟨wd, hg, L, a1, c1, hL, rfl, o1, hc, ht⟩
  have O1 := Lib.hid (o1.more (C := w.heap.size) (by simp))
  have B1 := Lib.hid (B0.out.grown ht B0.out.size (fun j e => by injection e with e; omega))
  clear o1 hc ht
  go_wp2
  refine bodyPost_ret (v := .tuple #[.int .i64 wd, .int .i64 hg, .slice a1 L.length c1]) (by simp [results, Try.results14, go_sem]) rfl ⟨wd, hg, L, a1, c1, hL, rfl, O1.out, B1.out⟩
set_option maxHeartbeats 1000000 in
theorem vTable_yes (a a' : Option Addr) (E E' : List (Nat × Nat)) (R : List (List Int)) (c c' B U B' U' : Nat) (w : World) (h : Tabl w B U a E R) (h' : Tabl w B' U' a' E' R) (hn : R.length ≤ 1048576) (hr : ∀ r ∈ R, r.length ≤ 1048576) :
    Calls Try.prog 17 #[.slice a R.length c, .slice a' R.length c'] w (Quiet (.bool true) w) := by
  have HT := Lib.hid h
  have HT' := Lib.hid h'
  have HR := Lib.hid hr
  clear h h' hr
  go_enter Try.func17, Try.ntmps17
  go_wp2
  go_loopw [5] (fun i wr => ∃ k : Nat, k ≤ R.length ∧ i = .int .i64 k ∧ Drew w wr) (fun i _ => R.length - (intOf i).toNat)
  case atStart => exact ⟨0, Nat.zero_le _, rfl, Drew.refl w⟩
  case round =>
    obtain ⟨k, hk, rfl, hw⟩ := hrel
    by_cases hlt : k < R.length
    · have hi : (k : Int) < (R.length : Int) := by omega
      have hi0 : (0 : Int) ≤ (k : Int) := by omega
      obtain ⟨g, he, rfl, _, hc⟩ := (HT.out.drew hw).at_ hlt
      obtain ⟨g', he', rfl, _, hc'⟩ := (HT'.out.drew hw).at_ hlt
      have HE := Lib.hid (fun Wd (d : Drew w Wd) => vInts_yes (some ⟨E[k].1, 0, none⟩) (some ⟨E'[k].1, 0, none⟩) R[k] E[k].2 E'[k].2 U U' Wd ((HT.out.drew d).ints he hlt) ((HT'.out.drew d).ints he' hlt) (HR.out _ (List.getElem_mem hlt)))
      unfold entV at hc hc'
      generalize E[k] = e1 at *
      generalize E'[k] = e2 at *
      generalize R[k].length = n at *
      have HW := Lib.hid hw
      have HC := Lib.hid hc
      have HC' := Lib.hid hc'
      clear hw
      go_wp2_with fail
      go_region_held3 (fun w' => w'.cell? ⟨g, k, none⟩ = some (.slice (some ⟨e1.1, 0, none⟩) n e1.2) ∧ w'.cell? ⟨g', k, none⟩ = some (.slice (some ⟨e2.1, 0, none⟩) n e2.2))
        (first | exact ⟨(D9.out.cell _).trans HC.out, (D9.out.cell _).trans HC'.out⟩ | exact ⟨HC.out, HC'.out⟩ | go_keep)
        (first | (go_at_call 22; refine (HE.out _ (HW.out.more 1)).mono ?_; rintro e w9 ⟨rfl, d9⟩; have D9 := Lib.hid (Drew.trans (Drew.more (Drew.refl wr) 1) d9); clear d9))
      rename_i hHeld
      clear hHeld
      go_wp2
      go_roundw
      case rel => exact ⟨k + 1, by omega, by go_num, HW.out.trans D9.out⟩
      case measure => simp [intOf]; omega
    · go_wp2
      go_ret
      exact ⟨rfl, hw⟩
end Go.Proofs.Ytgfgimpglaepaaa
