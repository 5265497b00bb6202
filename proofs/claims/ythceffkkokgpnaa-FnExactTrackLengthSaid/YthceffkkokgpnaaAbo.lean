/- RegionAbove: the cells above a limit, the model's and the program's. -/
import Derived.Test.YthceffkkokgpnaaRgnMath
import Derived.Test.YthceffkkokgpnaaGood
import Derived.Test.YthceffkkokgpnaaMake
import Derived.Test.YthceffkkokgpnaaSvRet
namespace Go.Proofs.Ythceffkkokgpnaa
open Go.RowKit
set_option linter.unusedVariables false
set_option linter.unusedSimpArgs false
set_option maxRecDepth 100000 in
set_option maxHeartbeats 2000000 in
theorem above_any (wd hg : Int) (a : Option Addr) (l : List Int) (c : Nat) (lim : Int) (w : World) (hl : Ints .i64 w w.heap.size a l) (hn : l.length ≤ 1048576) :
    Calls Try.prog 87 #[.agg #[.int .i64 wd, .int .i64 hg, .slice a l.length c], .int .i64 lim] w (IntsPost (aboP l lim l.length) w) := by
  obtain ⟨i0, hi0', hz0, hz1, hz2⟩ := info_parts infoInt
  have HL := Lib.hid hl
  clear hl
  go_enter Try.func87, Try.ntmps87
  go_wp2
  go_loopw [5, 6] (fun q i wr => ∃ k : Nat, k ≤ l.length ∧ i = .int .i64 k ∧ wr.ownsRow (w.heap.size + 1) 3 1 q (aboP l lim k).length (iv (aboP l lim k)) ∧ Box wr w.heap.size 54 (.int .i64 wd) (.int .i64 hg) (.slice a l.length c) ∧ Below w.heap.size w wr) (fun _ i _ => l.length - (intOf i).toNat)
  case atStart =>
    refine ⟨0, Nat.zero_le _, rfl, ?_, (Box.new w 54 (.int .i64 wd) (.int .i64 hg) (.slice a l.length c)).alloc _, (below_all _ _).alloc (by simp) _⟩
    have := World.ownsRow_made (base := w.heap.size + 1) (e := 3) (size := 1) (w.alloc (.cells #[.int .i64 wd, .int .i64 hg, .slice a l.length c] 54)) #[] 0 (by simp) (by unfold maxLen; omega) rfl
    rw [World.size_alloc] at this
    exact this
  case round =>
    obtain ⟨k, hk, rfl, hown, hx, hB⟩ := hrel
    obtain ⟨c0, c1, c2⟩ := hx.cells
    have HX := Lib.hid hx
    have HO := Lib.hid hown
    have HB := Lib.hid hB
    have hAL := aboP_len l lim k
    have hsz := hB.size
    by_cases hlt : k < l.length
    · obtain ⟨b, o, rfl, hb, hc⟩ := (HL.out.below hB (Nat.le_refl _)).at_ hlt
      clear hx hown hB
      have hi : (k : Int) < (l.length : Int) := by omega
      have hi0 : (0 : Int) ≤ (k : Int) := by omega
      by_cases hm : l[k] = -9999
      · have HE := Lib.hid (aboP_no (lim := lim) hlt (.inl hm))
        rw [hm] at hc
        clear hm
        go_wp2
        go_roundw
        case rel => exact ⟨k + 1, by omega, by go_num, by rw [HE.out]; exact HO.out, HX.out, HB.out⟩
        case measure => simp [intOf]; omega
      · have hm2 : (l[k] != -9999) = true := by simp [hm]
        by_cases hgt : lim < l[k]
        · have HE := Lib.hid (aboP_yes hlt hm hgt)
          obtain ⟨x, hx⟩ : ∃ x, l[k] = x := ⟨_, rfl⟩
          rw [hx] at hc hm2 hgt
          clear hx hm
          generalize aboP l lim k = r at *
          have hne := Lib.hid (own_ne_box HO.out HX.out (by decide))
          go_wp2_with (at_builtin; refine wpList_append_own _ rfl _ _ 30 rfl (w.heap.size + 1) 3 i0 (.int .i64 0) 1 8 Try.underlying30 hi0' hz0 hz1 hz2 rfl (by decide) _ r.length (iv r) rfl (HO.out.alloc _) ⟨wr.heap.size, 0, none⟩ 1 1 [.int .i64 (k : Int)] rfl rfl (cell_one_new _ _ _) (by simp [Value.oneCell']) (by unfold maxLen; omega) (by omega) (by have := HX.out.lt; simp; omega) ?_; intro v' w1 hown' hgrow _; have HO1 := Lib.hid hown'; have HG1 := Lib.hid hgrow; have HX1 := Lib.hid ((HX.out.alloc _).grown hgrow (Ne.symm hne.out)); clear hown' hgrow)
          go_roundw
          case rel => exact ⟨k + 1, by omega, by go_num, by rw [HE.out, List.length_append, iv_snoc]; exact HO1.out, HX1.out,
            (HB.out.alloc HB.out.size _).grown HG1.out (by have := HB.out.size; simp; omega) (fun j hj => by have := (HO.out.lt j hj).1; omega)⟩
          case measure => simp [intOf]; omega
        · have HE := Lib.hid (aboP_no (lim := lim) hlt (.inr hgt))
          obtain ⟨x, hx⟩ : ∃ x, l[k] = x := ⟨_, rfl⟩
          rw [hx] at hc hm2 hgt
          clear hx hm
          go_wp2
          go_roundw
          case rel => exact ⟨k + 1, by omega, by go_num, by rw [HE.out]; exact HO.out, HX.out, HB.out⟩
          case measure => simp [intOf]; omega
    · obtain rfl : k = l.length := by omega
      clear hx hown hB
      obtain ⟨a', c', rfl, ho⟩ := ownI_of HO.out rfl
      have HOO := Lib.hid ho
      clear ho HO
      go_wp2
      go_ret
      exact ⟨a', c', rfl, HOO.out.more (by omega), HB.out⟩
set_option maxRecDepth 100000 in
set_option maxHeartbeats 2000000 in
theorem implAbove_any (wd hg : Int) (a : Option Addr) (l : List Int) (c : Nat) (lim : Int) (w : World) (hl : Ints .i64 w w.heap.size a l) (hn : l.length ≤ 1048576) :
    Calls Try.prog 89 #[.agg #[.int .i64 wd, .int .i64 hg, .slice a l.length c], .int .i64 lim] w (SvRet (aboR wd hg l lim) (goodB wd hg l) w) := by
  obtain ⟨i0, hi0', hz0, hz1, hz2⟩ := info_parts infoInt
  have HL := Lib.hid hl
  cases hg' : goodB wd hg l with
  | false =>
    rw [aboR_no hg']
    have C := Lib.hid (fun W h => implGood_is wd hg a l c w.heap.size false W h)
    have HG := Lib.hid hg'
    clear hl hg'
    go_enter Try.func89, Try.ntmps89
    go_wp2_with fail
    refine (C.out _ (HL.out.below (below_all _ _) (Nat.le_refl _)) (by simp) hn HG.out).mono ?_
    rintro e w1 ⟨rfl, b1⟩
    have B1 := Lib.hid (below_then (below_all _ _) b1)
    clear b1
    go_wp2
    go_ret2
    exact ⟨_, _, rfl, OwnI.none_, B1.out.alloc B1.out.size _⟩
  | true =>
    rw [aboR_yes hg']
    have C := Lib.hid (fun W h => implGood_is wd hg a l c w.heap.size true W h)
    have HG := Lib.hid hg'
    clear hl hg'
    go_enter Try.func89, Try.ntmps89
    have X0 := Box.new w 54 (.int .i64 wd) (.int .i64 hg) (.slice a l.length c)
    go_wp2_with fail
    refine (C.out _ (HL.out.below (below_all _ _) (Nat.le_refl _)) (by simp) hn HG.out).mono ?_
    rintro e w1 ⟨rfl, b1⟩
    have X1 := X0.below b1
    have HX1 := Lib.hid X1
    have B1 := Lib.hid (below_then (below_all _ _) b1)
    have z1 := B1.out.size
    have hlt1 := X1.lt
    obtain ⟨c0, c1, c2⟩ := X1.cells
    clear b1 X0 X1
    go_wp2
    go_loopw [6, 17] (fun q i wr => ∃ k : Nat, k ≤ l.length ∧ i = .int .i64 k ∧ wr.ownsRow w1.heap.size 3 1 q (aboP l lim k).length (iv (aboP l lim k)) ∧ Box wr w.heap.size 54 (.int .i64 wd) (.int .i64 hg) (.slice a l.length c) ∧ Below w.heap.size w wr ∧ w1.heap.size < wr.heap.size) (fun _ i _ => l.length - (intOf i).toNat)
    case atStart =>
      exact ⟨0, Nat.zero_le _, rfl, World.ownsRow_made (base := w1.heap.size) (e := 3) (size := 1) w1 #[] 0 (Nat.le_refl _) (by unfold maxLen; omega) rfl, HX1.out.alloc _, B1.out.alloc B1.out.size _, by simp⟩
    case round =>
      obtain ⟨k, hk, rfl, hown, hx, hB, hzz⟩ := hrel
      obtain ⟨c0, c1, c2⟩ := hx.cells
      have HX := Lib.hid hx
      have HO := Lib.hid hown
      have HB := Lib.hid hB
      have hAL := aboP_len l lim k
      have hsz := hB.size
      by_cases hlt : k < l.length
      · obtain ⟨b, o, rfl, hb, hc⟩ := (HL.out.below hB (Nat.le_refl _)).at_ hlt
        clear hx hown hB
        have hi : (k : Int) < (l.length : Int) := by omega
        have hi0 : (0 : Int) ≤ (k : Int) := by omega
        by_cases hm : l[k] = -9999
        · have HE := Lib.hid (aboP_no (lim := lim) hlt (.inl hm))
          rw [hm] at hc
          clear hm
          go_wp2
          go_roundw
          case rel => exact ⟨k + 1, by omega, by go_num, by rw [HE.out]; exact HO.out, HX.out, HB.out, hzz⟩
          case measure => simp [intOf]; omega
        · have hm2 : (l[k] != -9999) = true := by simp [hm]
          by_cases hgt : lim < l[k]
          · have HE := Lib.hid (aboP_yes hlt hm hgt)
            obtain ⟨x, hx⟩ : ∃ x, l[k] = x := ⟨_, rfl⟩
            rw [hx] at hc hm2 hgt
            clear hx hm
            generalize aboP l lim k = r at *
            have hne := Lib.hid (own_ne_box HO.out HX.out (by decide))
            go_wp2_with (at_builtin; refine wpList_append_own _ rfl _ _ 30 rfl w1.heap.size 3 i0 (.int .i64 0) 1 8 Try.underlying30 hi0' hz0 hz1 hz2 rfl (by decide) _ r.length (iv r) rfl (HO.out.alloc _) ⟨wr.heap.size, 0, none⟩ 1 1 [.int .i64 (k : Int)] rfl rfl (cell_one_new _ _ _) (by simp [Value.oneCell']) (by unfold maxLen; omega) (by omega) (by simp; omega) ?_; intro v' w1 hown' hgrow _; have HO1 := Lib.hid hown'; have HG1 := Lib.hid hgrow; have HX1 := Lib.hid ((HX.out.alloc _).grown hgrow (Ne.symm hne.out)); clear hown' hgrow)
            go_roundw
            case rel => exact ⟨k + 1, by omega, by go_num, by rw [HE.out, List.length_append, iv_snoc]; exact HO1.out, HX1.out,
              (HB.out.alloc HB.out.size _).grown HG1.out (by simp; omega) (fun j hj => by have := (HO.out.lt j hj).1; omega), by have := HG1.out.size; simp at this; omega⟩
            case measure => simp [intOf]; omega
          · have HE := Lib.hid (aboP_no (lim := lim) hlt (.inr hgt))
            obtain ⟨x, hx⟩ : ∃ x, l[k] = x := ⟨_, rfl⟩
            rw [hx] at hc hm2 hgt
            clear hx hm
            go_wp2
            go_roundw
            case rel => exact ⟨k + 1, by omega, by go_num, by rw [HE.out]; exact HO.out, HX.out, HB.out, hzz⟩
            case measure => simp [intOf]; omega
      · obtain rfl : k = l.length := by omega
        clear hx hown hB
        obtain ⟨a', c', rfl, ho⟩ := ownI_of HO.out rfl
        have HOO := Lib.hid ho
        clear ho HO
        go_wp2
        go_ret2
        exact ⟨a', c', rfl, HOO.out.more (by omega), HB.out⟩
end Go.Proofs.Ythceffkkokgpnaa
