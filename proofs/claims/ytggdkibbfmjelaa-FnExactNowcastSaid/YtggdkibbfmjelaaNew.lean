/- NewField and l2Fill: a field of one value, in memory of the call's own. -/
import Derived.Test.YtggdkibbfmjelaaMake
namespace Go.Proofs.Ytggdkibbfmjelaa
open Go.RowKit
set_option linter.unusedVariables false
set_option linter.unusedSimpArgs false
def newR (wd hg v : Int) : Option (Int × Int × List Int) := if (shapeB wd hg && cellB v) = true then some (wd, hg, List.replicate (wd * hg).toNat v) else none
theorem newR_no {wd hg v : Int} (h : (shapeB wd hg && cellB v) = false) : newR wd hg v = none := if_neg (by rw [h]; simp)
theorem newR_yes {wd hg v : Int} (h : (shapeB wd hg && cellB v) = true) : newR wd hg v = some (wd, hg, List.replicate (wd * hg).toNat v) := if_pos h
theorem newR_len (wd hg v : Int) : (rL (newR wd hg v)).length ≤ 64 := by
  cases h : (shapeB wd hg && cellB v) with
  | false => rw [newR_no h]; simp [rL]
  | true =>
    rw [newR_yes h]
    have hs : shapeB wd hg = true := by simp at h; exact h.1
    have := prod_bd hs
    simp [rL]; omega
theorem replicate_snoc (k : Nat) (v : Int) : List.replicate (k + 1) v = List.replicate k v ++ [v] := by rw [List.replicate_succ']
set_option maxRecDepth 100000 in
set_option maxHeartbeats 2000000 in
theorem fill_any (wd hg v : Int) (w : World) (hs : shapeB wd hg = true) :
    Calls Try.prog 124 #[.int .i64 wd, .int .i64 hg, .int .i64 v] w (FOne wd hg (List.replicate (wd * hg).toNat v) w) := by
  obtain ⟨i0, hi0', hz0, hz1, hz2⟩ := info_parts infoInt
  have hp := prod_bd hs
  obtain ⟨n, hn⟩ : ∃ n : Nat, wd * hg = (n : Int) := ⟨(wd * hg).toNat, by omega⟩
  rw [hn] at hp
  have HN := Lib.hid hn
  rw [hn]
  have hnat : ((n : Int)).toNat = n := by omega
  rw [hnat]
  clear hs hnat hn
  go_enter Try.func124, Try.ntmps124
  go_wp2
  go_loopw [8] (fun i wr => ∃ k : Nat, ∃ out : Value, k ≤ n ∧ i = .int .i64 k ∧ Box wr (w.heap.size + 1) 34 (.int .i64 wd) (.int .i64 hg) out ∧ Box wr w.heap.size 34 (.int .i64 0) (.int .i64 0) (.slice none 0 0) ∧
      wr.ownsRow (w.heap.size + 2) 3 1 out k (iv (List.replicate k v)) ∧ Below w.heap.size w wr) (fun i _ => n - (intOf i).toNat)
  case atStart =>
    refine ⟨0, .slice none 0 0, Nat.zero_le _, rfl, ?_, ?_, World.ownsRow_nil _ _ _ _, ((Below.refl _ _).alloc (Nat.le_refl _) _).alloc (by simp) _⟩
    · have := Box.new (w.alloc (.cells #[.int .i64 0, .int .i64 0, .slice none 0 0] 34)) 34 (.int .i64 wd) (.int .i64 hg) (.slice none 0 0)
      rw [World.size_alloc] at this
      exact this
    · exact (Box.new w 34 (.int .i64 0) (.int .i64 0) (.slice none 0 0)).alloc _
  case round =>
    obtain ⟨k, out, hk, rfl, hx, hr, hown, hB⟩ := hrel
    obtain ⟨c0, c1, c2⟩ := hx.cells
    have f2 := hx.frozen 2
    have HX := Lib.hid hx
    have HR := Lib.hid hr
    have HO := Lib.hid hown
    have HB := Lib.hid hB
    have hne := Lib.hid (own_ne_box hown hx (by decide))
    have hne2 := Lib.hid (own_ne_box hown hr (by decide))
    clear hx hr hown hB
    by_cases hlt : k < n
    · have hmul := HN.out
      have hi : (k : Int) < (n : Int) := by omega
      go_wp2_with (at_builtin; refine wpList_append_own _ rfl _ _ 30 rfl (w.heap.size + 2) 3 i0 (.int .i64 0) 1 8 Try.underlying30 hi0' hz0 hz1 hz2 rfl (by decide) _ k (iv (List.replicate k v)) rfl (HO.out.alloc _) ⟨wr.heap.size, 0, none⟩ 1 1 [.int .i64 v] rfl rfl (cell_one_new _ _ _) (by simp [Value.oneCell']) (by unfold maxLen; omega) (by omega) (by have := HX.out.lt; simp; omega) ?_; intro v' w1 hown' hgrow _; obtain ⟨g', cap', rfl⟩ := own_slice hown' (by omega); have HO1 := Lib.hid hown'; have HG1 := Lib.hid hgrow; have HX1 := Lib.hid ((HX.out.alloc _).grown hgrow (Ne.symm hne.out)); have HR1 := Lib.hid ((HR.out.alloc _).grown hgrow (Ne.symm hne2.out)); obtain ⟨d0, d1, d2⟩ := HX1.out.cells; have f3 := HX1.out.frozen 2; clear hown' hgrow)
      have hne3 := Lib.hid (own_ne_box HO1.out HX1.out (by decide))
      go_roundw
      case rel => exact ⟨k + 1, _, by omega, by go_num, HX1.out.set _, HR1.out.other (by simp <;> omega) _, by rw [replicate_snoc, iv_snoc]; exact own_setBox HO1.out hne3.out _ _,
        ((HB.out.alloc HB.out.size _).grown HG1.out (by have := HB.out.size; simp; omega) (fun j hj => by have := (HO.out.lt j hj).1; omega)).setCell (by simp <;> omega) _⟩
      case measure => simp [intOf]; omega
    · obtain rfl : k = n := by omega
      obtain ⟨a', c', hv, ho⟩ := ownI_of HO.out (by simp)
      rw [List.length_replicate] at hv
      subst hv
      have HO2 := Lib.hid ho
      clear ho HO hne hne2
      have hmul := HN.out
      obtain ⟨r0, r1, r2⟩ := HR.out.cells
      have g0 := HR.out.frozen 0
      have g1 := HR.out.frozen 1
      have g2 := HR.out.frozen 2
      go_wp2
      refine bodyPost_ret (v := .agg #[.int .i64 wd, .int .i64 hg, .slice a' k c']) (by simp [results, Try.results124, go_sem, r0, r1, r2]) rfl ⟨a', c', by simp, ?_, ?_⟩
      · exact (ownI_set (ownI_set (ownI_set HO2.out (by omega) _) (by omega) _) (by omega) _).more (by omega)
      · exact ((HB.out.setCell (by simp) _).setCell (by simp) _).setCell (by simp) _

/-- a row of n numbers, the first k of them v, the others 0 -/
def filled (v : Int) (k j : Nat) : Value := .int .i64 (if j < k then v else 0)

set_option maxRecDepth 100000 in
set_option maxHeartbeats 2000000 in
theorem implNew_any (wd hg v : Int) (w : World) :
    Calls Try.prog 61 #[.int .i64 wd, .int .i64 hg, .int .i64 v] w (FRet (newR wd hg v) w) := by
  cases hs : shapeB wd hg with
  | false =>
    rw [newR_no (by rw [hs]; rfl)]
    have C1 := Lib.hid (fun W => implShape_is wd hg false W hs)
    clear hs
    go_enter Try.func61, Try.ntmps61
    go_wp2_with (go_at_call 97; refine (C1.out _).mono ?_; rintro e w1 ⟨rfl, rfl⟩)
    refine bodyPost_ret (v := .tuple #[.agg #[.int .i64 0, .int .i64 0, .slice none 0 0], .bool false]) (by simp [results, Try.results61, go_sem]) rfl ⟨none, 0, rfl, OwnI.none_, ?_⟩
    exact below_all _ _
  | true =>
    have C1 := Lib.hid (fun W => implShape_is wd hg true W hs)
    cases hc : cellB v with
    | false =>
      rw [newR_no (by rw [hs, hc]; rfl)]
      have C2 := Lib.hid (fun W => implCell_is v false W hc)
      clear hs hc
      go_enter Try.func61, Try.ntmps61
      go_wp2_with (first | (go_at_call 97; refine (C1.out _).mono ?_; rintro e w1 ⟨rfl, rfl⟩) | (go_at_call 98; refine (C2.out _).mono ?_; rintro e w1 ⟨rfl, rfl⟩))
      refine bodyPost_ret (v := .tuple #[.agg #[.int .i64 0, .int .i64 0, .slice none 0 0], .bool false]) (by simp [results, Try.results61, go_sem]) rfl ⟨none, 0, rfl, OwnI.none_, ?_⟩
      exact below_all _ _
    | true =>
      rw [newR_yes (by rw [hs, hc]; rfl)]
      have C2 := Lib.hid (fun W => implCell_is v true W hc)
      have hp := prod_bd hs
      obtain ⟨n, hn⟩ : ∃ n : Nat, wd * hg = (n : Int) := ⟨(wd * hg).toNat, by omega⟩
      rw [hn] at hp ⊢
      have hnat : ((n : Int)).toNat = n := by omega
      rw [hnat]
      clear hs hc hnat
      have hmk := fun W => run_make_row' (P := Try.prog) 30 3 (.int .i64 0) 8 Try.underlying30 infoInt rfl .i64 .i64 n (by omega) (by omega) W
      go_enter Try.func61, Try.ntmps61
      go_wp2_with (first | (go_at_call 97; refine (C1.out _).mono ?_; rintro e w1 ⟨rfl, rfl⟩) | (go_at_call 98; refine (C2.out _).mono ?_; rintro e w1 ⟨rfl, rfl⟩))
      clear hmk
      go_loopw [26] (fun i wr => ∃ k : Nat, k ≤ n ∧ i = .int .i64 k ∧ wr.rowIs (w.heap.size + 1) 3 n (filled v k) ∧ Box wr w.heap.size 34 (.int .i64 0) (.int .i64 0) (.slice none 0 0) ∧ Below w.heap.size w wr) (fun i _ => n - (intOf i).toNat)
      case atStart =>
        refine ⟨0, Nat.zero_le _, rfl, ?_, (Box.new w 34 (.int .i64 0) (.int .i64 0) (.slice none 0 0)).alloc _, (below_all _ _).alloc (by simp) _⟩
        have := (World.rowIs_made (w.alloc (.cells #[.int .i64 0, .int .i64 0, .slice none 0 0] 34)) (.int .i64 0) n 3).congr (g := filled v 0) (fun i _ => by simp [filled])
        rw [World.size_alloc] at this
        exact this
      case round =>
        obtain ⟨k, hk, rfl, hrow, hx, hB⟩ := hrel
        by_cases hlt : k < n
        · have hi : (k : Int) < (n : Int) := by omega
          have hi0 : (0 : Int) ≤ (k : Int) := by omega
          have hg' := hrow.cell hlt
          have hf := hrow.frozen k
          have HR := Lib.hid hrow
          have HX := Lib.hid hx
          have HB := Lib.hid hB
          clear hrow hx hB
          go_wp2
          go_roundw
          case rel => exact ⟨k + 1, by omega, by go_num, (HR.out.set k (.int .i64 v)).congr (fun j _ => by unfold filled; by_cases e : j = k; (rw [if_pos e, if_pos (by omega)]); (rw [if_neg e]; by_cases e2 : j < k; (rw [if_pos e2, if_pos (by omega)]); (rw [if_neg e2, if_neg (by omega)]))), HX.out.other (by simp <;> omega) _, HB.out.setCell (by simp <;> omega) _⟩
          case measure => simp [intOf]; omega
        · obtain rfl : k = n := by omega
          have ho := OwnI.of_row (B := w.heap.size + 1) (l := List.replicate k v) hrow (by simp) (fun j hj => by simp at hj; simp [filled, hj]) (Nat.le_refl _)
          have HO := Lib.hid ho
          have HB := Lib.hid hB
          obtain ⟨r0, r1, r2⟩ := hx.cells
          have g0 := hx.frozen 0
          have g1 := hx.frozen 1
          have g2 := hx.frozen 2
          clear ho hB hrow hx
          go_wp2
          refine bodyPost_ret (v := .tuple #[.agg #[.int .i64 wd, .int .i64 hg, .slice (some ⟨w.heap.size + 1, 0, none⟩) k k], .bool true]) (by simp [results, Try.results61, go_sem, r0, r1, r2]) rfl ⟨some ⟨w.heap.size + 1, 0, none⟩, k, by simp [rW, rH, rL, rB], ?_, ?_⟩
          · exact (ownI_set (ownI_set (ownI_set HO.out (by omega) _) (by omega) _) (by omega) _).more (by omega)
          · exact ((HB.out.setCell (by simp) _).setCell (by simp) _).setCell (by simp) _
end Go.Proofs.Ytggdkibbfmjelaa
