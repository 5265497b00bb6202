/- NewField and l2Fill: a field of one value, in memory of the call's own. -/
import Derived.Test.YtpmfgghiiocccaaMake
namespace Go.Proofs.Ytpmfgghiiocccaa
open Go.RowKit
set_option linter.unusedVariables false
set_option linter.unusedSimpArgs false
def newR (wd hg v : Int) : Option (Int × Int × List Int) := if (shapeB wd hg && cellB v) = true then some (wd, hg, List.replicate (wd * hg).toNat v) else none
theorem newR_no {wd hg v : Int} (h : (shapeB wd hg && cellB v) = false) : newR wd hg v = none := if_neg (by rw [h]; simp)
theorem newR_yes {wd hg v : Int} (h : (shapeB wd hg && cellB v) = true) : newR wd hg v = some (wd, hg, List.replicate (wd * hg).toNat v) := if_pos h
theorem newR_len (wd hg v : Int) : (rL (newR wd hg v)).length ≤ 64 := by
  cases h : (shapeB wd hg && cellB v) with
  | false => rw [newR_no h]; simp [rL]
  | true =>
    rw [newR_yes h]
    have hs : shapeB wd hg = true := by simp at h; exact h.1
    have := prod_bd hs
    simp [rL]; omega
theorem replicate_snoc (k : Nat) (v : Int) : List.replicate (k + 1) v = List.replicate k v ++ [v] := by rw [List.replicate_succ']
/-- a row of n numbers, the first k of them v, the others 0 -/
def filled (v : Int) (k j : Nat) : Value := .int .i64 (if j < k then v else 0)

set_option maxRecDepth 100000 in
set_option maxHeartbeats 2000000 in
theorem implNew_any (wd hg v : Int) (w : World) :
    Calls Try.prog 79 #[.int .i64 wd, .int .i64 hg, .int .i64 v] w (FRet (newR wd hg v) w) := by
  cases hs : shapeB wd hg with
  | false =>
    rw [newR_no (by rw [hs]; rfl)]
    have C1 := Lib.hid (fun W => implShape_is wd hg false W hs)
    clear hs
    go_enter Try.func79, Try.ntmps79
    go_wp2_with (go_at_call 87; refine (C1.out _).mono ?_; rintro e w1 ⟨rfl, rfl⟩)
    refine bodyPost_ret (v := .tuple #[.agg #[.int .i64 0, .int .i64 0, .slice none 0 0], .bool false]) (by simp [results, Try.results79, go_sem]) rfl ⟨none, 0, rfl, OwnI.none_, ?_⟩
    exact below_all _ _
  | true =>
    have C1 := Lib.hid (fun W => implShape_is wd hg true W hs)
    cases hc : cellB v with
    | false =>
      rw [newR_no (by rw [hs, hc]; rfl)]
      have C2 := Lib.hid (fun W => implCell_is v false W hc)
      clear hs hc
      go_enter Try.func79, Try.ntmps79
      go_wp2_with (first | (go_at_call 87; refine (C1.out _).mono ?_; rintro e w1 ⟨rfl, rfl⟩) | (go_at_call 88; refine (C2.out _).mono ?_; rintro e w1 ⟨rfl, rfl⟩))
      refine bodyPost_ret (v := .tuple #[.agg #[.int .i64 0, .int .i64 0, .slice none 0 0], .bool false]) (by simp [results, Try.results79, go_sem]) rfl ⟨none, 0, rfl, OwnI.none_, ?_⟩
      exact below_all _ _
    | true =>
      rw [newR_yes (by rw [hs, hc]; rfl)]
      have C2 := Lib.hid (fun W => implCell_is v true W hc)
      have hp := prod_bd hs
      obtain ⟨n, hn⟩ : ∃ n : Nat, wd * hg = (n : Int) := ⟨(wd * hg).toNat, by omega⟩
      rw [hn] at hp ⊢
      have hnat : ((n : Int)).toNat = n := by omega
      rw [hnat]
      clear hs hc hnat
      have hmk := fun W => run_make_row' (P := Try.prog) 29 3 (.int .i64 0) 8 Try.underlying29 infoInt rfl .i64 .i64 n (by omega) (by omega) W
      go_enter Try.func79, Try.ntmps79
      go_wp2_with (first | (go_at_call 87; refine (C1.out _).mono ?_; rintro e w1 ⟨rfl, rfl⟩) | (go_at_call 88; refine (C2.out _).mono ?_; rintro e w1 ⟨rfl, rfl⟩))
      clear hmk
      go_loopw [26] (fun i wr => ∃ k : Nat, k ≤ n ∧ i = .int .i64 k ∧ wr.rowIs (w.heap.size + 1) 3 n (filled v k) ∧ Box wr w.heap.size 31 (.int .i64 0) (.int .i64 0) (.slice none 0 0) ∧ Below w.heap.size w wr) (fun i _ => n - (intOf i).toNat)
      case atStart =>
        refine ⟨0, Nat.zero_le _, rfl, ?_, (Box.new w 31 (.int .i64 0) (.int .i64 0) (.slice none 0 0)).alloc _, (below_all _ _).alloc (by simp) _⟩
        have := (World.rowIs_made (w.alloc (.cells #[.int .i64 0, .int .i64 0, .slice none 0 0] 31)) (.int .i64 0) n 3).congr (g := filled v 0) (fun i _ => by simp [filled])
        rw [World.size_alloc] at this
        exact this
      case round =>
        obtain ⟨k, hk, rfl, hrow, hx, hB⟩ := hrel
        by_cases hlt : k < n
        · have hi : (k : Int) < (n : Int) := by omega
          have hi0 : (0 : Int) ≤ (k : Int) := by omega
          have hg' := hrow.cell hlt
          have hf := hrow.frozen k
          have HR := Lib.hid hrow
          have HX := Lib.hid hx
          have HB := Lib.hid hB
          clear hrow hx hB
          go_wp2
          go_roundw
          case rel => exact ⟨k + 1, by omega, by go_num, (HR.out.set k (.int .i64 v)).congr (fun j _ => by unfold filled; by_cases e : j = k; (rw [if_pos e, if_pos (by omega)]); (rw [if_neg e]; by_cases e2 : j < k; (rw [if_pos e2, if_pos (by omega)]); (rw [if_neg e2, if_neg (by omega)]))), HX.out.other (by simp <;> omega) _, HB.out.setCell (by simp <;> omega) _⟩
          case measure => simp [intOf]; omega
        · obtain rfl : k = n := by omega
          have ho := OwnI.of_row (B := w.heap.size + 1) (l := List.replicate k v) hrow (by simp) (fun j hj => by simp at hj; simp [filled, hj]) (Nat.le_refl _)
          have HO := Lib.hid ho
          have HB := Lib.hid hB
          obtain ⟨r0, r1, r2⟩ := hx.cells
          have g0 := hx.frozen 0
          have g1 := hx.frozen 1
          have g2 := hx.frozen 2
          clear ho hB hrow hx
          go_wp2
          refine bodyPost_ret (v := .tuple #[.agg #[.int .i64 wd, .int .i64 hg, .slice (some ⟨w.heap.size + 1, 0, none⟩) k k], .bool true]) (by simp [results, Try.results79, go_sem, r0, r1, r2]) rfl ⟨some ⟨w.heap.size + 1, 0, none⟩, k, by simp [rW, rH, rL, rB], ?_, ?_⟩
          · exact (ownI_set (ownI_set (ownI_set HO.out (by omega) _) (by omega) _) (by omega) _).more (by omega)
          · exact ((HB.out.setCell (by simp) _).setCell (by simp) _).setCell (by simp) _
end Go.Proofs.Ytpmfgghiiocccaa
