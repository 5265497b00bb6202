/- slices.Contains over nodes; the program's FieldsUsed. -/
import Derived.Test.YtikglddifoalfaaDoorNodeHas
import Derived.Test.YtikglddifoalfaaDoorExprLaw
import Derived.Test.YtikglddifoalfaaDoorMake
import Derived.OwnWalk
import Derived.Maps.AppendAt
import Derived.IntWalk
namespace Go.Proofs.YtikglddifoalfaaDoor
open Go.RowKit
set_option linter.unusedVariables false
set_option linter.unusedSimpArgs false
set_option maxHeartbeats 1000000 in
theorem nodeContains_any (a : Option Addr) (l : List Nd) (c : Nat) (x y : Int) (w : World) (hl : Nds w w.heap.size a l) (hn : l.length ≤ 1048576) :
    Calls Tryd.prog 31 #[.slice a l.length c, .agg #[.int .i64 x, .int .i64 y]] w fun e w' => e = .returned (.bool (hasN l x y)) ∧ Below w.heap.size w w' := by
  have HI := Lib.hid (fun W h => nodeIndex_any a l c x y W h hn)
  have HL := Lib.hid (nds_alloc hl (.cells #[.int .i64 x, .int .i64 y] 49))
  have HB := Lib.hid (below_all w (.cells #[.int .i64 x, .int .i64 y] 49))
  clear hl
  generalize hasN l x y = v at *
  go_enter Tryd.func31, Tryd.ntmps31
  go_wp2_with fail
  refine (HI.out _ HL.out).mono ?_
  rintro e w1 ⟨⟨i, rfl, hi⟩, b1⟩
  have HB1 := Lib.hid (below_then HB.out b1)
  clear b1
  cases v with
  | false =>
    have HI2 := Lib.hid hi
    clear hi
    go_wp2
    go_ret
    exact ⟨by show Ending.returned (.bool (decide (0 ≤ i))) = _; rw [HI2.out], HB1.out⟩
  | true =>
    have HI2 := Lib.hid hi
    clear hi
    go_wp2
    go_ret
    exact ⟨by show Ending.returned (.bool (decide (0 ≤ i))) = _; rw [HI2.out], HB1.out⟩
/-- the fields below k that occur -/
def usedU (l : List Nd) (k : Nat) : List Int := ((List.range k).filter fun (f : Nat) => hasN l 1 (f : Int)).map fun (f : Nat) => (f : Int)
theorem usedU_zero (l : List Nd) : usedU l 0 = [] := rfl
theorem usedU_yes {l : List Nd} {k : Nat} (h : hasN l 1 (k : Int) = true) : usedU l (k + 1) = usedU l k ++ [(k : Int)] := by
  unfold usedU
  rw [List.range_succ, List.filter_append, List.map_append]
  simp [h]
theorem usedU_no {l : List Nd} {k : Nat} (h : hasN l 1 (k : Int) = false) : usedU l (k + 1) = usedU l k := by
  unfold usedU
  rw [List.range_succ, List.filter_append, List.map_append]
  simp [h]
theorem usedU_len (l : List Nd) (k : Nat) : (usedU l k).length ≤ k := by
  unfold usedU
  rw [List.length_map]
  exact Nat.le_trans (List.length_filter_le _ _) (by simp)
def usedR (l : List Nd) : List Int := if exprB l = true then usedU l 4 else []
/-- what FieldsUsed answers -/
def UPost (l : List Nd) (w : World) (e : Ending) (w' : World) : Prop :=
  ∃ a c, e = .returned (.tuple #[.slice a (usedR l).length c, .bool (exprB l)]) ∧ OwnI w' w.heap.size a (usedR l) ∧ Below w.heap.size w w'
set_option maxRecDepth 100000 in
set_option maxHeartbeats 2000000 in
theorem implUsed_any (a : Option Addr) (l : List Nd) (c : Nat) (w : World) (hl : Nds w w.heap.size a l) (hn : l.length ≤ 1048576) (ht : NTab w) :
    Calls Tryd.prog 12 #[.slice a l.length c] w (UPost l w) := by
  obtain ⟨i0, hi0', hz0, hz1, hz2⟩ := info_parts infoInt
  have HE := Lib.hid (implExpr_any a l c w hl hn ht)
  have HL := Lib.hid hl
  have HC := Lib.hid (fun (k : Nat) W h => nodeContains_any a l c 1 (k : Int) W h hn)
  unfold UPost usedR
  clear hl ht
  cases hv : exprB l with
  | false =>
    rw [hv] at HE
    clear hv
    rw [if_neg (by simp)]
    go_enter Tryd.func12, Tryd.ntmps12
    go_wp2_with fail
    refine HE.out.mono ?_
    rintro e w1 ⟨rfl, b1⟩
    have HB1 := Lib.hid b1
    clear b1
    go_wp2
    go_ret2
    exact ⟨_, _, rfl, OwnI.none_, HB1.out.alloc HB1.out.size _⟩
  | true =>
    rw [hv] at HE
    clear hv
    rw [if_pos rfl]
    go_enter Tryd.func12, Tryd.ntmps12
    go_wp2_with fail
    refine HE.out.mono ?_
    rintro e w1 ⟨rfl, b1⟩
    have HB1 := Lib.hid b1
    have hz1w := b1.size
    clear b1 HE
    go_wp2
    go_loopw [4, 11] (fun out i wr => ∃ k : Nat, k ≤ 4 ∧ i = .int .i64 k ∧ wr.ownsRow w.heap.size 3 1 out (usedU l k).length (iv (usedU l k)) ∧ Below w.heap.size w wr) (fun _ i _ => 4 - (intOf i).toNat)
    case atStart => exact ⟨0, by omega, rfl, (by have h := World.ownsRow_made (base := w.heap.size) (e := 3) (size := 1) w1 #[] 0 hz1w (by simp) rfl; rw [usedU_zero]; exact h), HB1.out.alloc HB1.out.size _⟩
    case round =>
      obtain ⟨k, hk, rfl, hown, hB⟩ := hrel
      have HO := Lib.hid hown
      have HB := Lib.hid hB
      have HNL := Lib.hid (usedU_len l k)
      clear hown hB
      by_cases hlt : k < 4
      · have hi : (k : Int) < 4 := by omega
        have hi0 : (0 : Int) ≤ (k : Int) := by omega
        have HK := Lib.hid (HC.out k)
        cases hh : hasN l 1 (k : Int) with
        | false =>
          rw [hh] at HK
          have HU := Lib.hid (usedU_no hh)
          clear hh
          go_wp2_with fail
          refine (HK.out _ (nds_below HL.out HB.out)).mono ?_
          rintro e w2 ⟨rfl, b2⟩
          have HO2 := Lib.hid (own_keeps HO.out b2)
          have HB2 := Lib.hid (below_then HB.out b2)
          clear b2
          go_wp2
          go_roundw
          case rel => exact ⟨k + 1, by omega, by go_num, by rw [HU.out]; exact HO2.out, HB2.out⟩
          case measure => simp [intOf]; omega
        | true =>
          rw [hh] at HK
          have HU := Lib.hid (usedU_yes hh)
          clear hh
          generalize usedU l k = vs at *
          go_wp2_with fail
          refine (HK.out _ (nds_below HL.out HB.out)).mono ?_
          rintro e w2 ⟨rfl, b2⟩
          have HO2 := Lib.hid (own_keeps HO.out b2)
          have HB2 := Lib.hid (below_then HB.out b2)
          clear b2
          have hnl := HNL.out
          go_wp2_with (at_builtin; refine wpList_append_own _ rfl _ _ 32 rfl w.heap.size 3 i0 (.int .i64 0) 1 8 Tryd.underlying32 hi0' hz0 hz1 hz2 rfl (by decide) _ vs.length (iv vs) rfl (HO2.out.alloc _) ⟨w2.heap.size, 0, none⟩ 1 1 [.int .i64 k] rfl rfl (cell_one_new _ _ _) (by simp [Value.oneCell']) (by unfold maxLen; omega) (by omega) (by have := HB2.out.size; simp; omega) ?_; intro v' w3 hown' hgrow _; have HO3 := Lib.hid hown'; have HG3 := Lib.hid hgrow; clear hown' hgrow)
          go_roundw
          case rel => exact ⟨k + 1, by omega, by go_num, by rw [HU.out, iv_snoc, List.length_append]; exact HO3.out, (HB2.out.alloc HB2.out.size _).grown HG3.out (by have := HB2.out.size; simp; omega) (fun k hk => (HO2.out.lt k hk).1)⟩
          case measure => simp [intOf]; omega
      · obtain rfl : k = 4 := by omega
        obtain ⟨a', c', hv, ho⟩ := ownI_of HO.out rfl
        subst hv
        have HO2 := Lib.hid ho
        clear ho HO
        go_wp2
        go_ret2
        exact ⟨a', c', rfl, HO2.out, HB.out⟩
end Go.Proofs.YtikglddifoalfaaDoor
