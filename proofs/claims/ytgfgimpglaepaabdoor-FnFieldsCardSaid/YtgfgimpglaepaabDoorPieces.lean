/- The program's iterator over the pieces of a text. -/
import Derived.RangeFuncNested
import Derived.RangeFuncBound
import Derived.RangeFuncCalls
import Derived.RangeFuncLeaves
import Derived.RangeFuncBox
import Derived.Shelf.Abstract
import Derived.Shelf.RegionOpen
import Derived.WalkKit
import Derived.OwnWalkIn
import Derived.TacticsInMore
import Derived.LoopNIn
import Derived.LoopIn
import Derived.Maps.AppendAt
import Derived.Lib.Hide
import Derived.Test.YtgfgimpglaepaabDoorChecked
import Derived.Test.YtgfgimpglaepaabDoorSplitMath
namespace Go.Proofs.YtgfgimpglaepaabDoor
open Go.RowKit Go.Shelf
set_option linter.unusedVariables false
attribute [local go_sem] Oper.semAt_some
def mkB (x : List UInt8) : ByteArray := ⟨x.toArray⟩
/-- the pieces of a text, as texts -/
def pieces (s : ByteArray) (c : Int) : List ByteArray := (splitL s.data.toList c).map mkB
/-- the closed pieces of the first k bytes -/
def closed (s : ByteArray) (c : Int) (k : Nat) : List ByteArray := (spSt (s.data.toList.take k) c).1.map mkB
theorem fold_prefix (c : Int) (b : List UInt8) : ∀ st, st.1 <+: (b.foldl (spStep c) st).1 := by
  induction b with
  | nil => intro st; exact List.prefix_refl _
  | cons x r ih =>
    intro st
    rw [List.foldl_cons]
    refine List.IsPrefix.trans ?_ (ih _)
    unfold spStep
    split
    · exact List.prefix_append _ _
    · exact List.prefix_refl _
theorem closed_prefix (s : ByteArray) (c : Int) (k : Nat) : (spSt (s.data.toList.take k) c).1 <+: (spSt s.data.toList c).1 := by
  have h : spSt s.data.toList c = (s.data.toList.drop k).foldl (spStep c) (spSt (s.data.toList.take k) c) := by
    unfold spSt
    rw [← List.foldl_append, List.take_append_drop]
  rw [h]
  exact fold_prefix c _ _
theorem closed_len (s : ByteArray) (c : Int) (k : Nat) : (closed s c k).length < (pieces s c).length := by
  have h := (closed_prefix s c k).length_le
  unfold closed pieces splitL
  simp
  omega
theorem closed_pre (s : ByteArray) (c : Int) (k : Nat) : closed s c k <+: pieces s c := by
  unfold closed pieces splitL
  rw [List.map_append]
  exact ((closed_prefix s c k).map _).trans (List.prefix_append _ _)
theorem closed_hit {s : ByteArray} {c : Int} {k : Nat} (hk : k < s.size) (h : (s[k].toNat : Int) = c) : closed s c (k + 1) = closed s c k ++ [mkB (spSt (s.data.toList.take k) c).2] ∧ (spSt (s.data.toList.take (k + 1)) c).2 = [] := by
  have e : s.data.toList.take (k + 1) = s.data.toList.take k ++ [s[k]] := take_snoc s k hk
  unfold closed
  rw [e, spSt_hit h]
  simp
theorem closed_miss {s : ByteArray} {c : Int} {k : Nat} (hk : k < s.size) (h : ¬ (s[k].toNat : Int) = c) : closed s c (k + 1) = closed s c k ∧ (spSt (s.data.toList.take (k + 1)) c).2 = (spSt (s.data.toList.take k) c).2 ++ [s[k]] := by
  have e : s.data.toList.take (k + 1) = s.data.toList.take k ++ [s[k]] := take_snoc s k hk
  unfold closed
  rw [e, spSt_miss h]
  simp
theorem closed_all (s : ByteArray) (c : Int) : pieces s c = closed s c s.size ++ [mkB (spSt s.data.toList c).2] := by
  unfold pieces closed splitL
  rw [List.take_of_length_le (by rw [Array.length_toList]; exact Nat.le_refl _)]
  simp

theorem ext_size (s : ByteArray) (m k : Nat) (h : s.size ≤ 4000) : (s.extract m k).size ≤ 4000 := by rw [ByteArray.size_extract]; omega
/-- what a round of the loop must keep: the two boxes that the iterator reads between rounds -/
def KpB (Bs Bc : Nat) (W W' : World) : Prop := W'.cell? ⟨Bs, 0, none⟩ = W.cell? ⟨Bs, 0, none⟩ ∧ W'.cell? ⟨Bc, 0, none⟩ = W.cell? ⟨Bc, 0, none⟩
theorem KpB.trans {Bs Bc : Nat} {A B C : World} (h : KpB Bs Bc A B) (k : KpB Bs Bc B C) : KpB Bs Bc A C := ⟨k.1.trans h.1, k.2.trans h.2⟩
theorem KpB.below {Bs Bc n : Nat} {A B : World} (h : Below n A B) (hs : Bs < n) (hc : Bc < n) : KpB Bs Bc A B := ⟨h.cell (p := ⟨Bs, 0, none⟩) hs, h.cell (p := ⟨Bc, 0, none⟩) hc⟩

set_option maxRecDepth 100000 in
set_option maxHeartbeats 2000000 in
theorem pieces1_in (F : Fence) (n : Nat) (hf : F.fn 85) (hro : F.round = none) (hn : 1 ≤ n) (l Bs Bc : Nat) (s : ByteArray) (c : Int) (J Jx : List ByteArray → World → Prop) (hs : s.size ≤ 4000) (hD : ∀ p W, J p W → J p W.drew)
    (hY : ∀ pre x W, J pre W → x.size ≤ 4000 → pre.length < (pieces s c).length → YieldAt F (n - 1) Tryd.prog l #[.string x] W fun e W' =>
      (e = .returned (.bool true) ∧ J (pre ++ [x]) W' ∧ KpB Bs Bc W W') ∨ (e = .returned (.bool false) ∧ Jx (pre ++ [x]) W'))
    (W : World) (h1 : W.cell? ⟨Bs, 0, none⟩ = some (.string s)) (h2 : W.cell? ⟨Bc, 0, none⟩ = some (.int .u8 c)) (h0 : J [] W) :
    CallsIn F n Tryd.prog 85 #[.func (.yield l) #[] #[], .pointer (some ⟨Bs, 0, none⟩), .pointer (some ⟨Bc, 0, none⟩)] W fun e W' => (∃ v, e = .returned v) ∧
      ((∃ ys, ys = pieces s c ∧ J ys W') ∨ (∃ pre, pre <+: pieces s c ∧ Jx pre W')) := by
  have HJ0 := Lib.hid h0
  have HYY := Lib.hid hY
  have HD := Lib.hid hD
  clear h0 hY hD
  refine callsIn_of_wp Tryd.func85 rfl hf ?_ hro
  simp only [Tryd.ntmps85, List.size_toArray, List.length_cons, List.length_nil, Nat.reduceAdd, Nat.reduceSub, Array.replicate_succ, Array.replicate_zero, List.push_toArray, List.append_toArray, List.nil_append, List.cons_append]
  gi_wp2
  gi_loopw [4, 8] (fun st i wr => ∃ k m : Nat, k ≤ s.size ∧ m ≤ k ∧ i = .int .i64 k ∧ st = .int .i64 m ∧ (s.data.toList.take k).drop m = (spSt (s.data.toList.take k) c).2 ∧
      wr.cell? ⟨Bs, 0, none⟩ = some (.string s) ∧ wr.cell? ⟨Bc, 0, none⟩ = some (.int .u8 c) ∧ J (closed s c k) wr) (fun _ i _ => s.size - (intOf i).toNat)
  case atStart => exact ⟨0, 0, Nat.zero_le _, Nat.le_refl _, rfl, rfl, rfl, h1, h2, HJ0.out⟩
  case round =>
    obtain ⟨k, m, hk, hm, rfl, rfl, hcur, c1, c2, hJ⟩ := hrel
    have HC := Lib.hid hcur
    have HJ := Lib.hid hJ
    clear hcur hJ HJ0 h1 h2
    by_cases hlt : k < s.size
    · have hi : (k : Int) < (s.size : Int) := by omega
      have hi0 : (0 : Int) ≤ (k : Int) := by omega
      have HJd := Lib.hid (HD.out _ _ HJ.out)
      have cd1 : wr.drew.cell? ⟨Bs, 0, none⟩ = some (.string s) := c1
      have cd2 : wr.drew.cell? ⟨Bc, 0, none⟩ = some (.int .u8 c) := c2
      by_cases hc : (s[k].toNat : Int) = c
      · have hne : ((s[k].toNat : Int) != c) = false := by simp [hc]
        obtain ⟨hc1, hc2⟩ := closed_hit hlt hc
        have H1 := Lib.hid hc1
        have H2 := Lib.hid hc2
        have HE := Lib.hid (ext_list s m k)
        rw [HC.out] at HE
        obtain ⟨fn, tmps, assign, body, hy, hR⟩ := HYY.out (closed s c k) (s.extract m k) wr.drew HJd.out (ext_size s m k hs) (closed_len s c k)
        have HRR := Lib.hid hR
        clear hc1 hc2 hc hR
        gi_wp2
        gi_region
        all_goals gi_wp2
        all_goals
          refine HRR.out.mono ?_
          rintro e W3 (⟨rfl, hJ3, hk3⟩ | ⟨rfl, hJx3⟩)
          · have d1 : W3.cell? ⟨Bs, 0, none⟩ = some (.string s) := hk3.1.trans cd1
            have d2 : W3.cell? ⟨Bc, 0, none⟩ = some (.int .u8 c) := hk3.2.trans cd2
            have HJ3 := Lib.hid hJ3
            clear hJ3 hk3
            gi_wp2
            go_roundw
            case rel => exact ⟨k + 1, k + 1, by omega, Nat.le_refl _, by go_num, by go_num, by rw [H2.out]; simp, d1, d2, by rw [H1.out]; have := HJ3.out; rw [HE.out] at this; exact this⟩
            case measure => simp [intOf]; omega
          · have HX3 := Lib.hid hJx3
            clear hJx3
            gi_wp2
            refine bodyPost_ret (results_none rfl _ _ _) rfl ?_
            exact ⟨⟨_, rfl⟩, .inr ⟨closed s c (k + 1), closed_pre s c (k + 1), by rw [H1.out]; have := HX3.out; rw [HE.out] at this; exact this⟩⟩
      · have hne : ((s[k].toNat : Int) != c) = true := by simp [hc]
        obtain ⟨hc1, hc2⟩ := closed_miss hlt hc
        have H1 := Lib.hid hc1
        have H2 := Lib.hid hc2
        clear hc1 hc2 hc
        gi_wp2
        gi_region
        all_goals gi_wp2
        all_goals
          go_roundw
          case rel => exact ⟨k + 1, m, by omega, by omega, by go_num, rfl, by rw [H2.out, ← HC.out, take_snoc s k hlt, List.drop_append_of_le_length (by simp; omega)], cd1, cd2, by rw [H1.out]; exact HJd.out⟩
          case measure => simp [intOf]; omega
    · obtain rfl : k = s.size := by omega
      have HE := Lib.hid (ext_list s m s.size)
      rw [HC.out] at HE
      have HA := Lib.hid (closed_all s c)
      have hta : s.data.toList.take s.size = s.data.toList := List.take_of_length_le (by rw [Array.length_toList]; exact Nat.le_refl _)
      rw [hta] at HE
      obtain ⟨fn, tmps, assign, body, hy, hR⟩ := HYY.out (closed s c s.size) (s.extract m s.size) wr HJ.out (ext_size s m s.size hs) (closed_len s c s.size)
      have HRR := Lib.hid hR
      clear hR hta
      gi_wp2
      refine HRR.out.mono ?_
      rintro e W3 (⟨rfl, hJ3, hk3⟩ | ⟨rfl, hJx3⟩)
      · have HJ3 := Lib.hid hJ3
        clear hJ3 hk3
        gi_wp2
        go_end0
        exact ⟨⟨_, rfl⟩, .inl ⟨_, rfl, by rw [HA.out]; have := HJ3.out; rw [HE.out] at this; exact this⟩⟩
      · have HX3 := Lib.hid hJx3
        clear hJx3
        gi_wp2
        go_end0
        exact ⟨⟨_, rfl⟩, .inr ⟨_, List.prefix_refl _, by rw [HA.out]; have := HX3.out; rw [HE.out] at this; exact this⟩⟩

set_option maxHeartbeats 1000000 in
/-- piecesOf boxes both arguments, and its function value captures the boxes -/
theorem pieces_in (F : Fence) (n : Nat) (hf : F.fn 66) (hro : F.round = none) (s : ByteArray) (c : Int) (w : World) :
    CallsIn F n Tryd.prog 66 #[.string s, .int .u8 c] w fun e w' => e = .returned (.func (.func 85) #[] #[.pointer (some ⟨w.heap.size, 0, none⟩), .pointer (some ⟨w.heap.size + 1, 0, none⟩)]) ∧ w' = (w.alloc (.cells #[.string s] 9)).alloc (.cells #[.int .u8 c] 5) := by
  refine callsIn_of_wp Tryd.func66 rfl hf ?_ hro
  simp only [Tryd.ntmps66, List.size_toArray, List.length_cons, List.length_nil, Nat.reduceAdd, Nat.reduceSub, Array.replicate_succ, Array.replicate_zero, List.push_toArray, List.append_toArray, List.nil_append, List.cons_append]
  gi_wp2
  go_ret
  exact ⟨by simp, rfl⟩

end Go.Proofs.YtgfgimpglaepaabDoor
