/- spec.l1Split: the pieces of a text between a byte, in memory of the call's own. -/
import Derived.Test.YtgfgimpglaepaabDoorChecked
import Derived.Test.YtgfgimpglaepaabDoorMemRow
import Derived.Test.YtgfgimpglaepaabDoorSplitMath
import Derived.WalkKit
import Derived.WalkLawsBesides
import Derived.WalkSpells
import Derived.Lib.Hide
import Derived.OwnWalk
import Derived.Maps.AppendAt
namespace Go.Proofs.YtgfgimpglaepaabDoor
open Go.RowKit
set_option linter.unusedVariables false
theorem infoStr : (Tryd.prog.info? 9).map (fun i => (i.zero, i.size, i.bytes)) = some (some (.string ByteArray.empty), 1, 16) := by kernel_rfl
theorem splitL_def (l : List UInt8) (c : Int) : splitL l c = (spSt l c).1 ++ [(spSt l c).2] := rfl
/-- lists of bytes as values of texts -/
def txt (l : List (List UInt8)) : List Value := l.map (fun x => .string ⟨x.toArray⟩)
theorem txt_length (l : List (List UInt8)) : (txt l).length = l.length := by simp [txt]
theorem txt_snoc (l : List (List UInt8)) (x : List UInt8) : txt (l ++ [x]) = txt l ++ [.string ⟨x.toArray⟩] := by simp [txt]
/-- the pieces lie in a row of the call's own -/
def SplitPost (l : List (List UInt8)) (w : World) (e : Ending) (w' : World) : Prop :=
  ∃ v, e = .returned v ∧ w'.ownsRow w.heap.size 9 1 v l.length (txt l) ∧ Below w.heap.size w w'

theorem own_below {w wr w1 : World} {o : Obj} {v : Value} {e : TypeId} {n : Nat} {xs : List Value} (hB : Below w.heap.size w wr) (ho : wr.ownsRow w.heap.size e 1 v n xs) (hg : (wr.alloc o).grownBy w1 v.ownBlock) : Below w.heap.size w w1 :=
  (hB.alloc hB.size o).grown hg (by have := hB.size; simp; omega) (fun k hk => (ho.lt k hk).1)

set_option maxHeartbeats 1000000 in
theorem split_any (s : ByteArray) (c : Int) (w : World) (hs : s.size ≤ 1048576) :
    Calls Tryd.prog 72 #[.string s, .int .u8 c] w (SplitPost (splitL s.data.toList c) w) := by
  obtain ⟨i0, hi0', hz0, hz1, hz2⟩ := info_parts infoStr
  go_enter Tryd.func72, Tryd.ntmps72
  go_wp2
  go_loopw [5, 6, 7] (fun out f i wr => ∃ k m : Nat, k ≤ s.size ∧ m ≤ k ∧ i = .int .i64 k ∧ f = .int .i64 m ∧ (s.data.toList.take k).drop m = (spSt (s.data.toList.take k) c).2 ∧
      wr.ownsRow w.heap.size 9 1 out (spSt (s.data.toList.take k) c).1.length (txt (spSt (s.data.toList.take k) c).1) ∧ (spSt (s.data.toList.take k) c).1.length ≤ k ∧ Below w.heap.size w wr) (fun _ _ i _ => s.size - (intOf i).toNat)
  case atStart => exact ⟨0, 0, Nat.zero_le _, Nat.le_refl _, rfl, rfl, rfl, World.ownsRow_made w #[] 0 (Nat.le_refl _) (by simp) rfl, Nat.le_refl _, (Below.refl _ _).alloc (Nat.le_refl _) _⟩
  case round =>
    obtain ⟨k, m, hk, hm, rfl, rfl, hcur, hown, hcnt, hB⟩ := hrel
    have HC := Lib.hid hcur
    have HO := Lib.hid hown
    have HB := Lib.hid hB
    clear hcur hown hB
    by_cases hlt : k < s.size
    · have hi : (k : Int) < (s.size : Int) := by omega
      have hi0 : (0 : Int) ≤ (k : Int) := by omega
      have hts := Lib.hid (take_snoc s k hlt)
      cases hc : ((s[k].toNat : Int) == c) with
      | true =>
        have HH := Lib.hid (spSt_hit (l := s.data.toList.take k) (by simpa using hc : (s[k].toNat : Int) = c))
        rw [← hts.out] at HH
        have HE := Lib.hid (ext_list s m k)
        rw [HC.out] at HE
        generalize spSt (s.data.toList.take k) c = st at *
        go_wp2_with (at_builtin; refine wpList_append_own _ rfl _ _ 71 rfl w.heap.size 9 i0 (.string ByteArray.empty) 1 16 Tryd.underlying71 hi0' hz0 hz1 hz2 rfl (by decide) _ st.1.length (txt st.1) rfl (HO.out.alloc _) ⟨wr.heap.size, 0, none⟩ 1 1 [.string (s.extract m k)] rfl rfl (cell_one_new _ _ _) (by simp [Value.oneCell']) (by unfold maxLen; omega) (by omega) (by have := HB.out.size; simp; omega) ?_; intro v' w1 hown' hgrow _; have HO1 := Lib.hid hown'; have HG1 := Lib.hid hgrow; clear hown' hgrow)
        go_roundw
        case rel => exact ⟨k + 1, k + 1, by omega, Nat.le_refl _, by go_num, by go_num, by rw [HH.out]; simp, by
          rw [HH.out]; have h1 := HO1.out; rw [HE.out] at h1; simp only [txt_snoc, List.length_append, List.length_singleton]; exact h1, by rw [HH.out]; simp; omega, own_below HB.out HO.out HG1.out⟩
        case measure => simp [intOf]; omega
      | false =>
        have HH := Lib.hid (spSt_miss (l := s.data.toList.take k) (by simpa using hc : ¬ (s[k].toNat : Int) = c))
        rw [← hts.out] at HH
        go_wp2
        go_roundw
        case rel => exact ⟨k + 1, m, by omega, by omega, by go_num, rfl, by rw [HH.out, ← HC.out, hts.out, List.drop_append_of_le_length (by simp; omega)], by rw [HH.out]; exact HO.out, by rw [HH.out]; exact Nat.le_succ_of_le hcnt, HB.out⟩
        case measure => simp [intOf]; omega
    · obtain rfl : k = s.size := by omega
      have HE := Lib.hid (ext_list s m s.size)
      rw [HC.out] at HE
      have HT := Lib.hid (take_all s s.size (Nat.le_refl _))
      rw [HT.out] at HE
      rw [HT.out] at HO
      rw [HT.out] at hcnt
      clear HC
      have HSP := Lib.hid (splitL_def s.data.toList c)
      generalize spSt s.data.toList c = st at *
      go_wp2_with (at_builtin; refine wpList_append_own _ rfl _ _ 71 rfl w.heap.size 9 i0 (.string ByteArray.empty) 1 16 Tryd.underlying71 hi0' hz0 hz1 hz2 rfl (by decide) _ st.1.length (txt st.1) rfl (HO.out.alloc _) ⟨wr.heap.size, 0, none⟩ 1 1 [.string (s.extract m s.size)] rfl rfl (cell_one_new _ _ _) (by simp [Value.oneCell']) (by unfold maxLen; omega) (by omega) (by have := HB.out.size; simp; omega) ?_; intro v' w1 hown' hgrow _; have HO1 := Lib.hid hown'; have HG1 := Lib.hid hgrow; clear hown' hgrow)
      go_ret
      exact ⟨v', rfl, by rw [HSP.out]; have h1 := HO1.out; rw [HE.out] at h1; simp only [txt_snoc, List.length_append, List.length_singleton]; exact h1, own_below HB.out HO.out HG1.out⟩
end Go.Proofs.YtgfgimpglaepaabDoor
