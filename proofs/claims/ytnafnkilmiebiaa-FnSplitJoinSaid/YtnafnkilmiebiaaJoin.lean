/- spec.JoinStrings: the texts joined, or nothing. -/
import Derived.Test.YtnafnkilmiebiaaEqStrings
import Derived.Test.YtnafnkilmiebiaaStands
namespace Go.Proofs.Ytnafnkilmiebiaa
open Go.RowKit
set_option linter.unusedVariables false
/-- what JoinStrings gives at a separator of one byte x -/
def joinV (l : List ByteArray) (x : UInt8) : Value :=
  if okJoin (bs l) x.toNat = true then .tuple #[.string ⟨(joinL [x] (bs l)).toArray⟩, .bool true] else .tuple #[.string ⟨#[]⟩, .bool false]
theorem joinV_yes {l : List ByteArray} {x : UInt8} (h : okJoin (bs l) x.toNat = true) : joinV l x = .tuple #[.string ⟨(joinL [x] (bs l)).toArray⟩, .bool true] := if_pos h
theorem joinV_no {l : List ByteArray} {x : UInt8} (h : okJoin (bs l) x.toNat = false) : joinV l x = .tuple #[.string ⟨#[]⟩, .bool false] := if_neg (by rw [h]; simp)
theorem joinV_stands {l : List ByteArray} {x : UInt8} {k : Nat} (hk : k < l.length) (h : hasB l[k].data.toList x.toNat = true) : joinV l x = .tuple #[.string ⟨#[]⟩, .bool false] :=
  joinV_no (okJoin_not_free (k + 1) (by rw [← bs_take, bs_snoc l k hk, freeL_snoc, h]; simp))
theorem joinV_long {l : List ByteArray} {x : UInt8} {k : Nat} (hk : k < l.length) (h : 4000 < (joinL [x] (bs (l.take (k + 1)))).length) : joinV l x = .tuple #[.string ⟨#[]⟩, .bool false] :=
  joinV_no (okJoin_not_take (k + 1) (by rw [bs_length]; omega) (by
    have := joinL_len [x] rfl (bs (l.take (k + 1))) (by intro e; have := bs_length (l.take (k + 1)); rw [e] at this; simp at this; omega)
    rw [← bs_take]
    rw [bs_length, List.length_take] at this
    omega))
theorem joinL_first (l : List ByteArray) (x : UInt8) (h : 0 < l.length) : joinL [x] (bs (l.take 1)) = l[0].data.toList := by
  have := bs_snoc l 0 h
  simp only [Nat.zero_add] at this
  rw [this]; simp [bs, joinL]
theorem joinL_next (l : List ByteArray) (x : UInt8) (k : Nat) (h : k < l.length) (h0 : 0 < k) : joinL [x] (bs (l.take (k + 1))) = joinL [x] (bs (l.take k)) ++ [x] ++ l[k].data.toList := by
  rw [bs_snoc l k h, joinL_snoc _ _ _ (by intro e; have := bs_length (l.take k); rw [e] at this; simp at this; omega)]
theorem one_byte (s : ByteArray) (h : 0 < s.size) (h1 : s.size ≤ 1) : s.data.toList = [s[0]] := by
  obtain ⟨⟨l⟩⟩ := s
  match l, h, h1 with
  | [y], _, _ => rfl
  | _ :: _ :: _, _, h1 => exact absurd h1 (by simp [ByteArray.size])
theorem cat_str (J : List UInt8) (s : ByteArray) : (⟨J.toArray⟩ : ByteArray) ++ s = ⟨(J ++ s.data.toList).toArray⟩ := by
  apply ByteArray.ext; simp
theorem join_next_str {l : List ByteArray} {sep : ByteArray} {J : List UInt8} {k : Nat} (hk : k < l.length) (h0 : 0 < k) (hs : 0 < sep.size) (h1 : sep.data.toList = [sep[0]]) (hJ : J = joinL [sep[0]] (bs (l.take k))) :
    (⟨J.toArray⟩ : ByteArray) ++ sep ++ l[k] = ⟨(joinL [sep[0]] (bs (l.take (k + 1)))).toArray⟩ := by
  rw [cat_str, cat_str, joinL_next l _ k hk h0, ← hJ, h1]
theorem join_first_str {l : List ByteArray} {sep : ByteArray} {J : List UInt8} (hk : 0 < l.length) (hs : 0 < sep.size) (hJ : J = joinL [sep[0]] (bs (l.take 0))) :
    (⟨J.toArray⟩ : ByteArray) ++ l[0] = ⟨(joinL [sep[0]] (bs (l.take 1))).toArray⟩ := by
  rw [cat_str, joinL_first l _ hk, hJ]; simp [bs, joinL]
theorem join_next_len {l : List ByteArray} {sep : ByteArray} {J : List UInt8} {k : Nat} (hk : k < l.length) (h0 : 0 < k) (hs : 0 < sep.size) (h1 : sep.data.toList = [sep[0]]) (hJ : J = joinL [sep[0]] (bs (l.take k))) :
    (joinL [sep[0]] (bs (l.take (k + 1)))).length = J.length + sep.size + l[k].size := by
  rw [joinL_next l _ k hk h0, ← hJ, ← h1]; simp; omega
theorem join_first_len {l : List ByteArray} {sep : ByteArray} {J : List UInt8} (hk : 0 < l.length) (hs : 0 < sep.size) (hJ : J = joinL [sep[0]] (bs (l.take 0))) :
    (joinL [sep[0]] (bs (l.take 1))).length = J.length + l[0].size := by
  rw [joinL_first l _ hk, hJ]; simp [bs, joinL]
theorem free_next {l : List ByteArray} {c : Int} {k : Nat} (hk : k < l.length) (hf : freeL (bs (l.take k)) c = true) (h : hasB l[k].data.toList c = false) : freeL (bs (l.take (k + 1))) c = true := by
  rw [bs_snoc l k hk, freeL_snoc, hf, h]; rfl
theorem joinV_end {l : List ByteArray} {x : UInt8} {J : List UInt8} (k : Nat) (hk : l.length ≤ k) (h0 : 0 < l.length) (hJ : J = joinL [x] (bs (l.take k))) (hf : freeL (bs (l.take k)) x.toNat = true) (hl : J.length ≤ 4000) :
    joinV l x = .tuple #[.string ⟨J.toArray⟩, .bool true] := by
  rw [List.take_of_length_le hk] at hJ hf
  subst hJ
  have hne : bs l ≠ [] := by intro e; have := bs_length l; rw [e] at this; simp at this; omega
  have := joinL_len [x] rfl (bs l) hne
  exact joinV_yes (okJoin_of hne hf (by omega))

set_option maxHeartbeats 400000 in
theorem specJoin_bad (a : Option Addr) (l : List ByteArray) (c : Nat) (sep : ByteArray) (w : World) (hn : l.length ≤ 1048576) (hs : sep.size ≤ maxLen) (h : sep.size ≠ 1 ∨ l = []) :
    Calls Try.prog 12 #[.slice a l.length c, .string sep] w fun e w' => e = .returned (.tuple #[.string ⟨#[]⟩, .bool false]) ∧ w = w' := by
  unfold maxLen at hs
  by_cases h1 : sep.size = 1
  · have e : l = [] := by rcases h with h | h; exact absurd h1 h; exact h
    subst e
    have hb : ((sep.size : Int) != 1) = false := by rw [bne_eq_false_iff_eq]; omega
    clear h1 h
    go_enter Try.func12, Try.ntmps12
    go_wp2
    go_ret2
    exact ⟨rfl, rfl⟩
  · have hb : ((sep.size : Int) != 1) = true := by rw [bne_iff_ne]; omega
    clear h1 h
    go_enter Try.func12, Try.ntmps12
    go_wp2
    go_ret2
    exact ⟨rfl, rfl⟩

set_option maxHeartbeats 1000000 in
theorem specJoin_any (a : Option Addr) (l : List ByteArray) (c B : Nat) (sep : ByteArray) (w : World) (hl : Strs w B a l) (hn : l.length ≤ 1048576) (h0 : 0 < l.length) (hsz : ∀ s ∈ l, s.size ≤ 1048576) (hs0 : 0 < sep.size) (hs2 : sep.size ≤ 1) :
    Calls Try.prog 12 #[.slice a l.length c, .string sep] w (Quiet (joinV l sep[0]) w) := by
  have HL := Lib.hid hl
  clear hl
  have HSZ := Lib.hid hsz
  clear hsz
  have hne : ((l.length : Int) == 0) = false := beq_eq_false_iff_ne.2 (by omega)
  have hb1 : ((sep.size : Int) != 1) = false := by rw [bne_eq_false_iff_eq]; omega
  have HSEP := Lib.hid (one_byte sep hs0 hs2)
  go_enter Try.func12, Try.ntmps12
  go_wp2
  go_loopw [6, 7] (fun out i wr => ∃ (k : Nat) (J : List UInt8), k ≤ l.length ∧ i = .int .i64 k ∧ out = .string ⟨J.toArray⟩ ∧ J = joinL [sep[0]'hs0] (bs (l.take k)) ∧ freeL (bs (l.take k)) (sep[0]'hs0).toNat = true ∧ J.length ≤ 4000 ∧ Drew w wr) (fun _ i _ => l.length - (intOf i).toNat)
  case atStart => exact ⟨0, [], Nat.zero_le _, rfl, rfl, rfl, rfl, by simp, Drew.refl w⟩
  case round =>
    obtain ⟨k, J, hk, rfl, rfl, hJ, hfree, hJl, hw⟩ := hrel
    have HJ := Lib.hid hJ
    clear hJ
    have HF := Lib.hid hfree
    clear hfree
    by_cases hlt : k < l.length
    · obtain ⟨b, o, rfl, hb, hc⟩ := (HL.out.drew hw).at_ hlt
      have HW := Lib.hid hw
      clear hw
      have hs : l[k].size ≤ 1048576 := HSZ.out _ (List.getElem_mem hlt)
      have hi : (k : Int) < (l.length : Int) := by omega
      have hi0 : (0 : Int) ≤ (k : Int) := by omega
      cases hst : hasB l[k].data.toList (sep[0]'hs0).toNat with
      | true =>
        have HST := Lib.hid hst
        have HV := Lib.hid (joinV_stands hlt hst)
        clear hst
        go_wp2
        go_quiet ((go_at_call 42; exact Calls.quiet_of_same (quietSame (stands_is _ _ _ (by unfold maxLen; omega) HST.out))))
        go_wp2
        go_ret2
        exact ⟨by rw [HV.out]; rfl, HW.out.more _⟩
      | false =>
        have HST := Lib.hid hst
        clear hst
        by_cases hk0 : k = 0
        · subst hk0
          simp only [Nat.add_zero] at hc
          have HLen := Lib.hid (join_first_len hlt hs0 HJ.out)
          by_cases hlong : (4000 : Int) < (J.length : Int) + (l[0].size : Int)
          · have HV := Lib.hid (joinV_long hlt (by rw [HLen.out]; omega))
            go_wp2
            go_quiet ((go_at_call 42; exact Calls.quiet_of_same (quietSame (stands_is _ _ _ (by unfold maxLen; omega) HST.out))))
            go_wp2
            go_ret2
            exact ⟨by rw [HV.out]; rfl, HW.out.more _⟩
          · go_wp2
            go_quiet ((go_at_call 42; exact Calls.quiet_of_same (quietSame (stands_is _ _ _ (by unfold maxLen; omega) HST.out))))
            go_wp2
            go_roundw
            case rel => exact ⟨1, _, by omega, by go_num, congrArg _ (join_first_str hlt hs0 HJ.out), rfl, free_next hlt HF.out HST.out, by rw [HLen.out]; omega, HW.out.more _⟩
            case measure => simp [intOf]; omega
        · have hkp : (0 : Int) < (k : Int) := by omega
          have hkn : 0 < k := by omega
          have HLen := Lib.hid (join_next_len hlt hkn hs0 HSEP.out HJ.out)
          by_cases hlong : (4000 : Int) < (J.length : Int) + (sep.size : Int) + (l[k].size : Int)
          · have HV := Lib.hid (joinV_long hlt (by rw [HLen.out]; omega))
            go_wp2
            go_quiet ((go_at_call 42; exact Calls.quiet_of_same (quietSame (stands_is _ _ _ (by unfold maxLen; omega) HST.out))))
            go_wp2
            go_ret2
            exact ⟨by rw [HV.out]; rfl, HW.out.more _⟩
          · go_wp2
            go_quiet ((go_at_call 42; exact Calls.quiet_of_same (quietSame (stands_is _ _ _ (by unfold maxLen; omega) HST.out))))
            go_wp2
            go_roundw
            case rel => exact ⟨k + 1, _, by omega, by go_num, congrArg _ (join_next_str hlt hkn hs0 HSEP.out HJ.out), rfl, free_next hlt HF.out HST.out, by rw [HLen.out]; omega, HW.out.more _⟩
            case measure => simp [intOf]; omega
    · have HV := Lib.hid (joinV_end k (by omega) h0 HJ.out HF.out hJl)
      have HW := Lib.hid hw
      clear hw
      go_wp2
      go_ret2
      exact ⟨by rw [HV.out]; rfl, HW.out⟩
end Go.Proofs.Ytnafnkilmiebiaa
