/- impl.JoinStrings: the texts joined, or nothing; and the walk of FnExactJoinStrings. -/
import Derived.Test.YtnafnkilmiebiaaCanJoin
import Derived.Test.YtnafnkilmiebiaaBuilder
import Derived.Deep.RegionWith
namespace Go.Proofs.Ytnafnkilmiebiaa
open Go.RowKit
set_option linter.unusedVariables false

theorem implJoin_bad (a : Option Addr) (n c : Nat) (sep : ByteArray) (w : World) (hs : sep.size ≤ maxLen) (h : sep.size ≠ 1) :
    Calls Try.prog 11 #[.slice a n c, .string sep] w fun e w' => e = .returned (.tuple #[.string ⟨#[]⟩, .bool false]) ∧ w = w' := by
  unfold maxLen at hs
  have hb : ((sep.size : Int) != 1) = true := by rw [bne_iff_ne]; omega
  clear h
  go_enter Try.func11, Try.ntmps11
  go_wp2
  go_ret2
  exact ⟨rfl, rfl⟩

theorem implJoin_no (a : Option Addr) (l : List ByteArray) (c B : Nat) (sep : ByteArray) (w : World) (hl : Strs w B a l) (hn : l.length ≤ 1048576) (hsz : ∀ s ∈ l, s.size ≤ 1048576) (hs0 : 0 < sep.size) (hs2 : sep.size ≤ 1) (h : okJoin (bs l) sep[0].toNat = false) :
    Calls Try.prog 11 #[.slice a l.length c, .string sep] w fun e w' => e = .returned (.tuple #[.string ⟨#[]⟩, .bool false]) ∧ w = w' := by
  have hb1 : ((sep.size : Int) != 1) = false := by rw [bne_eq_false_iff_eq]; omega
  have HC := Lib.hid (fun W (e : W = w) => canJoin_is a l c B sep[0].toNat W (e ▸ hl) hn hsz h)
  clear hl hsz h
  go_enter Try.func11, Try.ntmps11
  go_wp2_with (go_at_call 39; refine (HC.out _ rfl).mono ?_; rintro e w' ⟨rfl, rfl⟩)
  go_ret2
  exact ⟨rfl, rfl⟩

theorem okJoin_parts {l : List (List UInt8)} {c : Int} (h : okJoin l c = true) : l ≠ [] ∧ freeL l c = true ∧ lenS l + l.length ≤ 4001 := by
  simp only [okJoin, Bool.and_eq_true, decide_eq_true_eq] at h
  exact ⟨h.1.1, h.1.2, h.2⟩
theorem joinL_bound {l : List ByteArray} {x : UInt8} (k : Nat) (h : lenS (bs l) + l.length ≤ 4001) : (joinL [x] (bs (l.take k))).length ≤ 4001 := by
  by_cases e : bs (l.take k) = []
  · rw [e]; simp [joinL]
  · have h1 := joinL_len [x] rfl _ e
    have h2 := lenS_le l k
    have h3 := bs_length (l.take k)
    have h4 := List.length_take_le k l
    have h5 := List.length_take_le' k l
    omega

theorem join_first_list {l : List ByteArray} {x : UInt8} {J : List UInt8} (hk : 0 < l.length) (hJ : J = joinL [x] (bs (l.take 0))) : J ++ l[0].data.toList = joinL [x] (bs (l.take 1)) := by
  rw [joinL_first l _ hk, hJ]; simp [bs, joinL]
theorem join_next_list {l : List ByteArray} {sep : ByteArray} {J : List UInt8} {k : Nat} (hk : k < l.length) (h0 : 0 < k) (hs : 0 < sep.size) (h1 : sep.data.toList = [sep[0]]) (hJ : J = joinL [sep[0]] (bs (l.take k))) :
    J ++ sep.data.toList ++ l[k].data.toList = joinL [sep[0]] (bs (l.take (k + 1))) := by
  rw [joinL_next l _ k hk h0, ← hJ, h1]

set_option maxHeartbeats 1000000 in
theorem implJoin_yes (a : Option Addr) (l : List ByteArray) (c : Nat) (sep : ByteArray) (w : World) (hl : Strs w w.heap.size a l) (hn : l.length ≤ 1048576) (hsz : ∀ s ∈ l, s.size ≤ 1048576) (hs0 : 0 < sep.size) (hs2 : sep.size ≤ 1) (h : okJoin (bs l) sep[0].toNat = true) :
    Calls Try.prog 11 #[.slice a l.length c, .string sep] w fun e w' => e = .returned (.tuple #[.string ⟨(joinL [sep[0]] (bs l)).toArray⟩, .bool true]) ∧ Below w.heap.size w w' := by
  have hb1 : ((sep.size : Int) != 1) = false := by rw [bne_eq_false_iff_eq]; omega
  have HC := Lib.hid (fun W (e : W = w) => canJoin_is a l c w.heap.size sep[0].toNat W (e ▸ hl) hn hsz h)
  obtain ⟨hne, _, hlen⟩ := okJoin_parts h
  rw [bs_length] at hlen
  have HL := Lib.hid hl
  have HSZ := Lib.hid hsz
  have HSEP := Lib.hid (one_byte sep hs0 hs2)
  have HB := Lib.hid (fun k => joinL_bound (l := l) (x := sep[0]) k hlen)
  clear hl hsz h hne hlen
  go_enter Try.func11, Try.ntmps11
  go_wp2_with (go_at_call 39; refine (HC.out _ rfl).mono ?_; rintro e w' ⟨rfl, rfl⟩)
  clear HC
  go_loopw [21] (fun i wr => ∃ (k : Nat) (J : List UInt8), k ≤ l.length ∧ i = .int .i64 k ∧ J = joinL [sep[0]] (bs (l.take k)) ∧ J.length ≤ 4001 ∧ Lib.IsBuilder 68 5 w.heap.size w.heap.size (Lib.byteCells J) wr ∧ Below w.heap.size w wr) (fun i _ => l.length - (intOf i).toNat)
  case atStart => exact ⟨0, [], Nat.zero_le _, rfl, rfl, by simp, Lib.fresh_isBuilder _ _ w, (Below.refl _ _).alloc (Nat.le_refl _) _⟩
  case round =>
    obtain ⟨k, J, hk, rfl, hJ, hJl, hbld, hB⟩ := hrel
    have HJ := Lib.hid hJ
    clear hJ
    have HBL := Lib.hid hbld
    clear hbld
    have HBE := Lib.hid hB
    clear hB
    by_cases hlt : k < l.length
    · obtain ⟨b, o, rfl, hb, hc⟩ := (HL.out.below HBE.out (Nat.le_refl _)).at_ hlt
      have hs : l[k].size ≤ 1048576 := HSZ.out _ (List.getElem_mem hlt)
      have hi : (k : Int) < (l.length : Int) := by omega
      have hi0 : (0 : Int) ≤ (k : Int) := by omega
      by_cases hk0 : k = 0
      · subst hk0
        simp only [Nat.add_zero] at hc
        go_wp2_with (go_at_call 40; refine (bld_write _ _ J _ _ HBL.out (by omega) HBE.out.size).mono ?_; rintro e w1 ⟨rfl, hb1, hB1⟩; have HB1 := Lib.hid hb1; clear hb1; have HBB1 := Lib.hid hB1; clear hB1)
        go_roundw
        case rel => exact ⟨1, _, by omega, by go_num, join_first_list hlt HJ.out, by rw [join_first_list hlt HJ.out]; exact HB.out 1, HB1.out, HBE.out.trans HBB1.out⟩
        case measure => simp [intOf]; omega
      · have hkp : (0 : Int) < (k : Int) := by omega
        have hkn : 0 < k := by omega
        go_wp2_with (fail)
        refine (bld_write _ _ J _ _ HBL.out (by omega) HBE.out.size).mono ?_
        rintro e w1 ⟨rfl, hb1, hB1⟩
        have HB1 := Lib.hid hb1
        clear hb1
        have HBB1 := Lib.hid hB1
        clear hB1
        have hc1 := (HBB1.out.cell (p := ⟨b, o + k, none⟩) hb).trans hc
        go_wp2_with (fail)
        refine (bld_write _ _ (J ++ sep.data.toList) _ _ HB1.out (by simp; omega) (HBE.out.trans HBB1.out).size).mono ?_
        rintro e w2 ⟨rfl, hb2, hB2⟩
        have HB2 := Lib.hid hb2
        clear hb2
        have HBB2 := Lib.hid hB2
        clear hB2
        go_wp2
        go_roundw
        case rel => exact ⟨k + 1, _, by omega, by go_num, join_next_list hlt hkn hs0 HSEP.out HJ.out, by rw [join_next_list hlt hkn hs0 HSEP.out HJ.out]; exact HB.out (k + 1), HB2.out, (HBE.out.trans HBB1.out).trans HBB2.out⟩
        case measure => simp [intOf]; omega
    · have hfin : J = joinL [sep[0]] (bs l) := by have := HJ.out; rwa [List.take_of_length_le (by omega)] at this
      have HFI := Lib.hid hfin
      clear hfin
      go_wp2_with (go_at_call 41; refine (bld_string _ _ J _ HBL.out HBE.out.size).mono ?_; rintro e w1 ⟨rfl, hB1⟩; have HBB1 := Lib.hid hB1; clear hB1)
      go_ret2
      exact ⟨by rw [HFI.out]; rfl, HBE.out.trans HBB1.out⟩
end Go.Proofs.Ytnafnkilmiebiaa
