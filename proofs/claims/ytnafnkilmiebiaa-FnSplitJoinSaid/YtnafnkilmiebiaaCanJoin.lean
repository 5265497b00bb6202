/- impl.canJoin: whether the texts may be joined. -/
import Derived.Test.YtnafnkilmiebiaaJoin
import Derived.Deep.LoopGhost
namespace Go.Proofs.Ytnafnkilmiebiaa
open Go.RowKit
set_option linter.unusedVariables false

theorem okJoin_end {l : List ByteArray} {c : Int} (k : Nat) (hk : l.length ≤ k) (h0 : 0 < l.length) (hf : freeL (bs (l.take k)) c = true) (hl : (lenS (bs (l.take k)) : Int) + (l.length : Int) ≤ 4001) : okJoin (bs l) c = true := by
  rw [List.take_of_length_le hk] at hf hl
  have hne : bs l ≠ [] := by intro e; have := bs_length l; rw [e] at this; simp at this; omega
  exact okJoin_of hne hf (by rw [bs_length]; omega)
theorem okJoin_over {l : List ByteArray} {c : Int} (k : Nat) (hk : k ≤ l.length) (h : (4001 : Int) < (lenS (bs (l.take k)) : Int) + (l.length : Int)) : okJoin (bs l) c = false :=
  okJoin_not_len (by have := lenS_le l k; rw [bs_length]; omega)
theorem okJoin_stands {l : List ByteArray} {c : Int} {k : Nat} (hk : k < l.length) (h : hasB l[k].data.toList c = true) : okJoin (bs l) c = false :=
  okJoin_not_free (k + 1) (by rw [← bs_take, bs_snoc l k hk, freeL_snoc, h]; simp)

set_option maxHeartbeats 1000000 in
theorem canJoin_any (a : Option Addr) (l : List ByteArray) (c B : Nat) (x : Int) (w : World) (hl : Strs w B a l) (hn : l.length ≤ 4001) (h0 : 0 < l.length) (hsz : ∀ s ∈ l, s.size ≤ 1048576) :
    Calls Try.prog 39 #[.slice a l.length c, .int .u8 x] w fun e w' => e = .returned (.bool (okJoin (bs l) x)) ∧ w = w' := by
  have HL := Lib.hid hl
  clear hl
  have HSZ := Lib.hid hsz
  clear hsz
  have hne : ((l.length : Int) == 0) = false := beq_eq_false_iff_ne.2 (by omega)
  have hd : decide ((4000 : Int) < (l.length : Int) - 1) = false := decide_eq_false (by omega)
  go_enter Try.func39, Try.ntmps39
  go_wp2
  go_step3
  go_wp2
  go_step3
  go_wp2
  go_loopg [5, 6, 25] l.length (fun g fr ps i wr => ∃ k : Nat, k ≤ l.length ∧ g + k = l.length ∧ i = .int .i64 k ∧ fr = .int .i64 (4000 - ((l.length : Int) - 1) - (lenS (bs (l.take k)) : Int)) ∧ ps = .bool true ∧ (lenS (bs (l.take k)) : Int) + (l.length : Int) ≤ 4001 ∧ freeL (bs (l.take k)) x = true ∧ w = wr)
  case atStart => exact ⟨0, Nat.zero_le _, rfl, rfl, by simp [bs, lenS], rfl, by simp [bs, lenS]; omega, rfl, rfl⟩
  case round =>
    obtain ⟨k, hk, hg, rfl, rfl, rfl, hle, hfree, rfl⟩ := hrel
    have HG := Lib.hid hg
    clear hg
    have HF := Lib.hid hfree
    clear hfree
    by_cases hlt : k < l.length
    · obtain ⟨b, o, rfl, hb, hc⟩ := HL.out.at_ hlt
      have hs : l[k].size ≤ 1048576 := HSZ.out _ (List.getElem_mem hlt)
      have HST := Lib.hid (lenS_step l k hlt)
      have HOV := Lib.hid (okJoin_over (l := l) (c := x) (k + 1) (by omega))
      generalize lenS (bs (l.take k)) = s0 at *
      have hi : (k : Int) < (l.length : Int) := by omega
      have hi0 : (0 : Int) ≤ (k : Int) := by omega
      by_cases hlong : 4000 - ((l.length : Int) - 1) - (s0 : Int) < (l[k].size : Int)
      · have HV := Lib.hid (HOV.out (by rw [HST.out]; omega))
        go_wp2
        rw [Exit.noGoto_ret]
        go_ret
        exact ⟨by rw [HV.out]; rfl, rfl⟩
      · go_wp2
        go_loopg [6, 39] l[k].size (fun g ps j wr => ∃ m : Nat, m ≤ l[k].size ∧ g + m = l[k].size ∧ j = .int .i64 m ∧ ps = .bool true ∧ hasB (l[k].data.toList.take m) x = false ∧ w = wr)
        case atStart => exact ⟨0, Nat.zero_le _, rfl, rfl, rfl, rfl, rfl⟩
        case round =>
          obtain ⟨m, hm, hg2, rfl, rfl, hno, rfl⟩ := hrel
          have HG2 := Lib.hid hg2
          clear hg2
          have HN := Lib.hid hno
          clear hno
          by_cases hlt2 : m < l[k].size
          · have hj : (m : Int) < (l[k].size : Int) := by omega
            have hj0 : (0 : Int) ≤ (m : Int) := by omega
            cases hx : ((l[k][m].toNat : Int) == x) with
            | true =>
              have HV := Lib.hid (okJoin_stands hlt (hasB_of_get l[k] m hlt2 x (by simpa using hx)))
              go_wp2
              rw [Exit.noGoto_ret]
              go_ret
              exact ⟨by rw [HV.out]; rfl, rfl⟩
            | false =>
              have hsn := hasB_snoc (l[k].data.toList.take m) l[k][m] x
              rw [← take_snoc l[k] m hlt2, HN.out, hx] at hsn
              have HS := Lib.hid hsn
              clear hsn
              go_wp2
              go_roundg (gk - 1)
              case rel => exact ⟨m + 1, by omega, by have := HG2.out; omega, by go_num, rfl, by rw [HS.out]; rfl, rfl⟩
              case measure => have := HG2.out; omega
          · have hfin : hasB l[k].data.toList x = false := by have := HN.out; rwa [take_all _ _ (by omega)] at this
            have HV := Lib.hid (free_next hlt HF.out hfin)
            clear hfin
            go_wp2
            go_roundg (l.length - (k + 1))
            case rel => exact ⟨k + 1, by omega, by omega, by go_num, by rw [HST.out]; go_num, rfl, by rw [HST.out]; omega, HV.out, rfl⟩
            case measure => have := HG.out; omega
    · have HV := Lib.hid (okJoin_end k (by omega) h0 HF.out hle)
      go_wp2
      rw [Exit.noGoto_ret]
      go_ret
      exact ⟨by rw [HV.out]; rfl, rfl⟩

theorem canJoin_empty (a : Option Addr) (c : Nat) (x : Int) (w : World) :
    Calls Try.prog 39 #[.slice a 0 c, .int .u8 x] w fun e w' => e = .returned (.bool false) ∧ w = w' := by
  go_enter Try.func39, Try.ntmps39
  go_wp2
  go_step3
  go_wp2
  try rw [Exit.noGoto_ret]
  go_ret
  exact ⟨rfl, rfl⟩
theorem canJoin_many (a : Option Addr) (n c : Nat) (x : Int) (w : World) (hn : n ≤ 1048576) (h : 4001 < n) :
    Calls Try.prog 39 #[.slice a n c, .int .u8 x] w fun e w' => e = .returned (.bool false) ∧ w = w' := by
  have hne : ((n : Int) == 0) = false := beq_eq_false_iff_ne.2 (by omega)
  have hd : decide ((4000 : Int) < (n : Int) - 1) = true := decide_eq_true (by omega)
  go_enter Try.func39, Try.ntmps39
  go_wp2
  go_step3
  go_wp2
  try rw [Exit.noGoto_ret]
  go_ret
  exact ⟨rfl, rfl⟩
/-- canJoin at whatever list of texts -/
theorem canJoin_is (a : Option Addr) (l : List ByteArray) (c B : Nat) (x : Int) (w : World) (hl : Strs w B a l) (hn : l.length ≤ 1048576) (hsz : ∀ s ∈ l, s.size ≤ 1048576) {v : Bool} (h : okJoin (bs l) x = v) :
    Calls Try.prog 39 #[.slice a l.length c, .int .u8 x] w fun e w' => e = .returned (.bool v) ∧ w = w' := by
  subst h
  rcases Nat.eq_zero_or_pos l.length with h0 | h0
  · obtain rfl : l = [] := List.eq_nil_of_length_eq_zero h0
    exact canJoin_empty a c x w
  · by_cases h1 : 4001 < l.length
    · rw [okJoin_not_len (by rw [bs_length]; omega)]
      exact canJoin_many a l.length c x w hn h1
    · exact canJoin_any a l c B x w hl (by omega) h0 hsz
end Go.Proofs.Ytnafnkilmiebiaa
