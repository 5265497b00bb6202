/- Lists of lists of storms in memory, and the laws' helpers on them. -/
import Derived.Test.YthceffkkokgpnaaStLaw
import Derived.Test.YthceffkkokgpnaaStMath
import Derived.BigQuiet
import Derived.Test.YthceffkkokgpnaaLate
namespace Go.Proofs.Ythceffkkokgpnaa
open Go.RowKit
set_option linter.unusedVariables false
set_option linter.unusedSimpArgs false
/-- a list of storms: its address, its storms, its capacity -/
structure LE where
  a : Option Addr
  l : List StT
  c : Nat
/-- the slice at a holds the lists L -/
def Lss (w : World) (B : Nat) (a : Option Addr) (L : List LE) : Prop :=
  L = [] ∨ ∃ b o, a = some ⟨b, o, none⟩ ∧ b < B ∧ ∀ j (h : j < L.length), w.cell? ⟨b, o + j, none⟩ = some (.slice L[j].a L[j].l.length L[j].c) ∧ Sts w B L[j].a L[j].l
section
variable {w w' : World} {B D : Nat} {a : Option Addr} {L : List LE}
theorem Lss.at_ (h : Lss w B a L) {j : Nat} (hj : j < L.length) : ∃ b o, a = some ⟨b, o, none⟩ ∧ b < B ∧ w.cell? ⟨b, o + j, none⟩ = some (.slice L[j].a L[j].l.length L[j].c) ∧ Sts w B L[j].a L[j].l := by
  rcases h with rfl | ⟨b, o, e, hb, hc⟩
  · simp at hj
  · exact ⟨b, o, e, hb, hc j hj⟩
theorem Lss.below (h : Lss w B a L) (hb : Below D w w') (hB : B ≤ D) : Lss w' B a L := by
  rcases h with rfl | ⟨b, o, e, hb2, hc⟩
  · exact .inl rfl
  · exact .inr ⟨b, o, e, hb2, fun j hj => ⟨(hb.cell (p := ⟨b, o + j, none⟩) (show b < D by omega)).trans (hc j hj).1, (hc j hj).2.below hb hB⟩⟩
theorem Lss.more (h : Lss w B a L) (hB : B ≤ D) : Lss w D a L := by
  rcases h with rfl | ⟨b, o, e, hb2, hc⟩
  · exact .inl rfl
  · exact .inr ⟨b, o, e, by omega, fun j hj => ⟨(hc j hj).1, (hc j hj).2.more hB⟩⟩
theorem lss_below (h : Lss w w.heap.size a L) (hb : Below w.heap.size w w') : Lss w' w'.heap.size a L := (h.below hb (Nat.le_refl _)).more hb.size
end
/-- how many lists and storms, all told -/
def lsN (L : List LE) : Nat → Nat
  | 0 => 0
  | k + 1 => lsN L k + (L.getD k ⟨none, [], 0⟩).l.length
theorem lsN_mono (L : List LE) : ∀ k m, k ≤ m → lsN L k ≤ lsN L m := by
  intro k m h
  induction m with
  | zero => have : k = 0 := by omega
            subst this; exact Nat.le_refl _
  | succ m ih =>
    by_cases hk : k = m + 1
    · subst hk; exact Nat.le_refl _
    · exact Nat.le_trans (ih (by omega)) (Nat.le_add_right _ _)
theorem lsN_at {L : List LE} {k : Nat} (h : k < L.length) : lsN L (k + 1) = lsN L k + L[k].l.length := by
  show _ + _ = _
  rw [List.getD_eq_getElem?_getD, List.getElem?_eq_getElem h]
  rfl
def lsFit (L : List LE) : Prop := L.length + lsN L L.length ≤ 1048576
set_option maxRecDepth 100000 in
set_option maxHeartbeats 4000000 in
theorem szLs_any (a : Option Addr) (L : List LE) (c : Nat) (w : World) (hl : Lss w w.heap.size a L) (hn : L.length ≤ maxLen) (hm : ∀ e ∈ L, e.l.length ≤ maxLen) :
    Calls Try.prog 43 #[.slice a L.length c, .int .i64 1048576] w fun e w' => (∃ z : Int, e = .returned (.int .i64 z) ∧ (0 ≤ z → lsFit L)) ∧ w = w' := by
  unfold maxLen at hn
  have HL := Lib.hid hl
  have HM := Lib.hid hm
  clear hl hm
  by_cases h : L.length ≤ 1048576
  · have h1 : ¬ (1048576 : Int) - (L.length : Int) < 0 := by omega
    go_enter Try.func43, Try.ntmps43
    go_wp2
    clear h1
    go_loop [1, 5] (fun q i => ∃ k : Nat, k ≤ L.length ∧ i = .int .i64 k ∧ L.length + lsN L k ≤ 1048576 ∧ q = .int .i64 (1048576 - (L.length : Int) - (lsN L k : Int))) (fun _ i => L.length - (intOf i).toNat)
    case atStart => exact ⟨0, Nat.zero_le _, rfl, by show L.length + 0 ≤ _; omega, by show _ = Value.int .i64 (1048576 - (L.length : Int) - ((0 : Nat) : Int)); simp⟩
    case round =>
      obtain ⟨k, hk, rfl, hfit, rfl⟩ := hrel
      by_cases hlt : k < L.length
      · obtain ⟨b, o, rfl, hb, hc, _⟩ := HL.out.at_ hlt
        have hi : (k : Int) < (L.length : Int) := by omega
        have hi0 : (0 : Int) ≤ (k : Int) := by omega
        have HN := Lib.hid (lsN_at hlt)
        have HMK := Lib.hid (HM.out _ (List.getElem_mem hlt))
        have HC := Lib.hid (fun W h1 h2 => szSt_any L[k].a L[k].l.length L[k].c (1048576 - (L.length : Int) - (lsN L k : Int)) W HMK.out h1 h2)
        obtain ⟨m, hm⟩ : ∃ m, lsN L k = m := ⟨_, rfl⟩
        obtain ⟨m2, hm2⟩ : ∃ m2, lsN L (k + 1) = m2 := ⟨_, rfl⟩
        rw [hm] at hfit HN HC
        rw [hm2] at HN
        rw [hm]
        have HM2 := Lib.hid hm2
        clear hm hm2
        generalize L[k] = E at *
        by_cases hf : (E.l.length : Int) ≤ 1048576 - (L.length : Int) - (m : Int)
        · rw [if_pos hf] at HC
          have h2 : ¬ (1048576 - (L.length : Int) - (m : Int) - (E.l.length : Int) < 0) := by omega
          have hmm := HN.out
          go_wp2_with (go_at_call 17; refine (HC.out _ (by omega) (by omega)).mono ?_; rintro e w1 ⟨rfl, rfl⟩)
          go_round
          case rel => exact ⟨k + 1, by omega, by go_num, by rw [HM2.out]; omega, by rw [HM2.out, Value.int.injEq]; exact ⟨rfl, by omega⟩⟩
          case measure => simp [intOf]; omega
        · rw [if_neg hf] at HC
          go_wp2_with (go_at_call 17; refine (HC.out _ (by omega) (by omega)).mono ?_; rintro e w1 ⟨rfl, rfl⟩)
          go_ret
          exact ⟨⟨_, rfl, fun h => absurd h (by omega)⟩, rfl⟩
      · obtain rfl : k = L.length := by omega
        go_wp2
        go_ret
        exact ⟨⟨_, rfl, fun _ => hfit⟩, rfl⟩
  · have h1 : (1048576 : Int) - (L.length : Int) < 0 := by omega
    go_enter Try.func43, Try.ntmps43
    go_wp2
    go_ret
    exact ⟨⟨_, rfl, fun h => absurd h (by omega)⟩, rfl⟩
set_option maxRecDepth 100000 in
set_option maxHeartbeats 4000000 in
theorem eqLs_yes (a a' : Option Addr) (L L' : List LE) (c c' : Nat) (w : World) (hl : Lss w w.heap.size a L) (hl' : Lss w w.heap.size a' L') (he : L.map (·.l) = L'.map (·.l)) (hf : lsFit L) :
    Calls Try.prog 47 #[.slice a L.length c, .slice a' L'.length c'] w fun e w' => e = .returned (.bool true) ∧ Below w.heap.size w w' := by
  have HL := Lib.hid hl
  have HL' := Lib.hid hl'
  have hlen : L.length = L'.length := by have := congrArg List.length he; simpa using this
  have HE := Lib.hid (fun k (h : k < L.length) (h' : k < L'.length) => show L[k].l = L'[k].l from by
    have h9 : (L.map (·.l))[k]? = (L'.map (·.l))[k]? := by rw [he]
    simpa [h, h'] using h9)
  have HSM := Lib.hid (fun k (h : k < L.length) => show L[k].l.length ≤ 1048576 from by
    have h1 := lsN_at h
    have h2 := lsN_mono L (k + 1) L.length h
    unfold lsFit at hf
    omega)
  have hn : L.length ≤ 1048576 := by unfold lsFit at hf; omega
  have hnn : ((L.length : Int) != (L'.length : Int)) = false := by simp [hlen]
  have HLEN := Lib.hid (And.intro hlen trivial)
  clear hl hl' he hf hlen
  go_enter Try.func47, Try.ntmps47
  go_wp2
  clear hnn
  go_loopw [5] (fun i wr => ∃ k : Nat, k ≤ L.length ∧ i = .int .i64 k ∧ Below w.heap.size w wr) (fun i _ => L.length - (intOf i).toNat)
  case atStart => exact ⟨0, Nat.zero_le _, rfl, Below.refl _ _⟩
  case round =>
    obtain ⟨k, hk, rfl, hB⟩ := hrel
    have HB := Lib.hid hB
    by_cases hlt : k < L.length
    · have hlt' : k < L'.length := by have := HLEN.out.1; omega
      obtain ⟨b, o, rfl, hb, q0, s0⟩ := (HL.out.below hB (Nat.le_refl _)).at_ hlt
      obtain ⟨b', o', rfl, hb', p0, s0'⟩ := (HL'.out.below hB (Nat.le_refl _)).at_ hlt'
      have hi : (k : Int) < (L.length : Int) := by omega
      have hi' : (k : Int) < (L'.length : Int) := by omega
      have hi0 : (0 : Int) ≤ (k : Int) := by omega
      have HK := Lib.hid (HE.out k hlt hlt')
      have HC := Lib.hid (fun W (G : Below wr.heap.size wr W) => eqSts_yes L[k].a L'[k].a L[k].l L[k].c L'[k].c W ((s0.more hB.size).below G (Nat.le_refl _) |>.more G.size) ((by rw [HK.out]; exact ((s0'.more hB.size).below G (Nat.le_refl _)).more G.size)) (HSM.out k hlt))
      have hsz := hB.size
      have e0 := later_cell q0 (by omega)
      have e1 := later_cell p0 (by omega)
      rw [← HK.out] at e1
      clear q0 p0 s0 s0' hB hsz HK
      generalize L[k] = E at *
      generalize L'[k] = E' at *
      go_wp2_with fail
      refine wp_region_later (by kernel_rfl) (by kernel_rfl) ?_
      repeat (go_big_quiet_step ((go_at_call 22; exact calls_later (HC.out _ (Later.below _)))))
      refine wpQuiet_nil ?_
      intro _ hw'
      obtain ⟨pq, hw''⟩ := hw'
      subst hw''
      have B2 := Lib.hid (HB.out.trans (pq.below.mono HB.out.size))
      clear e0 e1
      go_wp2
      go_roundw
      case rel => exact ⟨k + 1, by omega, by go_num, B2.out⟩
      case measure => simp [intOf]; omega
    · have hge : ¬ (k : Int) < (L.length : Int) := by omega
      clear hB
      go_wp2
      go_ret
      exact ⟨rfl, HB.out⟩
end Go.Proofs.Ythceffkkokgpnaa
