/- The differences of two fields, and their sum: the program's. -/
import Derived.Test.YthceffkkokgpnaaMvMath
import Derived.Test.YthceffkkokgpnaaLx2
import Derived.Test.YthceffkkokgpnaaAbo
namespace Go.Proofs.Ythceffkkokgpnaa
open Go.RowKit
set_option linter.unusedVariables false
set_option linter.unusedSimpArgs false
section
variable {w w1 w2 : World} {wd0 hg0 wd1 hg1 : Int} {a0 a1 : Option Addr} {l0 l1 : List Int} {c0 c1 : Nat}
theorem Lx2.grown {b e n : Nat} {v : Value} {xs : List Value} (h : Lx2 w wd0 hg0 a0 l0 c0 wd1 hg1 a1 l1 c1 w1) (o : w1.ownsRow b e 1 v n xs) (ob : Obj) (k : (w1.alloc ob).grownBy w2 v.ownBlock) (hb : w.heap.size + 2 ≤ b) : Lx2 w wd0 hg0 a0 l0 c0 wd1 hg1 a1 l1 c1 w2 := by
  have hne : ∀ j, v.ownBlock = some j → w.heap.size + 2 ≤ j := fun j hj => by have := (o.lt j hj).1; omega
  have h2 := h.step (below_all w1 ob)
  have hB := h2.b.grown k h2.b.size (fun j hj => by have := hne j hj; omega)
  exact ⟨hB, h.s0, h.s1, (h.s0.below hB (Nat.le_refl _)).more hB.size, (h.s1.below hB (Nat.le_refl _)).more hB.size, h2.k0.grown k (fun e => by have := hne _ e.symm; omega), h2.k1.grown k (fun e => by have := hne _ e.symm; omega)⟩
end
set_option maxRecDepth 100000 in
set_option maxHeartbeats 4000000 in
theorem implDf_any (wa ha : Int) (aa : Option Addr) (la : List Int) (ca : Nat) (wb hb : Int) (ab : Option Addr) (lb : List Int) (cb : Nat) (w : World) (h1 : Ints .i64 w w.heap.size aa la) (h2 : Ints .i64 w w.heap.size ab lb) (hl : la.length = lb.length) (hn : lb.length ≤ 64) (ba : ∀ z ∈ la, -9999 ≤ z ∧ z ≤ 9000) (bb : ∀ z ∈ lb, -9999 ≤ z ∧ z ≤ 9000) :
    Calls Try.prog 125 #[.agg #[.int .i64 wa, .int .i64 ha, .slice aa la.length ca], .agg #[.int .i64 wb, .int .i64 hb, .slice ab lb.length cb]] w fun e w' => ∃ a c, e = .returned (.slice a (dfL la lb lb.length).length c) ∧ OwnI w' w.heap.size a (dfL la lb lb.length) ∧ Below w.heap.size w w' := by
  obtain ⟨i0, hi0', hz0, hz1, hz2⟩ := info_parts infoInt
  have F0 := Lib.hid (Lx2.new (wd0 := wa) (hg0 := ha) (c0 := ca) (wd1 := wb) (hg1 := hb) (c1 := cb) h1 h2)
  have HLL := Lib.hid hl
  have HBA := Lib.hid ba
  have HBB := Lib.hid bb
  have hla : la.length ≤ 64 := by omega
  obtain ⟨w1, hw1⟩ : ∃ x, (w.alloc (.cells #[.int .i64 wa, .int .i64 ha, .slice aa la.length ca] 54)).alloc (.cells #[.int .i64 wb, .int .i64 hb, .slice ab lb.length cb] 54) = x := ⟨_, rfl⟩
  obtain ⟨k0, k1, k2⟩ := F0.out.k0.cells
  rw [hw1] at F0
  have hsz1 : w1.heap.size = w.heap.size + 2 := by rw [← hw1]; simp
  have HW := Lib.hid hw1
  clear h1 h2 ba bb hl hw1
  go_enter Try.func125, Try.ntmps125
  go_wp2
  go_loopw [5, 13] (fun q i wr => ∃ k : Nat, k ≤ la.length ∧ i = .int .i64 k ∧ wr.ownsRow w1.heap.size 3 1 q (dfL la lb k).length (iv (dfL la lb k)) ∧ Lx2 w wa ha aa la ca wb hb ab lb cb wr ∧ w1.heap.size < wr.heap.size) (fun _ i _ => la.length - (intOf i).toNat)
  case atStart =>
    rw [HW.out, show w.heap.size + 1 + 1 = w1.heap.size from hsz1.symm]
    exact ⟨0, Nat.zero_le _, rfl, World.ownsRow_made (base := w1.heap.size) (e := 3) (size := 1) w1 #[] 0 (Nat.le_refl _) (by unfold maxLen; omega) rfl, F0.out.step (below_all _ _), by simp⟩
  case round =>
    obtain ⟨k, hk, rfl, hown, hL, hzz⟩ := hrel
    have HO := Lib.hid hown
    have HX := Lib.hid hL
    obtain ⟨c0, c1, c2⟩ := hL.k1.cells
    have hAL := dfL_len la lb k
    have hsz := hL.b.size
    by_cases hlt : k < la.length
    · have hlb : k < lb.length := by have := HLL.out; omega
      obtain ⟨b, o, rfl, hb, hc⟩ := hL.i0.at_ hlt
      obtain ⟨b2, o2, rfl, hb2, hc2⟩ := hL.i1.at_ hlb
      clear hL hown
      have hi : (k : Int) < (la.length : Int) := by omega
      have hi2 : (k : Int) < (lb.length : Int) := by omega
      have hi0 : (0 : Int) ≤ (k : Int) := by omega
      have hx := HBA.out _ (List.getElem_mem hlt)
      have hy := HBB.out _ (List.getElem_mem hlb)
      have HG := Lib.hid (fun h => dfL_gone (a := la) (b := lb) (k := k) h)
      have HH := Lib.hid (fun h1 h2 => dfL_here (a := la) (b := lb) (k := k) h1 h2)
      rw [getD_at hlt, getD_at hlb] at HG HH
      generalize la[k] = x at *
      generalize lb[k] = y at *
      obtain ⟨x1, x2⟩ := hx
      obtain ⟨y3, y4⟩ := hy
      by_cases hxm : x = -9999
      · have HE := Lib.hid (HG.out (Or.inl hxm))
        subst hxm
        clear HG HH
        go_wp2
        go_roundw
        case rel => exact ⟨k + 1, by omega, by go_num, by rw [HE.out]; exact HO.out, HX.out, hzz⟩
        case measure => simp [intOf]; omega
      · have n1 : (x != -9999) = true := by rw [bne_iff_ne]; exact hxm
        by_cases hym : y = -9999
        · have HE := Lib.hid (HG.out (Or.inr hym))
          subst hym
          clear HG HH
          go_wp2
          go_roundw
          case rel => exact ⟨k + 1, by omega, by go_num, by rw [HE.out]; exact HO.out, HX.out, hzz⟩
          case measure => simp [intOf]; omega
        · have n2 : (y != -9999) = true := by rw [bne_iff_ne]; exact hym
          have HE := Lib.hid (HH.out hxm hym)
          clear HG HH hxm hym
          have hw := IntWalk.i64_in (x - y) (by omega)
          generalize dfL la lb k = r at *
          go_wp2_with (at_builtin; refine wpList_append_own _ rfl _ _ 30 rfl w1.heap.size 3 i0 (.int .i64 0) 1 8 Try.underlying30 hi0' hz0 hz1 hz2 rfl (by decide) _ r.length (iv r) rfl (HO.out.alloc _) ⟨wr.heap.size, 0, none⟩ 1 1 [.int .i64 (x - y)] rfl rfl (cell_one_new _ _ _) (by simp [Value.oneCell']) (by unfold maxLen; omega) (by omega) (by simp; omega) ?_; intro v' w2 hown' hgr _; have HO1 := Lib.hid hown'; have HG1 := Lib.hid hgr; clear hown' hgr)
          go_roundw
          case rel => exact ⟨k + 1, by omega, by go_num, by rw [HE.out, List.length_append, iv_snoc]; exact HO1.out, HX.out.grown HO.out _ HG1.out (by omega), by have := HG1.out.size; simp at this; omega⟩
          case measure => simp [intOf]; omega
    · obtain rfl : k = la.length := by omega
      have HEE := Lib.hid HLL.out
      obtain ⟨a', c', rfl, ho⟩ := ownI_of HO.out rfl
      have HOO := Lib.hid ho
      clear ho HO hL hown c0 c1 c2
      go_wp2
      go_ret
      rw [← HEE.out]
      exact ⟨a', c', rfl, HOO.out.more (by omega), HX.out.b⟩
set_option maxRecDepth 100000 in
set_option maxHeartbeats 4000000 in
theorem implSz_any (a : Option Addr) (l : List Int) (c : Nat) (w : World) (hl : Ints .i64 w w.heap.size a l) (hb : ∀ z ∈ l, -20000 ≤ z ∧ z ≤ 20000) (hn : l.length ≤ 64) :
    Calls Try.prog 74 #[.slice a l.length c] w fun e w' => e = .returned (.int .i64 (szS l)) ∧ w = w' := by
  have HL := Lib.hid hl
  have HBD := Lib.hid hb
  have HSB := Lib.hid (szS_bd hb)
  have HTK := Lib.hid (fun k (h : k < l.length) => (by rw [List.take_succ_eq_append_getElem h, szS_snoc] : szS (l.take (k + 1)) = szS (l.take k) + max l[k] (-l[k])))
  have HALL := Lib.hid (show szS (l.take l.length) = szS l by rw [List.take_length])
  have HLN := Lib.hid (fun k => (List.length_take_le k l))
  clear hl hb
  go_enter Try.func74, Try.ntmps74
  go_wp2
  go_loop [3, 8] (fun s i => ∃ k : Nat, k ≤ l.length ∧ i = .int .i64 k ∧ s = .int .i64 (szS (l.take k))) (fun _ i => l.length - (intOf i).toNat)
  case atStart => exact ⟨0, Nat.zero_le _, rfl, by simp [szS]⟩
  case round =>
    obtain ⟨k, hk, rfl, rfl⟩ := hrel
    obtain ⟨s1, s2⟩ := HSB.out k
    have s3 := HLN.out k
    obtain ⟨s, hs⟩ : ∃ s, szS (l.take k) = s := ⟨_, rfl⟩
    rw [hs] at s1 s2
    have s4 : s ≤ 1280000 := by omega
    by_cases hlt : k < l.length
    · obtain ⟨b, o, rfl, hb, hc⟩ := HL.out.at_ hlt
      have hi : (k : Int) < (l.length : Int) := by omega
      have hi0 : (0 : Int) ≤ (k : Int) := by omega
      have hx := HBD.out _ (List.getElem_mem hlt)
      have HS := Lib.hid (HTK.out k hlt)
      rw [hs] at HS ⊢
      generalize l[k] = x at *
      obtain ⟨x1, x2⟩ := hx
      clear hs s2
      go_wp2
      go_round
      case rel => exact ⟨k + 1, by omega, by go_num, by rw [HS.out]; congr 1; split <;> omega⟩
      case measure => simp [intOf]; omega
    · obtain rfl : k = l.length := by omega
      rw [HALL.out] at hs ⊢
      rw [hs]
      go_wp2
      go_ret
      exact ⟨rfl, rfl⟩
end Go.Proofs.Ythceffkkokgpnaa
