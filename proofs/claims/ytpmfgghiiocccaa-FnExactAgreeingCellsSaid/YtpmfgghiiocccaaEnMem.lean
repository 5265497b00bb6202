/- The program's values at a cell of an ensemble: memberValues. -/
import Derived.Test.YtpmfgghiiocccaaEnMath
import Derived.Test.YtpmfgghiiocccaaMake
import Derived.IntWalk
import Derived.OwnWalk
import Derived.Maps.AppendAt
namespace Go.Proofs.Ytpmfgghiiocccaa
open Go.RowKit
set_option linter.unusedVariables false
set_option linter.unusedSimpArgs false
set_option maxRecDepth 100000 in
set_option maxHeartbeats 4000000 in
theorem memVals_any (W H : Nat) (a : Option Addr) (es : List FE) (c0 i : Nat) (w : World) (hok : OkE es W H) (hi : i < W * H) (hl : Flds w w.heap.size a es) :
    Calls Try.prog 73 #[.slice a es.length c0, .int .i64 (i : Int)] w (IntsPost (colV (plains es) i) w) := by
  obtain ⟨i0, hi0', hz0, hz1, hz2⟩ := info_parts infoInt
  have HOK := Lib.hid hok
  have HI := Lib.hid hi
  have HL := Lib.hid hl
  have hn8 : es.length ≤ 8 := hok.n.2
  have hi64 : i < 64 := Nat.lt_of_lt_of_le hi hok.le.1
  have S0 := Lib.hid (World.ownsRow_made (base := w.heap.size) (e := 3) (size := 1) w #[] 0 (Nat.le_refl _) (by simp) rfl)
  clear hok hi hl
  go_enter Try.func73, Try.ntmps73
  go_wp2
  go_loopw [5, 12] (fun out i1 wr => ∃ j : Nat, j ≤ es.length ∧ i1 = .int .i64 j ∧ wr.ownsRow w.heap.size 3 1 out (colK es i j).length (iv (colK es i j)) ∧ Below w.heap.size w wr) (fun _ i1 _ => es.length - (intOf i1).toNat)
  case atStart => exact ⟨0, Nat.zero_le _, rfl, S0.out, below_all _ _⟩
  case round =>
    clear S0
    obtain ⟨j, hj, rfl, hO, hB⟩ := hrel
    have HO := Lib.hid hO
    have HB := Lib.hid hB
    clear hO hB
    by_cases hlt : j < es.length
    · obtain ⟨b, o, rfl, hb, q0, q1, q2, q3⟩ := (HL.out.below HB.out (Nat.le_refl _)).at_ hlt
      have hil : i < es[j].l.length := by rw [(HOK.out.e j hlt).2.2.1]; exact HI.out
      obtain ⟨b2, o2, e2, hb2, ck⟩ := q3.at_ hil
      have HJ := Lib.hid (colK_hit hlt hil)
      have HM := Lib.hid (colK_miss hlt hil)
      have hln : (colK es i j).length ≤ 8 := by have := colK_le es i j; omega
      have hji : (j : Int) < (es.length : Int) := by omega
      have hj0 : (0 : Int) ≤ (j : Int) := by omega
      have hii : (i : Int) < (es[j].l.length : Int) := by omega
      have hi0 : (0 : Int) ≤ (i : Int) := by omega
      have hwb : b2 < wr.heap.size := Nat.lt_of_lt_of_le hb2 HB.out.size
      clear q3
      rw [e2] at q2
      generalize es[j].l[i] = n at *
      generalize es[j].l.length = ln at *
      generalize es[j].wd = x0 at *
      generalize es[j].hg = x1 at *
      generalize es[j].c = x3 at *
      clear e2 hil
      have hX := Box.new wr 31 (.int .i64 x0) (.int .i64 x1) (.slice (some ⟨b2, o2, none⟩) ln x3)
      obtain ⟨k0, k1, k2⟩ := hX.cells
      have ck2 := ((below_all wr (.cells #[.int .i64 x0, .int .i64 x1, .slice (some ⟨b2, o2, none⟩) ln x3] 31)).cell (p := ⟨b2, o2 + i, none⟩) hwb).trans ck
      have HO1 := Lib.hid (own_keeps HO.out (below_all wr (.cells #[.int .i64 x0, .int .i64 x1, .slice (some ⟨b2, o2, none⟩) ln x3] 31)))
      have HB1 := Lib.hid (HB.out.alloc HB.out.size (.cells #[.int .i64 x0, .int .i64 x1, .slice (some ⟨b2, o2, none⟩) ln x3] 31))
      clear hX ck
      by_cases hmz : n = -9999
      · subst hmz
        have hE := HJ.out rfl
        rw [← hE] at HO1
        have HO2 := Lib.hid HO1.out
        clear HO1 hE HJ HM
        go_wp2
        go_roundw
        case rel => exact ⟨j + 1, by omega, by go_num, HO2.out, HB1.out⟩
        case measure => simp [intOf]; omega
      · have hm2 : (n != -9999) = true := by rw [bne_iff_ne]; exact hmz
        have HIN := Lib.hid (HM.out hmz)
        clear HJ HM
        obtain ⟨m, hm⟩ : ∃ m, (colK es i j).length = m := ⟨_, rfl⟩
        rw [hm] at HO1 hln
        have HMM := Lib.hid hm
        have HSB := Lib.hid HB1.out.size
        clear hm
        go_wp2_with (at_builtin; refine wpList_append_own _ rfl _ _ 29 rfl w.heap.size 3 i0 (.int .i64 0) 1 8 Try.underlying29 hi0' hz0 hz1 hz2 rfl (by decide) u5 m (iv (colK es i j)) rfl (HO1.out.alloc _) ⟨wr.heap.size + 1, 0, none⟩ 1 1 [.int .i64 n] rfl rfl (by have h := cell_one_new (wr.alloc (.cells #[.int .i64 x0, .int .i64 x1, .slice (some ⟨b2, o2, none⟩) ln x3] 31)) (.int .i64 n) 3; rw [World.size_alloc] at h; exact h) (by simp [Value.oneCell']) (by unfold maxLen; omega) (by omega) (by have := HSB.out; simp at this ⊢; omega) ?_; intro v' w1 hown' hgrow _; have HO3 := Lib.hid hown'; have HG1 := Lib.hid hgrow; clear hown' hgrow)
        go_roundw
        case rel => exact ⟨j + 1, by omega, by go_num, by rw [HIN.out, iv_snoc, List.length_append, HMM.out]; exact HO3.out,
          (HB1.out.alloc HB1.out.size _).grown HG1.out (by have := HB1.out.size; simp at this ⊢; omega) (fun k hk => (HO1.out.lt k hk).1)⟩
        case measure => simp [intOf]; omega
    · obtain rfl : j = es.length := by omega
      obtain ⟨a', c', hv, ho⟩ := ownI_of HO.out rfl
      have HO2 := Lib.hid ho
      have HC := Lib.hid (colK_all es i)
      clear ho HO
      rw [HC.out] at HO2 hv
      generalize colV (plains es) i = l at *
      rw [hv]
      clear hv
      go_wp2
      go_ret
      exact ⟨a', c', rfl, HO2.out, HB.out⟩
end Go.Proofs.Ytpmfgghiiocccaa
