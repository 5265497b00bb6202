/- The nearest member: mathematics; the program's sumOfGaps. -/
import Derived.Test.YtpmfgghiiocccaaEnMath
import Derived.Test.YtpmfgghiiocccaaBox
import Derived.IntWalk
namespace Go.Proofs.Ytpmfgghiiocccaa
open Go.RowKit
set_option linter.unusedVariables false
set_option linter.unusedSimpArgs false
theorem near_first (P : List Fv) (b : List Int) : nearI P b 1 = 0 ∧ nearS P b 1 = gapK (P.getD 0 (0, 0, [])).2.2 b b.length := by
  refine ⟨nearI_one P b, ?_⟩
  unfold nearS
  rw [nearI_one]
theorem near_yes {P : List Fv} {b : List Int} {j : Nat} (h : gapK (P.getD j (0, 0, [])).2.2 b b.length < nearS P b j) : nearI P b (j + 1) = j ∧ nearS P b (j + 1) = gapK (P.getD j (0, 0, [])).2.2 b b.length := by
  have e : nearI P b (j + 1) = j := by unfold nearI; exact if_pos h
  exact ⟨e, by unfold nearS; rw [e]⟩
theorem near_no {P : List Fv} {b : List Int} {j : Nat} (h : ¬ gapK (P.getD j (0, 0, [])).2.2 b b.length < nearS P b j) : nearI P b (j + 1) = nearI P b j ∧ nearS P b (j + 1) = nearS P b j := by
  have e : nearI P b (j + 1) = nearI P b j := by
    show (if gapK (P.getD j (0, 0, [])).2.2 b b.length < gapK (P.getD (nearI P b j) (0, 0, [])).2.2 b b.length then j else nearI P b j) = _
    exact if_neg h
  exact ⟨e, by unfold nearS; rw [e]⟩
theorem plains_getD {es : List FE} {j : Nat} (h : j < es.length) : ((plains es).getD j (0, 0, [])).2.2 = es[j].l := by
  have h2 : j < (plains es).length := by rw [plains_len]; exact h
  have e : (plains es).getD j (0, 0, []) = (plains es)[j] := by simp [List.getD, h2]
  rw [e, plains_get es j h2 h]
theorem nearS_bd {es : List FE} {W H : Nat} {b : List Int} (hok : OkE es W H) (hb : ∀ z ∈ b, -9999 ≤ z ∧ z ≤ 9000) (hn : b.length ≤ 64) (j : Nat) : 0 ≤ nearS (plains es) b j ∧ nearS (plains es) b j ≤ 1280000 := by
  unfold nearS
  have key : ∀ i, 0 ≤ gapK ((plains es).getD i (0, 0, [])).2.2 b b.length ∧ gapK ((plains es).getD i (0, 0, [])).2.2 b b.length ≤ 1280000 := by
    intro i
    have h1 : ∀ z ∈ ((plains es).getD i (0, 0, [])).2.2, -9999 ≤ z ∧ z ≤ 9000 := by
      rcases Nat.lt_or_ge i es.length with hi | hi
      · rw [plains_getD hi]; exact good_bd (hok.e i hi).2.2.2
      · have e : (plains es).getD i (0, 0, []) = (0, 0, []) := by simp [List.getD, List.getElem?_eq_none (show (plains es).length ≤ i by rw [plains_len]; exact hi)]
        rw [e]; intro z hz; simp at hz
    have := gapK_bd h1 hb b.length
    omega
  exact key _
theorem gapO_no {x y : Int} (h : x = -9999 ∨ y = -9999) : gapO x y = 0 := if_pos h
theorem gapO_yes {x y : Int} (h1 : ¬ x = -9999) (h2 : ¬ y = -9999) : gapO x y = max (x - y) (y - x) := if_neg (by omega)
set_option maxRecDepth 100000 in
set_option maxHeartbeats 4000000 in
theorem sumGaps_is (wa ha : Int) (aa : Option Addr) (la : List Int) (ca : Nat) (wb hb : Int) (ab : Option Addr) (lb : List Int) (cb : Nat) (w : World) (h1 : Ints .i64 w w.heap.size aa la) (h2 : Ints .i64 w w.heap.size ab lb) (hl : la.length = lb.length) (hn : lb.length ≤ 64) (ba : ∀ z ∈ la, -9999 ≤ z ∧ z ≤ 9000) (bb : ∀ z ∈ lb, -9999 ≤ z ∧ z ≤ 9000) :
    Calls Try.prog 68 #[.agg #[.int .i64 wa, .int .i64 ha, .slice aa la.length ca], .agg #[.int .i64 wb, .int .i64 hb, .slice ab lb.length cb]] w fun e w' => e = .returned (.int .i64 (gapK la lb lb.length)) ∧ Below w.heap.size w w' := by
  have I1 := Lib.hid (ints_alloc (ints_alloc h1 (.cells #[.int .i64 wa, .int .i64 ha, .slice aa la.length ca] 31)) (.cells #[.int .i64 wb, .int .i64 hb, .slice ab lb.length cb] 31))
  have I2 := Lib.hid (ints_alloc (ints_alloc h2 (.cells #[.int .i64 wa, .int .i64 ha, .slice aa la.length ca] 31)) (.cells #[.int .i64 wb, .int .i64 hb, .slice ab lb.length cb] 31))
  have B0 := Lib.hid ((below_all w (.cells #[.int .i64 wa, .int .i64 ha, .slice aa la.length ca] 31)).alloc (by simp) (.cells #[.int .i64 wb, .int .i64 hb, .slice ab lb.length cb] 31))
  have X1 := (Box.new w 31 (.int .i64 wa) (.int .i64 ha) (.slice aa la.length ca)).alloc (.cells #[.int .i64 wb, .int .i64 hb, .slice ab lb.length cb] 31)
  have X2 := Box.new (w.alloc (.cells #[.int .i64 wa, .int .i64 ha, .slice aa la.length ca] 31)) 31 (.int .i64 wb) (.int .i64 hb) (.slice ab lb.length cb)
  rw [World.size_alloc] at X2
  have HBD := Lib.hid (gapK_bd ba bb)
  have HST := Lib.hid (gapK_step la lb)
  have HG0 := Lib.hid (gapK_zero la lb)
  have HBA := Lib.hid ba
  have HBB := Lib.hid bb
  obtain ⟨k0, k1, k2⟩ := X1.cells
  obtain ⟨y0, y1, y2⟩ := X2.cells
  have hla : la.length ≤ 64 := by omega
  have HLL := Lib.hid hl
  generalize hG : gapK la lb = G at *
  clear h1 h2 X1 X2 ba bb hl hG
  go_enter Try.func68, Try.ntmps68
  go_wp2
  go_loop [5, 12] (fun s i => ∃ k : Nat, k ≤ la.length ∧ i = .int .i64 k ∧ s = .int .i64 (G k)) (fun _ i => la.length - (intOf i).toNat)
  case atStart => exact ⟨0, Nat.zero_le _, rfl, by rw [HG0.out]⟩
  case round =>
    obtain ⟨k, hk, rfl, rfl⟩ := hrel
    have hgb := HBD.out k
    by_cases hlt : k < la.length
    · have hlb : k < lb.length := by have := HLL.out; omega
      obtain ⟨b1, o1, rfl, hb1, c1⟩ := I1.out.at_ hlt
      obtain ⟨b2, o2, rfl, hb2, c2⟩ := I2.out.at_ hlb
      have hki : (k : Int) < (la.length : Int) := by omega
      have hki2 : (k : Int) < (lb.length : Int) := by omega
      have hk0 : (0 : Int) ≤ (k : Int) := by omega
      have hx := HBA.out _ (List.getElem_mem hlt)
      have hy := HBB.out _ (List.getElem_mem hlb)
      have HS := Lib.hid (HST.out k)
      rw [getD_at hlt, getD_at hlb] at HS
      generalize la[k] = x at *
      generalize lb[k] = y at *
      obtain ⟨x1, x2⟩ := hx
      obtain ⟨y3, y4⟩ := hy
      obtain ⟨s, hs⟩ : ∃ s, G k = s := ⟨_, rfl⟩
      rw [hs] at hgb HS ⊢
      obtain ⟨s1, s2⟩ := hgb
      have s3 : s ≤ 1280000 := by omega
      clear hs
      by_cases hxm : x = -9999
      · have HE := Lib.hid (gapO_no (y := y) (Or.inl hxm))
        subst hxm
        rw [HE.out] at HS
        go_wp2
        go_round
        case rel => exact ⟨k + 1, by omega, by go_num, by rw [HS.out, Int.add_zero]⟩
        case measure => simp [intOf]; omega
      · have n1 : (x != -9999) = true := by rw [bne_iff_ne]; exact hxm
        by_cases hym : y = -9999
        · have HE := Lib.hid (gapO_no (x := x) (Or.inr hym))
          subst hym
          rw [HE.out] at HS
          go_wp2
          go_round
          case rel => exact ⟨k + 1, by omega, by go_num, by rw [HS.out, Int.add_zero]⟩
          case measure => simp [intOf]; omega
        · have n2 : (y != -9999) = true := by rw [bne_iff_ne]; exact hym
          have HE := Lib.hid (gapO_yes hxm hym)
          rw [HE.out] at HS
          have m1 : max (x - y) (y - x) ≤ 20000 := by omega
          have m0 : 0 ≤ max (x - y) (y - x) := by omega
          clear hxm hym
          go_wp2
          go_round
          case rel => exact ⟨k + 1, by omega, by go_num, by rw [HS.out]; congr 1; split <;> omega⟩
          case measure => simp [intOf]; omega
    · have HE := Lib.hid (show G k = G lb.length by rw [show k = lb.length by have := HLL.out; omega])
      have hge : ¬ (k : Int) < (la.length : Int) := by omega
      go_wp2
      go_ret
      exact ⟨by show Ending.returned (.int .i64 (G k)) = _; rw [HE.out], B0.out⟩
end Go.Proofs.Ytpmfgghiiocccaa
