/- The program's ChoosePart. -/
import Derived.Test.YtglpkfkbbjbjjaaPairP
namespace Go.Proofs.Ytglpkfkbbjbjjaa
open Go.RowKit
set_option linter.unusedVariables false
set_option linter.unusedSimpArgs false
theorem chooseC_is (x y : Int) (w : World) : Calls Try.prog 73 #[.int .i64 x, .int .i64 y] w fun e w' => e = .returned (.agg #[.int .i64 x, .int .i64 y]) ∧ Below w.heap.size w w' := by
  go_enter Try.func73, Try.ntmps73
  go_wp2
  refine bodyPost_ret (v := .agg #[.int .i64 x, .int .i64 y]) (by simp [results, Try.results73, go_sem]) rfl ⟨rfl, ?_⟩
  first | exact Below.refl _ _ | exact below_all _ _ | exact ((below_all _ _).setCell (p := ⟨w.heap.size, 0, none⟩) (Nat.le_refl _) _).setCell (p := ⟨w.heap.size, 1, none⟩) (Nat.le_refl _) _
theorem chosen_is (t : Int) (p : Int × Int) (w : World) : Calls Try.prog 76 #[.int .i64 t, .agg #[.int .i64 p.1, .int .i64 p.2]] w fun e w' => e = .returned (.int .i64 (chP t p)) ∧ Below w.heap.size w w' := by
  obtain ⟨x, y⟩ := p
  show Calls Try.prog 76 #[.int .i64 t, .agg #[.int .i64 x, .int .i64 y]] w fun e w' => e = .returned (.int .i64 (chF t x y)) ∧ Below w.heap.size w w'
  by_cases h1 : t = -9999
  · rw [show chF t x y = -9999 from if_pos h1]
    subst h1
    go_enter Try.func76, Try.ntmps76
    go_wp2
    go_ret
    exact ⟨rfl, below_all _ _⟩
  · have e1 : (t == -9999) = false := by rw [beq_eq_false_iff_ne]; exact h1
    by_cases h2 : t = 0
    · rw [show chF t x y = y from (if_neg h1).trans (if_pos h2)]
      subst h2
      clear h1 e1
      go_enter Try.func76, Try.ntmps76
      go_wp2
      go_ret
      exact ⟨rfl, below_all _ _⟩
    · have e2 : (t == 0) = false := by rw [beq_eq_false_iff_ne]; exact h2
      rw [show chF t x y = x from (if_neg h1).trans (if_neg h2)]
      clear h1 h2
      go_enter Try.func76, Try.ntmps76
      go_wp2
      go_ret
      exact ⟨rfl, below_all _ _⟩
theorem ent_chc : Entered 73 := enters_of Try.func73 (by kernel_rfl) rfl
theorem ent_chs : Entered 76 := enters_of Try.func76 (by kernel_rfl) rfl
def three {α : Type} (x y z : α) (j : Nat) : α := if j = 0 then x else if j = 1 then y else z
theorem oneB_three (wt ht : Int) (lt : List Int) (wa ha : Int) (la : List Int) (wb hb : Int) (lb : List Int) : oneB (three wt wa wb) (three ht ha hb) (three lt la lb) 3 = same3 wt ht lt wa ha la wb hb lb := by
  have e0 : likeB (three wt wa wb) (three ht ha hb) (three lt la lb) 0 = goodB wt ht lt := by unfold likeB three; simp
  have e1 : likeB (three wt wa wb) (three ht ha hb) (three lt la lb) 1 = (goodB wa ha la && (decide (wt = wa) && decide (ht = ha))) := by
    unfold likeB three
    have h1 : decide (wa = wt) = decide (wt = wa) := by rw [decide_eq_decide]; omega
    have h2 : decide (ha = ht) = decide (ht = ha) := by rw [decide_eq_decide]; omega
    simp [h1, h2]
  have e2 : likeB (three wt wa wb) (three ht ha hb) (three lt la lb) 2 = (goodB wb hb lb && (decide (wt = wb) && decide (ht = hb))) := by
    unfold likeB three
    have h1 : decide (wb = wt) = decide (wt = wb) := by rw [decide_eq_decide]; omega
    have h2 : decide (hb = ht) = decide (ht = hb) := by rw [decide_eq_decide]; omega
    simp [h1, h2]
  unfold oneB same3 sameB
  rw [show List.range 3 = [0, 1, 2] from rfl]
  simp only [List.all_cons, List.all_nil, Bool.and_true, e0, e1, e2]
  cases goodB wt ht lt <;> cases goodB wa ha la <;> cases goodB wb hb lb <;> simp
theorem fldRow_three {w : World} {wt ht wa ha wb hb : Int} {at_ aa ab : Option Addr} {lt la lb : List Int} {ct ca cb : Nat} (t : TypeId) (h0 : Ints .i64 w w.heap.size at_ lt) (h1 : Ints .i64 w w.heap.size aa la) (h2 : Ints .i64 w w.heap.size ab lb) (n0 : lt.length ≤ 1048576) (n1 : la.length ≤ 1048576) (n2 : lb.length ≤ 1048576) :
    FldRow (w.alloc (.cells #[.int .i64 wt, .int .i64 ht, .slice at_ lt.length ct, .int .i64 wa, .int .i64 ha, .slice aa la.length ca, .int .i64 wb, .int .i64 hb, .slice ab lb.length cb] t)) w.heap.size 3 (three wt wa wb) (three ht ha hb) (three at_ aa ab) (three lt la lb) (three ct ca cb) := by
  have hn := heap_alloc_new w (.cells #[.int .i64 wt, .int .i64 ht, .slice at_ lt.length ct, .int .i64 wa, .int .i64 ha, .slice aa la.length ca, .int .i64 wb, .int .i64 hb, .slice ab lb.length cb] t)
  have i0 := ints_alloc h0 (.cells #[.int .i64 wt, .int .i64 ht, .slice at_ lt.length ct, .int .i64 wa, .int .i64 ha, .slice aa la.length ca, .int .i64 wb, .int .i64 hb, .slice ab lb.length cb] t)
  have i1 := ints_alloc h1 (.cells #[.int .i64 wt, .int .i64 ht, .slice at_ lt.length ct, .int .i64 wa, .int .i64 ha, .slice aa la.length ca, .int .i64 wb, .int .i64 hb, .slice ab lb.length cb] t)
  have i2 := ints_alloc h2 (.cells #[.int .i64 wt, .int .i64 ht, .slice at_ lt.length ct, .int .i64 wa, .int .i64 ha, .slice aa la.length ca, .int .i64 wb, .int .i64 hb, .slice ab lb.length cb] t)
  have hs : w.heap.size < (w.alloc (.cells #[.int .i64 wt, .int .i64 ht, .slice at_ lt.length ct, .int .i64 wa, .int .i64 ha, .slice aa la.length ca, .int .i64 wb, .int .i64 hb, .slice ab lb.length cb] t)).heap.size := by simp
  generalize w.alloc (.cells #[.int .i64 wt, .int .i64 ht, .slice at_ lt.length ct, .int .i64 wa, .int .i64 ha, .slice aa la.length ca, .int .i64 wb, .int .i64 hb, .slice ab lb.length cb] t) = W at hn i0 i1 i2 hs ⊢
  generalize w.heap.size = g at hn hs ⊢
  refine ⟨hs, fun j hj => ?_⟩
  have key : ∀ o, W.cell? ⟨g, o, none⟩ = #[Value.int .i64 wt, .int .i64 ht, .slice at_ lt.length ct, .int .i64 wa, .int .i64 ha, .slice aa la.length ca, .int .i64 wb, .int .i64 hb, .slice ab lb.length cb][o]? := fun o => by simp [World.cell?, hn]
  rcases (by omega : j = 0 ∨ j = 1 ∨ j = 2) with rfl | rfl | rfl
  · exact ⟨key 0, key 1, key 2, i0, n0⟩
  · exact ⟨key 3, key 4, key 5, i1, n1⟩
  · exact ⟨key 6, key 7, key 8, i2, n2⟩
set_option maxRecDepth 100000 in
set_option maxHeartbeats 4000000 in
theorem implChoose_any (wt ht : Int) (at_ : Option Addr) (lt : List Int) (ct : Nat) (wa ha : Int) (aa : Option Addr) (la : List Int) (ca : Nat) (wb hb : Int) (ab : Option Addr) (lb : List Int) (cb : Nat) (w : World) (h0 : Ints .i64 w w.heap.size at_ lt) (h1 : Ints .i64 w w.heap.size aa la) (h2 : Ints .i64 w w.heap.size ab lb) (n0 : lt.length ≤ 1048576) (n1 : la.length ≤ 1048576) (n2 : lb.length ≤ 1048576) :
    Calls Try.prog 30 #[.agg #[.int .i64 wt, .int .i64 ht, .slice at_ lt.length ct], .agg #[.int .i64 wa, .int .i64 ha, .slice aa la.length ca], .agg #[.int .i64 wb, .int .i64 hb, .slice ab lb.length cb]] w (FRet (chooseR wt ht lt wa ha la wb hb lb) w) := by
  have F0 := Lib.hid (Fr3.new (wd0 := wt) (hg0 := ht) (c0 := ct) (wd1 := wa) (hg1 := ha) (c1 := ca) (wd2 := wb) (hg2 := hb) (c2 := cb) h0 h1 h2)
  cases hs : same3 wt ht lt wa ha la wb hb lb with
  | false =>
    rw [chooseR_no hs]
    have hS := oneShape_is _ 3 3 _ _ _ _ _ false _ (fldRow_three (wt := wt) (ht := ht) (wa := wa) (ha := ha) (wb := wb) (hb := hb) (ct := ct) (ca := ca) (cb := cb) 26 F0.out.i0 F0.out.i1 F0.out.i2 n0 n1 n2) (by omega) (by omega) ((oneB_three wt ht lt wa ha la wb hb lb).trans hs)
    simp only [World.size_alloc] at hS
    have HS := Lib.hid hS
    clear hS hs h0 h1 h2
    go_enter Try.func30, Try.ntmps30
    go_wp2_with fail
    refine HS.out.mono ?_
    rintro e w1 ⟨rfl, b1⟩
    have F1 := Lib.hid ((F0.out.step (below_all _ _)).step (by simpa using b1))
    obtain ⟨r0, r1, r2⟩ := F1.out.r.cells
    have g0 := F1.out.r.frozen 0
    have g1 := F1.out.r.frozen 1
    have g2 := F1.out.r.frozen 2
    clear b1 F0
    go_wp2
    refine bodyPost_ret (v := .tuple #[.agg #[.int .i64 0, .int .i64 0, .slice none 0 0], .bool false]) (by simp [results, Try.results30, go_sem, r0, r1, r2]) rfl ⟨none, 0, rfl, OwnI.none_, ?_⟩
    exact ((F1.out.b.setCell (by show w.heap.size ≤ w.heap.size + 1 + 1 + 1; omega) _).setCell (by show w.heap.size ≤ w.heap.size + 1 + 1 + 1; omega) _).setCell (by show w.heap.size ≤ w.heap.size + 1 + 1 + 1; omega) _
  | true =>
    rw [chooseR_yes hs]
    have hS := oneShape_is _ 3 3 _ _ _ _ _ true _ (fldRow_three (wt := wt) (ht := ht) (wa := wa) (ha := ha) (wb := wb) (hb := hb) (ct := ct) (ca := ca) (cb := cb) 26 F0.out.i0 F0.out.i1 F0.out.i2 n0 n1 n2) (by omega) (by omega) ((oneB_three wt ht lt wa ha la wb hb lb).trans hs)
    simp only [World.size_alloc] at hS
    have HS := Lib.hid hS
    unfold same3 at hs
    simp only [Bool.and_eq_true] at hs
    obtain ⟨s1, s2⟩ := hs
    have hle : la.length = lb.length := (same_len s1).symm.trans (same_len s2)
    obtain ⟨gt, ga, e1, e2⟩ := same_iff.1 s1
    obtain ⟨-, gb, e3, e4⟩ := same_iff.1 s2
    subst e1 e2 e3 e4
    obtain ⟨hzl, hzg⟩ := choose_good gt ga gb
    have HP := Lib.hid (fun W i1 i2 => pairP_any aa ab la lb ca cb 73 W i1 i2 hle n1 ent_chc (fun W x y => chooseC_is x y W))
    have HQ := Lib.hid (fun gp W i0 hb => pairQ_any at_ gp lt (la.zip lb) ct (la.zip lb).length 76 chP W i0 hb hzl.symm n0 ent_chs (fun W x p => chosen_is x p W))
    have HZL := Lib.hid (zipR_len chP hzl.symm)
    have HW := Lib.hid (fun a2 c2 W h => withCells_yes wt ht at_ lt.length ct a2 (zipR chP lt (la.zip lb)) c2 W h (by rw [HZL.out]; exact n0) hzg)
    clear hS h0 h1 h2 s1 s2 hle gt ga gb hzl hzg HZL
    generalize zipR chP lt (la.zip lb) = L at *
    generalize la.zip lb = Z at *
    go_enter Try.func30, Try.ntmps30
    go_wp2_with fail
    refine HS.out.mono ?_
    rintro e w1 ⟨rfl, b1⟩
    have F1 := Lib.hid ((F0.out.step (below_all _ _)).step (by simpa using b1))
    obtain ⟨l0, l1, l2⟩ := F1.out.k1.cells
    obtain ⟨m0, m1, m2⟩ := F1.out.k2.cells
    clear b1 F0 HS
    go_wp2_with fail
    refine (HP.out _ F1.out.i1 F1.out.i2).mono ?_
    rintro e w4 ⟨gp, hgp, rfl, hrow, b4⟩
    have F4 := Lib.hid (F1.out.step b4)
    have HROW := Lib.hid hrow
    have hglt := hrow.lt
    obtain ⟨k0, k1, k2⟩ := F4.out.k0.cells
    clear b4 F1 hrow l0 l1 l2 m0 m1 m2 HP
    have F1d := Lib.hid F4.out.drew
    have HROWd : Hid (w4.drew.rowIs gp 86 (Z.length * 2) (madeP Z Z.length)) := Lib.hid HROW.out
    have zd : w.heap.size + 4 ≤ w4.drew.heap.size := by have := F4.out.r.lt; show _ ≤ w4.heap.size; omega
    clear F4
    go_wp2_with fail
    go_region_held3 (fun w' => w'.cell? ⟨w.heap.size, 0, none⟩ = some (.int .i64 wt) ∧ w'.cell? ⟨w.heap.size, 1, none⟩ = some (.int .i64 ht) ∧ w'.cell? ⟨w.heap.size, 2, none⟩ = some (.slice at_ lt.length ct))
      (first | exact (((F3.out.k0.other (p := ⟨w.heap.size + 1 + 1 + 1, 0, none⟩) (by show _ ≠ w.heap.size + 1 + 1 + 1; omega) _).other (p := ⟨w.heap.size + 1 + 1 + 1, 1, none⟩) (by show _ ≠ w.heap.size + 1 + 1 + 1; omega) _).other (p := ⟨w.heap.size + 1 + 1 + 1, 2, none⟩) (by show _ ≠ w.heap.size + 1 + 1 + 1; omega) _).cells | exact F3.out.k0.cells | exact F2.out.k0.cells | go_keep)
      (first
        | (go_at_call 75; refine (HQ.out gp _ F1d.out.i0 HROWd.out).mono ?_; rintro e w2 ⟨a2, c2, rfl, o2, b2⟩; have z2 := b2.size; have O2 := Lib.hid o2; have F2 := Lib.hid (F1d.out.step b2); clear o2 b2)
        | (go_at_call 74; refine (HW.out a2 c2 _ O2.out.ints).mono ?_; rintro e w3 ⟨rfl, b3⟩; have z3 := b3.size; have O3 := Lib.hid ((O2.out.below b3).more (C := w.heap.size + 4) (by omega)); have F3 := Lib.hid (F2.out.step b3); obtain ⟨r0, r1, r2⟩ := F3.out.r.cells; have g0 := F3.out.r.frozen 0; have g1 := F3.out.r.frozen 1; have g2 := F3.out.r.frozen 2; clear b3))
    rename_i hHeld
    clear hHeld
    go_wp2
    refine bodyPost_ret (v := .tuple #[.agg #[.int .i64 wt, .int .i64 ht, .slice a2 L.length c2], .bool true]) (by simp [results, Try.results30, go_sem, r0, r1, r2]) rfl ⟨a2, c2, rfl, ?_, ?_⟩
    · exact (ownI_set (ownI_set (ownI_set O3.out (by show w.heap.size + 1 + 1 + 1 < _; omega) _) (by show w.heap.size + 1 + 1 + 1 < _; omega) _) (by show w.heap.size + 1 + 1 + 1 < _; omega) _).more (by omega)
    · exact ((F3.out.b.setCell (by show w.heap.size ≤ w.heap.size + 1 + 1 + 1; omega) _).setCell (by show w.heap.size ≤ w.heap.size + 1 + 1 + 1; omega) _).setCell (by show w.heap.size ≤ w.heap.size + 1 + 1 + 1; omega) _
end Go.Proofs.Ytglpkfkbbjbjjaa
