/- The program's Combine. -/
import Derived.Test.YtdkffljnfemngabDoorAlgImpl
namespace Go.Proofs.YtdkffljnfemngabDoor
open Go.RowKit
set_option linter.unusedVariables false
set_option linter.unusedSimpArgs false
theorem ent_op1 : Entered 95 := enters_of Tryd.func95 (by kernel_rfl) rfl
theorem ent_op2 : Entered 96 := enters_of Tryd.func96 (by kernel_rfl) rfl
theorem ent_op3 : Entered 97 := enters_of Tryd.func97 (by kernel_rfl) rfl
theorem ent_op4 : Entered 98 := enters_of Tryd.func98 (by kernel_rfl) rfl
/-- ruleOf's answer: a rule -/
def RuleRet (op : Int) (w : World) (e : Ending) (w' : World) : Prop := ∃ g, Entered g ∧ (∀ W, RuleAt g #[] (opF op) W) ∧ e = .returned (.tuple #[.func (.func g) #[] #[], .bool true]) ∧ w = w'
set_option maxHeartbeats 1000000 in
theorem ruleOf_yes (op : Int) (w : World) (h : opB op = true) : Calls Tryd.prog 87 #[.int .i64 op] w (RuleRet op w) := by
  unfold opB at h
  simp only [Bool.and_eq_true, decide_eq_true_eq] at h
  obtain ⟨h1, h2⟩ := h
  rcases (by omega : op = 1 ∨ op = 2 ∨ op = 3 ∨ op = 4) with rfl | rfl | rfl | rfl
  · clear h1 h2
    go_enter Tryd.func87, Tryd.ntmps87
    go_wp2
    go_ret2
    exact ⟨_, ent_op1, add_rule, rfl, rfl⟩
  · clear h1 h2
    go_enter Tryd.func87, Tryd.ntmps87
    go_wp2
    go_ret2
    exact ⟨_, ent_op2, sub_rule, rfl, rfl⟩
  · clear h1 h2
    go_enter Tryd.func87, Tryd.ntmps87
    go_wp2
    go_ret2
    exact ⟨_, ent_op3, least_rule, rfl, rfl⟩
  · clear h1 h2
    go_enter Tryd.func87, Tryd.ntmps87
    go_wp2
    go_ret2
    exact ⟨_, ent_op4, most_rule, rfl, rfl⟩
set_option maxHeartbeats 1000000 in
theorem ruleOf_no (op : Int) (w : World) (h : opB op = false) : Calls Tryd.prog 87 #[.int .i64 op] w fun e w' => e = .returned (.tuple #[.nilFunc, .bool false]) ∧ w = w' := by
  unfold opB at h
  rw [Bool.and_eq_false_iff, decide_eq_false_iff_not, decide_eq_false_iff_not] at h
  have e1 : (op == 1) = false := by rw [beq_eq_false_iff_ne]; omega
  have e2 : (op == 2) = false := by rw [beq_eq_false_iff_ne]; omega
  have e3 : (op == 3) = false := by rw [beq_eq_false_iff_ne]; omega
  have e4 : (op == 4) = false := by rw [beq_eq_false_iff_ne]; omega
  clear h
  go_enter Tryd.func87, Tryd.ntmps87
  go_wp2
  go_ret2
  exact ⟨rfl, rfl⟩
set_option maxRecDepth 100000 in
set_option maxHeartbeats 4000000 in
theorem implCombine_any (op wa ha : Int) (aa : Option Addr) (la : List Int) (ca : Nat) (wb hb : Int) (ab : Option Addr) (lb : List Int) (cb : Nat) (w : World) (h1 : Ints .i64 w w.heap.size aa la) (h2 : Ints .i64 w w.heap.size ab lb) (n1 : la.length ≤ 1048576) (n2 : lb.length ≤ 1048576) :
    Calls Tryd.prog 74 #[.int .i64 op, .agg #[.int .i64 wa, .int .i64 ha, .slice aa la.length ca], .agg #[.int .i64 wb, .int .i64 hb, .slice ab lb.length cb]] w (FRet (combineR op wa ha la wb hb lb) w) := by
  have F0 := Lib.hid (Fr2.new (wd0 := wa) (hg0 := ha) (c0 := ca) (wd1 := wb) (hg1 := hb) (c1 := cb) h1 h2)
  cases ho : opB op with
  | false =>
    have e : combineR op wa ha la wb hb lb = none := by unfold combineR; rw [if_neg (by rw [ho]; simp)]
    rw [e]
    have HO := Lib.hid (fun W => ruleOf_no op W ho)
    obtain ⟨r0, r1, r2⟩ := F0.out.r.cells
    have g0 := F0.out.r.frozen 0
    have g1 := F0.out.r.frozen 1
    have g2 := F0.out.r.frozen 2
    have B1 := Lib.hid F0.out.b
    clear h1 h2 ho e F0
    go_enter Tryd.func74, Tryd.ntmps74
    go_wp2_with (go_at_call 87; refine (HO.out _).mono ?_; rintro e w1 ⟨rfl, rfl⟩)
    refine bodyPost_ret (v := .tuple #[.agg #[.int .i64 0, .int .i64 0, .slice none 0 0], .bool false]) (by simp [results, Tryd.results74, go_sem, r0, r1, r2]) rfl ⟨none, 0, rfl, OwnI.none_, ?_⟩
    first | exact B1.out | exact ((B1.out.setCell (by simp <;> omega) _).setCell (by simp <;> omega) _).setCell (by simp <;> omega) _
  | true =>
    have e : combineR op wa ha la wb hb lb = combR (ofV (opF op)) wa ha la wb hb lb := by unfold combineR; rw [if_pos ho]
    rw [e]
    have HO := Lib.hid (fun W => ruleOf_yes op W ho)
    have HCC := Lib.hid (fun g' cap W i1 i2 e1 (e2 : RuleAt g' cap (ofV (opF op)) W) => combCells_any wa ha aa la ca wb hb ab lb cb g' cap (ofV (opF op)) W i1 i2 n1 n2 e1 e2)
    have HRU := Lib.hid (fun (W : World) B g (hB : B < W.heap.size) (hc : W.cell? ⟨B, 0, none⟩ = some (.func (.func g) #[] #[])) (eg : Entered g) (hr : ∀ W, RuleAt g #[] (opF op) W) => ofV_rule (r := opF op) hB hc eg (hr W).vals)
    unfold RuleRet at HO
    clear h1 h2 ho e
    generalize ofV (opF op) = rule at *
    generalize opF op = rule0 at *
    generalize combR rule wa ha la wb hb lb = rr at *
    obtain ⟨rw', hrW⟩ : ∃ x, rW rr = x := ⟨_, rfl⟩
    obtain ⟨rh, hrH⟩ : ∃ x, rH rr = x := ⟨_, rfl⟩
    obtain ⟨rl, hrL⟩ : ∃ x, rL rr = x := ⟨_, rfl⟩
    obtain ⟨rb, hrB⟩ : ∃ x, rB rr = x := ⟨_, rfl⟩
    unfold FRet at HCC ⊢
    rw [hrW, hrH, hrL, hrB] at HCC ⊢
    clear hrW hrH hrL hrB
    obtain ⟨W, hW⟩ : ∃ W, ((w.alloc (.cells #[.int .i64 wa, .int .i64 ha, .slice aa la.length ca] 41)).alloc (.cells #[.int .i64 wb, .int .i64 hb, .slice ab lb.length cb] 41)).alloc (.cells #[.int .i64 0, .int .i64 0, .slice none 0 0] 41) = W := ⟨_, rfl⟩
    rw [hW] at F0
    have zd : W.drew.heap.size = w.heap.size + 1 + 1 + 1 := by show W.heap.size = _; rw [← hW]; simp
    have Fd := Lib.hid F0.out.drew
    have ZD := Lib.hid zd
    have HWW := Lib.hid hW
    obtain ⟨k0, k1, k2⟩ := F0.out.k0.cells
    obtain ⟨l0, l1, l2⟩ := F0.out.k1.cells
    clear zd hW
    go_enter Tryd.func74, Tryd.ntmps74
    go_wp2_with fail
    rw [HWW.out]
    refine (HO.out _).mono ?_
    rintro e w1 ⟨g, eg, hr, rfl, rfl⟩
    have EG := Lib.hid eg
    have HR := Lib.hid hr
    clear eg hr
    go_wp2_with fail
    go_region_held3 (fun w' => (w'.cell? ⟨w.heap.size, 0, none⟩ = some (.int .i64 wa) ∧ w'.cell? ⟨w.heap.size, 1, none⟩ = some (.int .i64 ha) ∧ w'.cell? ⟨w.heap.size, 2, none⟩ = some (.slice aa la.length ca)) ∧ (w'.cell? ⟨w.heap.size + 1, 0, none⟩ = some (.int .i64 wb) ∧ w'.cell? ⟨w.heap.size + 1, 1, none⟩ = some (.int .i64 hb) ∧ w'.cell? ⟨w.heap.size + 1, 2, none⟩ = some (.slice ab lb.length cb)))
      (first | exact ⟨(((F3.out.k0.other (p := ⟨w.heap.size + 1 + 1, 0, none⟩) (by show _ ≠ w.heap.size + 1 + 1; omega) _).other (p := ⟨w.heap.size + 1 + 1, 1, none⟩) (by show _ ≠ w.heap.size + 1 + 1; omega) _).other (p := ⟨w.heap.size + 1 + 1, 2, none⟩) (by show _ ≠ w.heap.size + 1 + 1; omega) _).cells, (((F3.out.k1.other (p := ⟨w.heap.size + 1 + 1, 0, none⟩) (by show _ ≠ w.heap.size + 1 + 1; omega) _).other (p := ⟨w.heap.size + 1 + 1, 1, none⟩) (by show _ ≠ w.heap.size + 1 + 1; omega) _).other (p := ⟨w.heap.size + 1 + 1, 2, none⟩) (by show _ ≠ w.heap.size + 1 + 1; omega) _).cells⟩ | exact ⟨F3.out.k0.cells, F3.out.k1.cells⟩ | exact ⟨F2.out.k0.cells, F2.out.k1.cells⟩ | go_keep)
      (first
        | (go_at_call 89; refine (ofValues_any _ _ _).mono ?_; rintro e w2 ⟨rfl, hw2⟩; have b2 : Below W.drew.heap.size W.drew w2 := by rw [hw2]; exact below_all _ _
           have z2 : w2.heap.size = W.drew.heap.size + 1 := by rw [hw2]; simp
           have c2 : w2.cell? ⟨W.drew.heap.size, 0, none⟩ = some (.func (.func g) #[] #[]) := by rw [hw2, World.cell?_alloc_at _ _ _ _ rfl]; rfl
           have F2 := Lib.hid (Fd.out.step b2)
           have RU := Lib.hid (HRU.out w2 W.drew.heap.size g (by omega) c2 EG.out HR.out); have Z2 := Lib.hid z2; clear hw2 b2 z2 c2)
        | (go_at_call 88; refine (HCC.out _ _ _ F2.out.i0 F2.out.i1 ent_ofV RU.out).mono ?_; rintro e w3 ⟨a3, c3, rfl, o3, b3⟩; have O3 := Lib.hid (o3.more (C := w.heap.size + 3) (by have := Z2.out; have := ZD.out; omega)); have F3 := Lib.hid (F2.out.step b3); have B3 := Lib.hid F3.out.b; obtain ⟨r0, r1, r2⟩ := F3.out.r.cells; have g0 := F3.out.r.frozen 0; have g1 := F3.out.r.frozen 1; have g2 := F3.out.r.frozen 2; clear o3 b3))
    rename_i hHeld
    clear hHeld
    go_wp2
    refine bodyPost_ret (v := .tuple #[.agg #[.int .i64 rw', .int .i64 rh, .slice a3 rl.length c3], .bool rb]) (by simp [results, Tryd.results74, go_sem, r0, r1, r2]) rfl ⟨a3, c3, rfl, ?_, ?_⟩
    · exact (ownI_set (ownI_set (ownI_set O3.out (by show w.heap.size + 1 + 1 < _; omega) _) (by show w.heap.size + 1 + 1 < _; omega) _) (by show w.heap.size + 1 + 1 < _; omega) _).more (by omega)
    · exact ((B3.out.setCell (by simp <;> omega) _).setCell (by simp <;> omega) _).setCell (by simp <;> omega) _
end Go.Proofs.YtdkffljnfemngabDoor
