/- Two fields in one: withCells, combineCells. -/
import Derived.Test.YtdkffljnfemngabDoorPair
import Derived.Test.YtdkffljnfemngabDoorShape
import Derived.Deep.RegionHeld3
namespace Go.Proofs.YtdkffljnfemngabDoor
open Go.RowKit
set_option linter.unusedVariables false
set_option linter.unusedSimpArgs false
def two {α : Type} (x y : α) (j : Nat) : α := if j = 0 then x else y
theorem oneB_two (wa ha : Int) (la : List Int) (wb hb : Int) (lb : List Int) : oneB (two wa wb) (two ha hb) (two la lb) 2 = sameB wa ha la wb hb lb := by
  have e : oneB (two wa wb) (two ha hb) (two la lb) 2 = (likeB (two wa wb) (two ha hb) (two la lb) 0 && likeB (two wa wb) (two ha hb) (two la lb) 1) := by
    unfold oneB
    rw [show List.range 2 = [0, 1] from rfl]
    simp
  have e0 : likeB (two wa wb) (two ha hb) (two la lb) 0 = goodB wa ha la := by unfold likeB two; simp
  have e1 : likeB (two wa wb) (two ha hb) (two la lb) 1 = (goodB wb hb lb && (decide (wa = wb) && decide (ha = hb))) := by
    unfold likeB two
    have h1 : decide (wb = wa) = decide (wa = wb) := by rw [decide_eq_decide]; omega
    have h2 : decide (hb = ha) = decide (ha = hb) := by rw [decide_eq_decide]; omega
    simp [h1, h2]
  rw [e, e0, e1]
  unfold sameB
  rw [Bool.and_assoc]
/-- two fields laid in a row of their own -/
theorem fldRow_two {w : World} {wa ha wb hb : Int} {aa ab : Option Addr} {la lb : List Int} {ca cb : Nat} (t : TypeId) (h1 : Ints .i64 w w.heap.size aa la) (h2 : Ints .i64 w w.heap.size ab lb) (n1 : la.length ≤ 1048576) (n2 : lb.length ≤ 1048576) :
    FldRow (w.alloc (.cells #[.int .i64 wa, .int .i64 ha, .slice aa la.length ca, .int .i64 wb, .int .i64 hb, .slice ab lb.length cb] t)) w.heap.size 2 (two wa wb) (two ha hb) (two aa ab) (two la lb) (two ca cb) := by
  have hn := heap_alloc_new w (.cells #[.int .i64 wa, .int .i64 ha, .slice aa la.length ca, .int .i64 wb, .int .i64 hb, .slice ab lb.length cb] t)
  have i1 := ints_alloc h1 (.cells #[.int .i64 wa, .int .i64 ha, .slice aa la.length ca, .int .i64 wb, .int .i64 hb, .slice ab lb.length cb] t)
  have i2 := ints_alloc h2 (.cells #[.int .i64 wa, .int .i64 ha, .slice aa la.length ca, .int .i64 wb, .int .i64 hb, .slice ab lb.length cb] t)
  have hs : w.heap.size < (w.alloc (.cells #[.int .i64 wa, .int .i64 ha, .slice aa la.length ca, .int .i64 wb, .int .i64 hb, .slice ab lb.length cb] t)).heap.size := by simp
  generalize w.alloc (.cells #[.int .i64 wa, .int .i64 ha, .slice aa la.length ca, .int .i64 wb, .int .i64 hb, .slice ab lb.length cb] t) = W at hn i1 i2 hs ⊢
  generalize w.heap.size = g at hn hs ⊢
  refine ⟨hs, fun j hj => ?_⟩
  have key : ∀ o, W.cell? ⟨g, o, none⟩ = #[Value.int .i64 wa, .int .i64 ha, .slice aa la.length ca, .int .i64 wb, .int .i64 hb, .slice ab lb.length cb][o]? := fun o => by simp [World.cell?, hn]
  rcases (by omega : j = 0 ∨ j = 1) with rfl | rfl
  · exact ⟨key 0, key 1, key 2, i1, n1⟩
  · exact ⟨key 3, key 4, key 5, i2, n2⟩
set_option maxRecDepth 100000 in
set_option maxHeartbeats 2000000 in
theorem withCells_yes (wd hg : Int) (a0 : Option Addr) (n0 c0 : Nat) (a : Option Addr) (l : List Int) (c : Nat) (w : World) (hl : Ints .i64 w w.heap.size a l) (hn : l.length ≤ 1048576) (hg' : goodB wd hg l = true) :
    Calls Tryd.prog 70 #[.agg #[.int .i64 wd, .int .i64 hg, .slice a0 n0 c0], .slice a l.length c] w fun e w' => e = .returned (.tuple #[.agg #[.int .i64 wd, .int .i64 hg, .slice a l.length c], .bool true]) ∧ Below w.heap.size w w' := by
  have HC := Lib.hid (fun W h => implGood_is wd hg a l c _ true W h (Nat.le_refl _) hn hg')
  have I0 := ints_alloc (ints_alloc (ints_alloc hl (.cells #[.int .i64 wd, .int .i64 hg, .slice a0 n0 c0] 41)) (.cells #[.int .i64 0, .int .i64 0, .slice none 0 0] 41)) (.cells #[.int .i64 wd, .int .i64 hg, .slice a l.length c] 41)
  have R0 := ((Box.new (w.alloc (.cells #[.int .i64 wd, .int .i64 hg, .slice a0 n0 c0] 41)) 41 (.int .i64 0) (.int .i64 0) (.slice none 0 0)).alloc (.cells #[.int .i64 wd, .int .i64 hg, .slice a l.length c] 41))
  have F0 := Box.new ((w.alloc (.cells #[.int .i64 wd, .int .i64 hg, .slice a0 n0 c0] 41)).alloc (.cells #[.int .i64 0, .int .i64 0, .slice none 0 0] 41)) 41 (.int .i64 wd) (.int .i64 hg) (.slice a l.length c)
  simp only [World.size_alloc] at R0 F0
  have HI := Lib.hid I0
  have HR := Lib.hid R0
  have HF := Lib.hid F0
  have b4 : ∀ o1 o2 o3, Below w.heap.size w (((w.alloc o1).alloc o2).alloc o3) := fun o1 o2 o3 => (((Below.refl _ _).alloc (Nat.le_refl _) _).alloc (by simp) _).alloc (by simp; omega) _
  have HB := Lib.hid (b4 (.cells #[.int .i64 wd, .int .i64 hg, .slice a0 n0 c0] 41) (.cells #[.int .i64 0, .int .i64 0, .slice none 0 0] 41) (.cells #[.int .i64 wd, .int .i64 hg, .slice a l.length c] 41))
  clear hl hg' I0 R0 F0 b4
  go_enter Tryd.func70, Tryd.ntmps70
  go_wp2_with fail
  refine (HC.out _ HI.out).mono ?_
  rintro e w1 ⟨rfl, b1⟩
  have R1 := HR.out.below b1
  have F1 := HF.out.below b1
  have B1 := Lib.hid (below_then HB.out b1)
  obtain ⟨r0, r1, r2⟩ := R1.cells
  obtain ⟨f0, f1, f2⟩ := F1.cells
  have g0 := R1.frozen 0
  have g1 := R1.frozen 1
  have g2 := R1.frozen 2
  clear b1 R1 F1 HI HR HF HB
  go_wp2
  refine bodyPost_ret (v := .tuple #[.agg #[.int .i64 wd, .int .i64 hg, .slice a l.length c], .bool true]) (by simp [results, Tryd.results70, go_sem, r0, r1, r2]) rfl ⟨rfl, ?_⟩
  exact ((B1.out.setCell (by simp) _).setCell (by simp) _).setCell (by simp) _
set_option maxRecDepth 100000 in
set_option maxHeartbeats 2000000 in
theorem withCells_no (wd hg : Int) (a0 : Option Addr) (n0 c0 : Nat) (a : Option Addr) (l : List Int) (c : Nat) (w : World) (hl : Ints .i64 w w.heap.size a l) (hn : l.length ≤ 1048576) (hg' : goodB wd hg l = false) :
    Calls Tryd.prog 70 #[.agg #[.int .i64 wd, .int .i64 hg, .slice a0 n0 c0], .slice a l.length c] w fun e w' => e = .returned (.tuple #[.agg #[.int .i64 0, .int .i64 0, .slice none 0 0], .bool false]) ∧ Below w.heap.size w w' := by
  have HC := Lib.hid (fun W h => implGood_is wd hg a l c _ false W h (Nat.le_refl _) hn hg')
  have I0 := ints_alloc (ints_alloc (ints_alloc hl (.cells #[.int .i64 wd, .int .i64 hg, .slice a0 n0 c0] 41)) (.cells #[.int .i64 0, .int .i64 0, .slice none 0 0] 41)) (.cells #[.int .i64 wd, .int .i64 hg, .slice a l.length c] 41)
  have R0 := ((Box.new (w.alloc (.cells #[.int .i64 wd, .int .i64 hg, .slice a0 n0 c0] 41)) 41 (.int .i64 0) (.int .i64 0) (.slice none 0 0)).alloc (.cells #[.int .i64 wd, .int .i64 hg, .slice a l.length c] 41))
  have F0 := Box.new ((w.alloc (.cells #[.int .i64 wd, .int .i64 hg, .slice a0 n0 c0] 41)).alloc (.cells #[.int .i64 0, .int .i64 0, .slice none 0 0] 41)) 41 (.int .i64 wd) (.int .i64 hg) (.slice a l.length c)
  simp only [World.size_alloc] at R0 F0
  have HI := Lib.hid I0
  have HR := Lib.hid R0
  have HF := Lib.hid F0
  have b4 : ∀ o1 o2 o3, Below w.heap.size w (((w.alloc o1).alloc o2).alloc o3) := fun o1 o2 o3 => (((Below.refl _ _).alloc (Nat.le_refl _) _).alloc (by simp) _).alloc (by simp; omega) _
  have HB := Lib.hid (b4 (.cells #[.int .i64 wd, .int .i64 hg, .slice a0 n0 c0] 41) (.cells #[.int .i64 0, .int .i64 0, .slice none 0 0] 41) (.cells #[.int .i64 wd, .int .i64 hg, .slice a l.length c] 41))
  clear hl hg' I0 R0 F0 b4
  go_enter Tryd.func70, Tryd.ntmps70
  go_wp2_with fail
  refine (HC.out _ HI.out).mono ?_
  rintro e w1 ⟨rfl, b1⟩
  have R1 := HR.out.below b1
  have F1 := HF.out.below b1
  have B1 := Lib.hid (below_then HB.out b1)
  obtain ⟨r0, r1, r2⟩ := R1.cells
  obtain ⟨f0, f1, f2⟩ := F1.cells
  have g0 := R1.frozen 0
  have g1 := R1.frozen 1
  have g2 := R1.frozen 2
  clear b1 R1 F1 HI HR HF HB
  go_wp2
  refine bodyPost_ret (v := .tuple #[.agg #[.int .i64 0, .int .i64 0, .slice none 0 0], .bool false]) (by simp [results, Tryd.results70, go_sem, r0, r1, r2]) rfl ⟨rfl, ?_⟩
  exact ((B1.out.setCell (by simp) _).setCell (by simp) _).setCell (by simp) _

theorem row_ints {w w1 : World} {a : Option Addr} {l : List Int} (h : Ints .i64 w w.heap.size a l) (b : Below w.heap.size w w1) : Ints .i64 w1 w1.heap.size a l := ints_below h b
set_option maxRecDepth 100000 in
set_option maxHeartbeats 4000000 in
theorem combCells_any (wa ha : Int) (aa : Option Addr) (la : List Int) (ca : Nat) (wb hb : Int) (ab : Option Addr) (lb : List Int) (cb g : Nat) (cap : Array Value) (r : Int → Int → Int) (w : World) (h1 : Ints .i64 w w.heap.size aa la) (h2 : Ints .i64 w w.heap.size ab lb) (n1 : la.length ≤ 1048576) (n2 : lb.length ≤ 1048576)
    (eg : Entered g) (hr : RuleAt g cap r w) :
    Calls Tryd.prog 88 #[.agg #[.int .i64 wa, .int .i64 ha, .slice aa la.length ca], .agg #[.int .i64 wb, .int .i64 hb, .slice ab lb.length cb], .func (.func g) #[] cap] w (FRet (combR r wa ha la wb hb lb) w) := by
  have F0 := Lib.hid (Fr2.new (wd0 := wa) (hg0 := ha) (c0 := ca) (wd1 := wb) (hg1 := hb) (c1 := cb) h1 h2)
  have HE := Lib.hid eg
  have HR := Lib.hid hr
  cases hs : sameB wa ha la wb hb lb with
  | false =>
    rw [combR_no hs]
    have hS := oneShape_is _ 2 2 _ _ _ _ _ false _ (fldRow_two (wa := wa) (ha := ha) (wb := wb) (hb := hb) (ca := ca) (cb := cb) 41 F0.out.i0 F0.out.i1 n1 n2) (by omega) (by omega) ((oneB_two wa ha la wb hb lb).trans hs)
    simp only [World.size_alloc] at hS
    have HS := Lib.hid hS
    clear hS
    clear h1 h2 eg hr hs
    go_enter Tryd.func88, Tryd.ntmps88
    go_wp2_with fail
    refine HS.out.mono ?_
    rintro e w1 ⟨rfl, b1⟩
    have F1 := Lib.hid ((F0.out.step (below_all _ _)).step (by simpa using b1))
    obtain ⟨r0, r1, r2⟩ := F1.out.r.cells
    have g0 := F1.out.r.frozen 0
    have g1 := F1.out.r.frozen 1
    have g2 := F1.out.r.frozen 2
    clear b1 F0
    go_wp2
    refine bodyPost_ret (v := .tuple #[.agg #[.int .i64 0, .int .i64 0, .slice none 0 0], .bool false]) (by simp [results, Tryd.results88, go_sem, r0, r1, r2]) rfl ⟨none, 0, rfl, OwnI.none_, ?_⟩
    exact ((F1.out.b.setCell (by simp <;> omega) _).setCell (by simp <;> omega) _).setCell (by simp <;> omega) _
  | true =>
    rw [combR_yes hs]
    have hS := oneShape_is _ 2 2 _ _ _ _ _ true _ (fldRow_two (wa := wa) (ha := ha) (wb := wb) (hb := hb) (ca := ca) (cb := cb) 41 F0.out.i0 F0.out.i1 n1 n2) (by omega) (by omega) ((oneB_two wa ha la wb hb lb).trans hs)
    simp only [World.size_alloc] at hS
    have HS := Lib.hid hS
    clear hS
    have hle := same_len hs
    obtain ⟨ga, gb, rfl, rfl⟩ := same_iff.1 hs
    have HP := Lib.hid (fun W i1 i2 (hb : Below w.heap.size w W) => pairI_any aa ab la lb ca cb g cap r W i1 i2 hle n1 HE.out (HR.out.later hb) (good_cell ga) (good_cell gb))
    have HZL := Lib.hid (zipR_len r hle)
    clear h1 h2 eg hr hs hle
    cases hz : goodB wa ha (zipR r la lb) with
    | false =>
      rw [cellsR_no hz]
      have HW := Lib.hid (fun a2 c2 W h => withCells_no wa ha aa la.length ca a2 (zipR r la lb) c2 W h (by rw [HZL.out]; exact n1) hz)
      clear hz
      generalize zipR r la lb = L at *
      clear HZL
      go_enter Tryd.func88, Tryd.ntmps88
      go_wp2_with fail
      refine HS.out.mono ?_
      rintro e w1 ⟨rfl, b1⟩
      have F1 := Lib.hid ((F0.out.step (below_all _ _)).step (by simpa using b1))
      have z1 := F1.out.r.lt
      obtain ⟨k0, k1, k2⟩ := F1.out.k0.cells
      obtain ⟨l0, l1, l2⟩ := F1.out.k1.cells
      clear b1 F0 HS
      have F1d := Lib.hid F1.out.drew
      have zd : w.heap.size + 3 ≤ w1.drew.heap.size := by have := F1.out.r.lt; show _ ≤ w1.heap.size; omega
      clear F1
      go_wp2_with fail
      go_region_held3 (fun w' => (w'.cell? ⟨w.heap.size, 0, none⟩ = some (.int .i64 wa) ∧ w'.cell? ⟨w.heap.size, 1, none⟩ = some (.int .i64 ha) ∧ w'.cell? ⟨w.heap.size, 2, none⟩ = some (.slice aa la.length ca)) ∧ (w'.cell? ⟨w.heap.size + 1, 0, none⟩ = some (.int .i64 wa) ∧ w'.cell? ⟨w.heap.size + 1, 1, none⟩ = some (.int .i64 ha) ∧ w'.cell? ⟨w.heap.size + 1, 2, none⟩ = some (.slice ab lb.length cb)))
        (first | exact ⟨(((F3.out.k0.other (p := ⟨w.heap.size + 1 + 1, 0, none⟩) (by show _ ≠ w.heap.size + 1 + 1; omega) _).other (p := ⟨w.heap.size + 1 + 1, 1, none⟩) (by show _ ≠ w.heap.size + 1 + 1; omega) _).other (p := ⟨w.heap.size + 1 + 1, 2, none⟩) (by show _ ≠ w.heap.size + 1 + 1; omega) _).cells, (((F3.out.k1.other (p := ⟨w.heap.size + 1 + 1, 0, none⟩) (by show _ ≠ w.heap.size + 1 + 1; omega) _).other (p := ⟨w.heap.size + 1 + 1, 1, none⟩) (by show _ ≠ w.heap.size + 1 + 1; omega) _).other (p := ⟨w.heap.size + 1 + 1, 2, none⟩) (by show _ ≠ w.heap.size + 1 + 1; omega) _).cells⟩ | exact ⟨F3.out.k0.cells, F3.out.k1.cells⟩ | exact ⟨F2.out.k0.cells, F2.out.k1.cells⟩ | go_keep)
        (first
          | (go_at_call 99; refine (HP.out _ F1d.out.i0 F1d.out.i1 F1d.out.b).mono ?_; rintro e w2 ⟨a2, c2, rfl, o2, b2⟩; have z2 := b2.size; have O2 := Lib.hid o2; have F2 := Lib.hid (F1d.out.step b2); clear o2 b2)
          | (go_at_call 70; refine (HW.out a2 c2 _ O2.out.ints).mono ?_; rintro e w3 ⟨rfl, b3⟩; have z3 := b3.size; have O3 := Lib.hid ((O2.out.below b3).more (C := w.heap.size + 3) (by omega)); have F3 := Lib.hid (F2.out.step b3); obtain ⟨r0, r1, r2⟩ := F3.out.r.cells; have g0 := F3.out.r.frozen 0; have g1 := F3.out.r.frozen 1; have g2 := F3.out.r.frozen 2; clear b3))
      rename_i hHeld
      clear hHeld
      go_wp2
      refine bodyPost_ret (v := .tuple #[.agg #[.int .i64 0, .int .i64 0, .slice none 0 0], .bool false]) (by simp [results, Tryd.results88, go_sem, r0, r1, r2]) rfl ⟨none, 0, rfl, OwnI.none_, ?_⟩
      exact ((F3.out.b.setCell (by simp <;> omega) _).setCell (by simp <;> omega) _).setCell (by simp <;> omega) _
    | true =>
      rw [cellsR_yes hz]
      have HW := Lib.hid (fun a2 c2 W h => withCells_yes wa ha aa la.length ca a2 (zipR r la lb) c2 W h (by rw [HZL.out]; exact n1) hz)
      clear hz
      generalize zipR r la lb = L at *
      clear HZL
      go_enter Tryd.func88, Tryd.ntmps88
      go_wp2_with fail
      refine HS.out.mono ?_
      rintro e w1 ⟨rfl, b1⟩
      have F1 := Lib.hid ((F0.out.step (below_all _ _)).step (by simpa using b1))
      have z1 := F1.out.r.lt
      obtain ⟨k0, k1, k2⟩ := F1.out.k0.cells
      obtain ⟨l0, l1, l2⟩ := F1.out.k1.cells
      clear b1 F0 HS
      have F1d := Lib.hid F1.out.drew
      have zd : w.heap.size + 3 ≤ w1.drew.heap.size := by have := F1.out.r.lt; show _ ≤ w1.heap.size; omega
      clear F1
      go_wp2_with fail
      go_region_held3 (fun w' => (w'.cell? ⟨w.heap.size, 0, none⟩ = some (.int .i64 wa) ∧ w'.cell? ⟨w.heap.size, 1, none⟩ = some (.int .i64 ha) ∧ w'.cell? ⟨w.heap.size, 2, none⟩ = some (.slice aa la.length ca)) ∧ (w'.cell? ⟨w.heap.size + 1, 0, none⟩ = some (.int .i64 wa) ∧ w'.cell? ⟨w.heap.size + 1, 1, none⟩ = some (.int .i64 ha) ∧ w'.cell? ⟨w.heap.size + 1, 2, none⟩ = some (.slice ab lb.length cb)))
        (first | exact ⟨(((F3.out.k0.other (p := ⟨w.heap.size + 1 + 1, 0, none⟩) (by show _ ≠ w.heap.size + 1 + 1; omega) _).other (p := ⟨w.heap.size + 1 + 1, 1, none⟩) (by show _ ≠ w.heap.size + 1 + 1; omega) _).other (p := ⟨w.heap.size + 1 + 1, 2, none⟩) (by show _ ≠ w.heap.size + 1 + 1; omega) _).cells, (((F3.out.k1.other (p := ⟨w.heap.size + 1 + 1, 0, none⟩) (by show _ ≠ w.heap.size + 1 + 1; omega) _).other (p := ⟨w.heap.size + 1 + 1, 1, none⟩) (by show _ ≠ w.heap.size + 1 + 1; omega) _).other (p := ⟨w.heap.size + 1 + 1, 2, none⟩) (by show _ ≠ w.heap.size + 1 + 1; omega) _).cells⟩ | exact ⟨F3.out.k0.cells, F3.out.k1.cells⟩ | exact ⟨F2.out.k0.cells, F2.out.k1.cells⟩ | go_keep)
        (first
          | (go_at_call 99; refine (HP.out _ F1d.out.i0 F1d.out.i1 F1d.out.b).mono ?_; rintro e w2 ⟨a2, c2, rfl, o2, b2⟩; have z2 := b2.size; have O2 := Lib.hid o2; have F2 := Lib.hid (F1d.out.step b2); clear o2 b2)
          | (go_at_call 70; refine (HW.out a2 c2 _ O2.out.ints).mono ?_; rintro e w3 ⟨rfl, b3⟩; have z3 := b3.size; have O3 := Lib.hid ((O2.out.below b3).more (C := w.heap.size + 3) (by omega)); have F3 := Lib.hid (F2.out.step b3); obtain ⟨r0, r1, r2⟩ := F3.out.r.cells; have g0 := F3.out.r.frozen 0; have g1 := F3.out.r.frozen 1; have g2 := F3.out.r.frozen 2; clear b3))
      rename_i hHeld
      clear hHeld
      go_wp2
      refine bodyPost_ret (v := .tuple #[.agg #[.int .i64 wa, .int .i64 ha, .slice a2 L.length c2], .bool true]) (by simp [results, Tryd.results88, go_sem, r0, r1, r2]) rfl ⟨a2, c2, rfl, ?_, ?_⟩
      · exact ((ownI_set (ownI_set (ownI_set O3.out (by omega) _) (by omega) _) (by omega) _)).more (by omega)
      · exact ((F3.out.b.setCell (by simp <;> omega) _).setCell (by simp <;> omega) _).setCell (by simp <;> omega) _
end Go.Proofs.YtdkffljnfemngabDoor
