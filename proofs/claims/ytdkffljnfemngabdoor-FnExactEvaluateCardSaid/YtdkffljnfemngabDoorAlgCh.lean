/- A field under a rule for its values: changeValues. -/
import Derived.Test.YtdkffljnfemngabDoorAlgOf
namespace Go.Proofs.YtdkffljnfemngabDoor
open Go.RowKit
set_option linter.unusedVariables false
set_option linter.unusedSimpArgs false
theorem cell_below {w w' : World} {b o : Nat} {v : Value} (h : w.cell? ⟨b, o, none⟩ = some v) (hb : b < w.heap.size) (k : Below w.heap.size w w') : w'.cell? ⟨b, o, none⟩ = some v := (k.cell (p := ⟨b, o, none⟩) hb).trans h
set_option maxRecDepth 100000 in
set_option maxHeartbeats 4000000 in
theorem changeV_any (wd hg : Int) (a : Option Addr) (l : List Int) (c g : Nat) (lb : Array Value) (f : Int → Int) (w : World) (hl : Ints .i64 w w.heap.size a l) (hn : l.length ≤ 1048576) (eg : Entered g) (hr : OneAt g lb f w) :
    Calls Tryd.prog 85 #[.agg #[.int .i64 wd, .int .i64 hg, .slice a l.length c], .func (.func g) #[] lb] w (FRet (mapR f wd hg l) w) := by
  have I0 := ints_alloc (ints_alloc (ints_alloc hl (.cells #[.int .i64 wd, .int .i64 hg, .slice a l.length c] 41)) (.cells #[.func (.func g) #[] lb] 90)) (.cells #[.int .i64 0, .int .i64 0, .slice none 0 0] 41)
  have K0 := ((Box.new w 41 (.int .i64 wd) (.int .i64 hg) (.slice a l.length c)).alloc (.cells #[.func (.func g) #[] lb] 90)).alloc (.cells #[.int .i64 0, .int .i64 0, .slice none 0 0] 41)
  have C0 : (((w.alloc (.cells #[.int .i64 wd, .int .i64 hg, .slice a l.length c] 41)).alloc (.cells #[.func (.func g) #[] lb] 90)).alloc (.cells #[.int .i64 0, .int .i64 0, .slice none 0 0] 41)).cell? ⟨w.heap.size + 1, 0, none⟩ = some (.func (.func g) #[] lb) := by
    rw [World.cell?_alloc_past _ _ _ (by simp), World.cell?_alloc_at _ _ _ _ (by simp)]; rfl
  have R0 := Box.new ((w.alloc (.cells #[.int .i64 wd, .int .i64 hg, .slice a l.length c] 41)).alloc (.cells #[.func (.func g) #[] lb] 90)) 41 (.int .i64 0) (.int .i64 0) (.slice none 0 0)
  simp only [World.size_alloc] at R0
  have b3 : ∀ o1 o2 o3, Below w.heap.size w (((w.alloc o1).alloc o2).alloc o3) := fun o1 o2 o3 => (((Below.refl _ _).alloc (Nat.le_refl _) _).alloc (by simp) _).alloc (by simp; omega) _
  have B0 := b3 (.cells #[.int .i64 wd, .int .i64 hg, .slice a l.length c] 41) (.cells #[.func (.func g) #[] lb] 90) (.cells #[.int .i64 0, .int .i64 0, .slice none 0 0] 41)
  have HG := Lib.hid eg
  have HR := Lib.hid hr
  unfold mapR at *
  have HCC := Lib.hid (fun g' cap W i1 i2 e1 (e2 : RuleAt g' cap (ofV fun a _ => f a) W) => combCells_any wd hg a l c wd hg a l c g' cap (ofV fun a _ => f a) W i1 i2 hn hn e1 e2)
  have HRU := Lib.hid (fun (W : World) B (hB : B < W.heap.size) (hc : W.cell? ⟨B, 0, none⟩ = some (.func (.func 94) #[] #[.pointer (some ⟨w.heap.size + 1, 0, none⟩)])) (h1 : w.heap.size + 1 < W.heap.size) (h2 : W.cell? ⟨w.heap.size + 1, 0, none⟩ = some (.func (.func g) #[] lb)) (hb : Below w.heap.size w W) => ofV_rule (r := fun a _ => f a) hB hc ent_chV (one_rule h1 h2 HG.out (HR.out.later hb)))
  clear hl eg hr b3
  generalize (ofV fun a _ => f a) = rule at *
  generalize combR rule wd hg l wd hg l = rr at *
  obtain ⟨rw', hrW⟩ : ∃ x, rW rr = x := ⟨_, rfl⟩
  obtain ⟨rh, hrH⟩ : ∃ x, rH rr = x := ⟨_, rfl⟩
  obtain ⟨rl, hrL⟩ : ∃ x, rL rr = x := ⟨_, rfl⟩
  obtain ⟨rb, hrB⟩ : ∃ x, rB rr = x := ⟨_, rfl⟩
  unfold FRet at HCC ⊢
  rw [hrW, hrH, hrL, hrB] at HCC ⊢
  clear hrW hrH hrL hrB
  obtain ⟨W, hW⟩ : ∃ W, ((w.alloc (.cells #[.int .i64 wd, .int .i64 hg, .slice a l.length c] 41)).alloc (.cells #[.func (.func g) #[] lb] 90)).alloc (.cells #[.int .i64 0, .int .i64 0, .slice none 0 0] 41) = W := ⟨_, rfl⟩
  rw [hW] at I0 K0 C0 R0 B0
  have bd : Below W.heap.size W W.drew := ⟨rfl, rfl, rfl, Nat.le_refl _, fun _ _ => rfl⟩
  have zw : W.heap.size = w.heap.size + 1 + 1 + 1 := by rw [← hW]; simp
  have Id := Lib.hid (ints_below I0 bd)
  have Kd := Lib.hid (K0.below bd)
  have Cd := Lib.hid (cell_below C0 (by omega) bd)
  have Rd := Lib.hid (R0.below bd)
  have Bd := Lib.hid (below_then B0 bd)
  have zd : W.drew.heap.size = w.heap.size + 1 + 1 + 1 := zw
  have ZD := Lib.hid zd
  have HWW := Lib.hid hW
  obtain ⟨k0, k1, k2⟩ := K0.cells
  clear I0 K0 C0 R0 B0 bd zw zd hW
  go_enter Tryd.func85, Tryd.ntmps85
  go_wp2_with fail
  rw [HWW.out]
  go_region_held3 (fun w' => w'.cell? ⟨w.heap.size, 0, none⟩ = some (.int .i64 wd) ∧ w'.cell? ⟨w.heap.size, 1, none⟩ = some (.int .i64 hg) ∧ w'.cell? ⟨w.heap.size, 2, none⟩ = some (.slice a l.length c))
    (first | exact (((K3.out.other (p := ⟨w.heap.size + 1 + 1, 0, none⟩) (by show _ ≠ w.heap.size + 1 + 1; omega) _).other (p := ⟨w.heap.size + 1 + 1, 1, none⟩) (by show _ ≠ w.heap.size + 1 + 1; omega) _).other (p := ⟨w.heap.size + 1 + 1, 2, none⟩) (by show _ ≠ w.heap.size + 1 + 1; omega) _).cells | exact K3.out.cells | exact K2.out.cells | go_keep)
    (first
      | (go_at_call 89; refine (ofValues_any _ _ _).mono ?_; rintro e w2 ⟨rfl, hw2⟩; have b2 : Below W.drew.heap.size W.drew w2 := by rw [hw2]; exact below_all _ _
         have z2 : w2.heap.size = W.drew.heap.size + 1 := by rw [hw2]; simp
         have c2 : w2.cell? ⟨W.drew.heap.size, 0, none⟩ = some (.func (.func 94) #[] #[.pointer (some ⟨w.heap.size + 1, 0, none⟩)]) := by rw [hw2, World.cell?_alloc_at _ _ _ _ rfl]; rfl
         have I2 := Lib.hid (ints_below Id.out b2); have K2 := Lib.hid (Kd.out.below b2); have R2 := Lib.hid (Rd.out.below b2); have B2 := Lib.hid (below_then Bd.out b2)
         have RU := Lib.hid (HRU.out w2 W.drew.heap.size (by omega) c2 (by have := ZD.out; omega) (cell_below Cd.out (by have := ZD.out; omega) b2) B2.out); have Z2 := Lib.hid z2; clear hw2 b2 z2 c2)
      | (go_at_call 88; refine (HCC.out _ _ _ I2.out I2.out ent_ofV RU.out).mono ?_; rintro e w3 ⟨a3, c3, rfl, o3, b3⟩; have O3 := Lib.hid (o3.more (C := w.heap.size + 3) (by have := Z2.out; have := ZD.out; omega)); have K3 := Lib.hid (K2.out.below b3); have R3 := R2.out.below b3; have B3 := Lib.hid (below_then B2.out b3); obtain ⟨r0, r1, r2⟩ := R3.cells; have g0 := R3.frozen 0; have g1 := R3.frozen 1; have g2 := R3.frozen 2; clear o3 b3 R3))
  rename_i hHeld
  clear hHeld
  go_wp2
  refine bodyPost_ret (v := .tuple #[.agg #[.int .i64 rw', .int .i64 rh, .slice a3 rl.length c3], .bool rb]) (by simp [results, Tryd.results85, go_sem, r0, r1, r2]) rfl ⟨a3, c3, rfl, ?_, ?_⟩
  · exact (ownI_set (ownI_set (ownI_set O3.out (by show w.heap.size + 1 + 1 < _; omega) _) (by show w.heap.size + 1 + 1 < _; omega) _) (by show w.heap.size + 1 + 1 < _; omega) _).more (by omega)
  · exact ((B3.out.setCell (by simp <;> omega) _).setCell (by simp <;> omega) _).setCell (by simp <;> omega) _
end Go.Proofs.YtdkffljnfemngabDoor
