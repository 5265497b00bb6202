/- The model's draw of a field like another one. -/
import Derived.Test.YtgfgimpglaepaabDoorAnyField
import Derived.Test.YtgfgimpglaepaabDoorSet
namespace Go.Proofs.YtgfgimpglaepaabDoor
open Go.RowKit
set_option linter.unusedVariables false
set_option linter.unusedSimpArgs false
set_option maxHeartbeats 1000000 in
theorem l1Own_some (ad : Addr) (l : List Int) (c : Nat) (w : World) (hl : Ints .i64 w w.heap.size (some ad) l) (hn : l.length ≤ 1048576) :
    Calls Tryd.prog 61 #[.slice (some ad) l.length c] w (IntsPost l w) := by
  rcases Nat.eq_zero_or_pos l.length with h0 | h0
  · obtain rfl := List.eq_nil_of_length_eq_zero h0
    obtain ⟨i0, hi0', hz0, hz1, hz2⟩ := info_parts infoInt
    have HO := Lib.hid (World.ownsRow_made (base := w.heap.size) (e := 3) (size := 1) w #[] 0 (Nat.le_refl _) (by simp) rfl)
    show Calls Tryd.prog 61 #[.slice (some ad) 0 c] w (IntsPost [] w)
    clear hl h0 hn
    go_enter Tryd.func61, Tryd.ntmps61
    go_wp2_with (at_builtin; refine wpList_append_own _ rfl _ _ 24 rfl w.heap.size 3 i0 (.int .i64 0) 1 8 Tryd.underlying24 hi0' hz0 hz1 hz2 rfl (by decide) _ 0 [] rfl HO.out ad 0 c [] rfl rfl (fun j u h => by simp at h) (fun u h => by simp at h) (by unfold maxLen; omega) (by omega) (by simp) ?_; intro v' w1 hown' hgrow _; have HB := Lib.hid ((below_all w _).grown hgrow (by simp) (fun k hk => (HO.out.lt k hk).1)); obtain ⟨a', c', hv, ho⟩ := ownI_of (l := []) hown' rfl; subst hv; have HO1 := Lib.hid ho; clear hown' hgrow ho)
    go_ret
    exact ⟨a', c', rfl, HO1.out, HB.out⟩
  · exact l1Own_any (some ad) l c w hl hn h0

set_option maxRecDepth 100000 in
set_option maxHeartbeats 1000000 in
theorem l2Own_some (wd hg : Int) (ad : Addr) (l : List Int) (c : Nat) (w : World) (hl : Ints .i64 w w.heap.size (some ad) l) (hn : l.length ≤ 1048576) :
    Calls Tryd.prog 36 #[.agg #[.int .i64 wd, .int .i64 hg, .slice (some ad) l.length c]] w (FOne wd hg l w) := by
  have HW := Lib.hid (fun W h => l1Own_some ad l c W h hn)
  have I0 := Lib.hid (ints_below (ints_alloc (ints_alloc hl (.cells #[.int .i64 wd, .int .i64 hg, .slice (some ad) l.length c] 26)) (.cells #[.int .i64 0, .int .i64 0, .slice none 0 0] 26)) ((Drew.more (Drew.refl _) 1).below _))
  have X0 := (Box.new w 26 (.int .i64 wd) (.int .i64 hg) (.slice (some ad) l.length c)).alloc (.cells #[.int .i64 0, .int .i64 0, .slice none 0 0] 26)
  have R0 := Box.new (w.alloc (.cells #[.int .i64 wd, .int .i64 hg, .slice (some ad) l.length c] 26)) 26 (.int .i64 0) (.int .i64 0) (.slice none 0 0)
  rw [World.size_alloc] at R0
  have B0 := (below_all w (.cells #[.int .i64 wd, .int .i64 hg, .slice (some ad) l.length c] 26)).alloc (by simp) (.cells #[.int .i64 0, .int .i64 0, .slice none 0 0] 26)
  clear hl
  go_enter Tryd.func36, Tryd.ntmps36
  go_wp2_with fail
  obtain ⟨W, hW⟩ : ∃ W, (w.alloc (.cells #[.int .i64 wd, .int .i64 hg, .slice (some ad) l.length c] 26)).alloc (.cells #[.int .i64 0, .int .i64 0, .slice none 0 0] 26) = W := ⟨_, rfl⟩
  have sW : W.heap.size = w.heap.size + 2 := by rw [← hW]; simp
  rw [hW] at I0 X0 R0 B0 ⊢
  have HX := Lib.hid X0
  have HR := Lib.hid R0
  have HB := Lib.hid B0
  obtain ⟨k0, k1, k2⟩ := X0.cells
  clear hW X0 R0 B0
  go_region_held3 (fun w' => w'.cell? ⟨w.heap.size, 0, none⟩ = some (.int .i64 wd) ∧ w'.cell? ⟨w.heap.size, 1, none⟩ = some (.int .i64 hg) ∧ w'.cell? ⟨w.heap.size, 2, none⟩ = some (.slice (some ad) l.length c))
    (first | exact X1.cells | go_keep)
    (first
      | (go_at_call 61; refine (HW.out _ I0.out).mono ?_; rintro e w1 ⟨a1, c1, rfl, o1, b1⟩; have X1 := (HX.out.below (w' := W.drew) ((Drew.more (Drew.refl W) 1).below _)).below b1; have R1 := (HR.out.below (w' := W.drew) ((Drew.more (Drew.refl W) 1).below _)).below b1; obtain ⟨r0, r1, r2⟩ := R1.cells; have g0 := R1.frozen 0; have g1 := R1.frozen 1; have g2 := R1.frozen 2; have B1 := Lib.hid (below_then (below_then HB.out ((Drew.more (Drew.refl W) 1).below _)) b1)))
  rename_i hHeld
  clear hHeld
  have HO := Lib.hid (o1.more (C := w.heap.size + 2) (by show w.heap.size + 2 ≤ W.heap.size; omega))
  clear o1 b1 X1 R1 k0 k1 k2
  go_wp2
  refine bodyPost_ret (v := .agg #[.int .i64 wd, .int .i64 hg, .slice a1 l.length c1]) (by simp [results, Tryd.results36, go_sem, r0, r1, r2]) rfl ⟨a1, c1, rfl, ?_, ?_⟩
  · exact (ownI_set (ownI_set (ownI_set HO.out (by omega) _) (by omega) _) (by omega) _).more (by omega)
  · exact ((B1.out.setCell (by simp) _).setCell (by simp) _).setCell (by simp) _

/-- a field is drawn (of its room nothing is said), its cursor further -/
def LDraw (g : Nat) (a : Option Addr) (l : List Int) (c K : Nat) (w : World) (e : Ending) (w' : World) : Prop :=
  ∃ (wd hg : Int) (L : List Int) (a1 : Option Addr) (c1 : Nat), L.length ≤ 64 ∧ e = .returned (.agg #[.int .i64 wd, .int .i64 hg, .slice a1 L.length c1]) ∧ Own2 w' w.heap.size a1 L ∧ CurIs w' g a l c K ∧ w.grownBy w' (some g)

end Go.Proofs.YtgfgimpglaepaabDoor
