/- The model's copy of a field, and its SetCell. -/
import Derived.Test.YtggdkibbfmjelaaOwnS
import Derived.Test.YtggdkibbfmjelaaMake
import Derived.Test.YtggdkibbfmjelaaHas
namespace Go.Proofs.Ytggdkibbfmjelaa
open Go.RowKit
set_option linter.unusedVariables false
set_option linter.unusedSimpArgs false
def setR (wd hg : Int) (l : List Int) (x y v : Int) : Option (Int × Int × List Int) := if (goodB wd hg l && inB wd hg x y && cellB v) = true then some (wd, hg, l.set (place wd x y) v) else none
theorem setR_no {wd hg : Int} {l : List Int} {x y v : Int} (h : (goodB wd hg l && inB wd hg x y && cellB v) = false) : setR wd hg l x y v = none := if_neg (by rw [h]; simp)
theorem setR_yes {wd hg : Int} {l : List Int} {x y v : Int} (h : (goodB wd hg l && inB wd hg x y && cellB v) = true) : setR wd hg l x y v = some (wd, hg, l.set (place wd x y) v) := if_pos h
theorem setR_len (wd hg : Int) (l : List Int) (x y v : Int) : (rL (setR wd hg l x y v)).length ≤ 64 := by
  cases h : (goodB wd hg l && inB wd hg x y && cellB v) with
  | false => rw [setR_no h]; simp [rL]
  | true =>
    rw [setR_yes h]
    have hs : goodB wd hg l = true := by simp at h; exact h.1.1
    have := good_le hs
    simp [rL]; omega

set_option maxRecDepth 100000 in
set_option maxHeartbeats 1000000 in
theorem l2Own_any (wd hg : Int) (a : Option Addr) (l : List Int) (c : Nat) (w : World) (hl : Ints .i64 w w.heap.size a l) (hn : l.length ≤ 1048576) (h0 : 0 < l.length) :
    Calls Try.prog 88 #[.agg #[.int .i64 wd, .int .i64 hg, .slice a l.length c]] w (FOne wd hg l w) := by
  have HW := Lib.hid (fun W h => l1Own_any a l c W h hn h0)
  have I0 := Lib.hid (ints_below (ints_alloc (ints_alloc hl (.cells #[.int .i64 wd, .int .i64 hg, .slice a l.length c] 34)) (.cells #[.int .i64 0, .int .i64 0, .slice none 0 0] 34)) ((Drew.more (Drew.refl _) 1).below _))
  have X0 := (Box.new w 34 (.int .i64 wd) (.int .i64 hg) (.slice a l.length c)).alloc (.cells #[.int .i64 0, .int .i64 0, .slice none 0 0] 34)
  have R0 := Box.new (w.alloc (.cells #[.int .i64 wd, .int .i64 hg, .slice a l.length c] 34)) 34 (.int .i64 0) (.int .i64 0) (.slice none 0 0)
  rw [World.size_alloc] at R0
  have B0 := (below_all w (.cells #[.int .i64 wd, .int .i64 hg, .slice a l.length c] 34)).alloc (by simp) (.cells #[.int .i64 0, .int .i64 0, .slice none 0 0] 34)
  clear hl
  go_enter Try.func88, Try.ntmps88
  go_wp2_with fail
  obtain ⟨W, hW⟩ : ∃ W, (w.alloc (.cells #[.int .i64 wd, .int .i64 hg, .slice a l.length c] 34)).alloc (.cells #[.int .i64 0, .int .i64 0, .slice none 0 0] 34) = W := ⟨_, rfl⟩
  have sW : W.heap.size = w.heap.size + 2 := by rw [← hW]; simp
  rw [hW] at I0 X0 R0 B0 ⊢
  have HX := Lib.hid X0
  have HR := Lib.hid R0
  have HB := Lib.hid B0
  obtain ⟨k0, k1, k2⟩ := X0.cells
  clear hW X0 R0 B0
  go_region_held3 (fun w' => w'.cell? ⟨w.heap.size, 0, none⟩ = some (.int .i64 wd) ∧ w'.cell? ⟨w.heap.size, 1, none⟩ = some (.int .i64 hg) ∧ w'.cell? ⟨w.heap.size, 2, none⟩ = some (.slice a l.length c))
    (first | exact X1.cells | go_keep)
    (first
      | (go_at_call 110; refine (HW.out _ I0.out).mono ?_; rintro e w1 ⟨a1, c1, rfl, o1, b1⟩; have X1 := (HX.out.below (w' := W.drew) ((Drew.more (Drew.refl W) 1).below _)).below b1; have R1 := (HR.out.below (w' := W.drew) ((Drew.more (Drew.refl W) 1).below _)).below b1; obtain ⟨r0, r1, r2⟩ := R1.cells; have g0 := R1.frozen 0; have g1 := R1.frozen 1; have g2 := R1.frozen 2; have B1 := Lib.hid (below_then (below_then HB.out ((Drew.more (Drew.refl W) 1).below _)) b1)))
  rename_i hHeld
  clear hHeld
  have HO := Lib.hid (o1.more (C := w.heap.size + 2) (by show w.heap.size + 2 ≤ W.heap.size; omega))
  clear o1 b1 X1 R1 k0 k1 k2
  go_wp2
  refine bodyPost_ret (v := .agg #[.int .i64 wd, .int .i64 hg, .slice a1 l.length c1]) (by simp [results, Try.results88, go_sem, r0, r1, r2]) rfl ⟨a1, c1, rfl, ?_, ?_⟩
  · exact (ownI_set (ownI_set (ownI_set HO.out (by omega) _) (by omega) _) (by omega) _).more (by omega)
  · exact ((B1.out.setCell (by simp) _).setCell (by simp) _).setCell (by simp) _

end Go.Proofs.Ytggdkibbfmjelaa
