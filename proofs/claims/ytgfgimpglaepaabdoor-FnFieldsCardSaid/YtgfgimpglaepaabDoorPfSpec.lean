/- l2Parse, the model's reading of a field. -/
import Derived.Test.YtgfgimpglaepaabDoorPfSpecM
import Derived.Test.YtgfgimpglaepaabDoorSplit
import Derived.Test.YtgfgimpglaepaabDoorRead
import Derived.Test.YtgfgimpglaepaabDoorText
import Derived.Test.YtgfgimpglaepaabDoorMake
import Derived.Test.YtgfgimpglaepaabDoorFld
namespace Go.Proofs.YtgfgimpglaepaabDoor
open Go.RowKit
set_option linter.unusedVariables false
set_option linter.unusedSimpArgs false
theorem fret_put3 {w w1 : World} {r : Option (Int × Int × List Int)} {e : Ending} {a : Option Addr} {c : Nat} (hb : Below w.heap.size w w1) (ho : OwnI w1 (w.heap.size + 1) a (rL r)) (he : e = .returned (.tuple #[.agg #[.int .i64 (rW r), .int .i64 (rH r), .slice a (rL r).length c], .bool (rB r)])) (u0 u1 u2 : Value) :
    FRet r w e (((w1.setCell ⟨w.heap.size, 0, none⟩ u0).setCell ⟨w.heap.size, 1, none⟩ u1).setCell ⟨w.heap.size, 2, none⟩ u2) :=
  ⟨a, c, he, (ownI_set (ownI_set (ownI_set ho (by omega) _) (by omega) _) (by omega) _).more (by omega), ((hb.setCell (p := ⟨w.heap.size, 0, none⟩) (Nat.le_refl _) _).setCell (p := ⟨w.heap.size, 1, none⟩) (Nat.le_refl _) _).setCell (p := ⟨w.heap.size, 2, none⟩) (Nat.le_refl _) _⟩
theorem fopt_none3 {w w1 : World} (hb : Below w.heap.size w w1) : FRet none w (.returned (.tuple #[.agg #[.int .i64 0, .int .i64 0, .slice none 0 0], .bool false])) w1 := ⟨none, 0, rfl, OwnI.none_, hb⟩
/-- what l2Parse knows of a later world: the boxes of its result, of no field, of the field it makes; the lines; the cells -/
structure Ps (w : World) (fb gl : Nat) (ls : List (List UInt8)) (wd hg : Int) (out : Value) (L : List Int) (wr : World) : Prop where
  res : Box wr w.heap.size 26 (.int .i64 0) (.int .i64 0) (.slice none 0 0)
  non : Box wr (w.heap.size + 1) 26 (.int .i64 0) (.int .i64 0) (.slice none 0 0)
  box : Box wr fb 26 (.int .i64 wd) (.int .i64 hg) out
  lin : Row wr gl 9 (txt ls)
  own : wr.ownsRow (w.heap.size + 1) 3 1 out L.length (iv L)
  b : Below w.heap.size w wr
  fb : w.heap.size + 1 < fb
section
variable {w w1 w2 : World} {fb gl : Nat} {ls : List (List UInt8)} {wd hg : Int} {out : Value} {L : List Int}
theorem Ps.step (h : Ps w fb gl ls wd hg out L w1) (b : Below w1.heap.size w1 w2) : Ps w fb gl ls wd hg out L w2 :=
  ⟨h.res.below b, h.non.below b, h.box.below b, h.lin.of_block (b.block gl h.lin.lt), own_keeps h.own b, below_then h.b b, h.fb⟩
theorem row_ne_box {w : World} {b g : Nat} {t s : TypeId} {v0 v1 v2 : Value} {vs : List Value} (h : Box w b t v0 v1 v2) (hr : Row w g s vs) (hne : s ≠ t) : g ≠ b := by
  rintro rfl
  obtain ⟨c, h1, _⟩ := hr
  unfold Box at h
  rw [h] at h1
  injection h1 with h1
  injection h1 with _ h2
  exact hne h2.symm
theorem row_ne_own {w : World} {g base e n : Nat} {s : TypeId} {v : Value} {vs xs : List Value} (hr : Row w g s vs) (h : w.ownsRow base e 1 v n xs) (hne : s ≠ e) : some g ≠ v.ownBlock := by
  intro he
  rcases h.2 with ⟨rfl, _⟩ | ⟨g', cap, cur, rfl, _, hh, _⟩
  · simp [Value.ownBlock] at he
  · have : g = g' := by simpa [Value.ownBlock] using he
    subst this
    obtain ⟨c, h1, _⟩ := hr
    rw [hh] at h1
    injection h1 with h1
    injection h1 with _ h2
    exact hne h2.symm
/-- the width is written -/
theorem Ps.wide (h : Ps w fb gl ls wd hg out L w1) (u : Int) : Ps w fb gl ls u hg out L (w1.setCell ⟨fb, 0, none⟩ (.int .i64 u)) := by
  have hfb := h.fb
  refine ⟨h.res.other (show w.heap.size ≠ fb by omega) _, h.non.other (show w.heap.size + 1 ≠ fb by omega) _, ?_, h.lin.other (show gl ≠ fb from row_ne_box h.box h.lin (by decide)) _, own_setBox h.own (own_ne_box h.own h.box (by decide)) _ _, h.b.setCell (show w.heap.size ≤ fb by omega) _, h.fb⟩
  have hx := h.box
  unfold Box at *
  simp [World.setCell, Array.getElem?_modify, hx]
/-- one more cell -/
theorem Ps.put (h : Ps w fb gl ls wd hg out L w1) {v' : Value} {x : Int} {o : Obj} (ho : w2.ownsRow (w.heap.size + 1) 3 1 v' (L.length + 1) (iv L ++ [.int .i64 x])) (hg' : (w1.alloc o).grownBy w2 out.ownBlock) :
    ∃ g' cap', v' = .slice (some ⟨g', 0, none⟩) (L.length + 1) cap' ∧ (∃ u, w2.cell? ⟨fb, 2, none⟩ = some u) ∧ w2.frozen? ⟨fb, 2, none⟩ = false ∧ w1.heap.size ≤ w2.heap.size ∧ Ps w fb gl ls wd hg v' (L ++ [x]) (w2.setCell ⟨fb, 2, none⟩ v') ∧ (∀ {gq : Nat} {vs : List Value}, Row w1 gq 9 vs → Row (w2.setCell ⟨fb, 2, none⟩ v') gq 9 vs) := by
  have hfb := h.fb
  obtain ⟨g', cap', hv⟩ := own_slice ho (by omega)
  have hne := own_ne_box h.own h.box (by decide)
  have hne1 := own_ne_box h.own h.res (by decide)
  have hne2 := own_ne_box h.own h.non (by decide)
  have hx2 := (h.box.alloc o).grown hg' (Ne.symm hne)
  have hne3 := own_ne_box ho hx2 (by decide)
  have hB := (h.b.alloc h.b.size o).grown hg' (by have := h.b.size; rw [World.size_alloc]; omega) (fun j hj => by have := (h.own.lt j hj).1; omega)
  have hrow : ∀ {gq : Nat} {vs : List Value}, Row w1 gq 9 vs → Row (w2.setCell ⟨fb, 2, none⟩ v') gq 9 vs := by
    intro gq vs hr
    have h1 := (hr.alloc o)
    have h2 : Row w2 gq 9 vs := h1.of_block (hg'.block gq h1.lt (row_ne_own hr h.own (by decide)))
    exact h2.other (show gq ≠ fb from row_ne_box hx2 h2 (by decide)) _
  refine ⟨g', cap', hv, ⟨_, hx2.cells.2.2⟩, hx2.frozen 2, by have := hg'.size; rw [World.size_alloc] at this; omega, ⟨((h.res.alloc o).grown hg' (Ne.symm hne1)).other (show w.heap.size ≠ fb by omega) _, ((h.non.alloc o).grown hg' (Ne.symm hne2)).other (show w.heap.size + 1 ≠ fb by omega) _, hx2.set _, hrow h.lin, ?_, hB.setCell (show w.heap.size ≤ fb by omega) _, h.fb⟩, hrow⟩
  have := own_setBox ho hne3 2 v'
  rw [iv_snoc, List.length_append]
  exact this
end
theorem lines_get {s : List UInt8} {k : Nat} (h : k < (linesP s).length) : ∃ h2 : k < (splitL s 10).length, (splitL s 10)[k] = (linesP s)[k] := by
  unfold linesP at h ⊢
  have h3 : k < (splitL s 10).length := by rw [List.length_dropLast] at h; omega
  exact ⟨h3, by rw [List.getElem_dropLast]⟩
theorem lines_len (s : List UInt8) : (linesP s).length + 1 = (splitL s 10).length := by
  have := splitL_pos s 10
  unfold linesP; rw [List.length_dropLast]; omega
theorem pf_lines {s : List UInt8} (h : ¬ (1 ≤ (linesP s).length ∧ (linesP s).length ≤ 8)) : pfR s = none := by
  unfold pfR; rw [if_neg (fun h' => h h'.2)]
set_option maxRecDepth 100000 in
set_option maxHeartbeats 1000000 in
theorem specPF_out (s : ByteArray) (w : World) (hs : s.size ≤ 1048576) (h : 500 < s.size ∨ ¬ (1 ≤ (linesP s.data.toList).length ∧ (linesP s.data.toList).length ≤ 8)) :
    Calls Tryd.prog 49 #[.string s] w (FRet (pfR s.data.toList) w) := by
  have HR := Lib.hid (show pfR s.data.toList = none from by
    rcases h with h | h
    · exact pf_long (by show 500 < s.data.toList.length; exact h)
    · exact pf_lines h)
  have HS := Lib.hid (fun W => split_any s 10 W hs)
  unfold SplitPost at HS
  have hl := lines_len s.data.toList
  have hsz : s.data.toList.length = s.size := rfl
  have hsl := splitL_length s.data.toList 10
  obtain ⟨H, hH⟩ : ∃ H, (linesP s.data.toList).length = H := ⟨_, rfl⟩
  rw [hH] at hl h
  rw [← hl] at HS
  have hHb : H ≤ 1048577 := by omega
  clear hl hH hsz hsl
  have R0 := Lib.hid (show Box ((w.alloc (.cells #[.int .i64 0, .int .i64 0, .slice none 0 0] 26)).alloc (.cells #[.int .i64 0, .int .i64 0, .slice none 0 0] 26)) w.heap.size 26 (.int .i64 0) (.int .i64 0) (.slice none 0 0) from (Box.new w _ _ _ _).alloc _)
  have N0 := Lib.hid (show Box ((w.alloc (.cells #[.int .i64 0, .int .i64 0, .slice none 0 0] 26)).alloc (.cells #[.int .i64 0, .int .i64 0, .slice none 0 0] 26)) (w.heap.size + 1) 26 (.int .i64 0) (.int .i64 0) (.slice none 0 0) by have h9 := Box.new (w.alloc (.cells #[.int .i64 0, .int .i64 0, .slice none 0 0] 26)) 26 (.int .i64 0) (.int .i64 0) (.slice none 0 0); rw [World.size_alloc] at h9; exact h9)
  have B0 := Lib.hid (show Below w.heap.size w ((w.alloc (.cells #[.int .i64 0, .int .i64 0, .slice none 0 0] 26)).alloc (.cells #[.int .i64 0, .int .i64 0, .slice none 0 0] 26)) from (below_all w _).alloc (by simp) _)
  have eH : ((H + 1 : Nat) : Int) - 1 = (H : Int) := by omega
  by_cases hlong : (500 : Int) < (s.size : Int)
  · go_enter Tryd.func49, Tryd.ntmps49
    go_wp2_with fail
    refine (HS.out _).mono ?_
    rintro e w1 ⟨v, rfl, hown, b1⟩
    obtain ⟨gl, cap, hv⟩ := own_slice hown (by omega)
    subst hv
    have R1 := Lib.hid ((R0.out.below b1).alloc (.cells #[.int .i64 0, .int .i64 (H : Int), .slice none 0 0] 26))
    have N1 := Lib.hid ((N0.out.below b1).alloc (.cells #[.int .i64 0, .int .i64 (H : Int), .slice none 0 0] 26))
    have B1 := Lib.hid ((below_then B0.out b1).alloc (below_then B0.out b1).size (.cells #[.int .i64 0, .int .i64 (H : Int), .slice none 0 0] 26))
    obtain ⟨t0, t1, t2⟩ := R1.out.cells
    obtain ⟨n0, n1, n2⟩ := N1.out.cells
    have g0 := R1.out.frozen 0
    have g1 := R1.out.frozen 1
    have g2 := R1.out.frozen 2
    clear hown b1
    go_wp2
    refine bodyPost_ret (v := .tuple #[.agg #[.int .i64 0, .int .i64 0, .slice none 0 0], .bool false]) (by simp [results, Tryd.results49, go_sem, t0, t1, t2]) rfl ?_
    rw [HR.out]
    first | exact fopt_none3 B1.out | exact fret_put3 (r := none) B1.out OwnI.none_ rfl _ _ _
  · have hH18 : (H : Int) < 1 ∨ 8 < (H : Int) := by omega
    have HIN := Lib.hid (fun W => in_no (H : Int) 1 8 W hH18)
    go_enter Tryd.func49, Tryd.ntmps49
    go_wp2_with fail
    refine (HS.out _).mono ?_
    rintro e w1 ⟨v, rfl, hown, b1⟩
    obtain ⟨gl, cap, hv⟩ := own_slice hown (by omega)
    subst hv
    have R1 := Lib.hid ((R0.out.below b1).alloc (.cells #[.int .i64 0, .int .i64 (H : Int), .slice none 0 0] 26))
    have N1 := Lib.hid ((N0.out.below b1).alloc (.cells #[.int .i64 0, .int .i64 (H : Int), .slice none 0 0] 26))
    have B1 := Lib.hid ((below_then B0.out b1).alloc (below_then B0.out b1).size (.cells #[.int .i64 0, .int .i64 (H : Int), .slice none 0 0] 26))
    obtain ⟨t0, t1, t2⟩ := R1.out.cells
    obtain ⟨n0, n1, n2⟩ := N1.out.cells
    have g0 := R1.out.frozen 0
    have g1 := R1.out.frozen 1
    have g2 := R1.out.frozen 2
    have F1 := Box.new w1 26 (.int .i64 0) (.int .i64 (H : Int)) (.slice none 0 0)
    obtain ⟨f0, f1, f2⟩ := F1.cells
    clear hown b1 F1
    go_wp2_with fail
    refine (HIN.out _).mono ?_
    rintro e w2 ⟨rfl, rfl⟩
    go_wp2
    refine bodyPost_ret (v := .tuple #[.agg #[.int .i64 0, .int .i64 0, .slice none 0 0], .bool false]) (by simp [results, Tryd.results49, go_sem, t0, t1, t2]) rfl ?_
    rw [HR.out]
    first | exact fopt_none3 B1.out | exact fret_put3 (r := none) B1.out OwnI.none_ rfl _ _ _
end Go.Proofs.YtgfgimpglaepaabDoor
