/- Depth, the program's; the walk of FnExactDepth. -/
import Derived.Test.YtdkffljnfemngabDoorDepth
namespace Go.Proofs.YtdkffljnfemngabDoor
open Go.RowKit
set_option linter.unusedVariables false
set_option linter.unusedSimpArgs false
theorem TreeAt.below {w w' : World} {P : Nat → Prop} {t : ET} {b : Nat} (h : TreeAt w P t b) (hb : Below w.heap.size w w') : TreeAt w' P t b := TreeAt.keep (fun i _ hi => hb.block i hi) (fun _ h _ => h) t b h
set_option maxRecDepth 100000 in
set_option maxHeartbeats 4000000 in
theorem tdepth_any : ∀ (t : ET), t.flat.length ≤ 1000 → ∀ (P : Nat → Prop) (b : Nat) (w : World), TreeAt w P t b →
    Calls Tryd.prog 39 #[.pointer (some ⟨b, 0, none⟩)] w fun e w' => e = .returned (.int .i64 (t.depth : Int)) ∧ Below w.heap.size w w' := by
  intro t
  induction t with
  | n0 k v =>
    intro hf P b w ht
    obtain ⟨h1, a, c, h2⟩ := ht
    have c9 := h2.cell 9
    simp [tcells] at c9
    clear h1 h2 hf
    go_enter Tryd.func39, Tryd.ntmps39
    go_wp2
    go_loopw [3, 11] (fun m i wr => m = .int .i64 0 ∧ i = .int .i64 0 ∧ Below w.heap.size w wr) (fun _ i _ => 1)
    case atStart => exact ⟨rfl, rfl, Below.refl _ _⟩
    case round =>
      obtain ⟨rfl, rfl, hB⟩ := hrel
      have HB := Lib.hid hB
      clear hB
      go_wp2
      go_ret
      exact ⟨rfl, HB.out⟩
  | n1 k v x ih =>
    intro hf P b w ht
    obtain ⟨h1, ga, c, bx, h2, h3, h4, h5⟩ := ht
    have c9 := h3.cell 9
    simp [tcells] at c9
    have hg := cell_lt h4
    have hd := depth_le x
    simp only [ET.flat, List.length_append, List.length_singleton] at hf
    have HC := Lib.hid (fun W h => ih (by omega) P bx W h)
    have HT := Lib.hid h5
    have H4 := Lib.hid h4
    obtain ⟨dx, hdx⟩ : ∃ q, x.depth = q := ⟨_, rfl⟩
    have R := Lib.hid (show (ET.n1 k v x).depth = dx + 1 by rw [← hdx]; rfl)
    rw [hdx] at HC hd
    have hdx3 : dx ≤ 1000 := by omega
    clear h1 h2 h3 h4 h5 ih hdx hd hf
    go_enter Tryd.func39, Tryd.ntmps39
    go_wp2
    go_loopw [3, 11] (fun m i wr => ((m = .int .i64 0 ∧ i = .int .i64 0) ∨ (m = .int .i64 (dx : Int) ∧ i = .int .i64 1)) ∧ Below w.heap.size w wr) (fun _ i _ => 1 - (intOf i).toNat)
    case atStart => exact ⟨.inl ⟨rfl, rfl⟩, Below.refl _ _⟩
    case round =>
      obtain ⟨⟨rfl, rfl⟩ | ⟨rfl, rfl⟩, hB⟩ := hrel
      · have h4' := (hB.cell (p := ⟨ga, 0, none⟩) hg).trans H4.out
        have HB := Lib.hid hB
        have HTB := Lib.hid (TreeAt.keep (w' := wr) (fun i _ hi => hB.block i hi) (fun _ h _ => h) x bx HT.out)
        clear hB
        go_wp2_with fail
        refine (HC.out wr HTB.out).mono ?_
        rintro e w1 ⟨rfl, b1⟩
        have HB1 := Lib.hid (below_thenN HB.out b1)
        clear b1 h4'
        have hm : max (0 : Int) (dx : Int) = (dx : Int) := by omega
        go_wp2
        go_roundw
        case rel => exact ⟨.inr ⟨by congr 1; split <;> omega, rfl⟩, HB1.out⟩
        case measure => simp [intOf]
      · have HB := Lib.hid hB
        clear hB
        go_wp2
        go_ret
        exact ⟨by rw [R.out]; go_num, HB.out⟩
  | n2 k v x y ih1 ih2 =>
    intro hf P b w ht
    obtain ⟨h1, ga, c, bx, bz, h2, h3, h4, h5, h6, h7⟩ := ht
    have c9 := h3.cell 9
    simp [tcells] at c9
    have hg := cell_lt h4
    have hd := depth_le x
    have hd2 := depth_le y
    simp only [ET.flat, List.length_append, List.length_singleton] at hf
    have HC := Lib.hid (fun W h => ih1 (by omega) P bx W h)
    have HC2 := Lib.hid (fun W h => ih2 (by omega) P bz W h)
    have HT := Lib.hid h6
    have HT2 := Lib.hid h7
    have H4 := Lib.hid h4
    have H5 := Lib.hid h5
    obtain ⟨dx, hdx⟩ : ∃ q, x.depth = q := ⟨_, rfl⟩
    obtain ⟨dy, hdy⟩ : ∃ q, y.depth = q := ⟨_, rfl⟩
    obtain ⟨mx, hmx⟩ : ∃ q : Nat, max dx dy = q := ⟨_, rfl⟩
    have R := Lib.hid (show (ET.n2 k v x y).depth = mx + 1 by rw [← hmx, ← hdx, ← hdy]; rfl)
    rw [hdx] at HC hd
    rw [hdy] at HC2 hd2
    have hdx3 : dx ≤ 1000 := by omega
    have hdy3 : dy ≤ 1000 := by omega
    have hm2 : max (dx : Int) (dy : Int) = (mx : Int) := by omega
    have hmx3 : mx ≤ 1000 := by omega
    clear h1 h2 h3 h4 h5 h6 h7 ih1 ih2 hdx hdy hd hd2 hf hmx
    go_enter Tryd.func39, Tryd.ntmps39
    go_wp2
    go_loopw [3, 11] (fun m i wr => ((m = .int .i64 0 ∧ i = .int .i64 0) ∨ (m = .int .i64 (dx : Int) ∧ i = .int .i64 1) ∨ (m = .int .i64 (mx : Int) ∧ i = .int .i64 2)) ∧ Below w.heap.size w wr) (fun _ i _ => 2 - (intOf i).toNat)
    case atStart => exact ⟨.inl ⟨rfl, rfl⟩, Below.refl _ _⟩
    case round =>
      obtain ⟨⟨rfl, rfl⟩ | ⟨rfl, rfl⟩ | ⟨rfl, rfl⟩, hB⟩ := hrel
      · have h4' := (hB.cell (p := ⟨ga, 0, none⟩) hg).trans H4.out
        have HB := Lib.hid hB
        have HTB := Lib.hid (TreeAt.keep (w' := wr) (fun i _ hi => hB.block i hi) (fun _ h _ => h) x bx HT.out)
        clear hB
        go_wp2_with fail
        refine (HC.out wr HTB.out).mono ?_
        rintro e w1 ⟨rfl, b1⟩
        have HB1 := Lib.hid (below_thenN HB.out b1)
        clear b1 h4'
        have hm : max (0 : Int) (dx : Int) = (dx : Int) := by omega
        go_wp2
        go_roundw
        case rel => exact ⟨.inr (.inl ⟨by congr 1; split <;> omega, rfl⟩), HB1.out⟩
        case measure => simp [intOf]
      · have h5' := (hB.cell (p := ⟨ga, 1, none⟩) hg).trans H5.out
        have HB := Lib.hid hB
        have HTB := Lib.hid (TreeAt.keep (w' := wr) (fun i _ hi => hB.block i hi) (fun _ h _ => h) y bz HT2.out)
        clear hB
        go_wp2_with fail
        refine (HC2.out wr HTB.out).mono ?_
        rintro e w1 ⟨rfl, b1⟩
        have HB1 := Lib.hid (below_thenN HB.out b1)
        clear b1 h5'
        go_wp2
        go_roundw
        case rel => exact ⟨.inr (.inr ⟨by congr 1; split <;> omega, rfl⟩), HB1.out⟩
        case measure => simp [intOf]
      · have HB := Lib.hid hB
        clear hB
        go_wp2
        go_ret
        exact ⟨by rw [R.out]; go_num, HB.out⟩

set_option maxRecDepth 100000 in
set_option maxHeartbeats 4000000 in
theorem implDepth_any (a : Option Addr) (l : List Nd) (c : Nat) (w : World) (hl : Nds w w.heap.size a l) (hn : l.length ≤ 1048576) (ht : NTab w) :
    Calls Tryd.prog 11 #[.slice a l.length c] w fun e w' => e = .returned (.tuple #[.int .i64 (depR l), .bool (exprB l)]) ∧ Below w.heap.size w w' := by
  have HC := Lib.hid (fun W h t => treeOf_any a l c W h hn t)
  have HL := Lib.hid hl
  have HT := Lib.hid ht
  have HE := Lib.hid (exprB_tree l)
  clear hl ht
  go_enter Tryd.func11, Tryd.ntmps11
  go_wp2_with fail
  refine (HC.out _ HL.out HT.out).mono ?_
  rintro e w1 ⟨b1, ⟨h1, rfl⟩ | ⟨t, b, h1, rfl, h2⟩⟩
  · have HB := Lib.hid b1
    have R := Lib.hid (HE.out.trans (by rw [h1]; rfl) : exprB l = false)
    have R2 := Lib.hid (show depR l = 0 by unfold depR; rw [h1])
    clear b1 h1
    go_wp2
    go_ret2
    exact ⟨by rw [R.out, R2.out]; rfl, HB.out⟩
  · have HB := Lib.hid b1
    have R := Lib.hid (HE.out.trans (by rw [h1]; rfl) : exprB l = true)
    have R2 := Lib.hid (show depR l = (t.depth : Int) by unfold depR; rw [h1])
    obtain ⟨h15, hf, _⟩ := treeT_some h1
    have HD := Lib.hid (tdepth_any t (by rw [hf]; omega) _ b w1 h2)
    clear b1 h1 h2 hf
    go_wp2_with fail
    refine HD.out.mono ?_
    rintro e w2 ⟨rfl, b2⟩
    have HB2 := Lib.hid (below_thenN HB.out b2)
    clear b2
    go_wp2
    go_ret2
    exact ⟨by rw [R.out, R2.out]; rfl, HB2.out⟩
end Go.Proofs.YtdkffljnfemngabDoor
