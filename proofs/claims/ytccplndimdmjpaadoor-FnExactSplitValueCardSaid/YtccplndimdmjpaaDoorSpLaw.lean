/- The walk of the law FnExactSplitValue. -/
import Derived.Test.YtccplndimdmjpaaDoorSpSpec2
namespace Go.Proofs.YtccplndimdmjpaaDoor
open Go.RowKit
set_option linter.unusedVariables false
set_option linter.unusedSimpArgs false
set_option maxRecDepth 100000 in
set_option maxHeartbeats 8000000 in
theorem walk_SpLaw (v : Int) (a : Option Addr) (l : List Int) (c : Nat) (w : World) (hl : Ints .i64 w w.heap.size a l) (hm : l.length ≤ maxLen) (ht : BlockIs w 0 deBruijn64tabCells.toArray) :
    Calls Tryd.prog 3 #[.int .i64 v, .slice a l.length c] w fun e w' => e = .returned (.bool true) ∧ Below w.heap.size w w' := by
  unfold maxLen at hm
  by_cases hn : (1048576 : Int) < (l.length : Int)
  · clear hl ht
    go_enter Tryd.func3, Tryd.ntmps3
    go_wp2
    go_ret
    exact ⟨rfl, Below.refl _ _⟩
  · have hn1 : l.length ≤ 1048576 := by omega
    have HL := Lib.hid hl
    have HT := Lib.hid ht
    have HV := Lib.hid (fun W a c h => specSplit_any v a l c W h hn1)
    have HI := Lib.hid (fun W a c h ht => implSplit_any v a l c W h hn1 ht)
    have hlen := spR_len v l
    generalize spR v l = r at *
    generalize spB v l = rb at *
    unfold SvRet at HV HI
    have er : (rb != rb) = false := by simp
    clear hl ht hn hm
    have hr1 : r.length ≤ 1048576 := by omega
    go_enter Tryd.func3, Tryd.ntmps3
    go_wp2_with fail
    refine (toInts_any a l c _ HL.out hn1).mono ?_
    rintro e w1 ⟨rfl, at1, b1, z1⟩
    have B1 := Lib.hid b1
    have A1 := Lib.hid at1
    clear at1 b1
    go_wp2_with fail
    refine (HV.out _ _ _ A1.out.ints).mono ?_
    rintro e w2 ⟨a2, c2, rfl, o2, b2⟩
    have D2 := Lib.hid o2.ints
    have B2 := Lib.hid (below_then B1.out b2)
    have z2 := b2.size
    clear o2 b2 A1 B1
    go_wp2_with fail
    refine (toInts_any a l c _ ((HL.out.below B2.out (Nat.le_refl _)).more B2.out.size) hn1).mono ?_
    rintro e w3 ⟨rfl, at3, b3, z3⟩
    have D3 := Lib.hid (D2.out.below b3 (Nat.le_refl _))
    have B3 := Lib.hid (below_then B2.out b3)
    have X3 := Lib.hid at3
    clear at3 b3 D2 B2
    go_wp2_with fail
    refine (HI.out _ _ _ X3.out.ints (HT.out.below B3.out)).mono ?_
    rintro e w4 ⟨a4, c4, rfl, o4, b4⟩
    obtain ⟨g4, hg4, hgn4, at4⟩ := o4.pick b4.size
    have D4 := Lib.hid (D3.out.below b4 (by omega))
    have B4 := Lib.hid (below_then B3.out b4)
    have X4 := Lib.hid (X3.out.below b4)
    have G4 := Lib.hid at4
    have z4 := b4.size
    clear at4 b4 o4 D3 B3 X3
    go_wp2_with fail
    refine (eqInts_yes _ _ r _ _ _ _ _ G4.out.ints D4.out hr1).mono ?_
    rintro e w5 ⟨rfl, d5⟩
    have b5 := d5.below w4.heap.size
    have D5 := Lib.hid (D4.out.drew d5)
    have B5 := Lib.hid (below_then B4.out b5)
    have X5 := Lib.hid (X4.out.drew d5)
    have G5 := Lib.hid (G4.out.drew d5)
    have z5 := b5.size
    clear b5 d5 D4 B4 X4 G4
    go_wp2_with fail
    refine (toInts_any a l c _ ((HL.out.below B5.out (Nat.le_refl _)).more B5.out.size) hn1).mono ?_
    rintro e w6 ⟨rfl, at6, b6, z6⟩
    have D6 := Lib.hid (D5.out.below b6 (by omega))
    have B6 := Lib.hid (below_then B5.out b6)
    have X6 := Lib.hid (X5.out.below b6)
    have G6 := Lib.hid (G5.out.below b6)
    have Y6 := Lib.hid at6
    clear at6 b6 D5 B5 X5 G5
    go_wp2_with fail
    refine (eqInts_yes _ _ l _ _ _ _ _ X6.out.ints Y6.out.ints hn1).mono ?_
    rintro e w7 ⟨rfl, d7⟩
    have b7 := d7.below w6.heap.size
    have D7 := Lib.hid (D6.out.drew d7)
    have B7 := Lib.hid (below_then B6.out b7)
    have X7 := Lib.hid (X6.out.drew d7)
    have G7 := Lib.hid (G6.out.drew d7)
    have z7 := b7.size
    clear b7 d7 D6 B6 X6 G6 Y6
    go_wp2_with fail
    refine (markInts_any _ l _ w2.heap.size 1 _ X7.out hn1 (by omega) (by omega)).mono ?_
    rintro e w8 ⟨rfl, at8, o8⟩
    have D8 := Lib.hid (D7.out.turn o8.1 (Nat.le_refl _) (by omega))
    have B8 := Lib.hid (below_turn B7.out o8.1 B7.out.size (by omega))
    have G8 := Lib.hid (G7.out.only o8 (by omega))
    have z8 := o8.1.size
    clear at8 o8 D7 B7 X7 G7
    go_wp2_with fail
    refine (eqInts_yes _ _ r _ _ _ _ _ G8.out.ints D8.out hr1).mono ?_
    rintro e w9 ⟨rfl, d9⟩
    have b9 := d9.below w8.heap.size
    have D9 := Lib.hid (D8.out.drew d9)
    have B9 := Lib.hid (below_then B8.out b9)
    have G9 := Lib.hid (G8.out.drew d9)
    have z9 := b9.size
    clear b9 d9 D8 B8 G8
    go_wp2_with fail
    refine (markInts_any _ r _ g4 1 _ G9.out hr1 (by omega) (by omega)).mono ?_
    rintro e w10 ⟨rfl, at10, o10⟩
    have D10 := Lib.hid (D9.out.turn o10.1 (by omega) (by omega))
    have B10 := Lib.hid (below_turn B9.out o10.1 B9.out.size (by omega))
    have G10 := Lib.hid at10
    have z10 := o10.1.size
    clear at10 o10 D9 B9 G9
    go_wp2_with fail
    refine (heldInts_any _ r.length _ _ 1 _ G10.out.ints hr1 (by omega) (by omega)).mono ?_
    rintro e w11 ⟨rfl, rfl⟩
    go_wp2_with fail
    refine (toInts_any a l c _ ((HL.out.below B10.out (Nat.le_refl _)).more B10.out.size) hn1).mono ?_
    rintro e w12 ⟨rfl, at12, b12, z12⟩
    have D12 := Lib.hid (D10.out.below b12 (by omega))
    have B12 := Lib.hid (below_then B10.out b12)
    have G12 := Lib.hid (G10.out.below b12)
    have Y12 := Lib.hid at12
    clear at12 b12 D10 B10 G10
    go_wp2_with fail
    refine (HI.out _ _ _ Y12.out.ints (HT.out.below B12.out)).mono ?_
    rintro e w13 ⟨a13, c13, rfl, o13, b13⟩
    have D13 := Lib.hid (D12.out.below b13 (by omega))
    have B13 := Lib.hid (below_then B12.out b13)
    have G13 := Lib.hid (G12.out.below b13)
    have J13 := Lib.hid o13.ints
    clear b13 o13 D12 B12 G12 Y12
    go_wp2_with fail
    refine (eqInts_yes _ _ r _ _ _ _ _ J13.out D13.out hr1).mono ?_
    rintro e w14 ⟨rfl, d14⟩
    have b14 := d14.below w13.heap.size
    have B14 := Lib.hid (below_then B13.out b14)
    have G14 := Lib.hid (G13.out.drew d14)
    clear b14 d14 D13 B13 G13 J13
    go_wp2_with fail
    refine (heldInts_any _ r.length _ _ 1 _ G14.out.ints hr1 (by omega) (by omega)).mono ?_
    rintro e w15 ⟨rfl, rfl⟩
    go_wp2
    go_ret
    exact ⟨rfl, B14.out⟩
end Go.Proofs.YtccplndimdmjpaaDoor
