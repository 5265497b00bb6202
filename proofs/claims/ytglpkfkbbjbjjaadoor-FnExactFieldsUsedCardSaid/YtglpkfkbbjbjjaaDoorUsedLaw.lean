/- The walk of FnExactFieldsUsed. -/
import Derived.Test.YtglpkfkbbjbjjaaDoorUsedSpec2
import Derived.Test.YtglpkfkbbjbjjaaDoorNodeMark
namespace Go.Proofs.YtglpkfkbbjbjjaaDoor
open Go.RowKit
set_option linter.unusedVariables false
set_option linter.unusedSimpArgs false
theorem usedR_len (l : List Nd) : (usedR l).length ≤ 4 := by
  unfold usedR
  split
  · exact usedU_len l 4
  · simp
/-- own memory below U -/
def OwnUI (w : World) (B U : Nat) (a : Option Addr) (l : List Int) : Prop := ∃ g, B ≤ g ∧ (l = [] ∨ g < U) ∧ At w a g l
theorem OwnUI.of {w : World} {B : Nat} {a : Option Addr} {l : List Int} (h : OwnI w B a l) : OwnUI w B w.heap.size a l := by
  obtain ⟨g, h1, h2⟩ := h
  refine ⟨g, h1, ?_, h2⟩
  rcases h2 with h2 | ⟨_, h2⟩
  · exact .inl h2
  · exact .inr h2.lt
theorem OwnUI.below {w w' : World} {B U : Nat} {a : Option Addr} {l : List Int} (h : OwnUI w B U a l) (hb : Below w.heap.size w w') : OwnUI w' B U a l := by
  obtain ⟨g, h1, h2, h3⟩ := h
  exact ⟨g, h1, h2, h3.below hb⟩
theorem OwnUI.only {w w' : World} {B U g : Nat} {a : Option Addr} {l : List Int} (h : OwnUI w B U a l) (o : Only g w w') (hg : U ≤ g) : OwnUI w' B U a l := by
  obtain ⟨g', h1, h2, h3⟩ := h
  rcases h2 with h2 | h2
  · exact ⟨g', h1, .inl h2, .inl h2⟩
  · exact ⟨g', h1, .inr h2, h3.only o (by omega)⟩
theorem OwnUI.ints {w : World} {B U : Nat} {a : Option Addr} {l : List Int} (h : OwnUI w B U a l) : Ints .i64 w w.heap.size a l := by
  obtain ⟨g, _, _, h⟩ := h
  exact h.ints
theorem below_only {w w1 w2 : World} {g : Nat} (h : Below w.heap.size w w1) (o : Only g w1 w2) (hg : w.heap.size ≤ g) : Below w.heap.size w w2 :=
  h.grown o.1 h.size (fun j e => by injection e with e; omega)
set_option maxRecDepth 100000 in
set_option maxHeartbeats 8000000 in
theorem walk_FieldsUsed (a : Option Addr) (l : List Nd) (c : Nat) (w : World) (hl : Nds w w.heap.size a l) (hm : l.length ≤ maxLen) (ht : NTab w) :
    Calls Tryd.prog 5 #[.slice a l.length c] w fun e w' => e = .returned (.bool true) ∧ Below w.heap.size w w' := by
  have HZ1 := Lib.hid (fun W => szNodes_any a l.length c 1048576 W hm (by omega) (by omega))
  unfold maxLen at hm
  by_cases hn : (l.length : Int) ≤ 1048576
  · skip
    · have q1 : l.length ≤ 1048576 := by omega
      rw [if_pos hn] at HZ1
      have HL := Lib.hid hl
      have HTB := Lib.hid ht
      have HT1 := Lib.hid (fun W (G : Below w.heap.size w W) => toNodes_any a l c W ((hl.below G (Nat.le_refl _)).more G.size) q1)
      have HS := Lib.hid (fun p W h => specUsed_any (some ⟨p, 0, none⟩) l l.length W h q1)
      have HI := Lib.hid (fun p W h (G : Below w.heap.size w W) => implUsed_any (some ⟨p, 0, none⟩) l l.length W h q1 (ht.below G))
      have hr := usedR_len l
      unfold UPost at HS HI
      generalize exprB l = v at *
      generalize usedR l = rl at *
      have hvv : (v != v) = false := by cases v <;> rfl
      have hq3 : ¬ (1048576 - (l.length : Int) < 0) := by omega
      have G0 := Lib.hid (Below.refl w.heap.size w)
      clear hl ht
      go_enter Tryd.func5, Tryd.ntmps5
      go_wp2_with fail
      refine (HZ1.out _).mono ?_
      rintro e w1 ⟨rfl, rfl⟩
      go_wp2_with fail
      refine (HT1.out _ G0.out).mono ?_
      rintro e w11 ⟨rfl, r1, b1, z1⟩
      have G1 := Lib.hid (below_then G0.out b1)
      have P1 := Lib.hid (show AtN w11 (some ⟨w.heap.size, 0, none⟩) w.heap.size l from .inr ⟨rfl, r1⟩)
      have s1 := G1.out.size
      clear r1
      clear b1 G0
      go_wp2_with fail
      refine (HS.out _ _ P1.out.nds).mono ?_
      rintro e w12 ⟨a2, c2, rfl, o2, b2⟩
      have u2 := b2.size
      have G2 := Lib.hid (below_then G1.out b2)
      have P2 := Lib.hid (P1.out.below b2)
      have V2 := Lib.hid (OwnUI.of o2)
      clear o2
      clear b2 G1 P1
      go_wp2_with fail
      clear P2
      refine (HT1.out _ G2.out).mono ?_
      rintro e w13 ⟨rfl, r3, b3, z3⟩
      have G3 := Lib.hid (below_then G2.out b3)
      have V3 := Lib.hid (V2.out.below b3)
      have X3 := Lib.hid (show AtN w13 (some ⟨w12.heap.size, 0, none⟩) w12.heap.size l from .inr ⟨rfl, r3⟩)
      have s3 := G3.out.size
      clear r3
      clear b3 G2 V2
      go_wp2_with fail
      refine (HI.out _ _ X3.out.nds G3.out).mono ?_
      rintro e w14 ⟨a4, c4, rfl, o4, b4⟩
      have u4 := b4.size
      have G4 := Lib.hid (below_then G3.out b4)
      have V4 := Lib.hid (V3.out.below b4)
      have X4 := Lib.hid (X3.out.below b4)
      have R4 := Lib.hid o4
      clear o4
      clear b4 G3 V3 X3
      go_wp2_with fail
      refine (eqInts_yes _ _ rl _ _ _ _ _ R4.out.ints V4.out.ints (by omega)).mono ?_
      rintro e w15 ⟨rfl, d5⟩
      have b5 : Below w14.heap.size w14 w15 := d5.below _
      have G5 := Lib.hid (below_then G4.out b5)
      have V5 := Lib.hid (V4.out.below b5)
      have X5 := Lib.hid (X4.out.below b5)
      have R5 := Lib.hid (R4.out.below b5)
      clear b5 G4 V4 X4 R4
      go_wp2_with fail
      refine (HT1.out _ G5.out).mono ?_
      rintro e w16 ⟨rfl, r6, b6, z6⟩
      have G6 := Lib.hid (below_then G5.out b6)
      have V6 := Lib.hid (V5.out.below b6)
      have X6 := Lib.hid (X5.out.below b6)
      have R6 := Lib.hid (R5.out.below b6)
      have E6 := Lib.hid (show AtN w16 (some ⟨w15.heap.size, 0, none⟩) w15.heap.size l from .inr ⟨rfl, r6⟩)
      have s6 := G6.out.size
      clear r6
      clear b6 G5 V5 X5 R5
      go_wp2_with fail
      refine (eqNodes_yes _ _ l _ _ _ X6.out.nds E6.out.nds q1).mono ?_
      rintro e w17 ⟨rfl, b7⟩
      have G7 := Lib.hid (below_then G6.out b7)
      have V7 := Lib.hid (V6.out.below b7)
      have X7 := Lib.hid (X6.out.below b7)
      have R7 := Lib.hid (R6.out.below b7)
      have E7 := Lib.hid (E6.out.below b7)
      clear b7 G6 V6 X6 R6 E6
      clear E7
      go_wp2_with fail
      refine (markNodes_any _ l _ w12.heap.size 1 w17 X7.out (by omega) (by omega) (by omega)).mono ?_
      rintro e w18 ⟨rfl, t8, o8⟩
      have G8 := Lib.hid (below_only G7.out o8 (by omega))
      have V8 := Lib.hid (V7.out.only o8 (by omega))
      have R8 := Lib.hid (R7.out.only o8 (by omega))
      clear t8 o8 X7 G7 V7 R7
      have hk0 : ¬ (1 + 2 * (l.length : Int) < 0) := by omega
      go_wp2_with fail
      refine (eqInts_yes _ _ rl _ _ _ _ _ R8.out.ints V8.out.ints (by omega)).mono ?_
      rintro e w19 ⟨rfl, d9⟩
      have b9 : Below w18.heap.size w18 w19 := d9.below _
      have G9 := Lib.hid (below_then G8.out b9)
      have V9 := Lib.hid (V8.out.below b9)
      have R9 := Lib.hid (R8.out.below b9)
      clear b9 G8 V8 R8
      go_wp2_with fail
      obtain ⟨gr, hgr, hat⟩ := R9.out
      have R_9 := Lib.hid hat
      clear R9 hat
      refine (markInts_any _ rl _ gr 1 w19 R_9.out (by omega) (by omega) (by omega)).mono ?_
      rintro e w20 ⟨rfl, t10, o10⟩
      have R10 := Lib.hid t10
      have G10 := Lib.hid (below_only G9.out o10 (by omega))
      have V10 := Lib.hid (V9.out.only o10 (by omega))
      clear t10 o10 R_9 G9 V9
      have hh10 : ¬ (1 + (rl.length : Int) < 0) := by omega
      go_wp2_with fail
      refine (heldInts_any _ rl.length _ _ 1 w20 R10.out.ints (by omega) (by omega) (by omega)).mono ?_
      rintro e w910 ⟨rfl, rfl⟩
      go_wp2_with fail
      refine (HT1.out _ G10.out).mono ?_
      rintro e w21 ⟨rfl, r11, b11, z11⟩
      have G11 := Lib.hid (below_then G10.out b11)
      have V11 := Lib.hid (V10.out.below b11)
      have R11 := Lib.hid (R10.out.below b11)
      have P11 := Lib.hid (show AtN w21 (some ⟨w20.heap.size, 0, none⟩) w20.heap.size l from .inr ⟨rfl, r11⟩)
      have s11 := G11.out.size
      clear r11
      clear b11 G10 V10 R10
      go_wp2_with fail
      refine (HI.out _ _ P11.out.nds G11.out).mono ?_
      rintro e w22 ⟨a12, c12, rfl, o12, b12⟩
      have u12 := b12.size
      have G12 := Lib.hid (below_then G11.out b12)
      have V12 := Lib.hid (V11.out.below b12)
      have R12 := Lib.hid (R11.out.below b12)
      have P12 := Lib.hid (P11.out.below b12)
      have H12 := Lib.hid o12
      clear o12
      clear b12 G11 V11 R11 P11
      go_wp2_with fail
      clear P12
      refine (eqInts_yes _ _ rl _ _ _ _ _ H12.out.ints V12.out.ints (by omega)).mono ?_
      rintro e w23 ⟨rfl, d13⟩
      have b13 : Below w22.heap.size w22 w23 := d13.below _
      have G13 := Lib.hid (below_then G12.out b13)
      have V13 := Lib.hid (V12.out.below b13)
      have R13 := Lib.hid (R12.out.below b13)
      have H13 := Lib.hid (H12.out.below b13)
      clear b13 G12 V12 R12 H12
      have hh13 : ¬ (1 + (rl.length : Int) < 0) := by omega
      go_wp2_with fail
      refine (heldInts_any _ rl.length _ _ 1 w23 R13.out.ints (by omega) (by omega) (by omega)).mono ?_
      rintro e w913 ⟨rfl, rfl⟩
      go_wp2_with fail
      go_ret
      exact ⟨rfl, G13.out⟩
  · rw [if_neg hn] at HZ1
    go_enter Tryd.func5, Tryd.ntmps5
    go_wp2_with (go_at_call 10; refine (HZ1.out _).mono ?_; rintro e w1 ⟨rfl, rfl⟩)
    go_ret
    exact ⟨rfl, Below.refl _ _⟩
end Go.Proofs.YtglpkfkbbjbjjaaDoor
