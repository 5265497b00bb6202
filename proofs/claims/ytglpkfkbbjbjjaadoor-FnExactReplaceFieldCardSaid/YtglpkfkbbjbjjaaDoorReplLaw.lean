/- The walk of FnExactReplaceField. -/
import Derived.Test.YtglpkfkbbjbjjaaDoorReplSpec
import Derived.Test.YtglpkfkbbjbjjaaDoorReplImpl
namespace Go.Proofs.YtglpkfkbbjbjjaaDoor
open Go.RowKit
set_option linter.unusedVariables false
set_option linter.unusedSimpArgs false
theorem replL_len (l : List Nd) (f : Int) (b : List Nd) : (replL l f b).length ≤ 15 := by
  unfold replL
  split
  · rename_i h
    unfold replB at h
    simp only [Bool.and_eq_true, decide_eq_true_eq] at h
    exact h.2
  · simp
/-- own memory below U -/
def OwnU (w : World) (B U : Nat) (a : Option Addr) (l : List Nd) : Prop := ∃ g, B ≤ g ∧ (l = [] ∨ g < U) ∧ AtN w a g l
theorem OwnU.of {w : World} {B : Nat} {a : Option Addr} {l : List Nd} (h : OwnN w B a l) : OwnU w B w.heap.size a l := by
  obtain ⟨g, h1, h2⟩ := h
  refine ⟨g, h1, ?_, h2⟩
  rcases h2 with h2 | ⟨_, h2⟩
  · exact .inl h2
  · exact .inr h2.lt
theorem OwnU.below {w w' : World} {B U : Nat} {a : Option Addr} {l : List Nd} (h : OwnU w B U a l) (hb : Below w.heap.size w w') : OwnU w' B U a l := by
  obtain ⟨g, h1, h2, h3⟩ := h
  exact ⟨g, h1, h2, h3.below hb⟩
theorem OwnU.only {w w' : World} {B U g : Nat} {a : Option Addr} {l : List Nd} (h : OwnU w B U a l) (o : Only g w w') (hg : U ≤ g) : OwnU w' B U a l := by
  obtain ⟨g', h1, h2, h3⟩ := h
  rcases h2 with h2 | h2
  · exact ⟨g', h1, .inl h2, .inl h2⟩
  · exact ⟨g', h1, .inr h2, h3.only o (by omega)⟩
theorem OwnU.nds {w : World} {B U : Nat} {a : Option Addr} {l : List Nd} (h : OwnU w B U a l) : Nds w w.heap.size a l := by
  obtain ⟨g, _, _, h⟩ := h
  exact h.nds
theorem below_only {w w1 w2 : World} {g : Nat} (h : Below w.heap.size w w1) (o : Only g w1 w2) (hg : w.heap.size ≤ g) : Below w.heap.size w w2 :=
  h.grown o.1 h.size (fun j e => by injection e with e; omega)
set_option maxRecDepth 100000 in
set_option maxHeartbeats 8000000 in
theorem walk_ReplaceField (a : Option Addr) (l : List Nd) (c : Nat) (f : Int) (a2 : Option Addr) (b : List Nd) (c2 : Nat) (w : World) (hl : Nds w w.heap.size a l) (hm : l.length ≤ maxLen) (hl2 : Nds w w.heap.size a2 b) (hm2 : b.length ≤ maxLen) (ht : NTab w) :
    Calls Tryd.prog 4 #[.slice a l.length c, .int .i64 f, .slice a2 b.length c2] w fun e w' => e = .returned (.bool true) ∧ Below w.heap.size w w' := by
  have HZ1 := Lib.hid (fun W => szNodes_any a l.length c 1048576 W hm (by omega) (by omega))
  have HZ2 := Lib.hid (fun W h => szNodes_any a2 b.length c2 (1048576 - (l.length : Int)) W hm2 h (by omega))
  unfold maxLen at hm hm2
  by_cases hn : (l.length : Int) ≤ 1048576
  · by_cases hn2 : (b.length : Int) ≤ 1048576 - (l.length : Int)
    · have q1 : l.length ≤ 1048576 := by omega
      have q2 : b.length ≤ 1048576 := by omega
      have HZ3 := Lib.hid (fun W => HZ2.out W (by omega))
      rw [if_pos hn] at HZ1
      rw [if_pos hn2] at HZ3
      have HL := Lib.hid hl
      have HL2 := Lib.hid hl2
      have HTB := Lib.hid ht
      have HT1 := Lib.hid (fun W (G : Below w.heap.size w W) => toNodes_any a l c W ((hl.below G (Nat.le_refl _)).more G.size) q1)
      have HT2 := Lib.hid (fun W (G : Below w.heap.size w W) => toNodes_any a2 b c2 W ((hl2.below G (Nat.le_refl _)).more G.size) q2)
      have HS := Lib.hid (fun p q W h h' => specRepl_any (some ⟨p, 0, none⟩) l l.length f (some ⟨q, 0, none⟩) b b.length W h h' q1 q2)
      have HI := Lib.hid (fun p q W h h' (G : Below w.heap.size w W) => implRepl_any (some ⟨p, 0, none⟩) l l.length f (some ⟨q, 0, none⟩) b b.length W h h' q1 q2 (ht.below G))
      have hr := replL_len l f b
      unfold RPost at HS HI
      generalize replB l f b = v at *
      generalize replL l f b = rl at *
      have hvv : (v != v) = false := by cases v <;> rfl
      have hq3 : ¬ (1048576 - (l.length : Int) < 0) := by omega
      have hq4 : ¬ (1048576 - (l.length : Int) - (b.length : Int) < 0) := by omega
      have G0 := Lib.hid (Below.refl w.heap.size w)
      clear hl hl2 ht HZ2
      go_enter Tryd.func4, Tryd.ntmps4
      go_wp2_with fail
      refine (HZ1.out _).mono ?_
      rintro e w1 ⟨rfl, rfl⟩
      go_wp2_with fail
      refine (HZ3.out _).mono ?_
      rintro e w1 ⟨rfl, rfl⟩
      go_wp2_with fail
      refine (HT1.out _ G0.out).mono ?_
      rintro e w11 ⟨rfl, r1, b1, z1⟩
      have G1 := Lib.hid (below_then G0.out b1)
      have P1 := Lib.hid (show AtN w11 (some ⟨w.heap.size, 0, none⟩) w.heap.size l from .inr ⟨rfl, r1⟩)
      have s1 := G1.out.size
      clear r1
      clear b1 G0
      go_wp2_with fail
      refine (HT2.out _ G1.out).mono ?_
      rintro e w12 ⟨rfl, r2, b2, z2⟩
      have G2 := Lib.hid (below_then G1.out b2)
      have P2 := Lib.hid (P1.out.below b2)
      have Q2 := Lib.hid (show AtN w12 (some ⟨w11.heap.size, 0, none⟩) w11.heap.size b from .inr ⟨rfl, r2⟩)
      have s2 := G2.out.size
      clear r2
      clear b2 G1 P1
      go_wp2_with fail
      refine (HS.out _ _ _ P2.out.nds Q2.out.nds).mono ?_
      rintro e w13 ⟨a3, c3, rfl, o3, b3⟩
      have u3 := b3.size
      have G3 := Lib.hid (below_then G2.out b3)
      have P3 := Lib.hid (P2.out.below b3)
      have Q3 := Lib.hid (Q2.out.below b3)
      have V3 := Lib.hid (OwnU.of o3)
      clear o3
      clear b3 G2 P2 Q2
      go_wp2_with fail
      clear P3
      clear Q3
      refine (HT1.out _ G3.out).mono ?_
      rintro e w14 ⟨rfl, r4, b4, z4⟩
      have G4 := Lib.hid (below_then G3.out b4)
      have V4 := Lib.hid (V3.out.below b4)
      have X4 := Lib.hid (show AtN w14 (some ⟨w13.heap.size, 0, none⟩) w13.heap.size l from .inr ⟨rfl, r4⟩)
      have s4 := G4.out.size
      clear r4
      clear b4 G3 V3
      go_wp2_with fail
      refine (HT2.out _ G4.out).mono ?_
      rintro e w15 ⟨rfl, r5, b5, z5⟩
      have G5 := Lib.hid (below_then G4.out b5)
      have V5 := Lib.hid (V4.out.below b5)
      have X5 := Lib.hid (X4.out.below b5)
      have Y5 := Lib.hid (show AtN w15 (some ⟨w14.heap.size, 0, none⟩) w14.heap.size b from .inr ⟨rfl, r5⟩)
      have s5 := G5.out.size
      clear r5
      clear b5 G4 V4 X4
      go_wp2_with fail
      refine (HI.out _ _ _ X5.out.nds Y5.out.nds G5.out).mono ?_
      rintro e w16 ⟨a6, c6, rfl, o6, b6⟩
      have u6 := b6.size
      have G6 := Lib.hid (below_then G5.out b6)
      have V6 := Lib.hid (V5.out.below b6)
      have X6 := Lib.hid (X5.out.below b6)
      have Y6 := Lib.hid (Y5.out.below b6)
      have R6 := Lib.hid o6
      clear o6
      clear b6 G5 V5 X5 Y5
      go_wp2_with fail
      refine (eqNodes_yes _ _ rl _ _ _ R6.out.nds V6.out.nds (by omega)).mono ?_
      rintro e w17 ⟨rfl, b7⟩
      have G7 := Lib.hid (below_then G6.out b7)
      have V7 := Lib.hid (V6.out.below b7)
      have X7 := Lib.hid (X6.out.below b7)
      have Y7 := Lib.hid (Y6.out.below b7)
      have R7 := Lib.hid (R6.out.below b7)
      clear b7 G6 V6 X6 Y6 R6
      go_wp2_with fail
      refine (HT1.out _ G7.out).mono ?_
      rintro e w18 ⟨rfl, r8, b8, z8⟩
      have G8 := Lib.hid (below_then G7.out b8)
      have V8 := Lib.hid (V7.out.below b8)
      have X8 := Lib.hid (X7.out.below b8)
      have Y8 := Lib.hid (Y7.out.below b8)
      have R8 := Lib.hid (R7.out.below b8)
      have E8 := Lib.hid (show AtN w18 (some ⟨w17.heap.size, 0, none⟩) w17.heap.size l from .inr ⟨rfl, r8⟩)
      have s8 := G8.out.size
      clear r8
      clear b8 G7 V7 X7 Y7 R7
      go_wp2_with fail
      refine (eqNodes_yes _ _ l _ _ _ X8.out.nds E8.out.nds q1).mono ?_
      rintro e w19 ⟨rfl, b9⟩
      have G9 := Lib.hid (below_then G8.out b9)
      have V9 := Lib.hid (V8.out.below b9)
      have X9 := Lib.hid (X8.out.below b9)
      have Y9 := Lib.hid (Y8.out.below b9)
      have R9 := Lib.hid (R8.out.below b9)
      have E9 := Lib.hid (E8.out.below b9)
      clear b9 G8 V8 X8 Y8 R8 E8
      clear E9
      go_wp2_with fail
      refine (HT2.out _ G9.out).mono ?_
      rintro e w20 ⟨rfl, r10, b10, z10⟩
      have G10 := Lib.hid (below_then G9.out b10)
      have V10 := Lib.hid (V9.out.below b10)
      have X10 := Lib.hid (X9.out.below b10)
      have Y10 := Lib.hid (Y9.out.below b10)
      have R10 := Lib.hid (R9.out.below b10)
      have E10 := Lib.hid (show AtN w20 (some ⟨w19.heap.size, 0, none⟩) w19.heap.size b from .inr ⟨rfl, r10⟩)
      have s10 := G10.out.size
      clear r10
      clear b10 G9 V9 X9 Y9 R9
      go_wp2_with fail
      refine (eqNodes_yes _ _ b _ _ _ Y10.out.nds E10.out.nds q2).mono ?_
      rintro e w21 ⟨rfl, b11⟩
      have G11 := Lib.hid (below_then G10.out b11)
      have V11 := Lib.hid (V10.out.below b11)
      have X11 := Lib.hid (X10.out.below b11)
      have Y11 := Lib.hid (Y10.out.below b11)
      have R11 := Lib.hid (R10.out.below b11)
      have E11 := Lib.hid (E10.out.below b11)
      clear b11 G10 V10 X10 Y10 R10 E10
      clear E11
      go_wp2_with fail
      refine (markNodes_any _ l _ _ 1 w21 X11.out (by omega) (by omega) (by omega)).mono ?_
      rintro e w22 ⟨rfl, t12, o12⟩
      have G12 := Lib.hid (below_only G11.out o12 (by omega))
      have V12 := Lib.hid (V11.out.only o12 (by omega))
      have X12 := Lib.hid t12
      have Y12 := Lib.hid (Y11.out.only o12 (by omega))
      have R12 := Lib.hid (R11.out.only o12 (by omega))
      clear t12 o12 G11 V11 X11 Y11 R11
      go_wp2_with fail
      refine (markNodes_any _ b _ _ (1 + 2 * (l.length : Int)) w22 Y12.out (by omega) (by omega) (by omega)).mono ?_
      rintro e w23 ⟨rfl, t13, o13⟩
      have G13 := Lib.hid (below_only G12.out o13 (by omega))
      have V13 := Lib.hid (V12.out.only o13 (by omega))
      have X13 := Lib.hid (X12.out.only o13 (by omega))
      have Y13 := Lib.hid t13
      have R13 := Lib.hid (R12.out.only o13 (by omega))
      clear t13 o13 G12 V12 X12 Y12 R12
      go_wp2_with fail
      clear X13
      clear Y13
      refine (eqNodes_yes _ _ rl _ _ _ R13.out.nds V13.out.nds (by omega)).mono ?_
      rintro e w24 ⟨rfl, b14⟩
      have G14 := Lib.hid (below_then G13.out b14)
      have V14 := Lib.hid (V13.out.below b14)
      have R14 := Lib.hid (R13.out.below b14)
      clear b14 G13 V13 R13
      have hk0 : ¬ (1 + 2 * (l.length : Int) + 2 * (b.length : Int) < 0) := by omega
      go_wp2_with fail
      obtain ⟨gr, hgr, hat⟩ := R14.out
      have R_14 := Lib.hid hat
      clear R14 hat
      refine (markNodes_any _ rl _ gr 1 w24 R_14.out (by omega) (by omega) (by omega)).mono ?_
      rintro e w25 ⟨rfl, t15, o15⟩
      have R15 := Lib.hid t15
      have G15 := Lib.hid (below_only G14.out o15 (by omega))
      have V15 := Lib.hid (V14.out.only o15 (by omega))
      clear t15 o15 R_14 G14 V14
      have hh15 : ¬ (1 + 2 * (rl.length : Int) < 0) := by omega
      go_wp2_with fail
      refine (heldNodes_any _ rl.length _ 1 w25 R15.out.nds (by omega) (by omega) (by omega)).mono ?_
      rintro e w915 ⟨rfl, rfl⟩
      go_wp2_with fail
      refine (HT1.out _ G15.out).mono ?_
      rintro e w26 ⟨rfl, r16, b16, z16⟩
      have G16 := Lib.hid (below_then G15.out b16)
      have V16 := Lib.hid (V15.out.below b16)
      have R16 := Lib.hid (R15.out.below b16)
      have P16 := Lib.hid (show AtN w26 (some ⟨w25.heap.size, 0, none⟩) w25.heap.size l from .inr ⟨rfl, r16⟩)
      have s16 := G16.out.size
      clear r16
      clear b16 G15 V15 R15
      go_wp2_with fail
      refine (HT2.out _ G16.out).mono ?_
      rintro e w27 ⟨rfl, r17, b17, z17⟩
      have G17 := Lib.hid (below_then G16.out b17)
      have V17 := Lib.hid (V16.out.below b17)
      have R17 := Lib.hid (R16.out.below b17)
      have P17 := Lib.hid (P16.out.below b17)
      have Q17 := Lib.hid (show AtN w27 (some ⟨w26.heap.size, 0, none⟩) w26.heap.size b from .inr ⟨rfl, r17⟩)
      have s17 := G17.out.size
      clear r17
      clear b17 G16 V16 R16 P16
      go_wp2_with fail
      refine (HI.out _ _ _ P17.out.nds Q17.out.nds G17.out).mono ?_
      rintro e w28 ⟨a18, c18, rfl, o18, b18⟩
      have u18 := b18.size
      have G18 := Lib.hid (below_then G17.out b18)
      have V18 := Lib.hid (V17.out.below b18)
      have R18 := Lib.hid (R17.out.below b18)
      have P18 := Lib.hid (P17.out.below b18)
      have Q18 := Lib.hid (Q17.out.below b18)
      have H18 := Lib.hid o18
      clear o18
      clear b18 G17 V17 R17 P17 Q17
      go_wp2_with fail
      clear P18
      clear Q18
      refine (eqNodes_yes _ _ rl _ _ _ H18.out.nds V18.out.nds (by omega)).mono ?_
      rintro e w29 ⟨rfl, b19⟩
      have G19 := Lib.hid (below_then G18.out b19)
      have V19 := Lib.hid (V18.out.below b19)
      have R19 := Lib.hid (R18.out.below b19)
      have H19 := Lib.hid (H18.out.below b19)
      clear b19 G18 V18 R18 H18
      have hh19 : ¬ (1 + 2 * (rl.length : Int) < 0) := by omega
      go_wp2_with fail
      refine (heldNodes_any _ rl.length _ 1 w29 R19.out.nds (by omega) (by omega) (by omega)).mono ?_
      rintro e w919 ⟨rfl, rfl⟩
      go_wp2_with fail
      go_ret
      exact ⟨rfl, G19.out⟩
    · have HZ3 := Lib.hid (fun W => HZ2.out W (by omega))
      rw [if_pos hn] at HZ1
      rw [if_neg hn2] at HZ3
      have hq3 : ¬ (1048576 - (l.length : Int) < 0) := by omega
      go_enter Tryd.func4, Tryd.ntmps4
      go_wp2_with fail
      refine (HZ1.out _).mono ?_
      rintro e w1 ⟨rfl, rfl⟩
      go_wp2_with fail
      refine (HZ3.out _).mono ?_
      rintro e w1 ⟨rfl, rfl⟩
      go_wp2
      go_ret
      exact ⟨rfl, Below.refl _ _⟩
  · rw [if_neg hn] at HZ1
    go_enter Tryd.func4, Tryd.ntmps4
    go_wp2_with (go_at_call 10; refine (HZ1.out _).mono ?_; rintro e w1 ⟨rfl, rfl⟩)
    go_ret
    exact ⟨rfl, Below.refl _ _⟩
end Go.Proofs.YtglpkfkbbjbjjaaDoor
