/- The program's cellOverlaps. -/
import Derived.Test.YtccplndimdmjpaaDoorRtCol
import Derived.Test.YtccplndimdmjpaaDoorSpImpl2
import Derived.Test.YtccplndimdmjpaaDoorMake
import Derived.Test.YtccplndimdmjpaaDoorLws
import Derived.Deep.RegionLaw
import Derived.Deep.DeepCutAuto
import Derived.IntWalk
namespace Go.Proofs.YtccplndimdmjpaaDoor
open Go.RowKit
set_option linter.unusedVariables false
set_option linter.unusedSimpArgs false
/-- the two arguments' boxes -/
structure Co (w : World) (W H P Q : Int) (v2 u2 : Value) (wr : World) : Prop where
  b : Below w.heap.size w wr
  f : Box wr w.heap.size 32 (.int .i64 W) (.int .i64 H) v2
  g : Box wr (w.heap.size + 1) 32 (.int .i64 P) (.int .i64 Q) u2
section
variable {w w1 w2 : World} {W H P Q : Int} {v2 u2 : Value}
theorem Co.step (h : Co w W H P Q v2 u2 w1) (b : Below w1.heap.size w1 w2) : Co w W H P Q v2 u2 w2 := ⟨below_then h.b b, h.f.below b, h.g.below b⟩
theorem Co.turn {q : Nat} (h : Co w W H P Q v2 u2 w1) (t : w1.grownBy w2 (some q)) (hq : w.heap.size + 2 ≤ q) : Co w W H P Q v2 u2 w2 := ⟨below_turn h.b t h.b.size (by omega), h.f.turn t (by omega), h.g.turn t (by omega)⟩
theorem Co.sides (h : Co w W H P Q v2 u2 w1) : (w1.cell? ⟨w.heap.size, 0, none⟩ = some (.int .i64 W) ∧ w1.cell? ⟨w.heap.size, 1, none⟩ = some (.int .i64 H)) ∧ w1.cell? ⟨w.heap.size + 1, 0, none⟩ = some (.int .i64 P) ∧ w1.cell? ⟨w.heap.size + 1, 1, none⟩ = some (.int .i64 Q) :=
  ⟨⟨h.f.cells.1, h.f.cells.2.1⟩, h.g.cells.1, h.g.cells.2.1⟩
end
def zer8 : List Int := [0, 0, 0, 0, 0, 0, 0, 0]
/-- an array of eight may lie already -/
def May8 (w : World) : Option Nat → Prop
  | none => True
  | some b => Arr8 w b zer8
theorem May8.made {w w' : World} {b : Nat} (hb : w.heap.size = b) (h : Below (w.alloc (.cells (iv zer8).toArray 75)).drew.heap.size (w.alloc (.cells (iv zer8).toArray 75)).drew w') : May8 w' (some b) := by
  subst hb
  exact ((Arr8.new w zer8).below (drew_below _)).below h
theorem May8.facts {w : World} {o : Option Nat} (h : May8 w o) : (∀ j, j < 8 → cellAt w j (.int .i64 0) o) ∧ ∀ j, softAt w j o := by
  cases o with
  | none => exact ⟨fun _ _ => trivial, fun _ => trivial⟩
  | some b =>
    have h' : Arr8 w b zer8 := h
    refine ⟨fun j hj => ?_, fun j => h'.frozen j⟩
    have h9 := h'.get (j := j) hj
    have e : zer8[j]'hj = 0 := by
      match j, hj with
      | 0, _ => rfl
      | 1, _ => rfl
      | 2, _ => rfl
      | 3, _ => rfl
      | 4, _ => rfl
      | 5, _ => rfl
      | 6, _ => rfl
      | 7, _ => rfl
    rw [e] at h9
    exact h9
theorem lit8 (x0 x1 x2 x3 x4 x5 x6 x7 : Int) : (iv [x0, x1, x2, x3, x4, x5, x6, x7]).toArray = #[.int .i64 x0, .int .i64 x1, .int .i64 x2, .int .i64 x3, .int .i64 x4, .int .i64 x5, .int .i64 x6, .int .i64 x7] := rfl
theorem Arr8.turn {w w' : World} {b q : Nat} {L : List Int} (h : Arr8 w b L) (t : w.grownBy w' (some q)) (hne : b ≠ q) : Arr8 w' b L := (t.block b h.lt (by intro e; injection e with e; exact hne e)).trans h
theorem turn_put8 (w : World) (b : Nat) (x0 x1 x2 x3 x4 x5 x6 x7 : Value) : w.grownBy ((((((((w.setCell ⟨b, 0, none⟩ x0).setCell ⟨b, 1, none⟩ x1).setCell ⟨b, 2, none⟩ x2).setCell ⟨b, 3, none⟩ x3).setCell ⟨b, 4, none⟩ x4).setCell ⟨b, 5, none⟩ x5).setCell ⟨b, 6, none⟩ x6).setCell ⟨b, 7, none⟩ x7) (some b) := by
  exact turn_trans (turn_trans (turn_trans (turn_trans (turn_trans (turn_trans (turn_trans (turn_set _ _ _ _) (turn_set _ _ _ _)) (turn_set _ _ _ _)) (turn_set _ _ _ _)) (turn_set _ _ _ _)) (turn_set _ _ _ _)) (turn_set _ _ _ _)) (turn_set _ _ _ _)
theorem ovW_at (W H P Q i k : Nat) (h : k < P * Q) (h0 : k < (ovW W H P Q i).length) (p8 : P ≤ 8) (q8 : Q ≤ 8) (hp : 1 ≤ P) (h1 : k % P < (colL W P (i % W) P).length) (h2 : k / P < (colL H Q (i / W) Q).length) : (ovW W H P Q i)[k] = (colL W P (i % W) P)[k % P] * (colL H Q (i / W) Q)[k / P] := by
  have a1 : k % P < P := Nat.mod_lt _ (by omega)
  have a2 : k / P < Q := by rw [Nat.div_lt_iff_lt_mul (by omega), Nat.mul_comm]; exact h
  rw [ovW_get, colL_get, colL_get, if_pos a1, if_pos a2]
set_option maxRecDepth 100000 in
set_option maxHeartbeats 8000000 in
theorem cellOv_any (W H P Q i n mm : Nat) (a ag : Option Addr) (c cg : Nat) (w : World) (w1 : 1 ≤ W) (w8 : W ≤ 8) (h1 : 1 ≤ H) (h8 : H ≤ 8) (p1 : 1 ≤ P) (p8 : P ≤ 8) (q1 : 1 ≤ Q) (q8 : Q ≤ 8) (hi : i < W * H) (hmm : P * Q = mm) :
    Calls Tryd.prog 44 #[.agg #[.int .i64 W, .int .i64 H, .slice a n c], .int .i64 i, .agg #[.int .i64 P, .int .i64 Q, .slice ag mm cg]] w (IntsPost (ovW W H P Q i) w) := by
  have hPQ1 : 1 ≤ mm := by rw [← hmm]; exact Nat.mul_le_mul p1 q1
  have hPQ8 : mm ≤ 64 := by rw [← hmm]; exact Nat.mul_le_mul p8 q8
  have HMM := Lib.hid hmm
  have hWH8 : W * H ≤ 64 := Nat.mul_le_mul w8 h8
  have hx : i % W < W := Nat.mod_lt i (by omega)
  have hy : i / W < H := by rw [Nat.div_lt_iff_lt_mul (by omega), Nat.mul_comm]; exact hi
  have HC1 := Lib.hid (fun W' => implCol_any W P (i % W) W' w1 w8 p1 p8 hx)
  have HC2 := Lib.hid (fun W' => implCol_any H Q (i / W) W' h1 h8 q1 q8 hy)
  have C0 := Lib.hid (show Co w W H P Q (.slice a n c) (.slice ag mm cg) ((w.alloc (.cells #[.int .i64 W, .int .i64 H, .slice a n c] 32)).alloc (.cells #[.int .i64 P, .int .i64 Q, .slice ag mm cg] 32)) from ⟨(below_all _ _).alloc (by simp) _, (Box.new w _ _ _ _).alloc _, by have h9 := Box.new (w.alloc (.cells #[.int .i64 W, .int .i64 H, .slice a n c] 32)) 32 (.int .i64 P) (.int .i64 Q) (.slice ag mm cg); rw [World.size_alloc] at h9; exact h9⟩)
  have HOW := Lib.hid (fun k hk h0 h1 h2 => ovW_at W H P Q i k hk h0 p8 q8 p1 h1 h2)
  have HOL := Lib.hid (show (ovW W H P Q i).length = mm by rw [ovW_len, hmm])
  clear hmm
  have HBD := Lib.hid (ovW_bd (Q := Q) w1 w8 h8 p8 q8 hi)
  obtain ⟨x0, x1, x2, x3, x4, x5, x6, x7, hX⟩ := eight (colL W P (i % W) P) (colL_len _ _ _ _)
  obtain ⟨y0, y1, y2, y3, y4, y5, y6, y7, hY⟩ := eight (colL H Q (i / W) Q) (colL_len _ _ _ _)
  have hc1b : ∀ j (h : j < (colL W P (i % W) P).length), 0 ≤ (colL W P (i % W) P)[j] ∧ (colL W P (i % W) P)[j] ≤ 8 := fun j h => by
    rw [colL_get]
    split
    · exact ovl_bd hx w8 p8
    · omega
  have hc2b : ∀ j (h : j < (colL H Q (i / W) Q).length), 0 ≤ (colL H Q (i / W) Q)[j] ∧ (colL H Q (i / W) Q)[j] ≤ 8 := fun j h => by
    rw [colL_get]
    split
    · exact ovl_bd hy h8 q8
    · omega
  have HB1 := Lib.hid hc1b
  have HB2 := Lib.hid hc2b
  clear hc1b hc2b
  obtain ⟨LX, hLX⟩ : ∃ L, colL W P (i % W) P = L := ⟨_, rfl⟩
  obtain ⟨LY, hLY⟩ : ∃ L, colL H Q (i / W) Q = L := ⟨_, rfl⟩
  rw [hLX] at HC1 HOW hX HB1
  rw [hLY] at HC2 HOW hY HB2
  generalize ovW W H P Q i = OV at *
  have HX := Lib.hid hX
  have HY := Lib.hid hY
  rw [hX, lit8] at HC1
  rw [hY, lit8] at HC2
  clear hX hY hLX hLY
  have M1 : (i : Int) % (W : Int) = ((i % W : Nat) : Int) := (Int.natCast_emod i W).symm
  have M2 : (i : Int) / (W : Int) = ((i / W : Nat) : Int) := (Int.natCast_ediv i W).symm
  have M3 : (i : Int).tmod (W : Int) = ((i % W : Nat) : Int) := (Int.ofNat_tmod i W).symm
  have M4 : (i : Int).tdiv (W : Int) = ((i / W : Nat) : Int) := (Int.ofNat_tdiv i W).symm
  have M5 : ¬ W = 0 := by omega
  have hxm8 : i % W ≤ 8 := by omega
  have hyd8 : i / W ≤ 8 := by omega
  generalize i % W = xm at *
  generalize i / W = yd at *
  have m1 := Lib.hid M1
  have m2 := Lib.hid M2
  have m3 := Lib.hid M3
  have m4 := Lib.hid M4
  clear M1 M2 M3 M4
  go_enter Tryd.func44, Tryd.ntmps44
  go_upto_region 1 with fail
  go_cut [7] (fun s wx => ∃ q, s = .pointer (some ⟨q, 0, none⟩) ∧ w.heap.size + 2 ≤ q ∧ Co w W H P Q (.slice a n c) (.slice ag mm cg) wx ∧ Arr8 wx q LX)
  case first =>
    have zc := C0.out.g.lt
    have F1 := Lib.hid (C0.out.step (drew_below _))
    have F2 := Lib.hid ((C0.out.step (below_all _ (.cells #[.int .i64 0, .int .i64 0, .int .i64 0, .int .i64 0, .int .i64 0, .int .i64 0, .int .i64 0, .int .i64 0] 75))).step (drew_below _))
    have e_m1 := m1.out
    have e_m3 := m3.out
    have e5 : IntKind.i64.wrap (xm : Int) = (xm : Int) := IntWalk.i64_in _ (by omega)
    go_region_held3 (fun w' => (w'.cell? ⟨w.heap.size, 0, none⟩ = some (.int .i64 W) ∧ w'.cell? ⟨w.heap.size, 1, none⟩ = some (.int .i64 H)) ∧ w'.cell? ⟨w.heap.size + 1, 0, none⟩ = some (.int .i64 P) ∧ w'.cell? ⟨w.heap.size + 1, 1, none⟩ = some (.int .i64 Q))
      (first | (with_reducible exact F5.out.sides) | (with_reducible exact (F5.out.step (below_all _ _)).sides) | (with_reducible exact F1.out.sides) | (with_reducible exact F2.out.sides) | (with_reducible exact (F5.out.turn (turn_put8 _ _ _ _ _ _ _ _ _ _) (by omega)).sides) | go_keep)
      (first | (go_at_call 62; (with_reducible refine (HC1.out _).mono ?_); rintro e w5 ⟨rfl, b5⟩; (first
        | (have F5 := Lib.hid (F1.out.step b5); have hz : Hid (May8 w5 none) := Lib.hid trivial)
        | (have F5 := Lib.hid (F2.out.step b5); have hz : Hid (May8 w5 (some (w.heap.size + 1 + 1))) := Lib.hid (May8.made (by simp) b5))); obtain ⟨t9, t8⟩ := hz.out.facts; have u0 := t9 0 (by omega); have u1 := t9 1 (by omega); have u2 := t9 2 (by omega); have u3 := t9 3 (by omega); have u4 := t9 4 (by omega); have u5 := t9 5 (by omega); have u6 := t9 6 (by omega); have u7 := t9 7 (by omega); have f0 := t8 0; have f1 := t8 1; have f2 := t8 2; have f3 := t8 3; have f4 := t8 4; have f5 := t8 5; have f6 := t8 6; have f7 := t8 7; simp only [cellAt, softAt] at u0 u1 u2 u3 u4 u5 u6 u7 f0 f1 f2 f3 f4 f5 f6 f7; clear t9 t8 b5))
    all_goals (go_wp2_with fail)
    all_goals go_meet
    all_goals have zf := F5.out.g.lt
    all_goals first
      | (rw [HX.out]; refine ⟨_, rfl, ?_, ?_, ?_⟩; (omega); (with_reducible exact F5.out.step (below_all w5 (.cells #[.int .i64 x0, .int .i64 x1, .int .i64 x2, .int .i64 x3, .int .i64 x4, .int .i64 x5, .int .i64 x6, .int .i64 x7] 75))); (have h9 := Arr8.new w5 [x0, x1, x2, x3, x4, x5, x6, x7]; rw [lit8] at h9; exact h9))
      | (have hz9 : Arr8 w5 (w.heap.size + 1 + 1) zer8 := hz.out; rw [HX.out]; refine ⟨_, rfl, ?_, ?_, ?_⟩; (omega); (with_reducible exact F5.out.turn (turn_put8 _ _ _ _ _ _ _ _ _ _) (by omega)); (exact Arr8.put8 hz9))
  case rest =>
  obtain ⟨b1, rfl, zb1, hCb1, hb1⟩ := hcut
  have Cb1 := Lib.hid hCb1
  go_upto_region 2 with fail
  go_cut [8] (fun s wx => ∃ q, s = .pointer (some ⟨q, 0, none⟩) ∧ w.heap.size + 2 ≤ q ∧ q ≠ b1 ∧ Co w W H P Q (.slice a n c) (.slice ag mm cg) wx ∧ Arr8 wx b1 LX ∧ Arr8 wx q LY)
  case first =>
    have zc := Cb1.out.g.lt
    have F1 := Lib.hid (Cb1.out.step (drew_below _))
    have F2 := Lib.hid ((Cb1.out.step (below_all _ (.cells #[.int .i64 0, .int .i64 0, .int .i64 0, .int .i64 0, .int .i64 0, .int .i64 0, .int .i64 0, .int .i64 0] 75))).step (drew_below _))
    have P1 := Lib.hid (hb1.below (drew_below _))
    have P2 := Lib.hid ((hb1.alloc (.cells #[.int .i64 0, .int .i64 0, .int .i64 0, .int .i64 0, .int .i64 0, .int .i64 0, .int .i64 0, .int .i64 0] 75)).below (drew_below _))
    have zp := hb1.lt
    have e_m2 := m2.out
    have e_m4 := m4.out
    have e5 : IntKind.i64.wrap (yd : Int) = (yd : Int) := IntWalk.i64_in _ (by omega)
    go_region_held3 (fun w' => (w'.cell? ⟨w.heap.size, 0, none⟩ = some (.int .i64 W) ∧ w'.cell? ⟨w.heap.size, 1, none⟩ = some (.int .i64 H)) ∧ w'.cell? ⟨w.heap.size + 1, 0, none⟩ = some (.int .i64 P) ∧ w'.cell? ⟨w.heap.size + 1, 1, none⟩ = some (.int .i64 Q))
      (first | (with_reducible exact F5.out.sides) | (with_reducible exact (F5.out.step (below_all _ _)).sides) | (with_reducible exact F1.out.sides) | (with_reducible exact F2.out.sides) | (with_reducible exact (F5.out.turn (turn_put8 _ _ _ _ _ _ _ _ _ _) (by omega)).sides) | go_keep)
      (first | (go_at_call 62; (with_reducible refine (HC2.out _).mono ?_); rintro e w5 ⟨rfl, b5⟩; (first
        | (have F5 := Lib.hid (F1.out.step b5); have hz : Hid (May8 w5 none) := Lib.hid trivial; have P5 := Lib.hid (P1.out.below b5))
        | (have F5 := Lib.hid (F2.out.step b5); have hz : Hid (May8 w5 (some (wc.heap.size))) := Lib.hid (May8.made (by simp) b5); have P5 := Lib.hid (P2.out.below b5))); obtain ⟨t9, t8⟩ := hz.out.facts; have u0 := t9 0 (by omega); have u1 := t9 1 (by omega); have u2 := t9 2 (by omega); have u3 := t9 3 (by omega); have u4 := t9 4 (by omega); have u5 := t9 5 (by omega); have u6 := t9 6 (by omega); have u7 := t9 7 (by omega); have f0 := t8 0; have f1 := t8 1; have f2 := t8 2; have f3 := t8 3; have f4 := t8 4; have f5 := t8 5; have f6 := t8 6; have f7 := t8 7; simp only [cellAt, softAt] at u0 u1 u2 u3 u4 u5 u6 u7 f0 f1 f2 f3 f4 f5 f6 f7; clear t9 t8 b5))
    all_goals (go_wp2_with fail)
    all_goals go_meet
    all_goals have zf := F5.out.g.lt
    all_goals have zq := P5.out.lt
    all_goals first
      | (rw [HY.out]; refine ⟨_, rfl, ?_, ?_, ?_, ?_, ?_⟩; (omega); (omega); (with_reducible exact F5.out.step (below_all w5 (.cells #[.int .i64 y0, .int .i64 y1, .int .i64 y2, .int .i64 y3, .int .i64 y4, .int .i64 y5, .int .i64 y6, .int .i64 y7] 75))); (with_reducible exact P5.out.alloc (.cells #[.int .i64 y0, .int .i64 y1, .int .i64 y2, .int .i64 y3, .int .i64 y4, .int .i64 y5, .int .i64 y6, .int .i64 y7] 75)); (have h9 := Arr8.new w5 [y0, y1, y2, y3, y4, y5, y6, y7]; rw [lit8] at h9; exact h9))
      | (have hz9 : Arr8 w5 (wc.heap.size) zer8 := hz.out; rw [HY.out]; refine ⟨_, rfl, ?_, ?_, ?_, ?_, ?_⟩; (omega); (omega); (with_reducible exact F5.out.turn (turn_put8 _ _ _ _ _ _ _ _ _ _) (by omega)); (with_reducible exact P5.out.turn (turn_put8 _ _ _ _ _ _ _ _ _ _) (by omega)); (exact Arr8.put8 hz9))
  case rest =>
  obtain ⟨b2, rfl, zb2, nb2, hCb2, hb1, hb2⟩ := hcut
  have Cb2 := Lib.hid hCb2
  obtain ⟨k0, k1, k2⟩ := Cb2.out.g.cells
  have hmk := fun W => run_make_row' (P := Tryd.prog) 22 3 (.int .i64 0) 8 Tryd.underlying22 infoInt rfl .i64 .i64 mm (by omega) (by omega) W
  have zb := Cb2.out.g.lt
  have z1 := hb1.lt
  have z2 := hb2.lt
  have CB := Lib.hid (Cb2.out.step (below_all wc (.cells (madeCells #[Value.int .i64 0] mm) 3)))
  have HA1 := Lib.hid (hb1.alloc (.cells (madeCells #[Value.int .i64 0] mm) 3))
  have HA2 := Lib.hid (hb2.alloc (.cells (madeCells #[Value.int .i64 0] mm) 3))
  have HR0 : Hid (Row (wc.alloc (.cells (madeCells #[Value.int .i64 0] mm) 3)) wc.heap.size 3 (iv (padK OV mm 0))) := Lib.hid (by
    rw [padK_zero]
    refine ⟨_, heap_alloc_new wc _, fun k hk => ?_⟩
    rw [made_iv]
    simp)
  go_wp2
  clear hmk k0 k1 k2 hb1 hb2 Cb2 Cb1
  have n12 : b1 ≠ b2 := Ne.symm nb2
  generalize wc.heap.size = rb at *
  go_loopw [35] (fun t wr => ∃ k : Nat, k ≤ mm ∧ t = .int .i64 k ∧ Co w W H P Q (.slice a n c) (.slice ag mm cg) wr ∧ Arr8 wr b1 LX ∧ Arr8 wr b2 LY ∧ Row wr rb 3 (iv (padK OV mm k))) (fun t _ => mm - (intOf t).toNat)
  case atStart => exact ⟨0, Nat.zero_le _, rfl, CB.out, HA1.out, HA2.out, HR0.out⟩
  case round =>
    clear CB HA1 HA2 HR0
    obtain ⟨k, hk, rfl, hC, h1', h2', hR⟩ := hrel
    have HC := Lib.hid hC
    have HA1 := Lib.hid h1'
    have HA2 := Lib.hid h2'
    have HRW := Lib.hid hR
    by_cases hlt : k < mm
    · have hkI : (k : Int) < (mm : Int) := by omega
      have hk0 : (0 : Int) ≤ (k : Int) := by omega
      have hkm : k % P < P := Nat.mod_lt _ (by omega)
      have hkd : k / P < Q := by rw [Nat.div_lt_iff_lt_mul (by omega), Nat.mul_comm, HMM.out]; exact hlt
      have lX : LX.length = 8 := by rw [HX.out]; rfl
      have lY : LY.length = 8 := by rw [HY.out]; rfl
      have c1 := h1'.get (j := k % P) (by omega)
      have c2 := h2'.get (j := k / P) (by omega)
      have bx := HB1.out (k % P) (by omega)
      have by' := HB2.out (k / P) (by omega)
      have hkO : k < OV.length := by rw [HOL.out]; exact hlt
      have ov := HOW.out k (by rw [HMM.out]; exact hlt) hkO (by omega) (by omega)
      have HST := Lib.hid (padK_step (n := mm) hkO hlt)
      have ovb := HBD.out _ (List.getElem_mem hkO)
      rw [ov] at HST ovb
      have cr : wr.cell? ⟨rb, k, none⟩ = some (.int .i64 ((padK OV mm k)[k]'(by rw [padK_len (by omega) (by omega)]; exact hlt))) := by
        rw [hR.cell (k := k) (by rw [iv_length, padK_len (by omega) (by omega)]; exact hlt), iv_get]
      rw [padK_at (by omega) hlt] at cr
      have fr := hR.frozen k
      generalize LX[k % P]'(by omega) = xk at *
      generalize LY[k / P]'(by omega) = yk at *
      obtain ⟨pr, hpr⟩ : ∃ q, xk * yk = q := ⟨_, rfl⟩
      rw [hpr] at HST ovb
      have N1 : (k : Int) % (P : Int) = ((k % P : Nat) : Int) := (Int.natCast_emod k P).symm
      have N2 : (k : Int) / (P : Int) = ((k / P : Nat) : Int) := (Int.natCast_ediv k P).symm
      have N3 : (k : Int).tmod (P : Int) = ((k % P : Nat) : Int) := (Int.ofNat_tmod k P).symm
      have N4 : (k : Int).tdiv (P : Int) = ((k / P : Nat) : Int) := (Int.ofNat_tdiv k P).symm
      have hkd8 : k / P < 8 := by omega
      have hkm8 : k % P < 8 := by omega
      generalize k % P = km at *
      generalize k / P = kd at *
      have N5 : IntKind.i64.wrap (km : Int) = (km : Int) := IntWalk.i64_in _ (by omega)
      have N6 : IntKind.i64.wrap (kd : Int) = (kd : Int) := IntWalk.i64_in _ (by omega)
      have N7 : IntKind.i64.wrap pr = pr := IntWalk.i64_in _ (by omega)
      have N8 : ¬ P = 0 := by omega
      have hm8 : (km : Int) < 8 := by omega
      have hd8 : (kd : Int) < 8 := by omega
      have hm0 : (0 : Int) ≤ (km : Int) := by omega
      have hd0 : (0 : Int) ≤ (kd : Int) := by omega
      obtain ⟨g0, g1, g2⟩ := hC.g.cells
      have HPUT := Lib.hid (hR.set k (.int .i64 pr))
      rw [iv_set, HST.out] at HPUT
      have r1 : b1 ≠ rb := by omega
      have r2 : b2 ≠ rb := by omega
      have r3 : w.heap.size + 2 ≤ rb := by omega
      clear hC h1' h2' hR ov lX lY hkO bx by'
      go_wp2_with fail
      go_region
      all_goals
        go_wp2
        go_roundw
        case rel => exact ⟨k + 1, by omega, by go_num, (HC.out.turn (turn_set wr rb k _) r3).step (drew_below _), (HA1.out.other (p := ⟨rb, k, none⟩) r1 _).below (drew_below _), (HA2.out.other (p := ⟨rb, k, none⟩) r2 _).below (drew_below _), HPUT.out.of_block rfl⟩
        case measure => simp [intOf]; omega
    · obtain rfl : k = mm := by omega
      have HPA := Lib.hid (show padK OV k k = OV by have h9 := padK_all OV; rw [HOL.out] at h9; exact h9)
      rw [HPA.out] at hR
      have HOW9 := Lib.hid (show OwnI wr w.heap.size (some ⟨rb, 0, none⟩) OV from ⟨rb, by omega, .inr ⟨rfl, hR⟩⟩)
      have HBB := Lib.hid hC.b
      clear hC h1' h2' hR
      go_wp2
      go_ret
      exact ⟨some ⟨rb, 0, none⟩, k, by rw [HOL.out]; rfl, HOW9.out, HBB.out⟩
end Go.Proofs.YtccplndimdmjpaaDoor
