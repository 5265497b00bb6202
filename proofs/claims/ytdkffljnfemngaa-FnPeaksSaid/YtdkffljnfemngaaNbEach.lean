/- The program's walk over the cells of a field: atEveryCell. -/
import Derived.Test.YtdkffljnfemngaaNbImpl
import Derived.Test.YtdkffljnfemngaaNbRules
import Derived.Shelf.Abstract
namespace Go.Proofs.Ytdkffljnfemngaa
open Go.RowKit
set_option linter.unusedVariables false
set_option linter.unusedSimpArgs false
/-- at a cell and the values of its neighborhood it hands back F of both, whatever was made since -/
def NbRule {β : Type} (V : β → Value) (g : Nat) (cap : Array Value) (F : Int → List Int → β) (w : World) : Prop :=
  ∀ (W : World) (z : Int) (vs : List Int) (a : Option Addr) (c : Nat), vs.length ≤ 64 → Valued vs → Ints .i64 W W.heap.size a vs → Below w.heap.size w W →
    Calls Try.prog g (#[.int .i64 z, .slice a vs.length c] ++ cap) W fun e w' => e = .returned (V (F z vs)) ∧ Below W.heap.size W w'
theorem NbRule.later {β : Type} {V : β → Value} {g : Nat} {cap : Array Value} {F : Int → List Int → β} {w W : World} (h : NbRule V g cap F w) (hb : Below w.heap.size w W) : NbRule V g cap F W :=
  fun W' z vs a c h1 h2 h3 hb' => h W' z vs a c h1 h2 h3 (below_then hb hb')
/-- .. of at least one value -/
def VsRule (g : Nat) (cap : Array Value) (F : List Int → Int) (w : World) : Prop :=
  ∀ (W : World) (vs : List Int) (a : Option Addr) (c : Nat), 0 < vs.length → vs.length ≤ 64 → Valued vs → Ints .i64 W W.heap.size a vs → Below w.heap.size w W →
    Calls Try.prog g (#[.slice a vs.length c] ++ cap) W fun e w' => e = .returned (.int .i64 (F vs)) ∧ Below W.heap.size W w'
theorem VsRule.later {g : Nat} {cap : Array Value} {F : List Int → Int} {w W : World} (h : VsRule g cap F w) (hb : Below w.heap.size w W) : VsRule g cap F W :=
  fun W' vs a c h0 h1 h2 h3 hb' => h W' vs a c h0 h1 h2 h3 (below_then hb hb')

theorem infoN : (Try.prog.info? 3).map (fun i => (i.zero, i.size, i.bytes)) = some (some (Value.int .i64 0), 1, 8) := by kernel_rfl
/-- the row, k of it made -/
def madeN (L : List Int) (k j : Nat) : Value := Value.int .i64 (if j < k then L.getD j 0 else 0)
theorem madeN_step (L : List Int) (k : Nat) (v : Int) (h : k < L.length) (e : v = L[k]) (j : Nat) : (if j = k then Value.int .i64 v else madeN L k j) = madeN L (k + 1) j := by
  subst e
  unfold madeN
  by_cases e : j = k
  · subst e; simp [h]
  · rw [if_neg e]
    by_cases e2 : j < k
    · rw [if_pos e2, if_pos (by omega)]
    · rw [if_neg e2, if_neg (by omega)]
theorem madeN_all (L : List Int) (n : Nat) (hn : L.length ≤ n) (k : Nat) (h : k < L.length) : madeN L n k = Value.int .i64 L[k] := by
  unfold madeN
  rw [if_pos (by omega)]
  simp [h]
theorem eachN_no (wd hg : Int) (a : Option Addr) (l : List Int) (c : Nat) (r : Int) (fv : Value) (w : World) (hl : Ints .i64 w w.heap.size a l) (hn : l.length ≤ 1048576) (h : nbB wd hg l r = false) :
    Calls Try.prog 85 #[.agg #[.int .i64 wd, .int .i64 hg, .slice a l.length c], .int .i64 r, fv] w fun e w' => e = .returned (.tuple #[.slice none 0 0, .bool false]) ∧ Below w.heap.size w w' := by
  have HC := Lib.hid (hasNb_is wd hg a l c r false _ (ints_alloc hl (.cells #[.int .i64 wd, .int .i64 hg, .slice a l.length c] 26)) hn h)
  clear hl h
  go_enter Try.func85, Try.ntmps85
  go_wp2_with (go_at_call 74; refine HC.out.mono ?_; rintro e w1 ⟨rfl, b⟩; have HB := Lib.hid (below_then (below_all _ _) b); clear b)
  go_ret2
  exact ⟨rfl, HB.out⟩
set_option maxRecDepth 100000 in
set_option maxHeartbeats 4000000 in
theorem eachN_yes (W H b o c r g : Nat) (l : List Int) (ri : Int) (cap : Array Value) (F : Int → List Int → Int) (w : World) (hri : (r : Int) = ri) (hgd : goodB (W : Int) (H : Int) l = true) (hr3 : r ≤ 3) (hcap : l.length ≤ c)
    (hl : Ints .i64 w w.heap.size (some ⟨b, o, none⟩) l) (eg : Entered g) (hr : NbRule (fun x => Value.int .i64 x) g cap F w) :
    Calls Try.prog 85 #[.agg #[.int .i64 W, .int .i64 H, .slice (some ⟨b, o, none⟩) l.length c], .int .i64 ri, .func (.func g) #[] cap] w
      fun e w' => ∃ g', w.heap.size ≤ g' ∧ e = .returned (.tuple #[.slice (some ⟨g', 0, none⟩) l.length l.length, .bool true]) ∧ w'.rowIs g' 3 l.length (madeN (filtL F W H r l) l.length) ∧ Below w.heap.size w w' := by
  have hsh := shapeB_iff.1 (good_shape hgd)
  have hle := good_le hgd
  have hN : l.length = W * H := by have := good_len hgd; rw [← Int.natCast_mul] at this; omega
  have HC := Lib.hid (hasNb_is (W : Int) (H : Int) (some ⟨b, o, none⟩) l c ri true _ (ints_alloc hl (.cells #[.int .i64 W, .int .i64 H, .slice (some ⟨b, o, none⟩) l.length c] 26)) (by omega) (nbB_iff.2 ⟨hgd, radB_iff.2 (by omega)⟩))
  have HNB := Lib.hid (fun x y xi yi W' h1 h2 h3 h4 h5 => nbVals_any W H b o c x y r l xi yi ri W' h1 h2 hri (by omega) (by omega) hN hcap h3 h4 hr3 h5)
  have HVA := Lib.hid (fun x y => nbv_bd (W := W) (H := H) (x := x) (y := y) (r := r) hgd)
  have HVL := Lib.hid (fun x y => nbv_le (l := l) (W := W) (H := H) (x := x) (y := y) (r := r) (by omega) (by omega))
  have HFL := Lib.hid (filtL_len F W H r l)
  have HFG := Lib.hid (filtL_get F W H r l)
  have HL := Lib.hid hl
  have HR := Lib.hid hr
  have HX := Lib.hid (Box.new w 26 (.int .i64 W) (.int .i64 H) (.slice (some ⟨b, o, none⟩) l.length c))
  have hW0 : 0 < W := by omega
  have hW8 : W ≤ 8 := by omega
  have hH8 : H ≤ 8 := by omega
  have HNN := Lib.hid hN
  have hn64 : l.length ≤ 64 := hle.2
  have hmk := fun Wd => run_make_row' (P := Try.prog) 24 3 (Value.int .i64 0) 8 Try.underlying24 infoN rfl .i64 .i64 l.length (by omega) (by omega) Wd
  unfold Entered at eg
  clear hsh hle hN hl hr hgd hri hcap
  go_enter Try.func85, Try.ntmps85
  go_wp2_with fail
  refine HC.out.mono ?_
  rintro e w1 ⟨rfl, b1⟩
  have z1 := b1.size
  simp only [World.size_alloc] at z1
  have X1 := HX.out.below b1
  have B1 := below_then (below_all _ _) b1
  obtain ⟨k0, k1, k2⟩ := X1.cells
  have HX1 := Lib.hid X1
  have HB1 := Lib.hid B1
  clear X1 B1 b1 HX HC
  have zw : w.heap.size < w1.heap.size := by omega
  have zw2 : ¬ w.heap.size = w1.heap.size := by omega
  go_wp2
  clear hmk
  go_loopw [22] (fun i wr => ∃ k : Nat, k ≤ l.length ∧ i = .int .i64 k ∧ wr.rowIs w1.heap.size 3 l.length (madeN (filtL F W H r l) k) ∧ Box wr w.heap.size 26 (.int .i64 W) (.int .i64 H) (.slice (some ⟨b, o, none⟩) l.length c) ∧ Below w.heap.size w wr) (fun i _ => l.length - (intOf i).toNat)
  case atStart => exact ⟨0, Nat.zero_le _, rfl, (World.rowIs_made w1 (Value.int .i64 0) l.length 3).congr (fun i _ => by simp [madeN]), HX1.out.alloc _, HB1.out.alloc (by omega) _⟩
  case round =>
    obtain ⟨k, hk, rfl, hrow, hX, hB⟩ := hrel
    by_cases hlt : k < l.length
    · have hi : (k : Int) < (l.length : Int) := by omega
      have hi0 : (0 : Int) ≤ (k : Int) := by omega
      obtain ⟨b', o', e, hb', ck⟩ := (HL.out.below hB (Nat.le_refl _)).at_ hlt
      injection e with e
      injection e with e1 e2
      subst e1 e2
      have HV := Lib.hid (HFG.out k (by rw [HFL.out]; exact hlt))
      rw [getD_at hlt] at HV
      have hx := Nat.mod_lt k hW0
      have hy : k / W < H := by rw [Nat.div_lt_iff_lt_mul hW0, Nat.mul_comm H W, ← HNN.out]; exact hlt
      have hx64 : k % W ≤ 64 := by omega
      have hy64 : k / W ≤ 64 := by omega
      obtain ⟨xi, hxi⟩ : ∃ q : Int, ((k % W : Nat) : Int) = q := ⟨_, rfl⟩
      obtain ⟨yi, hyi⟩ : ∃ q : Int, ((k / W : Nat) : Int) = q := ⟨_, rfl⟩
      have m1 : Int.tmod (k : Int) (W : Int) = xi := by rw [← hxi]; exact (Int.ofNat_tmod k W).symm
      have m2 : Int.tdiv (k : Int) (W : Int) = yi := by rw [← hyi]; exact (Int.ofNat_tdiv k W).symm
      have m3 : IntKind.i64.wrap xi = xi := IntWalk.i64_in _ (by rw [← hxi]; generalize k % W = q at *; omega)
      have m4 : IntKind.i64.wrap yi = yi := IntWalk.i64_in _ (by rw [← hyi]; generalize k / W = q at *; omega)
      have m5 : ¬ (W : Int) = 0 := by omega
      have m6 : ¬ W = 0 := by omega
      have HCALL := Lib.hid (fun W' h5 => HNB.out (k % W) (k / W) xi yi W' hxi hyi hx hy h5)
      have HVAk := Lib.hid (HVA.out (k % W) (k / W))
      have HVLk := Lib.hid (HVL.out (k % W) (k / W))
      generalize l[k] = z at *
      generalize nbv l W H (k % W) (k / W) r = vs at *
      obtain ⟨x0, x1, x2⟩ := hX.cells
      have HROW := Lib.hid hrow
      have HXW := Lib.hid hX
      have HBW := Lib.hid hB
      clear hrow hX hB hx hy hx64 hy64 hxi hyi
      go_wp2
      have bd : Below wr.heap.size wr wr.drew := ⟨rfl, rfl, rfl, Nat.le_refl _, fun _ _ => rfl⟩
      have HRd : Hid (wr.drew.rowIs w1.heap.size 3 l.length (madeN (filtL F W H r l) k)) := HROW
      have HXd := Lib.hid (HXW.out.below bd)
      have HBd := Lib.hid (below_then HBW.out bd)
      clear bd HROW HXW HBW
      go_region_held3 (fun w' => w'.cell? ⟨w.heap.size, 0, none⟩ = some (.int .i64 W) ∧ w'.cell? ⟨w.heap.size, 1, none⟩ = some (.int .i64 H) ∧ w'.cell? ⟨w.heap.size, 2, none⟩ = some (.slice (some ⟨b, o, none⟩) l.length c))
        (first | exact X6.out.cells | exact (X6.out.other (by show w.heap.size ≠ w1.heap.size; omega) _).cells | exact X5.out.cells | go_keep)
        (first
          | (go_at_call 91; refine (HCALL.out _ ((HL.out.below HBd.out (Nat.le_refl _)).more HBd.out.size)).mono ?_; rintro e w5 ⟨a5, c5, rfl, o5, b5⟩; have X5 := Lib.hid (HXd.out.below b5); have R5 := Lib.hid (HRd.out.of_block (b5.block _ HRd.out.lt)); have B5 := Lib.hid (below_then HBd.out b5); have I5 := Lib.hid o5.ints; clear o5 b5)
          | (go_at_fn g; refine (HR.out _ z vs a5 c5 HVLk.out HVAk.out I5.out B5.out).mono ?_; rintro e w6 ⟨rfl, b6⟩; have X6 := Lib.hid (X5.out.below b6); have R6 := Lib.hid (R5.out.of_block (b6.block _ R5.out.lt)); have B6 := Lib.hid (below_then B5.out b6); have hg1 := R6.out.cell hlt; have hf1 := R6.out.frozen k; clear b6))
      rename_i hHeld
      clear hHeld hg1 hf1 eg
      go_wp2
      go_roundw
      case rel => exact ⟨k + 1, by omega, by go_num, (R6.out.set k _).congr (fun j _ => madeN_step (filtL F W H r l) k (F z vs) (by rw [HFL.out]; exact hlt) HV.out.symm j), X6.out.other (by show w.heap.size ≠ w1.heap.size; omega) _, B6.out.setCell (p := ⟨w1.heap.size, k, none⟩) (by show w.heap.size ≤ w1.heap.size; omega) _⟩
      case measure => simp [intOf]; omega
    · obtain rfl : k = l.length := by omega
      clear eg
      have HRW := Lib.hid hrow
      have HBW := Lib.hid hB
      clear hrow hB hX
      go_wp2
      go_ret2
      exact ⟨w1.heap.size, by omega, rfl, HRW.out, HBW.out⟩

theorem infoB : (Try.prog.info? 4).map (fun i => (i.zero, i.size, i.bytes)) = some (some (Value.bool false), 1, 1) := by kernel_rfl
/-- the row, k of it made -/
def madeB (L : List Bool) (k j : Nat) : Value := Value.bool (if j < k then L.getD j false else false)
theorem madeB_step (L : List Bool) (k : Nat) (v : Bool) (h : k < L.length) (e : v = L[k]) (j : Nat) : (if j = k then Value.bool v else madeB L k j) = madeB L (k + 1) j := by
  subst e
  unfold madeB
  by_cases e : j = k
  · subst e; simp [h]
  · rw [if_neg e]
    by_cases e2 : j < k
    · rw [if_pos e2, if_pos (by omega)]
    · rw [if_neg e2, if_neg (by omega)]
theorem madeB_all (L : List Bool) (n : Nat) (hn : L.length ≤ n) (k : Nat) (h : k < L.length) : madeB L n k = Value.bool L[k] := by
  unfold madeB
  rw [if_pos (by omega)]
  simp [h]
theorem eachB_no (wd hg : Int) (a : Option Addr) (l : List Int) (c : Nat) (r : Int) (fv : Value) (w : World) (hl : Ints .i64 w w.heap.size a l) (hn : l.length ≤ 1048576) (h : nbB wd hg l r = false) :
    Calls Try.prog 68 #[.agg #[.int .i64 wd, .int .i64 hg, .slice a l.length c], .int .i64 r, fv] w fun e w' => e = .returned (.tuple #[.slice none 0 0, .bool false]) ∧ Below w.heap.size w w' := by
  have HC := Lib.hid (hasNb_is wd hg a l c r false _ (ints_alloc hl (.cells #[.int .i64 wd, .int .i64 hg, .slice a l.length c] 26)) hn h)
  clear hl h
  go_enter Try.func68, Try.ntmps68
  go_wp2_with (go_at_call 74; refine HC.out.mono ?_; rintro e w1 ⟨rfl, b⟩; have HB := Lib.hid (below_then (below_all _ _) b); clear b)
  go_ret2
  exact ⟨rfl, HB.out⟩
set_option maxRecDepth 100000 in
set_option maxHeartbeats 4000000 in
theorem eachB_yes (W H b o c r g : Nat) (l : List Int) (ri : Int) (cap : Array Value) (F : Int → List Int → Bool) (w : World) (hri : (r : Int) = ri) (hgd : goodB (W : Int) (H : Int) l = true) (hr3 : r ≤ 3) (hcap : l.length ≤ c)
    (hl : Ints .i64 w w.heap.size (some ⟨b, o, none⟩) l) (eg : Entered g) (hr : NbRule (fun x => Value.bool x) g cap F w) :
    Calls Try.prog 68 #[.agg #[.int .i64 W, .int .i64 H, .slice (some ⟨b, o, none⟩) l.length c], .int .i64 ri, .func (.func g) #[] cap] w
      fun e w' => ∃ g', w.heap.size ≤ g' ∧ e = .returned (.tuple #[.slice (some ⟨g', 0, none⟩) l.length l.length, .bool true]) ∧ w'.rowIs g' 4 l.length (madeB (filtL F W H r l) l.length) ∧ Below w.heap.size w w' := by
  have hsh := shapeB_iff.1 (good_shape hgd)
  have hle := good_le hgd
  have hN : l.length = W * H := by have := good_len hgd; rw [← Int.natCast_mul] at this; omega
  have HC := Lib.hid (hasNb_is (W : Int) (H : Int) (some ⟨b, o, none⟩) l c ri true _ (ints_alloc hl (.cells #[.int .i64 W, .int .i64 H, .slice (some ⟨b, o, none⟩) l.length c] 26)) (by omega) (nbB_iff.2 ⟨hgd, radB_iff.2 (by omega)⟩))
  have HNB := Lib.hid (fun x y xi yi W' h1 h2 h3 h4 h5 => nbVals_any W H b o c x y r l xi yi ri W' h1 h2 hri (by omega) (by omega) hN hcap h3 h4 hr3 h5)
  have HVA := Lib.hid (fun x y => nbv_bd (W := W) (H := H) (x := x) (y := y) (r := r) hgd)
  have HVL := Lib.hid (fun x y => nbv_le (l := l) (W := W) (H := H) (x := x) (y := y) (r := r) (by omega) (by omega))
  have HFL := Lib.hid (filtL_len F W H r l)
  have HFG := Lib.hid (filtL_get F W H r l)
  have HL := Lib.hid hl
  have HR := Lib.hid hr
  have HX := Lib.hid (Box.new w 26 (.int .i64 W) (.int .i64 H) (.slice (some ⟨b, o, none⟩) l.length c))
  have hW0 : 0 < W := by omega
  have hW8 : W ≤ 8 := by omega
  have hH8 : H ≤ 8 := by omega
  have HNN := Lib.hid hN
  have hn64 : l.length ≤ 64 := hle.2
  have hmk := fun Wd => run_make_row' (P := Try.prog) 63 4 (Value.bool false) 1 Try.underlying63 infoB rfl .i64 .i64 l.length (by omega) (by omega) Wd
  unfold Entered at eg
  clear hsh hle hN hl hr hgd hri hcap
  go_enter Try.func68, Try.ntmps68
  go_wp2_with fail
  refine HC.out.mono ?_
  rintro e w1 ⟨rfl, b1⟩
  have z1 := b1.size
  simp only [World.size_alloc] at z1
  have X1 := HX.out.below b1
  have B1 := below_then (below_all _ _) b1
  obtain ⟨k0, k1, k2⟩ := X1.cells
  have HX1 := Lib.hid X1
  have HB1 := Lib.hid B1
  clear X1 B1 b1 HX HC
  have zw : w.heap.size < w1.heap.size := by omega
  have zw2 : ¬ w.heap.size = w1.heap.size := by omega
  go_wp2
  clear hmk
  go_loopw [22] (fun i wr => ∃ k : Nat, k ≤ l.length ∧ i = .int .i64 k ∧ wr.rowIs w1.heap.size 4 l.length (madeB (filtL F W H r l) k) ∧ Box wr w.heap.size 26 (.int .i64 W) (.int .i64 H) (.slice (some ⟨b, o, none⟩) l.length c) ∧ Below w.heap.size w wr) (fun i _ => l.length - (intOf i).toNat)
  case atStart => exact ⟨0, Nat.zero_le _, rfl, (World.rowIs_made w1 (Value.bool false) l.length 4).congr (fun i _ => by simp [madeB]), HX1.out.alloc _, HB1.out.alloc (by omega) _⟩
  case round =>
    obtain ⟨k, hk, rfl, hrow, hX, hB⟩ := hrel
    by_cases hlt : k < l.length
    · have hi : (k : Int) < (l.length : Int) := by omega
      have hi0 : (0 : Int) ≤ (k : Int) := by omega
      obtain ⟨b', o', e, hb', ck⟩ := (HL.out.below hB (Nat.le_refl _)).at_ hlt
      injection e with e
      injection e with e1 e2
      subst e1 e2
      have HV := Lib.hid (HFG.out k (by rw [HFL.out]; exact hlt))
      rw [getD_at hlt] at HV
      have hx := Nat.mod_lt k hW0
      have hy : k / W < H := by rw [Nat.div_lt_iff_lt_mul hW0, Nat.mul_comm H W, ← HNN.out]; exact hlt
      have hx64 : k % W ≤ 64 := by omega
      have hy64 : k / W ≤ 64 := by omega
      obtain ⟨xi, hxi⟩ : ∃ q : Int, ((k % W : Nat) : Int) = q := ⟨_, rfl⟩
      obtain ⟨yi, hyi⟩ : ∃ q : Int, ((k / W : Nat) : Int) = q := ⟨_, rfl⟩
      have m1 : Int.tmod (k : Int) (W : Int) = xi := by rw [← hxi]; exact (Int.ofNat_tmod k W).symm
      have m2 : Int.tdiv (k : Int) (W : Int) = yi := by rw [← hyi]; exact (Int.ofNat_tdiv k W).symm
      have m3 : IntKind.i64.wrap xi = xi := IntWalk.i64_in _ (by rw [← hxi]; generalize k % W = q at *; omega)
      have m4 : IntKind.i64.wrap yi = yi := IntWalk.i64_in _ (by rw [← hyi]; generalize k / W = q at *; omega)
      have m5 : ¬ (W : Int) = 0 := by omega
      have m6 : ¬ W = 0 := by omega
      have HCALL := Lib.hid (fun W' h5 => HNB.out (k % W) (k / W) xi yi W' hxi hyi hx hy h5)
      have HVAk := Lib.hid (HVA.out (k % W) (k / W))
      have HVLk := Lib.hid (HVL.out (k % W) (k / W))
      generalize l[k] = z at *
      generalize nbv l W H (k % W) (k / W) r = vs at *
      obtain ⟨x0, x1, x2⟩ := hX.cells
      have HROW := Lib.hid hrow
      have HXW := Lib.hid hX
      have HBW := Lib.hid hB
      clear hrow hX hB hx hy hx64 hy64 hxi hyi
      go_wp2
      have bd : Below wr.heap.size wr wr.drew := ⟨rfl, rfl, rfl, Nat.le_refl _, fun _ _ => rfl⟩
      have HRd : Hid (wr.drew.rowIs w1.heap.size 4 l.length (madeB (filtL F W H r l) k)) := HROW
      have HXd := Lib.hid (HXW.out.below bd)
      have HBd := Lib.hid (below_then HBW.out bd)
      clear bd HROW HXW HBW
      go_region_held3 (fun w' => w'.cell? ⟨w.heap.size, 0, none⟩ = some (.int .i64 W) ∧ w'.cell? ⟨w.heap.size, 1, none⟩ = some (.int .i64 H) ∧ w'.cell? ⟨w.heap.size, 2, none⟩ = some (.slice (some ⟨b, o, none⟩) l.length c))
        (first | exact X6.out.cells | exact (X6.out.other (by show w.heap.size ≠ w1.heap.size; omega) _).cells | exact X5.out.cells | go_keep)
        (first
          | (go_at_call 91; refine (HCALL.out _ ((HL.out.below HBd.out (Nat.le_refl _)).more HBd.out.size)).mono ?_; rintro e w5 ⟨a5, c5, rfl, o5, b5⟩; have X5 := Lib.hid (HXd.out.below b5); have R5 := Lib.hid (HRd.out.of_block (b5.block _ HRd.out.lt)); have B5 := Lib.hid (below_then HBd.out b5); have I5 := Lib.hid o5.ints; clear o5 b5)
          | (go_at_fn g; refine (HR.out _ z vs a5 c5 HVLk.out HVAk.out I5.out B5.out).mono ?_; rintro e w6 ⟨rfl, b6⟩; have X6 := Lib.hid (X5.out.below b6); have R6 := Lib.hid (R5.out.of_block (b6.block _ R5.out.lt)); have B6 := Lib.hid (below_then B5.out b6); have hg1 := R6.out.cell hlt; have hf1 := R6.out.frozen k; clear b6))
      rename_i hHeld
      clear hHeld hg1 hf1 eg
      go_wp2
      go_roundw
      case rel => exact ⟨k + 1, by omega, by go_num, (R6.out.set k _).congr (fun j _ => madeB_step (filtL F W H r l) k (F z vs) (by rw [HFL.out]; exact hlt) HV.out.symm j), X6.out.other (by show w.heap.size ≠ w1.heap.size; omega) _, B6.out.setCell (p := ⟨w1.heap.size, k, none⟩) (by show w.heap.size ≤ w1.heap.size; omega) _⟩
      case measure => simp [intOf]; omega
    · obtain rfl : k = l.length := by omega
      clear eg
      have HRW := Lib.hid hrow
      have HBW := Lib.hid hB
      clear hrow hB hX
      go_wp2
      go_ret2
      exact ⟨w1.heap.size, by omega, rfl, HRW.out, HBW.out⟩
end Go.Proofs.Ytdkffljnfemngaa
