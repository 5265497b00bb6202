/- The program's joinMembers: a rule at every cell of an ensemble. -/
import Derived.Test.YtpmfgghiiocccaaEnGood
import Derived.Test.YtpmfgghiiocccaaEnMem
import Derived.Test.YtpmfgghiiocccaaEnMix
import Derived.Test.YtpmfgghiiocccaaNew
import Derived.Test.YtpmfgghiiocccaaAlgRule
import Derived.Shelf.Abstract
import Derived.Deep.DeepCutAuto
import Derived.Deep.CutBlock
namespace Go.Proofs.Ytpmfgghiiocccaa
open Go.RowKit
set_option linter.unusedVariables false
set_option linter.unusedSimpArgs false
/-- of at least one value, in memory of the call's own from B on, it hands back F; it may write there -/
def MbRule (g : Nat) (cap : Array Value) (F : List Int → Int) (w : World) : Prop :=
  ∀ (W : World) (vs : List Int) (a : Option Addr) (c B : Nat), 0 < vs.length → vs.length ≤ 8 → (∀ z ∈ vs, -9000 ≤ z ∧ z ≤ 9000) → OwnI W B a vs → Below w.heap.size w W → w.heap.size ≤ B → B ≤ W.heap.size →
    Calls Try.prog g (#[.slice a vs.length c] ++ cap) W fun e w' => e = .returned (.int .i64 (F vs)) ∧ Below B W w'
theorem MbRule.later {g : Nat} {cap : Array Value} {F : List Int → Int} {w W : World} (h : MbRule g cap F w) (hb : Below w.heap.size w W) : MbRule g cap F W :=
  fun W' vs a c B h0 h1 h2 h3 hb' h4 h5 => h W' vs a c B h0 h1 h2 h3 (below_then hb hb') (Nat.le_trans hb.size h4) h5
/-- what joinMembers knows of a world: its result's box, the new field in its box, the cells -/
structure Jn (w : World) (bx g1 W H : Nat) (L : List Int) (n c1 : Nat) (wr : World) : Prop where
  r : Box wr w.heap.size 31 (.int .i64 0) (.int .i64 0) (.slice none 0 0)
  x : Box wr bx 31 (.int .i64 W) (.int .i64 H) (.slice (some ⟨g1, 0, none⟩) n c1)
  a : Row wr g1 3 (iv L)
  b : Below w.heap.size w wr
section
variable {w wr w1 : World} {bx g1 W H n c1 : Nat} {L : List Int}
theorem Jn.step (h : Jn w bx g1 W H L n c1 wr) (hb : Below wr.heap.size wr w1) : Jn w bx g1 W H L n c1 w1 :=
  ⟨h.r.below hb, h.x.below hb, h.a.below hb h.a.lt, below_then h.b hb⟩ /- 31 3 -/
theorem Jn.set (h : Jn w bx g1 W H L n c1 wr) (h1 : w.heap.size < g1) (h2 : bx ≠ g1) (k : Nat) (z : Int) : Jn w bx g1 W H (L.set k z) n c1 (wr.setCell ⟨g1, k, none⟩ (.int .i64 z)) := by /- 31 3 -/
  refine ⟨h.r.other (by show w.heap.size ≠ g1; omega) _, h.x.other (by show bx ≠ g1; exact h2) _, ?_, h.b.setCell (p := ⟨g1, k, none⟩) (by show w.heap.size ≤ g1; omega) _⟩
  rw [← iv_set]
  exact h.a.set k _
end
theorem box_three {w : World} {b : Nat} {t : TypeId} {v0 v1 v2 : Value} (h : Box w b t v0 v1 v2) (u0 u1 u2 : Value) : Box (((w.setCell ⟨b, 0, none⟩ u0).setCell ⟨b, 1, none⟩ u1).setCell ⟨b, 2, none⟩ u2) b t u0 u1 u2 := by
  unfold Box at *
  simp [World.setCell, Array.getElem?_modify, h]
def JnCut (w : World) (W H : Nat) (d : List Int) (s t : Value) (wx : World) : Prop :=
  ∃ bx g1 c1, s = .pointer (some ⟨bx, 0, none⟩) ∧ t = .bool true ∧ Jn w bx g1 W H d d.length c1 wx ∧ w.heap.size < g1 ∧ bx ≠ g1 ∧ w.heap.size < bx
theorem cells2_below {w w' : World} {g : Nat} {u v : Value} (h : w.cell? ⟨g, 0, none⟩ = some u ∧ w.cell? ⟨g, 1, none⟩ = some v) (b : Below w.heap.size w w') (hg : g < w.heap.size) : w'.cell? ⟨g, 0, none⟩ = some u ∧ w'.cell? ⟨g, 1, none⟩ = some v :=
  ⟨(b.cell (p := ⟨g, 0, none⟩) hg).trans h.1, (b.cell (p := ⟨g, 1, none⟩) hg).trans h.2⟩
theorem cell_past {w : World} {g o : Nat} {p : Addr} {u : Value} (h : g ≠ p.block) : (w.setCell p u).cell? ⟨g, o, none⟩ = w.cell? ⟨g, o, none⟩ := World.cell?_of_block (Below.heap_setCell w p u g h)
theorem cells2_set3 {w : World} {g b i j k : Nat} {s t u v x : Value} (h : w.cell? ⟨g, 0, none⟩ = some s ∧ w.cell? ⟨g, 1, none⟩ = some t) (hne : g ≠ b) : (((w.setCell ⟨b, i, none⟩ u).setCell ⟨b, j, none⟩ v).setCell ⟨b, k, none⟩ x).cell? ⟨g, 0, none⟩ = some s ∧ (((w.setCell ⟨b, i, none⟩ u).setCell ⟨b, j, none⟩ v).setCell ⟨b, k, none⟩ x).cell? ⟨g, 1, none⟩ = some t := by
  rw [cell_past hne, cell_past hne, cell_past hne, cell_past hne, cell_past hne, cell_past hne]
  exact h
set_option maxRecDepth 100000 in
set_option maxHeartbeats 8000000 in
theorem implJoin_any (g : Nat) (es : List FE) (c f : Nat) (lb : Array Value) (F : List Int → Int) (w : World) (hl : Flds w w.heap.size (some ⟨g, 0, none⟩) es) (hn : es.length ≤ 1048576) (hs : ∀ e ∈ es, e.l.length ≤ 1048576) (eg : Entered f) (hr : MbRule f lb F w) :
    Calls Try.prog 50 #[.slice (some ⟨g, 0, none⟩) es.length c, .func (.func f) #[] lb] w (FRet (enR F (plains es)) w) := by
  have R0 := Lib.hid (Box.new w 31 (.int .i64 0) (.int .i64 0) (.slice none 0 0))
  have B0 := Lib.hid (below_all w (.cells #[.int .i64 0, .int .i64 0, .slice none 0 0] 31))
  have F0 := Lib.hid (flds_alloc hl (.cells #[.int .i64 0, .int .i64 0, .slice none 0 0] 31))
  have HC := Lib.hid (fun v W h hv => implEn_is g es c v W h hn hs hv)
  have HRU := Lib.hid hr
  have HL := Lib.hid hl
  unfold Entered at eg
  clear hr hs
  cases he : enB (plains es) with
  | false =>
    rw [enR_no he]
    have HD := Lib.hid (HC.out false _ F0.out he)
    clear he HC hl eg
    go_enter Try.func50, Try.ntmps50
    go_wp2_with fail
    refine HD.out.mono ?_
    rintro e w1 ⟨rfl, b1⟩
    have R1 := R0.out.below b1
    have B1 := Lib.hid (below_then B0.out b1)
    obtain ⟨r0, r1, r2⟩ := R1.cells
    have g0 := R1.frozen 0
    have g1 := R1.frozen 1
    have g2 := R1.frozen 2
    clear b1 R1 R0 B0
    go_wp2
    refine bodyPost_ret (v := .tuple #[.agg #[.int .i64 0, .int .i64 0, .slice none 0 0], .bool false]) (by simp [results, Try.results50, go_sem, r0, r1, r2]) rfl ⟨none, 0, rfl, OwnI.none_, ?_⟩
    first | exact B1.out | exact ((B1.out.setCell (p := ⟨w.heap.size, 0, none⟩) (Nat.le_refl _) _).setCell (p := ⟨w.heap.size, 1, none⟩) (Nat.le_refl _) _).setCell (p := ⟨w.heap.size, 2, none⟩) (Nat.le_refl _) _
  | true =>
    have HD := Lib.hid (HC.out true _ F0.out he)
    obtain ⟨W, H, hok, hW, hH⟩ := okE_of he
    rw [enR_yes he hW hH]
    have h0 : 0 < es.length := by have := hok.n; omega
    have hs1 := hok.s
    have hle := hok.le
    obtain ⟨n, hn1⟩ : ∃ n, W * H = n := ⟨_, rfl⟩
    have hsh : shapeB (W : Int) (H : Int) = true := shapeB_iff.2 (by omega)
    have HN := Lib.hid (fun Wd => implNew_any (W : Int) (H : Int) (-9999) Wd)
    rw [newR_yes (by rw [hsh]; rfl)] at HN
    rw [← Int.natCast_mul, Int.toNat_natCast, hn1] at HN
    rw [hn1] at hle ⊢
    have HM := Lib.hid (fun k (hk : k < n) Wd h => memVals_any W H (some ⟨g, 0, none⟩) es c k Wd hok (by rw [hn1]; exact hk) h)
    have HVB := Lib.hid (fun k (hk : k < n) => colV_bd hok (i := k) (by rw [hn1]; exact hk))
    have HVL := Lib.hid (fun k => (show (colV (plains es) k).length ≤ 8 from by have := colV_le (plains es) k; rw [plains_len] at this; have := hok.n; omega))
    have HML := Lib.hid (mixL_len F (plains es) n)
    obtain ⟨b, o, eg2, hb, q0, q1, _, _⟩ := hl.at_ h0
    injection eg2 with eg2
    injection eg2 with e1 e2
    subst e1 e2
    obtain ⟨e0, e1, -, -⟩ := hok.e 0 h0
    rw [e0] at q0
    rw [e1] at q1
    simp only [Nat.zero_mul, Nat.add_zero, Nat.zero_add] at q0 q1
    have HQ := Lib.hid (And.intro q0 q1)
    have h00 : (0 : Int) < (es.length : Int) := by omega
    have hn0 : 0 < n := by omega
    have hn64 : n ≤ 64 := hle.1
    clear he HC hok hW hH hs1 hle hsh q0 q1 e0 e1 hn1
    obtain ⟨d, hd⟩ : ∃ d : List Int, List.replicate n (-9999 : Int) = d := ⟨_, rfl⟩
    have hdl : d.length = n := by rw [← hd]; simp
    have HDM := Lib.hid (show ∀ k (h : k < d.length), d[k] = -9999 by intro k h; subst hd; simp)
    rw [hd] at HN
    clear hd
    unfold FRet at HN
    simp only [rW, rH, rL, rB] at HN
    subst hdl
    have HK0 := Lib.hid (mixK_zero F (plains es) d)
    have HKA := Lib.hid (mixK_all F (plains es) d)
    have HKS := Lib.hid (mixK_step F (plains es) d)
    have HKM := Lib.hid (mixK_same F (plains es) d)
    have HKL := Lib.hid (mixK_len F (plains es) d)
    generalize mixL F (plains es) d.length = ML at *
    generalize mixK F (plains es) d = MK at *
    go_enter Try.func50, Try.ntmps50
    go_wp2_with fail
    refine HD.out.mono ?_
    rintro e w1 ⟨rfl, b1⟩
    have hb1 : g < w1.heap.size := by have := (below_then B0.out b1).size; omega
    have k0 := ((below_then B0.out b1).cell (p := ⟨g, 0, none⟩) hb).trans HQ.out.1
    have k1 := ((below_then B0.out b1).cell (p := ⟨g, 1, none⟩) hb).trans HQ.out.2
    have R1 := Lib.hid (R0.out.below b1)
    have B1 := Lib.hid (below_then B0.out b1)
    have F1 := Lib.hid (flds_below F0.out b1)
    clear b1 R0 B0 F0
    have zw1 : w.heap.size < w1.heap.size := R1.out.lt
    go_upto_region 3 with fail
    go_cut [6, 7] (fun s t wx => JnCut w W H d s t wx)
    case first =>
      have bd : Below w1.heap.size w1 w1.drew := ⟨rfl, rfl, rfl, Nat.le_refl _, fun _ _ => rfl⟩
      have bz : Below w1.heap.size w1 (w1.alloc (.cells #[.int .i64 0, .int .i64 0, .slice none 0 0] 31)).drew := (below_all w1 _).drew
      have RD := Lib.hid (R1.out.below bd)
      have BD := Lib.hid (below_then B1.out bd)
      have FD := Lib.hid (flds_below F1.out bd)
      have RZ := Lib.hid (R1.out.below bz)
      have BZ := Lib.hid (below_then B1.out bz)
      have FZ := Lib.hid (flds_below F1.out bz)
      have ZZ := Lib.hid ((Box.new w1 31 (.int .i64 0) (.int .i64 0) (.slice none 0 0)).below (w' := (w1.alloc (.cells #[.int .i64 0, .int .i64 0, .slice none 0 0] 31)).drew) ((Below.refl _ _).drew))
      have hbd : g < w1.drew.heap.size := hb1
      have hbz : g < (w1.alloc (.cells #[.int .i64 0, .int .i64 0, .slice none 0 0] 31)).drew.heap.size := Nat.lt_of_lt_of_le hb1 bz.size
      have KD := Lib.hid (show w1.drew.cell? ⟨g, 0, none⟩ = some (.int .i64 W) ∧ w1.drew.cell? ⟨g, 1, none⟩ = some (.int .i64 H) from ⟨k0, k1⟩)
      have KZ := Lib.hid (And.intro ((bz.cell (p := ⟨g, 0, none⟩) hb1).trans k0) ((bz.cell (p := ⟨g, 1, none⟩) hb1).trans k1))
      have hgz : g ≠ w1.heap.size := by omega
      clear bd bz R1 B1 F1 k0 k1
      go_region_held3 (fun w' => w'.cell? ⟨g, 0, none⟩ = some (.int .i64 W) ∧ w'.cell? ⟨g, 1, none⟩ = some (.int .i64 H))
        (first | (with_reducible exact KA.out _) | (with_reducible exact KP.out) | (with_reducible exact KD.out) | (with_reducible exact KZ.out) | (with_reducible exact KS.out _ _ _ _ _ _) | go_keep)
        (first
          | (go_at_call 79; (with_reducible refine (HN.out _).mono ?_); rintro e w2 ⟨a2, c2, rfl, o2, b2⟩; first
              | (have R2 := Lib.hid (RD.out.below b2); have KP := Lib.hid (cells2_below KD.out b2 hbd); have KA := Lib.hid (fun o => cells2_below KP.out (below_all w2 o) (Nat.lt_of_lt_of_le hbd b2.size)); have B2 := Lib.hid (below_then BD.out b2); have F2 := Lib.hid (flds_below FD.out b2); have O2 := Lib.hid o2; clear o2 b2)
              | (have R2 := Lib.hid (RZ.out.below b2); have KP := Lib.hid (cells2_below KZ.out b2 hbz); have KS := Lib.hid (fun i j k u v x => cells2_set3 (i := i) (j := j) (k := k) (u := u) (v := v) (x := x) KP.out hgz); have B2 := Lib.hid (below_then BZ.out b2); have F2 := Lib.hid (flds_below FZ.out b2); have Z2 := Lib.hid (ZZ.out.below b2); have O2 := Lib.hid o2; obtain ⟨t0, t1, t2⟩ := Z2.out.cells; have f0 := Z2.out.frozen 0; have f1 := Z2.out.frozen 1; have f2 := Z2.out.frozen 2; clear o2 b2)))
      all_goals (go_wp2_with fail; go_meet)
      all_goals (have zR := R2.out.lt; have zB := B2.out.size)
      · obtain ⟨g1, hg1, hat⟩ := O2.out
        rcases hat with hat | ⟨rfl, hrow⟩
        · rw [hat] at hn0; simp at hn0
        · have hlt1 := hrow.lt
          refine ⟨w2.heap.size, g1, c2, rfl, rfl, ⟨(R2.out.alloc _), Box.new _ _ _ _ _, hrow.alloc _, B2.out.alloc B2.out.size _⟩, ?_, by omega, by omega⟩
          have h9 : w1.heap.size ≤ g1 := hg1
          omega
      · obtain ⟨g1, hg1, hat⟩ := O2.out
        rcases hat with hat | ⟨rfl, hrow⟩
        · rw [hat] at hn0; simp at hn0
        · have h9 : w1.heap.size + 1 ≤ g1 := by have h8 : (w1.alloc (.cells #[.int .i64 0, .int .i64 0, .slice none 0 0] 31)).heap.size ≤ g1 := hg1; simpa using h8
          have hne : w.heap.size ≠ w1.heap.size := by omega
          have hne2 : g1 ≠ w1.heap.size := by omega
          refine ⟨w1.heap.size, g1, c2, rfl, rfl, ⟨((R2.out.other (p := ⟨w1.heap.size, 0, none⟩) hne _).other (p := ⟨w1.heap.size, 1, none⟩) hne _).other (p := ⟨w1.heap.size, 2, none⟩) hne _, box_three Z2.out _ _ _, ((hrow.other (p := ⟨w1.heap.size, 0, none⟩) hne2 _).other (p := ⟨w1.heap.size, 1, none⟩) hne2 _).other (p := ⟨w1.heap.size, 2, none⟩) hne2 _, ((B2.out.setCell (p := ⟨w1.heap.size, 0, none⟩) (by show w.heap.size ≤ w1.heap.size; omega) _).setCell (p := ⟨w1.heap.size, 1, none⟩) (by show w.heap.size ≤ w1.heap.size; omega) _).setCell (p := ⟨w1.heap.size, 2, none⟩) (by show w.heap.size ≤ w1.heap.size; omega) _⟩, by omega, by omega, by omega⟩
    case rest =>
      unfold JnCut at hcut
      obtain ⟨bx, g1, c1, rfl, rfl, hJ, hw1, hne, hw2⟩ := hcut
      have HJ : Hid (Jn w bx g1 W H (MK 0) d.length c1 wc) := Lib.hid (by rw [HK0.out]; exact hJ)
      obtain ⟨x0, x1, x2⟩ := hJ.x.cells
      clear hJ HK0
      go_wp2_with fail
      clear x0 x1 x2
      go_loopw [29] (fun i wr => ∃ k : Nat, k ≤ d.length ∧ i = .int .i64 k ∧ Jn w bx g1 W H (MK k) d.length c1 wr) (fun i _ => d.length - (intOf i).toNat)
      case atStart => exact ⟨0, Nat.zero_le _, rfl, HJ.out⟩
      case round =>
        clear HJ
        obtain ⟨k, hk, rfl, hJ⟩ := hrel
        have HJ := Lib.hid hJ
        clear hJ
        by_cases hlt : k < d.length
        · have hki : (k : Int) < (d.length : Int) := by omega
          have hk0 : (0 : Int) ≤ (k : Int) := by omega
          have HMk := Lib.hid (fun Wd h => HM.out k hlt Wd h)
          have HVk := Lib.hid (HVB.out k hlt)
          have HVn := HVL.out k
          have HS1 := Lib.hid (HKS.out k hlt)
          have HS2 := Lib.hid (HKM.out k hlt)
          have HDk := Lib.hid (HDM.out k hlt)
          generalize colV (plains es) k = vs at *
          go_wp2_with fail
          refine (HMk.out _ ((HL.out.below HJ.out.b (Nat.le_refl _)).more HJ.out.b.size)).mono ?_
          rintro e w5 ⟨a5, c5, rfl, o5, b5⟩
          have O5 := Lib.hid o5
          have B5 := Lib.hid b5
          have J5 := Lib.hid (HJ.out.step b5)
          clear o5 b5
          by_cases hv0 : vs.length = 0
          · have hvs := List.eq_nil_of_length_eq_zero hv0
            have HE := Lib.hid (HS2.out (by rw [hvs, gapC_none]; exact HDk.out))
            have hv1 : ¬ (0 : Int) < (vs.length : Int) := by omega
            clear hv0 hvs
            go_wp2
            go_roundw
            case rel => exact ⟨k + 1, by omega, by go_num, by rw [HE.out]; exact J5.out⟩
            case measure => simp [intOf]; omega
          · have hv1 : (0 : Int) < (vs.length : Int) := by omega
            have hvs : vs ≠ [] := by intro h; rw [h] at hv0; exact hv0 rfl
            have HE := Lib.hid (HS1.out)
            rw [gapC_some hvs] at HE
            have HCA := Lib.hid (fun W' B h1 h2 h3 h4 => HRU.out W' vs a5 c5 B (by omega) HVn HVk.out h1 h2 h3 h4)
            obtain ⟨x0, x1, x2⟩ := J5.out.x.cells
            have hLk : k < (iv (MK k)).length := by rw [iv_length, HKL.out]; exact hlt
            clear hv0 hvs HS1 HS2 HDk
            generalize F vs = z at *
            go_wp2_with fail
            have bd5 : Below wr.heap.size wr w5.drew := B5.out.drew
            have bd6 : Below w5.heap.size w5 w5.drew := (Below.refl _ _).drew
            have O6 := Lib.hid (O5.out.below bd6)
            have J6 := Lib.hid (J5.out.step bd6)
            have B6 := Lib.hid bd5
            clear bd5 bd6
            go_region_held3 (fun w' => w'.cell? ⟨bx, 2, none⟩ = some (.slice (some ⟨g1, 0, none⟩) d.length c1))
              (first | (with_reducible exact J7.out.x.cells.2.2) | (with_reducible exact J6.out.x.cells.2.2) | (with_reducible exact (J7.out.set hw1 hne _ _).x.cells.2.2) | go_keep)
              (first
                | (go_at_fn f; refine (HCA.out _ _ O6.out (below_then HJ.out.b B6.out) HJ.out.b.size B6.out.size).mono ?_; rintro e w7 ⟨rfl, b7⟩; have J7 := Lib.hid (HJ.out.step (B6.out.trans b7)); have hg7 := J7.out.a.cell hLk; have hf7 := J7.out.a.frozen k; clear b7))
            rename_i hHeld
            clear hHeld hg7 hf7 x0 x1 x2
            go_wp2
            go_roundw
            case rel => exact ⟨k + 1, by omega, by go_num, by rw [← HE.out]; exact J7.out.set hw1 hne _ _⟩
            case measure => simp [intOf]; omega
        · obtain rfl : k = d.length := by omega
          have hJ := HJ.out
          rw [HKA.out] at hJ
          obtain ⟨x0, x1, x2⟩ := hJ.x.cells
          obtain ⟨r0, r1, r2⟩ := hJ.r.cells
          have f0 := hJ.r.frozen 0
          have f1 := hJ.r.frozen 1
          have f2 := hJ.r.frozen 2
          have HB := Lib.hid hJ.b
          have HR := Lib.hid hJ.a
          clear HJ hJ eg
          go_wp2
          refine bodyPost_ret (v := .tuple #[.agg #[.int .i64 W, .int .i64 H, .slice (some ⟨g1, 0, none⟩) d.length c1], .bool true]) (by simp [results, Try.results50, go_sem, r0, r1, r2]) rfl ⟨some ⟨g1, 0, none⟩, c1, ?_, ?_, ?_⟩
          · rw [show (rL (some ((W : Int), (H : Int), ML))).length = d.length from HML.out]; rfl
          · exact ⟨g1, by omega, .inr ⟨rfl, ((HR.out.other (p := ⟨w.heap.size, 0, none⟩) (by show g1 ≠ w.heap.size; omega) _).other (p := ⟨w.heap.size, 1, none⟩) (by show g1 ≠ w.heap.size; omega) _).other (p := ⟨w.heap.size, 2, none⟩) (by show g1 ≠ w.heap.size; omega) _⟩⟩
          · exact ((HB.out.setCell (p := ⟨w.heap.size, 0, none⟩) (Nat.le_refl _) _).setCell (p := ⟨w.heap.size, 1, none⟩) (Nat.le_refl _) _).setCell (p := ⟨w.heap.size, 2, none⟩) (Nat.le_refl _) _
end Go.Proofs.Ytpmfgghiiocccaa
