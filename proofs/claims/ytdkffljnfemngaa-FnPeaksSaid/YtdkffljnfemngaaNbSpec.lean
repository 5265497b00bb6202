/- The model's filters: l6Filter and the five that call it. -/
import Derived.Test.YtdkffljnfemngaaNbVals
import Derived.Test.YtdkffljnfemngaaNbRes
import Derived.Test.YtdkffljnfemngaaFr
import Derived.Test.YtdkffljnfemngaaGrid
import Derived.Deep.RegionLaw
import Derived.Deep.AppendLies
namespace Go.Proofs.Ytdkffljnfemngaa
open Go.RowKit
set_option linter.unusedVariables false
set_option linter.unusedSimpArgs false
theorem Fr1.grown {w w1 w2 : World} {wd0 hg0 : Int} {a0 : Option Addr} {l0 : List Int} {c0 : Nat} {row : Option Nat} (h : Fr1 w wd0 hg0 a0 l0 c0 w1) (t : w1.grownBy w2 row) (hr : ∀ k, row = some k → w.heap.size + 2 ≤ k) : Fr1 w wd0 hg0 a0 l0 c0 w2 := by
  have hb : Below w.heap.size w w2 := h.b.grown t h.b.size (fun k hk => by have := hr k hk; omega)
  refine ⟨hb, h.s0, (h.s0.below hb (Nat.le_refl _)).more hb.size, h.k0.grown t ?_, h.r.grown t ?_⟩
  · intro e; have := hr _ e.symm; omega
  · intro e; have := hr _ e.symm; omega
/-- what the loops that lay cells into a field of their own know of a world -/
structure SfAt (w : World) (ob : Nat) (wd hg : Int) (a : Option Addr) (l : List Int) (c : Nat) (xs : List Int) (out : Value) (wr : World) : Prop where
  f : Fr1 w wd hg a l c wr
  x : Box wr ob 26 (.int .i64 wd) (.int .i64 hg) out
  o : wr.ownsRow (w.heap.size + 2) 3 1 out xs.length (iv xs)
  n : w.heap.size + 1 < ob
section
variable {w wr w1 : World} {ob c : Nat} {wd hg : Int} {a : Option Addr} {l xs ys : List Int} {out out' : Value}
theorem SfAt.step (h : SfAt w ob wd hg a l c xs out wr) (hb : Below wr.heap.size wr w1) : SfAt w ob wd hg a l c xs out w1 :=
  ⟨h.f.step hb, h.x.below hb, own_keeps h.o hb, h.n⟩
/-- behind an append, and the field's cells set -/
theorem SfAt.put {p : Obj} (h : SfAt w ob wd hg a l c xs out wr) (hg1 : (wr.alloc p).grownBy w1 out.ownBlock) (ho : w1.ownsRow (w.heap.size + 2) 3 1 out' ys.length (iv ys)) :
    Box w1 ob 26 (.int .i64 wd) (.int .i64 hg) out ∧ SfAt w ob wd hg a l c ys out' (w1.setCell ⟨ob, 2, none⟩ out') := by
  have hx : Box w1 ob 26 (.int .i64 wd) (.int .i64 hg) out := (h.x.alloc p).grown hg1 (Ne.symm (own_ne_box h.o h.x (by decide)))
  have hne := own_ne_box ho hx (by decide)
  have hf : Fr1 w wd hg a l c w1 := (h.f.step (below_all wr p)).grown hg1 (fun k hk => (h.o.lt k hk).1)
  exact ⟨hx, ⟨hf.turn (turn_set w1 ob 2 out') (by have := h.n; omega), hx.set _, own_setBox ho hne 2 out', h.n⟩⟩
end
theorem row_mod {W x y : Nat} (h : x < W) : (y * W + x) % W = x ∧ (y * W + x) / W = y := by
  have hW : 0 < W := by omega
  constructor
  · rw [Nat.add_comm, Nat.add_mul_mod_self_right, Nat.mod_eq_of_lt h]
  · rw [Nat.add_comm, Nat.add_mul_div_right _ _ hW, Nat.div_eq_of_lt h, Nat.zero_add]
theorem filt_step {F : List Int → Int} {W H r : Nat} {l : List Int} {x y : Nat} (h : x < W) (hk : y * W + x < l.length) :
    (filtL (gapC F) W H r l).take (y * W + x + 1) = (filtL (gapC F) W H r l).take (y * W + x) ++ [gapC F 0 (nbv l W H x y r)] := by
  have h1 := filtL_take (gapC F) W H r l (y * W + x) hk
  obtain ⟨h2, h3⟩ := row_mod (y := y) h
  rw [h2, h3] at h1
  exact h1
set_option maxRecDepth 100000 in
set_option maxHeartbeats 4000000 in
theorem specFilter_any (wd hg : Int) (a : Option Addr) (l : List Int) (c : Nat) (r K t : Int) (F : List Int → Int) (w : World) (hl : Ints .i64 w w.heap.size a l) (hn : l.length ≤ 1048576) (hres : ResRule K t F) :
    Calls Try.prog 58 #[.agg #[.int .i64 wd, .int .i64 hg, .slice a l.length c], .int .i64 r, .int .i64 K, .int .i64 t] w (FRet (filtR F wd hg l r) w) := by
  have F0 := Lib.hid (Fr1.new (wd0 := wd) (hg0 := hg) (c0 := c) hl)
  cases hgd : goodB wd hg l with
  | false =>
    rw [filtR_no (by unfold nbB; rw [hgd]; rfl)]
    have HC := Lib.hid (specGood_is wd hg a l c _ false _ F0.out.i0 (Nat.le_refl _) hn hgd)
    clear hl hgd hres
    go_enter Try.func58, Try.ntmps58
    go_wp2_with fail
    refine HC.out.mono ?_
    rintro e w1 ⟨rfl, b1⟩
    have F1 := Lib.hid (F0.out.step b1)
    clear b1 F0
    have B1 := Lib.hid F1.out.b
    obtain ⟨r0, r1, r2⟩ := F1.out.r.cells
    have g0 := F1.out.r.frozen 0
    have g1 := F1.out.r.frozen 1
    have g2 := F1.out.r.frozen 2
    go_wp2
    refine bodyPost_ret (v := .tuple #[.agg #[.int .i64 0, .int .i64 0, .slice none 0 0], .bool false]) (by simp [results, Try.results58, go_sem, r0, r1, r2]) rfl ⟨none, 0, rfl, OwnI.none_, ?_⟩
    first | exact B1.out | exact ((B1.out.setCell (p := ⟨w.heap.size + 1, 0, none⟩) (by show w.heap.size ≤ w.heap.size + 1; omega) _).setCell (p := ⟨w.heap.size + 1, 1, none⟩) (by show w.heap.size ≤ w.heap.size + 1; omega) _).setCell (p := ⟨w.heap.size + 1, 2, none⟩) (by show w.heap.size ≤ w.heap.size + 1; omega) _
  | true =>
    have HC := Lib.hid (specGood_is wd hg a l c _ true _ F0.out.i0 (Nat.le_refl _) hn hgd)
    cases hrd : radB r with
    | false =>
      rw [filtR_no (by unfold nbB; rw [hrd]; simp)]
      have HI := Lib.hid (fun W => l1In_is r 0 3 false W (by unfold radB at hrd; exact hrd))
      clear hl hgd hres hrd
      go_enter Try.func58, Try.ntmps58
      go_wp2_with fail
      refine HC.out.mono ?_
      rintro e w1 ⟨rfl, b1⟩
      have F1 := Lib.hid (F0.out.step b1)
      clear b1 F0
      have B1 := Lib.hid F1.out.b
      obtain ⟨r0, r1, r2⟩ := F1.out.r.cells
      have g0 := F1.out.r.frozen 0
      have g1 := F1.out.r.frozen 1
      have g2 := F1.out.r.frozen 2
      go_wp2_with (first | (go_at_call 67; refine (HI.out _).mono ?_; rintro e w8 ⟨rfl, rfl⟩) | fail)
      refine bodyPost_ret (v := .tuple #[.agg #[.int .i64 0, .int .i64 0, .slice none 0 0], .bool false]) (by simp [results, Try.results58, go_sem, r0, r1, r2]) rfl ⟨none, 0, rfl, OwnI.none_, ?_⟩
      first | exact B1.out | exact ((B1.out.setCell (p := ⟨w.heap.size + 1, 0, none⟩) (by show w.heap.size ≤ w.heap.size + 1; omega) _).setCell (p := ⟨w.heap.size + 1, 1, none⟩) (by show w.heap.size ≤ w.heap.size + 1; omega) _).setCell (p := ⟨w.heap.size + 1, 2, none⟩) (by show w.heap.size ≤ w.heap.size + 1; omega) _
    | true =>
      rw [filtR_yes (nbB_iff.2 ⟨hgd, hrd⟩)]
      have HI := Lib.hid (fun W => l1In_is r 0 3 true W (by unfold radB at hrd; exact hrd))
      have hrb := radB_iff.1 hrd
      have hFG := HC
      obtain ⟨W, H, rfl, rfl, n1, n2, n3, n4, hLL⟩ := good_nat hgd
      obtain ⟨rn, hrn⟩ : ∃ q : Nat, (q : Int) = r := ⟨r.toNat, by omega⟩
      have hrt : r.toNat = rn := by omega
      have hr3 : rn ≤ 3 := by omega
      have hpos := (good_le hgd).1
      have hn64 := (good_le hgd).2
      obtain ⟨b, o, rfl⟩ : ∃ b o, a = some ⟨b, o, none⟩ := by
        obtain ⟨b, o, h, _⟩ := hl.at_ hpos
        exact ⟨b, o, h⟩
      simp only [Int.toNat_natCast]
      rw [hrt]
      have HVALS := Lib.hid (fun x y xi yi W' h1 h2 hx hy h => specVals_any W H b o c x y rn l xi yi r W' h1 h2 hrn n2 n4 hLL hx hy hr3 h)
      have HVA := Lib.hid (fun x y => nbv_bd (W := W) (H := H) (x := x) (y := y) (r := rn) hgd)
      have HVL := Lib.hid (fun x y => nbv_le (l := l) (W := W) (H := H) (x := x) (y := y) (r := rn) n2 n4)
      have HFL := Lib.hid (filtL_len (gapC F) W H rn l)
      have HST := Lib.hid (fun x y h hk => filt_step (F := F) (W := W) (H := H) (r := rn) (l := l) (x := x) (y := y) h hk)
      have HRES := Lib.hid hres
      have HNN := Lib.hid hLL
      obtain ⟨i0, hi0', hz0, hz1, hz2⟩ := info_parts infoInt
      clear hl hgd hres hrd hrb hFG hrn hrt hLL hpos
      generalize filtL (gapC F) W H rn l = L at *
      go_enter Try.func58, Try.ntmps58
      go_wp2_with fail
      refine HC.out.mono ?_
      rintro e w1 ⟨rfl, b1⟩
      have F1 := Lib.hid (F0.out.step b1)
      clear b1 F0 HC
      obtain ⟨k0, k1, k2⟩ := F1.out.k0.cells
      have z1 := F1.out.r.lt
      have y1 : w.heap.size < w1.heap.size := by omega
      have y2 : ¬ w.heap.size = w1.heap.size := by omega
      have y3 : w.heap.size < w1.heap.size + 1 := by omega
      have y4 : ¬ w.heap.size = w1.heap.size + 1 := by omega
      have O0 := World.ownsRow_made (base := w.heap.size + 2) (e := 3) (size := 1) w1 #[] 0 (by omega) (by simp) rfl
      have S0 : SfAt w (w1.heap.size + 1) W H (some ⟨b, o, none⟩) l c (L.take (0 * W)) (.slice (some ⟨w1.heap.size, 0, none⟩) 0 0) ((w1.alloc (.cells #[] 3)).alloc (.cells #[.int .i64 W, .int .i64 H, .slice (some ⟨w1.heap.size, 0, none⟩) 0 0] 26)) := by
        have X := Box.new (w1.alloc (.cells #[] 3)) 26 (.int .i64 W) (.int .i64 H) (.slice (some ⟨w1.heap.size, 0, none⟩) 0 0)
        rw [World.size_alloc] at X
        refine ⟨(F1.out.step (below_all _ _)).step (below_all _ _), X, ?_, by omega⟩
        rw [Nat.zero_mul]
        exact own_keeps O0 (below_all _ _)
      have HS0 := Lib.hid S0
      clear S0 O0
      go_wp2_with (first | (go_at_call 67; refine (HI.out _).mono ?_; rintro e w8 ⟨rfl, rfl⟩) | fail)
      clear F1 HI k0 k1 k2
      have hob : w.heap.size + 1 < w1.heap.size + 1 := by omega
      generalize w1.heap.size = ob1 at *
      obtain ⟨ob, hobe⟩ : ∃ q, ob1 + 1 = q := ⟨_, rfl⟩
      rw [hobe] at HS0 hob ⊢
      go_loopw [11] (fun i wr => ∃ y : Nat, y ≤ H ∧ i = .int .i64 y ∧ ∃ out, SfAt w ob W H (some ⟨b, o, none⟩) l c (L.take (y * W)) out wr) (fun i _ => H - (intOf i).toNat)
      case atStart => exact ⟨0, Nat.zero_le _, rfl, _, HS0.out⟩
      case round =>
        obtain ⟨y, hy, rfl, out, hS⟩ := hrel
        clear HS0
        have HS := Lib.hid hS
        obtain ⟨k0, k1, k2⟩ := hS.f.k0.cells
        clear hS
        by_cases hlt : y < H
        · have hi : (y : Int) < (H : Int) := by omega
          go_wp2
          clear k0 k1 k2
          go_loopw [12] (fun i wr => ∃ x : Nat, x ≤ W ∧ i = .int .i64 x ∧ ∃ out, SfAt w ob W H (some ⟨b, o, none⟩) l c (L.take (y * W + x)) out wr) (fun i _ => W - (intOf i).toNat)
          case atStart => exact ⟨0, Nat.zero_le _, rfl, _, HS.out⟩
          case round =>
            clear HS
            rename_i wr' _ _
            obtain ⟨x, hx, rfl, out', hS⟩ := hrel
            have HS := Lib.hid hS
            obtain ⟨k0, k1, k2⟩ := hS.f.k0.cells
            obtain ⟨o0, o1, o2⟩ := hS.x.cells
            have of := hS.x.frozen 2
            have bd : Below wr.heap.size wr wr.drew := ⟨rfl, rfl, rfl, Nat.le_refl _, fun _ _ => rfl⟩
            have HSd := Lib.hid (hS.step bd)
            clear hS bd
            by_cases hlt2 : x < W
            · have hi2 : (x : Int) < (W : Int) := by omega
              have hfit : y * W + x < l.length := by rw [HNN.out]; have := Nat.mul_le_mul_right W (show y + 1 ≤ H by omega); rw [Nat.add_mul, Nat.one_mul] at this; rw [Nat.mul_comm W H]; omega
              have HSTEP := Lib.hid (HST.out x y hlt2 hfit)
              have hxl : (L.take (y * W + x)).length ≤ 64 := by rw [List.length_take, HFL.out]; omega
              have HCALL := Lib.hid (fun W' h => HVALS.out x y x y W' rfl rfl hlt2 hlt h)
              have hva := HVA.out x y
              have hvl := HVL.out x y
              have HRE := Lib.hid (fun a c B W' h => HRES.out (nbv l W H x y rn) a c B W' hvl hva h)
              generalize nbv l W H x y rn = vs at *
              generalize gapC F 0 vs = z at *
              have hvl2 : (insAll vs).length ≤ 64 := by rw [insAll_len]; exact hvl
              generalize insAll vs = sv at *
              generalize L.take (y * W + x) = xs at *
              clear hva hvl hfit
              go_wp2
              go_region_law (first
                | (refine step_append_lies _ (by rfl) _ _ _ (by rfl) (w.heap.size + 2) 3 i0 _ 1 8 Try.underlying24 hi0' hz0 hz1 hz2 rfl (by omega) out' xs.length (iv xs) (by rfl) (HS6.out.o.alloc _) ⟨w6.heap.size, 0, none⟩ 1 1 [.int .i64 z] (by rfl) (by rfl) (cell_one_new _ _ _) (by simp [Value.oneCell']) (by omega) (by unfold maxLen; omega) (by omega) (by have := HS6.out.f.r.lt; simp; omega) (w6.heap.size + 1) (by simp) ?_; intro gg cap w8 hown8 hgrow8 hat8 hlt8; have hput := HS6.out.put (ys := xs ++ [z]) hgrow8 (by rw [iv_snoc, List.length_append]; exact hown8); have f8 := hput.1.frozen 2; obtain ⟨d0, d1, d2⟩ := hput.1.cells; have HP8 := Lib.hid hput.2; clear hput hown8 hgrow8 hat8)
                | (go_simp; go_at_call 72; refine (HCALL.out _ HSd.out.f.i0).mono ?_; rintro e w6 ⟨a6, c6, rfl, o6, b6⟩; have HS6 := Lib.hid (HSd.out.step b6); have I6 := Lib.hid o6.ints; obtain ⟨k0, k1, k2⟩ := HS6.out.f.k0.cells; obtain ⟨o0, o1, o2⟩ := HS6.out.x.cells; have zr := HS6.out.f.r.lt; have zx := HS6.out.x.lt; have zq1 : ob < w6.heap.size := (by omega); have zq2 : ¬ ob = w6.heap.size := (by omega); have zq3 : w.heap.size < w6.heap.size := (by omega); have zq4 : ¬ w.heap.size = w6.heap.size := (by omega); clear o6 b6)
                | (go_simp; go_at_call 89; refine (HRE.out _ _ _ _ I6.out).mono ?_; rintro e w7 ⟨rfl, rfl⟩))
              all_goals
                go_wp2
                go_roundw
                case rel => exact ⟨x + 1, by omega, by go_num, _, by rw [← Nat.add_assoc, HSTEP.out]; exact HP8.out⟩
                case measure => simp [intOf]; omega
            · obtain rfl : x = W := by omega
              have hrow : y * x + x = (y + 1) * x := by rw [Nat.add_mul, Nat.one_mul]
              rw [hrow] at HS
              clear HSd
              go_wp2
              go_roundw
              case rel => exact ⟨y + 1, by omega, by go_num, _, HS.out⟩
              case measure => simp [intOf]; omega
        · obtain rfl : y = H := by omega
          have hS := HS.out
          have hall : L.take (y * W) = L := List.take_of_length_le (by rw [HFL.out, HNN.out, Nat.mul_comm]; exact Nat.le_refl _)
          rw [hall] at hS
          obtain ⟨a', c', hv', ho⟩ := ownI_of hS.o rfl
          subst hv'
          obtain ⟨o0, o1, o2⟩ := hS.x.cells
          obtain ⟨r0, r1, r2⟩ := hS.f.r.cells
          have g0 := hS.f.r.frozen 0
          have g1 := hS.f.r.frozen 1
          have g2 := hS.f.r.frozen 2
          have HO2 := Lib.hid ho
          have HB := Lib.hid hS.f.b
          clear HS hall hS ho
          go_wp2
          refine bodyPost_ret (v := .tuple #[.agg #[.int .i64 W, .int .i64 y, .slice a' L.length c'], .bool true]) (by simp [results, Try.results58, go_sem, r0, r1, r2]) rfl ⟨a', c', rfl, ?_, ?_⟩
          · exact (ownI_set (ownI_set (ownI_set HO2.out (by omega) _) (by omega) _) (by omega) _).more (by omega)
          · exact ((HB.out.setCell (by simp) _).setCell (by simp) _).setCell (by simp) _
end Go.Proofs.Ytdkffljnfemngaa
