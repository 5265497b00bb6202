/- The walk of FnConversions. -/
import Derived.Test.YtnafnkilmiebiaaDoorConvLaw
import Derived.Deep.DeepCutAuto
namespace Go.Proofs.YtnafnkilmiebiaaDoor
open Go.RowKit
set_option linter.unusedVariables false
/-- what the law knows of a later world -/
def Gc (w : World) (a : Option Addr) (l : List Int) (w' : World) : Prop := Below w.heap.size w w' ∧ Ints .u8 w' w'.heap.size a l ∧ UTab w' ∧ FTab w'
theorem Gc.step {w w1 w2 : World} {a : Option Addr} {l : List Int} (h : Gc w a l w1) (hb : Below w1.heap.size w1 w2) : Gc w a l w2 :=
  ⟨below_then h.1 hb, (h.2.1.below hb (Nat.le_refl _)).more hb.size, h.2.2.1.below hb, h.2.2.2.below hb⟩

set_option maxRecDepth 100000 in
set_option maxHeartbeats 8000000 in
theorem walk_Conversions (a : Option Addr) (l : List Int) (c : Nat) (w : World) (hi : Ints .u8 w w.heap.size a l) (hb : ∀ z ∈ l, 0 ≤ z ∧ z ≤ 255) (hlm : l.length ≤ maxLen) (hu : UTab w) (hf : FTab w) :
    Calls Tryd.prog 9 #[.slice a l.length c] w fun e w' => e = .returned (.bool true) ∧ Below w.heap.size w w' := by
  unfold maxLen at hlm
  by_cases hbig : (65536 : Int) < (l.length : Int)
  · clear hi hb hu hf
    go_enter Tryd.func9, Tryd.ntmps9
    go_wp2
    go_ret
    exact ⟨rfl, Below.refl _ _⟩
  · have G0 := Lib.hid (show Gc w a l w from ⟨Below.refl _ _, hi, hu, hf⟩)
    have HBY := Lib.hid hb
    have hl : l.length ≤ 65536 := by omega
    clear hi hb hlm hu hf
    go_enter Tryd.func9, Tryd.ntmps9
    go_wp2_with (first | (go_at_call 22; go_in) | fail)
    refine (drawConv_is _ a l c G0.out.2.1 HBY.out (by omega)).mono ?_
    rintro e w1 ⟨x, f, t, hx0, hx1, hf0, hf1, ht0, ht1, rfl, b1⟩
    have G1 := Lib.hid (G0.out.step b1)
    clear b1 G0
    go_wp2_with fail
    refine (implCT_any x f t _ G1.out.2.2.1).mono ?_
    rintro e w2 ⟨rfl, b2⟩
    have G2 := Lib.hid (G1.out.step b2)
    clear b2 G1
    have HS := Lib.hid (fun W => specCT_any x f t W)
    have HM := Lib.hid (fun W h => implCT_any (x + 1) f t W h)
    have M1 := Lib.hid (fun h1 h2 => conv_mono (x := x) (f := f) (t := t) h1 h2)
    unfold cvT at *
    generalize convN x f t = n1 at *
    generalize convN (x + 1) f t = m1 at *
    generalize convOk x f t = k1 at *
    generalize convOk (x + 1) f t = j1 at *
    go_wp2_with fail
    refine (HS.out _).mono ?_
    rintro e w3 ⟨rfl, rfl⟩
    go_upto_if 68 with fail
    go_cut [] (fun wx => Gc w a l wx)
    case first =>
      as_aux_lemma =>
        cases k1 with
        | false =>
          go_wp2_with fail
          go_meet
          exact G2.out
        | true =>
          go_wp2_with fail
          refine (HM.out _ G2.out.2.2.1).mono ?_
          rintro e w4 ⟨rfl, b4⟩
          have G4 := Lib.hid (G2.out.step b4)
          clear b4
          cases j1 with
          | false =>
            go_wp2_with fail
            go_meet
            exact G4.out
          | true =>
            have hm : ¬ m1 < n1 := by have := M1.out (by simp) (by simp); omega
            have hm2 : n1 ≤ m1 := by omega
            go_wp2_with fail
            go_meet
            exact G4.out
    case rest =>
      as_aux_lemma =>
        have G5 := Lib.hid hcut
        clear hcut HS HM M1 G2
        go_wp2_with fail
        refine (drawWarm_is _ a l c G5.out.2.1 HBY.out (by omega)).mono ?_
        rintro e w6 ⟨p, pa, q, qb, hp0, hp1, ha0, ha1, hq0, hq1, hb0, hb1, rfl, b6⟩
        have G6 := Lib.hid (G5.out.step b6)
        clear b6 G5
        go_wp2_with fail
        refine (implWT_any p pa q qb _ G6.out.2.2.1).mono ?_
        rintro e w7 ⟨rfl, b7⟩
        have G7 := Lib.hid (G6.out.step b7)
        clear b7 G6
        have HS := Lib.hid (fun W => specWT_any p pa q qb W)
        have HR := Lib.hid (fun W h => implWT_any q qb p pa W h)
        have HC := Lib.hid (fun W h => implCT_any p pa qb W h)
        have M1 := Lib.hid (fun h => wt_swap (p := p) (a := pa) (q := q) (b := qb) h)
        have M2 := Lib.hid (fun h => wt_anti (p := p) (a := pa) (q := q) (b := qb) h)
        have M3 := Lib.hid (fun h0 h1 h2 => wt_conv (p := p) (a := pa) (q := q) (b := qb) h0 h1 h2)
        unfold cvT wtT at *
        generalize convN p pa qb = n2 at *
        generalize convOk p pa qb = k2 at *
        generalize wtB p pa q qb = wb at *
        generalize wtB q qb p pa = wc' at *
        generalize wtV p pa q qb = wv at *
        generalize wtV q qb p pa = ww at *
        go_wp2_with fail
        refine (HS.out _).mono ?_
        rintro e w8 ⟨rfl, rfl⟩
        go_upto_if 114 with fail
        go_cut [] (fun wx => Gc w a l wx)
        case first =>
          as_aux_lemma =>
            cases wb with
            | false =>
              go_wp2_with fail
              go_meet
              exact G7.out
            | true =>
              have hwc := M1.out (by simp)
              subst hwc
              have hww : wv = false ∨ (wv = true ∧ ww = false) := by
                cases wv with
                | false => exact .inl rfl
                | true => exact .inr ⟨rfl, M2.out (by simp)⟩
              have hlt : wv = true → k2 = true → q ≤ n2 := fun h1 h2 => by have := M3.out (by simp) h1 h2; omega
              clear M1 M2 M3
              go_wp2_with fail
              refine (HR.out _ G7.out.2.2.1).mono ?_
              rintro e w9 ⟨rfl, b9⟩
              have G9 := Lib.hid (G7.out.step b9)
              clear b9
              rcases hww with rfl | ⟨rfl, rfl⟩
              · go_wp2_with fail
                refine (HC.out _ G9.out.2.2.1).mono ?_
                rintro e w10 ⟨rfl, b10⟩
                have G10 := Lib.hid (G9.out.step b10)
                clear b10
                cases k2 <;> (go_wp2_with fail; go_meet; exact G10.out)
              · go_wp2_with fail
                refine (HC.out _ G9.out.2.2.1).mono ?_
                rintro e w10 ⟨rfl, b10⟩
                have G10 := Lib.hid (G9.out.step b10)
                clear b10
                cases k2 with
                | false => go_wp2_with fail; go_meet; exact G10.out
                | true =>
                  have hq9 := hlt (by simp) (by simp)
                  go_wp2_with fail
                  go_meet
                  exact G10.out
        case rest =>
          as_aux_lemma =>
            have G11 := Lib.hid hcut
            clear hcut HS HR HC M1 M2 M3 G7
            go_wp2_with fail
            refine (drawForce_is _ a l c G11.out.2.1 HBY.out (by omega)).mono ?_
            rintro e w12 ⟨v, un, hv0, hv1, hn0, hn1, rfl, b12⟩
            have G12 := Lib.hid (G11.out.step b12)
            clear b12 G11
            go_wp2_with fail
            refine (implBF_any v un _ G12.out.2.2.1 G12.out.2.2.2).mono ?_
            rintro e w13 ⟨rfl, b13⟩
            have G13 := Lib.hid (G12.out.step b13)
            clear b13 G12
            have HS := Lib.hid (fun W => specBF_any v un W)
            have HM := Lib.hid (fun W h1 h2 => implBF_any (v + 1) un W h1 h2)
            have M1 := Lib.hid (fun h => bf_bd (v := v) (u := un) h)
            have M2 := Lib.hid (fun h1 h2 => bf_mono (v := v) (u := un) h1 h2)
            unfold bfT at *
            generalize bfN v un = n3 at *
            generalize bfN (v + 1) un = m3 at *
            generalize bfB v un = k3 at *
            generalize bfB (v + 1) un = j3 at *
            go_wp2_with fail
            refine (HS.out _).mono ?_
            rintro e w14 ⟨rfl, b14⟩
            have G14 := Lib.hid (G13.out.step b14)
            clear b14 G13
            have hk3 : k3 = false ∨ (k3 = true ∧ (0 ≤ n3 ∧ n3 ≤ 12) ∧ (j3 = false ∨ (j3 = true ∧ n3 ≤ m3))) := by
              cases k3 with
              | false => exact .inl rfl
              | true =>
                refine .inr ⟨rfl, M1.out (by simp), ?_⟩
                cases j3 with
                | false => exact .inl rfl
                | true => exact .inr ⟨rfl, by have := M2.out (by simp) (by simp); omega⟩
            clear M1 M2
            rcases hk3 with rfl | ⟨rfl, ⟨g0, g1⟩, rfl | ⟨rfl, hm3⟩⟩
            all_goals as_aux_lemma =>
              go_wp2_with fail
              refine (HM.out _ G14.out.2.2.1 G14.out.2.2.2).mono ?_
              rintro e w15 ⟨rfl, b15⟩
              have G15 := Lib.hid (G14.out.step b15)
              clear b15 G14 HM HS
              go_wp2_with fail
              refine (drawRound_is _ a l c G15.out.2.1 HBY.out (by omega)).mono ?_
              rintro e w16 ⟨r, st, hr0, hr1, hs0, hs1, rfl, b16⟩
              have G16 := Lib.hid (G15.out.step b16)
              clear b16 G15
              go_wp2_with fail
              refine (implRT_any r st _).mono ?_
              rintro e w17 ⟨rfl, rfl⟩
              have HR := Lib.hid (fun W => specRT_any r st W)
              have NR := Lib.hid (fun h => rt_near (r := r) (s := st) h)
              generalize rtN r st = rn at *
              generalize rtB r st = rb at *
              go_wp2_with fail
              refine (HR.out _).mono ?_
              rintro e w18 ⟨rfl, rfl⟩
              cases rb with
              | false =>
                go_wp2
                go_ret
                exact ⟨rfl, G16.out.1⟩
              | true =>
                obtain ⟨q1, q2, q3, q4, q5, q6, q7, q8, q9⟩ := NR.out (by simp)
                have qne : ¬ st = 0 := by omega
                clear NR HR
                go_wp2
                go_ret
                exact ⟨rfl, G16.out.1⟩
end Go.Proofs.YtnafnkilmiebiaaDoor
