/- The model's match of two fields. -/
import Derived.Test.YthceffkkokgpnaaMvSmall
import Derived.Test.YthceffkkokgpnaaLx2
import Derived.Test.YthceffkkokgpnaaHas
import Derived.Deep.RegionHeld3
import Derived.Deep.DeepCutAuto
namespace Go.Proofs.Ythceffkkokgpnaa
open Go.RowKit
set_option linter.unusedVariables false
set_option linter.unusedSimpArgs false
theorem specAbs_is (x : Int) (w : World) (h : -1000000 ≤ x ∧ x ≤ 1000000) : Calls Try.prog 126 #[.int .i64 x] w fun e w' => e = .returned (.int .i64 (max x (-x))) ∧ w = w' := by
  have C := Lib.hid (fun W => l1Most_is x (-x) W)
  have hw := IntWalk.i64_in (-x) (by omega)
  generalize max x (-x) = m at *
  go_enter Try.func126, Try.ntmps126
  go_wp2_with (go_at_call 162; (with_reducible refine (C.out _).mono ?_); rintro e w1 ⟨rfl, rfl⟩)
  go_ret
  exact ⟨rfl, rfl⟩
/-- two fields and a motion, by value -/
structure Lx3 (w : World) (wd0 hg0 : Int) (a0 : Option Addr) (l0 : List Int) (c0 : Nat) (wd1 hg1 : Int) (a1 : Option Addr) (l1 : List Int) (c1 : Nat) (mx my : Int) (w' : World) : Prop where
  f : Lx2 w wd0 hg0 a0 l0 c0 wd1 hg1 a1 l1 c1 w'
  m : MBox w' (w.heap.size + 2) 83 mx my
section
variable {w w1 w2 : World} {wd0 hg0 wd1 hg1 mx my : Int} {a0 a1 : Option Addr} {l0 l1 : List Int} {c0 c1 : Nat}
theorem Lx3.new (h0 : Ints .i64 w w.heap.size a0 l0) (h1 : Ints .i64 w w.heap.size a1 l1) (mx my : Int) : Lx3 w wd0 hg0 a0 l0 c0 wd1 hg1 a1 l1 c1 mx my (((w.alloc (.cells #[.int .i64 wd0, .int .i64 hg0, .slice a0 l0.length c0] 54)).alloc (.cells #[.int .i64 wd1, .int .i64 hg1, .slice a1 l1.length c1] 54)).alloc (.cells #[.int .i64 mx, .int .i64 my] 83)) :=
  ⟨(Lx2.new h0 h1).step (below_all _ _), by have h := MBox.new ((w.alloc (.cells #[.int .i64 wd0, .int .i64 hg0, .slice a0 l0.length c0] 54)).alloc (.cells #[.int .i64 wd1, .int .i64 hg1, .slice a1 l1.length c1] 54)) 83 mx my; simp only [World.size_alloc] at h; exact h⟩
theorem Lx3.step (h : Lx3 w wd0 hg0 a0 l0 c0 wd1 hg1 a1 l1 c1 mx my w1) (b : Below w1.heap.size w1 w2) : Lx3 w wd0 hg0 a0 l0 c0 wd1 hg1 a1 l1 c1 mx my w2 := ⟨h.f.step b, h.m.below b⟩
theorem Lx3.cells (h : Lx3 w wd0 hg0 a0 l0 c0 wd1 hg1 a1 l1 c1 mx my w1) : (w1.cell? ⟨w.heap.size, 0, none⟩ = some (.int .i64 wd0) ∧ w1.cell? ⟨w.heap.size, 1, none⟩ = some (.int .i64 hg0) ∧ w1.cell? ⟨w.heap.size, 2, none⟩ = some (.slice a0 l0.length c0)) ∧ (w1.cell? ⟨w.heap.size + 1, 0, none⟩ = some (.int .i64 wd1) ∧ w1.cell? ⟨w.heap.size + 1, 1, none⟩ = some (.int .i64 hg1) ∧ w1.cell? ⟨w.heap.size + 1, 2, none⟩ = some (.slice a1 l1.length c1)) ∧ w1.cell? ⟨w.heap.size + 2, 0, none⟩ = some (.int .i64 mx) ∧ w1.cell? ⟨w.heap.size + 2, 1, none⟩ = some (.int .i64 my) := ⟨h.f.k0.cells, h.f.k1.cells, h.m.cells⟩
end
set_option maxRecDepth 100000 in
set_option maxHeartbeats 8000000 in
theorem specMt_any (W H : Nat) (aa : Option Addr) (la : List Int) (ca : Nat) (ab : Option Addr) (lb : List Int) (cb : Nat) (mx my : Int) (w : World) (h1 : Ints .i64 w w.heap.size aa la) (h2 : Ints .i64 w w.heap.size ab lb) (hW : 1 ≤ W ∧ W ≤ 8) (hH : 1 ≤ H ∧ H ≤ 8) (hla : la.length = W * H) (hlb : lb.length = W * H) (ba : ∀ z ∈ la, -9999 ≤ z ∧ z ≤ 9000) (bb : ∀ z ∈ lb, -9999 ≤ z ∧ z ≤ 9000) (hm : (-2 ≤ mx ∧ mx ≤ 2) ∧ -2 ≤ my ∧ my ≤ 2) :
    Calls Try.prog 115 #[.agg #[.int .i64 W, .int .i64 H, .slice aa la.length ca], .agg #[.int .i64 W, .int .i64 H, .slice ab lb.length cb], .agg #[.int .i64 mx, .int .i64 my]] w fun e w' => e = .returned (.tuple #[.int .i64 (gridS (mtF gapO W H la lb mx my) W H), .int .i64 (gridS (mtF cntO W H la lb mx my) W H)]) ∧ Below w.heap.size w w' := by
  have F0 := Lib.hid (Lx3.new (wd0 := (W : Int)) (hg0 := (H : Int)) (c0 := ca) (wd1 := (W : Int)) (hg1 := (H : Int)) (c1 := cb) h1 h2 mx my)
  obtain ⟨⟨m1, m2⟩, m3, m4⟩ := hm
  obtain ⟨W1, W2⟩ := hW
  obtain ⟨H1, H2⟩ := hH
  have hWH : W * H ≤ 64 := Nat.mul_le_mul W2 H2
  have hs : shapeB (W : Int) (H : Int) = true := shapeB_iff.2 (by omega)
  have HHAS := Lib.hid (fun x y v Wd h => specHas_is (W : Int) (H : Int) ab lb.length cb x y v Wd hs h)
  have HPL := Lib.hid (fun x y (h : inB (W : Int) (H : Int) x y = true) => place_int hs h)
  have HA := Lib.hid (fun (x y : Int) (k : Nat) Wd i hk hp h0 h1 h2 h3 => specAt_any (W : Int) (H : Int) aa la ca Wd.heap.size x y k Wd i (Nat.le_refl _) hk (by omega) hp h0 h1 h2 h3)
  have HB := Lib.hid (fun (x y : Int) (k : Nat) Wd i hk hp h0 h1 h2 h3 => specAt_any (W : Int) (H : Int) ab lb cb Wd.heap.size x y k Wd i (Nat.le_refl _) hk (by omega) hp h0 h1 h2 h3)
  have HOFF := Lib.hid (fun (x y : Int) (h : inB (W : Int) (H : Int) (x + mx) (y + my) = false) => (⟨mtF_off h, mtF_off h⟩ : mtF gapO W H la lb mx my x y = 0 ∧ mtF cntO W H la lb mx my x y = 0))
  have HIN := Lib.hid (fun (x y : Int) (h : inB (W : Int) (H : Int) x y = true) (h' : inB (W : Int) (H : Int) (x + mx) (y + my) = true) => (⟨mtF_here h h', mtF_here h h'⟩ : mtF gapO W H la lb mx my x y = gapO (la.getD (place W x y) 0) (lb.getD (place W (x + mx) (y + my)) 0) ∧ mtF cntO W H la lb mx my x y = cntO (la.getD (place W x y) 0) (lb.getD (place W (x + mx) (y + my)) 0)))
  have HST := Lib.hid (fun y x => (⟨mtS_step gapO W H la lb mx my y x, mtS_step cntO W H la lb mx my y x⟩ : _ ∧ _))
  have HRW := Lib.hid (fun y => (⟨mtS_row gapO W H la lb mx my y, mtS_row cntO W H la lb mx my y⟩ : _ ∧ _))
  have HBD := Lib.hid (fun (y x : Nat) (hy : y ≤ 8) (hx : x ≤ 8) => (⟨mtS_bd (by omega) gapO_bd ba bb mx my W2 y x hy hx, mtS_bd (by omega) (fun u v _ _ => cntO_bd u v) ba bb mx my W2 y x hy hx⟩ : (0 ≤ mtS gapO W H la lb mx my y x ∧ mtS gapO W H la lb mx my y x ≤ 20000 * 72) ∧ 0 ≤ mtS cntO W H la lb mx my y x ∧ mtS cntO W H la lb mx my y x ≤ 1 * 72))
  rw [← mtS_all, ← mtS_all]
  have HS0 := Lib.hid (⟨mtS_start gapO W H la lb mx my, mtS_start cntO W H la lb mx my⟩ : _ ∧ _)
  have HLA := Lib.hid hla
  have HLB := Lib.hid hlb
  have HBA := Lib.hid ba
  have HBB := Lib.hid bb
  clear h1 h2 hs hla hlb ba bb
  generalize mtS gapO W H la lb mx my = G at *
  generalize mtS cntO W H la lb mx my = N at *
  generalize mtF gapO W H la lb mx my = f1 at *
  generalize mtF cntO W H la lb mx my = f2 at *
  go_enter Try.func115, Try.ntmps115
  go_wp2
  go_loopw [8, 9, 10] (fun s n i wr => ∃ y : Nat, y ≤ H ∧ i = .int .i64 y ∧ s = .int .i64 (G y 0) ∧ n = .int .i64 (N y 0) ∧ Lx3 w W H aa la ca W H ab lb cb mx my wr) (fun _ _ i _ => H - (intOf i).toNat)
  case atStart => exact ⟨0, Nat.zero_le _, rfl, by rw [HS0.out.1], by rw [HS0.out.2], F0.out⟩
  case round =>
    obtain ⟨y, hy, rfl, rfl, rfl, hS⟩ := hrel
    have HS := Lib.hid hS
    obtain ⟨⟨k0, k1, k2⟩, ⟨l0, l1, l2⟩, n0, n1⟩ := hS.cells
    clear hS
    by_cases hlt : y < H
    · have hi : (y : Int) < (H : Int) := by omega
      go_wp2
      clear k0 k1 k2 l0 l1 l2 n0 n1
      go_loopw [8, 9, 11] (fun s n i wr => ∃ x : Nat, x ≤ W ∧ i = .int .i64 x ∧ s = .int .i64 (G y x) ∧ n = .int .i64 (N y x) ∧ Lx3 w W H aa la ca W H ab lb cb mx my wr) (fun _ _ i _ => W - (intOf i).toNat)
      case atStart => exact ⟨0, Nat.zero_le _, rfl, rfl, rfl, HS.out⟩
      case round =>
        clear HS
        obtain ⟨x, hx, rfl, rfl, rfl, hS⟩ := hrel
        have HS := Lib.hid hS
        obtain ⟨⟨k0, k1, k2⟩, ⟨l0, l1, l2⟩, n0, n1⟩ := hS.cells
        clear hS
        by_cases hlt2 : x < W
        · have hi2 : (x : Int) < (W : Int) := by omega
          obtain ⟨⟨bd1, bd2⟩, bd3, bd4⟩ := HBD.out y x (by omega) (by omega)
          have HT := Lib.hid (HST.out y x)
          cases hin : inB (W : Int) (H : Int) ((x : Int) + mx) ((y : Int) + my) with
          | false =>
            have HC := Lib.hid (fun Wd => HHAS.out _ _ false Wd hin)
            obtain ⟨z1, z2⟩ := HOFF.out _ _ hin
            rw [z1, z2, Int.add_zero, Int.add_zero] at HT
            clear hin z1 z2
            go_wp2_with fail
            refine (HC.out _).mono ?_
            rintro e w1 ⟨rfl, b1⟩
            have HS1 := Lib.hid (HS.out.step b1)
            clear b1 k0 k1 k2 l0 l1 l2 n0 n1
            go_wp2
            go_roundw
            case rel => exact ⟨x + 1, by omega, by go_num, by rw [HT.out.1], by rw [HT.out.2], HS1.out⟩
            case measure => simp [intOf]; omega
          | true =>
            have HC := Lib.hid (fun Wd => HHAS.out _ _ true Wd hin)
            have hin0 : inB (W : Int) (H : Int) (x : Int) (y : Int) = true := inB_iff.2 (by omega)
            obtain ⟨z1, z2⟩ := HIN.out _ _ hin0 hin
            obtain ⟨⟨q1, q2⟩, q3, q4⟩ := inB_iff.1 hin
            obtain ⟨p1, p2, p3, p4⟩ := HPL.out _ _ hin0
            obtain ⟨p5, p6, p7, p8⟩ := HPL.out _ _ hin
            generalize place (W : Int) (x : Int) (y : Int) = ka at *
            generalize place (W : Int) ((x : Int) + mx) ((y : Int) + my) = kb at *
            have hka : ka < la.length := by rw [HLA.out]; rw [← Int.natCast_mul] at p2; omega
            have hkb : kb < lb.length := by rw [HLB.out]; rw [← Int.natCast_mul] at p6; omega
            rw [getD_at hka, getD_at hkb] at z1 z2
            have HA1 := Lib.hid (fun Wd i => HA.out _ _ ka Wd i hka p1 p3 p4 (by omega) (by omega))
            have HB1 := Lib.hid (fun Wd i => HB.out _ _ kb Wd i hkb p5 p7 p8 (by omega) (by omega))
            have hu := HBA.out _ (List.getElem_mem hka)
            have hv := HBB.out _ (List.getElem_mem hkb)
            generalize la[ka] = u at *
            generalize lb[kb] = v at *
            rw [z1, z2] at HT
            clear hin hin0 z1 z2 p1 p2 p3 p4 p5 p6 p7 p8
            go_wp2_with fail
            refine (HC.out _).mono ?_
            rintro e w1 ⟨rfl, b1⟩
            have HS1 := Lib.hid (HS.out.step b1)
            clear b1 k0 k1 k2 l0 l1 l2 n0 n1
            obtain ⟨⟨k0, k1, k2⟩, ⟨l0, l1, l2⟩, n0, n1⟩ := HS1.out.cells
            go_upto_region 9 with fail
            go_cut [12, 13] (fun s t wx => s = .int .i64 u ∧ t = .int .i64 v ∧ Lx3 w W H aa la ca W H ab lb cb mx my wx)
            case first =>
              have hwx := IntWalk.i64_in ((x : Int) + mx) (by omega)
              have hwy := IntWalk.i64_in ((y : Int) + my) (by omega)
              have HQ : Hid (Lx3 w W H aa la ca W H ab lb cb mx my w1.drew) := Lib.hid (HS1.out.step (Below.refl _ _).drew)
              go_region_held3 (fun w1 => (w1.cell? ⟨w.heap.size, 0, none⟩ = some (.int .i64 W) ∧ w1.cell? ⟨w.heap.size, 1, none⟩ = some (.int .i64 H) ∧ w1.cell? ⟨w.heap.size, 2, none⟩ = some (.slice aa la.length ca)) ∧ (w1.cell? ⟨w.heap.size + 1, 0, none⟩ = some (.int .i64 W) ∧ w1.cell? ⟨w.heap.size + 1, 1, none⟩ = some (.int .i64 H) ∧ w1.cell? ⟨w.heap.size + 1, 2, none⟩ = some (.slice ab lb.length cb)) ∧ w1.cell? ⟨w.heap.size + 2, 0, none⟩ = some (.int .i64 mx) ∧ w1.cell? ⟨w.heap.size + 2, 1, none⟩ = some (.int .i64 my))
                (first | (with_reducible exact HT2.out.cells) | (with_reducible exact HR.out.cells) | (with_reducible exact HQ.out.cells) | go_keep)
                (first
                  | (go_at_call 157; (with_reducible refine (HA1.out _ HQ.out.f.i0).mono ?_); rintro e w2 ⟨rfl, b2⟩; have HR := Lib.hid (HQ.out.step b2); clear b2)
                  | (go_at_call 157; (with_reducible refine (HB1.out _ HQ.out.f.i1).mono ?_); rintro e w2 ⟨rfl, b2⟩; have HR := Lib.hid (HQ.out.step b2); clear b2)
                  | (go_at_call 157; (with_reducible refine (HB1.out _ HR.out.f.i1).mono ?_); rintro e w3 ⟨rfl, b3⟩; have HT2 := Lib.hid (HR.out.step b3); clear b3)
                  | (go_at_call 157; (with_reducible refine (HA1.out _ HR.out.f.i0).mono ?_); rintro e w3 ⟨rfl, b3⟩; have HT2 := Lib.hid (HR.out.step b3); clear b3))
              all_goals (go_wp2_with fail; go_meet)
              all_goals exact ⟨rfl, rfl, HT2.out⟩
            case rest =>
              obtain ⟨rfl, rfl, hS2⟩ := hcut
              have HS2 := Lib.hid hS2
              clear hS2 HS1 HS k0 k1 k2 l0 l1 l2 n0 n1
              by_cases hum : u = -9999
              · have e1 := gapO_left v
                have e2 := cntO_left v
                subst hum
                rw [e1, e2, Int.add_zero, Int.add_zero] at HT
                clear e1 e2
                go_wp2
                go_roundw
                case rel => exact ⟨x + 1, by omega, by go_num, by rw [HT.out.1], by rw [HT.out.2], HS2.out⟩
                case measure => simp [intOf]; omega
              · have nu : (u != -9999) = true := by rw [bne_iff_ne]; exact hum
                by_cases hvm : v = -9999
                · have e1 : gapO u v = 0 := if_pos (.inr hvm)
                  have e2 : cntO u v = 0 := if_pos (.inr hvm)
                  rw [e1, e2, Int.add_zero, Int.add_zero] at HT
                  subst hvm
                  clear e1 e2 hum
                  go_wp2
                  go_roundw
                  case rel => exact ⟨x + 1, by omega, by go_num, by rw [HT.out.1], by rw [HT.out.2], HS2.out⟩
                  case measure => simp [intOf]; omega
                · have nv : (v != -9999) = true := by rw [bne_iff_ne]; exact hvm
                  have e1 : gapO u v = max (u - v) (-(u - v)) := by rw [show gapO u v = max (u - v) (v - u) from if_neg (by omega)]; omega
                  have e2 : cntO u v = 1 := if_neg (by omega)
                  rw [e1, e2] at HT
                  have HAB := Lib.hid (fun Wd => specAbs_is (u - v) Wd (by omega))
                  have hw1 := IntWalk.i64_in (u - v) (by omega)
                  have bm : 0 ≤ max (u - v) (-(u - v)) ∧ max (u - v) (-(u - v)) ≤ 20000 := by omega
                  clear e1 e2 hum hvm
                  generalize max (u - v) (-(u - v)) = d at *
                  obtain ⟨s, hs⟩ : ∃ s, G y x = s := ⟨_, rfl⟩
                  obtain ⟨n, hn⟩ : ∃ n, N y x = n := ⟨_, rfl⟩
                  rw [hs] at bd1 bd2 HT ⊢
                  rw [hn] at bd3 bd4 HT ⊢
                  clear hs hn
                  go_wp2_with (go_at_call 126; (with_reducible refine (HAB.out _).mono ?_); rintro e w4 ⟨rfl, rfl⟩)
                  go_roundw
                  case rel => exact ⟨x + 1, by omega, by go_num, by rw [HT.out.1], by rw [HT.out.2], HS2.out⟩
                  case measure => simp [intOf]; omega
        · obtain rfl : x = W := by omega
          have HR := Lib.hid (HRW.out y)
          go_wp2
          go_roundw
          case rel => exact ⟨y + 1, by omega, by go_num, by rw [HR.out.1], by rw [HR.out.2], HS.out⟩
          case measure => simp [intOf]; omega
    · obtain rfl : y = H := by omega
      go_wp2
      go_ret2
      exact ⟨rfl, HS.out.f.b⟩
end Go.Proofs.Ythceffkkokgpnaa
