/- The model's sums of blocks. -/
import Derived.Test.YtccplndimdmjpaaDoorRgBk
import Derived.Test.YtccplndimdmjpaaDoorRgFull
import Derived.Deep.RegionLaw
import Derived.Deep.DeepCutAuto
namespace Go.Proofs.YtccplndimdmjpaaDoor
open Go.RowKit
set_option linter.unusedVariables false
set_option linter.unusedSimpArgs false
theorem nat_tdiv (m n : Nat) : ((m : Int)).tdiv (n : Int) = ((m / n : Nat) : Int) := (Int.ofNat_tdiv m n).symm
theorem nat_ediv (m n : Nat) : ((m : Int)) / (n : Int) = ((m / n : Nat) : Int) := (Int.natCast_ediv m n).symm
set_option maxRecDepth 100000 in
set_option maxHeartbeats 4000000 in
theorem specBlocks_any (W H A D Wa Hd : Nat) (a : Option Addr) (l : List Int) (c : Nat) (w : World) (hl : Ints .i64 w w.heap.size a l) (n1 : 1 ≤ W) (n2 : W ≤ 8) (n3 : 1 ≤ H) (n4 : H ≤ 8) (a1 : 1 ≤ A) (a2 : A ≤ W) (d1 : 1 ≤ D) (d2 : D ≤ H) (hA : A ∣ W) (hD : D ∣ H) (hn : l.length = W * H) (hv : ∀ z ∈ l, -9000 ≤ z ∧ z ≤ 9000) (hWa : W / A = Wa) (hHd : H / D = Hd) :
    Calls Tryd.prog 53 #[.agg #[.int .i64 W, .int .i64 H, .slice a l.length c], .int .i64 A, .int .i64 D] w (FOne (Wa : Int) (Hd : Int) (blkL W H A D l) w) := by
  have F0 := Lib.hid (Fr1.new (wd0 := W) (hg0 := H) (c0 := c) hl)
  have wa1 : 1 ≤ Wa := by rw [← hWa]; exact Nat.div_pos a2 (by omega)
  have wa2 : Wa ≤ 8 := by rw [← hWa]; exact Nat.le_trans (Nat.div_le_self _ _) n2
  have hd1 : 1 ≤ Hd := by rw [← hHd]; exact Nat.div_pos d2 (by omega)
  have hd2 : Hd ≤ 8 := by rw [← hHd]; exact Nat.le_trans (Nat.div_le_self _ _) n4
  have hP : 1 ≤ Wa * Hd := Nat.mul_le_mul wa1 hd1
  have HFILL := Lib.hid (fun W' => fill_any (Wa : Int) (Hd : Int) 0 W' (shapeB_iff.2 (by omega)))
  have e9 : ((Wa : Int) * (Hd : Int)).toNat = Wa * Hd := by rw [← Int.natCast_mul]; exact Int.toNat_natCast _
  rw [e9] at HFILL
  obtain ⟨S0, hS0⟩ : ∃ S, List.replicate (Wa * Hd) (0 : Int) = S := ⟨_, rfl⟩
  have HS0 := Lib.hid hS0
  rw [hS0] at HFILL
  have hl0 : 0 < S0.length := by rw [← hS0, List.length_replicate]; omega
  have E1 := Lib.hid (show (W : Int) / (A : Int) = (Wa : Int) by rw [nat_ediv, hWa])
  have E2 := Lib.hid (show (H : Int) / (D : Int) = (Hd : Int) by rw [nat_ediv, hHd])
  have HN := Lib.hid hn
  have HWA := Lib.hid hWa
  have HHD := Lib.hid hHd
  have HV := Lib.hid hv
  clear hl e9 hn hWa hHd hv hS0
  go_enter Tryd.func53, Tryd.ntmps53
  go_upto_region 1 with fail
  go_cut [7] (fun s wx => ∃ ob g c1, s = .pointer (some ⟨ob, 0, none⟩) ∧ Bk w ob g W H a l c (Wa : Int) (Hd : Int) S0 c1 wx)
  case first =>
    obtain ⟨k0, k1, k2⟩ := F0.out.k0.cells
    have z0 := F0.out.r.lt
    have F1 := Lib.hid F0.out.drew
    have F2 := Lib.hid (F0.out.step (below_all _ (.cells #[.int .i64 0, .int .i64 0, .slice none 0 0] 32))).drew
    have e3 : ¬ A = 0 := by omega
    have e4 : ¬ D = 0 := by omega
    have e5 : IntKind.i64.wrap (Wa : Int) = (Wa : Int) := IntWalk.i64_in _ (by omega)
    have e6 : IntKind.i64.wrap (Hd : Int) = (Hd : Int) := IntWalk.i64_in _ (by omega)
    have e1 := E1.out
    have e2 := E2.out
    go_region_held3 (fun w' => w'.cell? ⟨w.heap.size, 0, none⟩ = some (.int .i64 W) ∧ w'.cell? ⟨w.heap.size, 1, none⟩ = some (.int .i64 H))
      (first | (with_reducible exact ⟨F5.out.k0.cells.1, F5.out.k0.cells.2.1⟩) | (with_reducible exact ⟨(F5.out.k0.alloc _).cells.1, (F5.out.k0.alloc _).cells.2.1⟩) | (with_reducible exact ⟨F1.out.k0.cells.1, F1.out.k0.cells.2.1⟩) | (with_reducible exact ⟨F2.out.k0.cells.1, F2.out.k0.cells.2.1⟩) | ((with_reducible refine ⟨(F5.out.k0.set_other3 ?_).cells.1, (F5.out.k0.set_other3 ?_).cells.2.1⟩) <;> omega) | go_keep)
      (first | (go_at_call 39; (with_reducible refine (HFILL.out _).mono ?_); rintro e w5 ⟨a5, c5, rfl, o5, b5⟩; (first
        | (have F5 := Lib.hid (F1.out.step b5); have O5 := Lib.hid (o5.more (C := w.heap.size + 2) (by simp)); have hz : Hid (MayBox w5 none) := Lib.hid trivial)
        | (have F5 := Lib.hid (F2.out.step b5); have O5 := Lib.hid (o5.more (C := w.heap.size + 2) (by simp)); have hz : Hid (MayBox w5 (some (w.heap.size + 1 + 1))) := Lib.hid (by have h := MayBox.made0 b5; simp only [World.size_alloc] at h; exact h))); obtain ⟨y0, y1, y2, f0, f1, f2⟩ := hz.out.facts; simp only [cellAt, softAt] at y0 y1 y2 f0 f1 f2; clear o5 b5))
    all_goals (go_wp2_with fail)
    all_goals go_meet
    all_goals first
      | (obtain ⟨g, rfl, hb⟩ := Bk.new (P := Wa) (Q := Hd) (cap := c5) F5.out O5.out hl0
         exact ⟨_, g, c5, rfl, hb⟩)
      | (obtain ⟨g, rfl, hb⟩ := Bk.newB (P := Wa) (Q := Hd) (cap := c5) F5.out hz.out (by omega) O5.out hl0
         exact ⟨_, g, c5, rfl, hb⟩)
  case rest =>
    obtain ⟨ob, g, cap, rfl, hB⟩ := hcut
    have HB := Lib.hid hB
    clear hB F0
    go_wp2
    go_loopw [8] (fun i wr => ∃ y : Nat, y ≤ H ∧ i = .int .i64 y ∧ Bk w ob g W H a l c Wa Hd (accK (blkI W A D) l S0 (y * W)) cap wr) (fun i _ => H - (intOf i).toNat)
    case atStart => exact ⟨0, Nat.zero_le _, rfl, by rw [Nat.zero_mul]; exact HB.out⟩
    case round =>
      obtain ⟨y, hy, rfl, hS⟩ := hrel
      clear HB
      have HS := Lib.hid hS
      obtain ⟨k0, k1, k2⟩ := hS.f.k0.cells
      clear hS
      by_cases hlt : y < H
      · have hi : (y : Int) < (H : Int) := by omega
        go_wp2
        clear k0 k1 k2
        go_loopw [9] (fun i wr => ∃ x : Nat, x ≤ W ∧ i = .int .i64 x ∧ Bk w ob g W H a l c Wa Hd (accK (blkI W A D) l S0 (y * W + x)) cap wr) (fun i _ => W - (intOf i).toNat)
        case atStart => exact ⟨0, Nat.zero_le _, rfl, HS.out⟩
        case round =>
          clear HS
          obtain ⟨x, hx, rfl, hS⟩ := hrel
          have HS := Lib.hid hS
          obtain ⟨k0, k1, k2⟩ := hS.f.k0.cells
          by_cases hlt2 : x < W
          · have hi2 : (x : Int) < (W : Int) := by omega
            have hk : y * W + x < W * H := by have := Nat.mul_le_mul_right W (show y + 1 ≤ H by omega); rw [Nat.add_mul, Nat.one_mul] at this; rw [Nat.mul_comm W H]; omega
            have hkl : y * W + x < l.length := by rw [HN.out]; exact hk
            have hjlt : blkI W A D (y * W + x) < (accK (blkI W A D) l S0 (y * W + x)).length := by
              rw [accK_len, ← HS0.out, List.length_replicate, ← HWA.out, ← HHD.out]; exact blkI_lt (by omega) hA hD hk
            have HSTEP := Lib.hid (accK_step (f := blkI W A D) (l := l) (s := S0) hjlt hkl)
            have hsb := accK_bd (blkI W A D) (l := l) (Wa * Hd) HV.out (y * W + x)
            rw [HS0.out] at hsb
            have hs := hsb _ (List.getElem_mem hjlt)
            have hz := HV.out _ (List.getElem_mem hkl)
            have hk64 : y * W + x ≤ 64 := by have : W * H ≤ 64 := Nat.mul_le_mul n2 n4; omega
            have hl64 : l.length ≤ 1048576 := by rw [HN.out]; have : W * H ≤ 64 := Nat.mul_le_mul n2 n4; omega
            have hyW : y * W ≤ 64 := by omega
            have HCALL := Lib.hid (fun W' h => specAt_any (W : Int) H a l c _ (x : Int) (y : Int) (y * W + x) W' h (Nat.le_refl _) hkl hl64 (by push_cast; rfl) (by rw [← Int.natCast_mul]; omega) (by rw [← Int.natCast_mul]; omega) (by omega) (by omega))
            have hrowj := blkI_row (W := W) (A := A) (D := D) (y := y) hlt2
            rw [HWA.out] at hrowj
            have hyd : y / D ≤ 8 := Nat.le_trans (Nat.div_le_self _ _) (by omega)
            have hxa : x / A ≤ 8 := Nat.le_trans (Nat.div_le_self _ _) (by omega)
            have hpp : y / D * Wa ≤ 64 := Nat.mul_le_mul hyd wa2
            have e1 : (y : Int) / (D : Int) = ((y / D : Nat) : Int) := nat_ediv y D
            have e2 : (x : Int) / (A : Int) = ((x / A : Nat) : Int) := nat_ediv x A
            have e3 : ((y / D : Nat) : Int) * (Wa : Int) = ((y / D * Wa : Nat) : Int) := by push_cast; rfl
            obtain ⟨j, hj⟩ : ∃ j, blkI W A D (y * W + x) = j := ⟨_, rfl⟩
            obtain ⟨z, hzz⟩ : ∃ z, l[y * W + x] = z := ⟨_, rfl⟩
            obtain ⟨sv, hsv⟩ : ∃ z, (accK (blkI W A D) l S0 (y * W + x))[blkI W A D (y * W + x)] = z := ⟨_, rfl⟩
            have HG : Hid (∀ W', Bk w ob g W H a l c Wa Hd (accK (blkI W A D) l S0 (y * W + x)) cap W' → W'.cell? ⟨g, j, none⟩ = some (.int .i64 sv)) := Lib.hid (fun W' h => by have h9 := h.get hjlt; rw [hsv, hj] at h9; exact h9)
            rw [hsv, hzz, hj] at HSTEP
            rw [hzz] at HCALL hz
            rw [hsv] at hs
            rw [hj] at hjlt hrowj
            generalize y / D * Wa = pp at *
            generalize y / D = yd at *
            generalize x / A = xa at *
            have e4 : (pp : Int) + (xa : Int) = (j : Int) := by omega
            have hjI : (j : Int) < ((accK (blkI W A D) l S0 (y * W + x)).length : Int) := by omega
            clear hsb hsv hzz hj hrowj
            generalize accK (blkI W A D) l S0 (y * W + x) = S at *
            have e5 : IntKind.i64.wrap (yd : Int) = (yd : Int) := IntWalk.i64_in _ (by omega)
            have e6 : IntKind.i64.wrap (xa : Int) = (xa : Int) := IntWalk.i64_in _ (by omega)
            have e7 : IntKind.i64.wrap (pp : Int) = (pp : Int) := IntWalk.i64_in _ (by omega)
            have e8 : IntKind.i64.wrap (j : Int) = (j : Int) := IntWalk.i64_in _ (by omega)
            have e10 : IntKind.i64.wrap (sv + z) = sv + z := IntWalk.i64_in _ (by omega)
            have q3 : ¬ A = 0 := by omega
            have q4 : ¬ D = 0 := by omega
            obtain ⟨x0, x1, x2⟩ := hS.x.cells
            have of := hS.o.frozen j
            have hc0 := HG.out _ hS
            have HPUT := Lib.hid (fun (W' : World) (h : Bk w ob g W H a l c Wa Hd S cap W') => h.put j (sv + z))
            rw [← HSTEP.out] at HPUT
            clear hS
            go_wp2_with fail
            go_quiet (fail)
            go_wp2_with fail
            go_region_law (first
              | (go_simp; go_at_call 41; (with_reducible refine (HCALL.out _ ?_).mono ?_); (exact (ints_below HS.out.f.i0 ⟨rfl, rfl, rfl, Nat.le_refl _, fun _ _ => rfl⟩)); rintro e w6 ⟨rfl, b6⟩; have bb : Below wr.heap.size wr w6 := below_then (by exact ⟨rfl, rfl, rfl, Nat.le_refl _, fun _ _ => rfl⟩) b6; have HS6 := Lib.hid (HS.out.step bb); clear bb; obtain ⟨y0, y1, y2⟩ := HS6.out.x.cells; have y3 := HG.out _ HS6.out; have y4 := HS6.out.o.frozen j; obtain ⟨y5, y6, y7⟩ := HS6.out.f.k0.cells; clear b6))
            all_goals
              go_wp2
              go_roundw
              case rel => exact ⟨x + 1, by omega, by go_num, by rw [← Nat.add_assoc]; exact HPUT.out _ HS6.out⟩
              case measure => simp [intOf]; omega
          · obtain rfl : x = W := by omega
            have hrow : y * x + x = (y + 1) * x := by rw [Nat.add_mul, Nat.one_mul]
            rw [hrow] at HS
            clear hS
            go_wp2
            go_roundw
            case rel => exact ⟨y + 1, by omega, by go_num, HS.out⟩
            case measure => simp [intOf]; omega
      · obtain rfl : y = H := by omega
        have hS := HS.out
        rw [Nat.mul_comm, HS0.out.symm] at hS
        obtain ⟨x0, x1, x2⟩ := hS.x.cells
        obtain ⟨r0, r1, r2⟩ := hS.f.r.cells
        have g0 := hS.f.r.frozen 0
        have g1 := hS.f.r.frozen 1
        have g2 := hS.f.r.frozen 2
        have q7 : ¬ w.heap.size + 1 = ob := by have := hS.n; omega
        have q8 : ¬ ob = w.heap.size + 1 := by omega
        have HL := Lib.hid (show accK (blkI W A D) l (List.replicate (Wa * Hd) 0) (W * y) = blkL W y A D l by unfold blkL; rw [HWA.out, HHD.out])
        rw [HL.out] at hS x2
        have HSe := Lib.hid hS
        clear hS HS
        go_wp2
        refine bodyPost_ret (v := .agg #[.int .i64 Wa, .int .i64 Hd, .slice (some ⟨g, 0, none⟩) (blkL W y A D l).length cap]) (by simp [results, Tryd.results53, go_sem, r0, r1, r2]) rfl ?_
        exact HSe.out.ret rfl (.inr rfl) _ _ _
end Go.Proofs.YtccplndimdmjpaaDoor
