/- The program's sums of blocks. -/
import Derived.Test.YtccplndimdmjpaaRgBk
import Derived.Test.YtccplndimdmjpaaRgFull
import Derived.Test.YtccplndimdmjpaaRgDiv
import Derived.Deep.RegionLaw
import Derived.Deep.DeepCutAuto
namespace Go.Proofs.Ytccplndimdmjpaa
open Go.RowKit
set_option linter.unusedVariables false
set_option linter.unusedSimpArgs false
theorem nat_ediv' (m n : Nat) : ((m : Int)) / (n : Int) = ((m / n : Nat) : Int) := (Int.natCast_ediv m n).symm
theorem nat_emod' (m n : Nat) : ((m : Int)) % (n : Int) = ((m % n : Nat) : Int) := (Int.natCast_emod m n).symm
def blkR (wd hg : Int) (l : List Int) (p q : Int) : Option (Int × Int × List Int) := if divB wd hg l p q = true then some (wd / p, hg / q, blkL wd.toNat hg.toNat p.toNat q.toNat l) else none
theorem blkR_yes {wd hg : Int} {l : List Int} {p q : Int} (h : divB wd hg l p q = true) : blkR wd hg l p q = some (wd / p, hg / q, blkL wd.toNat hg.toNat p.toNat q.toNat l) := if_pos h
theorem blkR_no {wd hg : Int} {l : List Int} {p q : Int} (h : divB wd hg l p q = false) : blkR wd hg l p q = none := if_neg (by rw [h]; simp)
set_option maxRecDepth 100000 in
set_option maxHeartbeats 4000000 in
theorem implBlk_no (wd hg : Int) (a : Option Addr) (l : List Int) (c : Nat) (p q : Int) (w : World) (hl : Ints .i64 w w.heap.size a l) (hn : l.length ≤ 1048576) (hd : divB wd hg l p q = false) :
    Calls Try.prog 38 #[.agg #[.int .i64 wd, .int .i64 hg, .slice a l.length c], .int .i64 p, .int .i64 q] w (FRet none w) := by
  have F0 := Lib.hid (Fr1.new (wd0 := wd) (hg0 := hg) (c0 := c) hl)
  clear hl
  rw [divB_dvd] at hd
  cases hf : fullB wd hg l with
  | false =>
    have C1 := Lib.hid (fun W h => implFull_is wd hg a l c false W h hn hf)
    clear hd hf
    go_enter Try.func38, Try.ntmps38
    obtain ⟨k0, k1, k2⟩ := F0.out.k0.cells
    go_wp2_with fail
    refine (C1.out _ F0.out.i0).mono ?_
    rintro e w1 ⟨rfl, b⟩
    have F1 := Lib.hid (F0.out.step b)
    clear b k0 k1 k2 F0
    obtain ⟨r0, r1, r2⟩ := F1.out.r.cells
    have g0 := F1.out.r.frozen 0
    have g1 := F1.out.r.frozen 1
    have g2 := F1.out.r.frozen 2
    go_wp2
    refine bodyPost_ret (v := .tuple #[.agg #[.int .i64 0, .int .i64 0, .slice none 0 0], .bool false]) (by simp [results, Try.results38, go_sem, r0, r1, r2]) rfl ⟨none, 0, rfl, OwnI.none_, ?_⟩
    first | exact F1.out.b | exact ((F1.out.b.setCell (by show w.heap.size ≤ w.heap.size + 1; omega) _).setCell (by show w.heap.size ≤ w.heap.size + 1; omega) _).setCell (by show w.heap.size ≤ w.heap.size + 1; omega) _
  | true =>
    have C1 := Lib.hid (fun W h => implFull_is wd hg a l c true W h hn hf)
    obtain ⟨⟨w1', w2'⟩, g1', g2'⟩ := shapeB_iff.1 (good_shape (full_good hf))
    rw [hf, Bool.true_and] at hd
    cases h1 : dvdB p wd with
    | false =>
      have C2 := Lib.hid (fun W => implDvd_is p wd false W (by omega) w2' h1)
      clear hd hf h1
      go_enter Try.func38, Try.ntmps38
      obtain ⟨k0, k1, k2⟩ := F0.out.k0.cells
      go_wp2_with fail
      refine (C1.out _ F0.out.i0).mono ?_
      rintro e w1 ⟨rfl, b⟩
      have F1 := Lib.hid (F0.out.step b)
      clear b k0 k1 k2 F0
      obtain ⟨k0, k1, k2⟩ := F1.out.k0.cells
      go_wp2_with fail
      refine (C2.out _).mono ?_
      rintro e w9 ⟨rfl, rfl⟩
      clear k0 k1 k2
      obtain ⟨r0, r1, r2⟩ := F1.out.r.cells
      have g0 := F1.out.r.frozen 0
      have g1 := F1.out.r.frozen 1
      have g2 := F1.out.r.frozen 2
      go_wp2
      refine bodyPost_ret (v := .tuple #[.agg #[.int .i64 0, .int .i64 0, .slice none 0 0], .bool false]) (by simp [results, Try.results38, go_sem, r0, r1, r2]) rfl ⟨none, 0, rfl, OwnI.none_, ?_⟩
      first | exact F1.out.b | exact ((F1.out.b.setCell (by show w.heap.size ≤ w.heap.size + 1; omega) _).setCell (by show w.heap.size ≤ w.heap.size + 1; omega) _).setCell (by show w.heap.size ≤ w.heap.size + 1; omega) _
    | true =>
      have C2 := Lib.hid (fun W => implDvd_is p wd true W (by omega) w2' h1)
      rw [h1, Bool.true_and] at hd
      have C3 := Lib.hid (fun W => implDvd_is q hg false W (by omega) g2' hd)
      clear hd hf h1
      go_enter Try.func38, Try.ntmps38
      obtain ⟨k0, k1, k2⟩ := F0.out.k0.cells
      go_wp2_with fail
      refine (C1.out _ F0.out.i0).mono ?_
      rintro e w1 ⟨rfl, b⟩
      have F1 := Lib.hid (F0.out.step b)
      clear b k0 k1 k2 F0
      obtain ⟨k0, k1, k2⟩ := F1.out.k0.cells
      go_wp2_with fail
      refine (C2.out _).mono ?_
      rintro e w9 ⟨rfl, rfl⟩
      go_wp2_with fail
      refine (C3.out _).mono ?_
      rintro e w9 ⟨rfl, rfl⟩
      clear k0 k1 k2
      obtain ⟨r0, r1, r2⟩ := F1.out.r.cells
      have g0 := F1.out.r.frozen 0
      have g1 := F1.out.r.frozen 1
      have g2 := F1.out.r.frozen 2
      go_wp2
      refine bodyPost_ret (v := .tuple #[.agg #[.int .i64 0, .int .i64 0, .slice none 0 0], .bool false]) (by simp [results, Try.results38, go_sem, r0, r1, r2]) rfl ⟨none, 0, rfl, OwnI.none_, ?_⟩
      first | exact F1.out.b | exact ((F1.out.b.setCell (by show w.heap.size ≤ w.heap.size + 1; omega) _).setCell (by show w.heap.size ≤ w.heap.size + 1; omega) _).setCell (by show w.heap.size ≤ w.heap.size + 1; omega) _
theorem dvdB_yes {p s : Int} (h1 : 1 ≤ p) (h2 : s % p = 0) : dvdB p s = true := by unfold dvdB; simp [h1, h2]
set_option maxRecDepth 100000 in
set_option maxHeartbeats 4000000 in
theorem implBlk_yes (W H A D Wa Hd : Nat) (a : Option Addr) (l : List Int) (c : Nat) (w : World) (hl : Ints .i64 w w.heap.size a l) (hf : fullB W H l = true) (n1 : 1 ≤ W) (n2 : W ≤ 8) (n3 : 1 ≤ H) (n4 : H ≤ 8) (a1 : 1 ≤ A) (a2 : A ≤ W) (d1 : 1 ≤ D) (d2 : D ≤ H) (hA : A ∣ W) (hD : D ∣ H) (hn : l.length = W * H) (hWa : W / A = Wa) (hHd : H / D = Hd) :
    Calls Try.prog 38 #[.agg #[.int .i64 W, .int .i64 H, .slice a l.length c], .int .i64 A, .int .i64 D] w (FRet (some ((Wa : Int), (Hd : Int), blkL W H A D l)) w) := by
  have F0 := Lib.hid (Fr1.new (wd0 := W) (hg0 := H) (c0 := c) hl)
  have hl64 : l.length ≤ 64 := by rw [hn]; exact Nat.mul_le_mul n2 n4
  have C1 := Lib.hid (fun W' h => implFull_is W H a l c true W' h (by omega) hf)
  have C2 := Lib.hid (fun W' => implDvd_is (A : Int) (W : Int) true W' (by omega) (by omega) (dvdB_yes (by omega) (Int.emod_eq_zero_of_dvd (Int.natCast_dvd_natCast.2 hA))))
  have C3 := Lib.hid (fun W' => implDvd_is (D : Int) (H : Int) true W' (by omega) (by omega) (dvdB_yes (by omega) (Int.emod_eq_zero_of_dvd (Int.natCast_dvd_natCast.2 hD))))
  have wa1 : 1 ≤ Wa := by rw [← hWa]; exact Nat.div_pos a2 (by omega)
  have wa2 : Wa ≤ 8 := by rw [← hWa]; exact Nat.le_trans (Nat.div_le_self _ _) n2
  have hd1 : 1 ≤ Hd := by rw [← hHd]; exact Nat.div_pos d2 (by omega)
  have hd2 : Hd ≤ 8 := by rw [← hHd]; exact Nat.le_trans (Nat.div_le_self _ _) n4
  have hP : 1 ≤ Wa * Hd := Nat.mul_le_mul wa1 hd1
  have HNEW := Lib.hid (fun W' => implNew_any (Wa : Int) (Hd : Int) 0 W')
  have e9 : ((Wa : Int) * (Hd : Int)).toNat = Wa * Hd := by rw [← Int.natCast_mul]; exact Int.toNat_natCast _
  rw [newR_yes (by rw [shapeB_iff.2 (by omega)]; rfl), e9] at HNEW
  obtain ⟨S0, hS0⟩ : ∃ S, List.replicate (Wa * Hd) (0 : Int) = S := ⟨_, rfl⟩
  have HS0 := Lib.hid hS0
  rw [hS0] at HNEW
  have hl0 : 0 < S0.length := by rw [← hS0, List.length_replicate]; omega
  have E1 := Lib.hid (show (W : Int) / (A : Int) = (Wa : Int) by rw [nat_ediv', hWa])
  have E2 := Lib.hid (show (H : Int) / (D : Int) = (Hd : Int) by rw [nat_ediv', hHd])
  have HN := Lib.hid hn
  have HWA := Lib.hid hWa
  have HHD := Lib.hid hHd
  have HV := Lib.hid (full_cell hf)
  clear e9 hn hWa hHd hS0 hf
  unfold FRet at HNEW
  simp only [rW, rH, rL, rB] at HNEW
  go_enter Try.func38, Try.ntmps38
  obtain ⟨k0, k1, k2⟩ := F0.out.k0.cells
  go_wp2_with fail
  refine (C1.out _ F0.out.i0).mono ?_
  rintro e w1 ⟨rfl, b⟩
  have F1 := Lib.hid (F0.out.step b)
  clear b k0 k1 k2 F0
  obtain ⟨k0, k1, k2⟩ := F1.out.k0.cells
  go_wp2_with fail
  refine (C2.out _).mono ?_
  rintro e w9 ⟨rfl, rfl⟩
  go_wp2_with fail
  refine (C3.out _).mono ?_
  rintro e w9 ⟨rfl, rfl⟩
  go_upto_region 3 with fail
  go_cut [8, 9] (fun s t wx => t = .bool true ∧ ∃ ob g c1, s = .pointer (some ⟨ob, 0, none⟩) ∧ Bk w ob g W H a l c (Wa : Int) (Hd : Int) S0 c1 wx)
  case first =>
    have z0 := F1.out.r.lt
    have F2 := Lib.hid F1.out.drew
    have F3 := Lib.hid (F1.out.step (below_all _ (.cells #[.int .i64 0, .int .i64 0, .slice none 0 0] 29))).drew
    have e3 : ¬ A = 0 := by omega
    have e4 : ¬ D = 0 := by omega
    have e5 : IntKind.i64.wrap (Wa : Int) = (Wa : Int) := IntWalk.i64_in _ (by omega)
    have e6 : IntKind.i64.wrap (Hd : Int) = (Hd : Int) := IntWalk.i64_in _ (by omega)
    have e1 := E1.out
    have e2 := E2.out
    go_region_held3 (fun w' => w'.cell? ⟨w.heap.size, 0, none⟩ = some (.int .i64 W) ∧ w'.cell? ⟨w.heap.size, 1, none⟩ = some (.int .i64 H))
      (first | (with_reducible exact ⟨F5.out.k0.cells.1, F5.out.k0.cells.2.1⟩) | (with_reducible exact ⟨(F5.out.k0.alloc _).cells.1, (F5.out.k0.alloc _).cells.2.1⟩) | (with_reducible exact ⟨F2.out.k0.cells.1, F2.out.k0.cells.2.1⟩) | (with_reducible exact ⟨F3.out.k0.cells.1, F3.out.k0.cells.2.1⟩) | ((with_reducible refine ⟨(F5.out.k0.set_other3 ?_).cells.1, (F5.out.k0.set_other3 ?_).cells.2.1⟩) <;> omega) | go_keep)
      (first | (go_at_call 49; (with_reducible refine (HNEW.out _).mono ?_); rintro e w5 ⟨a5, c5, rfl, o5, b5⟩; (first
        | (have F5 := Lib.hid (F2.out.step b5); have O5 := Lib.hid (o5.more (C := w.heap.size + 2) (by simp; omega)); have hz : Hid (MayBox w5 none) := Lib.hid trivial)
        | (have F5 := Lib.hid (F3.out.step b5); have O5 := Lib.hid (o5.more (C := w.heap.size + 2) (by simp; omega)); have hz : Hid (MayBox w5 (some w1.heap.size)) := Lib.hid (by have h := MayBox.made0 b5; exact h))); obtain ⟨y0, y1, y2, f0, f1, f2⟩ := hz.out.facts; simp only [cellAt, softAt] at y0 y1 y2 f0 f1 f2; clear o5 b5))
    all_goals (go_wp2_with fail)
    all_goals go_meet
    all_goals first
      | (obtain ⟨g, rfl, hb⟩ := Bk.new (P := Wa) (Q := Hd) (cap := c5) F5.out O5.out hl0
         exact ⟨rfl, _, g, c5, rfl, hb⟩)
      | (obtain ⟨g, rfl, hb⟩ := Bk.newB (P := Wa) (Q := Hd) (cap := c5) F5.out hz.out (by omega) O5.out hl0
         exact ⟨rfl, _, g, c5, rfl, hb⟩)
  case rest =>
    obtain ⟨rfl, ob, g, cap, rfl, hB⟩ := hcut
    have HB := Lib.hid hB
    clear k0 k1 k2
    obtain ⟨k0, k1, k2⟩ := hB.f.k0.cells
    clear hB F1
    go_wp2
    clear k0 k1 k2
    go_loopw [47] (fun i wr => ∃ k : Nat, k ≤ l.length ∧ i = .int .i64 k ∧ Bk w ob g W H a l c Wa Hd (accK (blkI W A D) l S0 k) cap wr) (fun i _ => l.length - (intOf i).toNat)
    case atStart => exact ⟨0, Nat.zero_le _, rfl, HB.out⟩
    case round =>
      obtain ⟨k, hk, rfl, hS⟩ := hrel
      clear HB
      have HS := Lib.hid hS
      by_cases hlt : k < l.length
      · have hi : (k : Int) < (l.length : Int) := by omega
        have hi0 : (0 : Int) ≤ (k : Int) := by omega
        have hkH : k < W * H := by rw [← HN.out]; exact hlt
        have hjlt : blkI W A D k < (accK (blkI W A D) l S0 k).length := by
          rw [accK_len, ← HS0.out, List.length_replicate, ← HWA.out, ← HHD.out]; exact blkI_lt (by omega) hA hD hkH
        have HSTEP := Lib.hid (accK_step (f := blkI W A D) (l := l) (s := S0) hjlt hlt)
        have hsb := accK_bd (blkI W A D) (l := l) (Wa * Hd) HV.out k
        rw [HS0.out] at hsb
        have hs := hsb _ (List.getElem_mem hjlt)
        have hz := HV.out _ (List.getElem_mem hlt)
        have hyq : k / W ≤ 64 := Nat.le_trans (Nat.div_le_self _ _) (by omega)
        have hxm : k % W ≤ 8 := by have := Nat.mod_lt k (show 0 < W by omega); omega
        have hy8 : k / W < H := by rw [Nat.div_lt_iff_lt_mul (by omega), Nat.mul_comm]; exact hkH
        have hyd : k / W / D ≤ 8 := Nat.le_trans (Nat.div_le_self _ _) (by omega)
        have hxa : k % W / A ≤ 8 := Nat.le_trans (Nat.div_le_self _ _) hxm
        have hpp : k / W / D * Wa ≤ 64 := Nat.mul_le_mul hyd wa2
        have e1 : (k : Int) / (W : Int) = ((k / W : Nat) : Int) := nat_ediv' k W
        have e2 : (k : Int) % (W : Int) = ((k % W : Nat) : Int) := nat_emod' k W
        have e3 : ((k / W : Nat) : Int) / (D : Int) = ((k / W / D : Nat) : Int) := nat_ediv' _ _
        have e4 : ((k % W : Nat) : Int) / (A : Int) = ((k % W / A : Nat) : Int) := nat_ediv' _ _
        have e5 : ((k / W / D : Nat) : Int) * (Wa : Int) = ((k / W / D * Wa : Nat) : Int) := by push_cast; rfl
        have hrowj : blkI W A D k = k / W / D * Wa + k % W / A := by unfold blkI; rw [HWA.out]
        obtain ⟨j, hj⟩ : ∃ j, blkI W A D k = j := ⟨_, rfl⟩
        obtain ⟨z, hzz⟩ : ∃ z, l[k] = z := ⟨_, rfl⟩
        obtain ⟨sv, hsv⟩ : ∃ z, (accK (blkI W A D) l S0 k)[blkI W A D k] = z := ⟨_, rfl⟩
        have HG : Hid (∀ W', Bk w ob g W H a l c Wa Hd (accK (blkI W A D) l S0 k) cap W' → W'.cell? ⟨g, j, none⟩ = some (.int .i64 sv)) := Lib.hid (fun W' h => by have h9 := h.get hjlt; rw [hsv, hj] at h9; exact h9)
        obtain ⟨bl, ol, hal, hbl, hcl⟩ := (hS.f.s0.below hS.f.b (Nat.le_refl _)).at_ hlt
        rw [hzz] at hcl
        rw [hsv, hzz, hj] at HSTEP
        rw [hzz] at hz
        rw [hsv] at hs
        rw [hj] at hjlt hrowj
        generalize k / W / D * Wa = pp at *
        generalize k / W / D = yd at *
        generalize k % W / A = xa at *
        generalize k / W = yq at *
        generalize k % W = xm at *
        have e6 : (pp : Int) + (xa : Int) = (j : Int) := by omega
        have hjI : (j : Int) < ((accK (blkI W A D) l S0 k).length : Int) := by omega
        have hj0 : (0 : Int) ≤ (j : Int) := by omega
        clear hsb hsv hzz hj hrowj
        subst hal
        generalize accK (blkI W A D) l S0 k = S at *
        obtain ⟨x0, x1, x2⟩ := hS.x.cells
        obtain ⟨k0, k1, k2⟩ := hS.f.k0.cells
        have of := hS.o.frozen j
        have hc0 := HG.out _ hS
        have HPUT := Lib.hid (fun (W' : World) (h : Bk w ob g W H (some ⟨bl, ol, none⟩) l c Wa Hd S cap W') => h.put j (sv + z))
        rw [← HSTEP.out] at HPUT
        clear hS
        go_wp2
        go_roundw
        case rel => exact ⟨k + 1, by omega, by go_num, HPUT.out _ HS.out⟩
        case measure => simp [intOf]; omega
      · obtain rfl : k = l.length := by omega
        have HL := Lib.hid (show accK (blkI W A D) l S0 l.length = blkL W H A D l by unfold blkL; rw [HWA.out, HHD.out, HS0.out, ← HN.out])
        rw [HL.out] at hS
        obtain ⟨x0, x1, x2⟩ := hS.x.cells
        obtain ⟨r0, r1, r2⟩ := hS.f.r.cells
        have g0 := hS.f.r.frozen 0
        have g1 := hS.f.r.frozen 1
        have g2 := hS.f.r.frozen 2
        have q7 : ¬ w.heap.size + 1 = ob := by have := hS.n; omega
        have q8 : ¬ ob = w.heap.size + 1 := by omega
        have HSe := Lib.hid hS
        clear hS HS
        go_wp2
        refine bodyPost_ret (v := .tuple #[.agg #[.int .i64 Wa, .int .i64 Hd, .slice (some ⟨g, 0, none⟩) (blkL W H A D l).length cap], .bool true]) (by simp [results, Try.results38, go_sem, r0, r1, r2]) rfl ?_
        exact HSe.out.ret2 rfl (.inr rfl) _ _ _
end Go.Proofs.Ytccplndimdmjpaa
