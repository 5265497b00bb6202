/- The model's MoveField. -/
import Derived.Test.YtggdkibbfmjelaaMvMove
import Derived.Test.YtggdkibbfmjelaaSet
namespace Go.Proofs.Ytggdkibbfmjelaa
open Go.RowKit
set_option linter.unusedVariables false
set_option linter.unusedSimpArgs false
theorem Bm.retOne {w w1 : World} {ob g c cap : Nat} {wd hg mx my P Q : Int} {a : Option Addr} {l S : List Int} (h : Bm w ob g wd hg a l c mx my P Q S cap w1) {e : Ending} (he : e = .returned (.agg #[.int .i64 P, .int .i64 Q, .slice (some ⟨g, 0, none⟩) S.length cap])) (u0 u1 u2 : Value) :
    FOne P Q S w e (((w1.setCell ⟨w.heap.size + 2, 0, none⟩ u0).setCell ⟨w.heap.size + 2, 1, none⟩ u1).setCell ⟨w.heap.size + 2, 2, none⟩ u2) :=
  ⟨_, _, he, (ownI_set (ownI_set (ownI_set h.own (by simp) _) (by simp) _) (by simp) _).more (by omega), ((h.f.b.setCell (p := ⟨w.heap.size + 2, 0, none⟩) (by simp) _).setCell (p := ⟨w.heap.size + 2, 1, none⟩) (by simp) _).setCell (p := ⟨w.heap.size + 2, 2, none⟩) (by simp) _⟩
set_option maxRecDepth 100000 in
set_option maxHeartbeats 8000000 in
theorem specMv_any (W H : Nat) (a : Option Addr) (l : List Int) (c : Nat) (mx my : Int) (w : World) (hl : Ints .i64 w w.heap.size a l) (hn : l.length ≤ 1048576) (hW : 1 ≤ W ∧ W ≤ 8) (hH : 1 ≤ H ∧ H ≤ 8) (hlw : l.length = W * H) (hm : (-2 ≤ mx ∧ mx ≤ 2) ∧ -2 ≤ my ∧ my ≤ 2) :
    Calls Try.prog 58 #[.agg #[.int .i64 W, .int .i64 H, .slice a l.length c], .agg #[.int .i64 mx, .int .i64 my]] w (FOne W H (mvR W H l mx my) w) := by
  have F0 := Lib.hid (Fm1.new (wd := (W : Int)) (hg := (H : Int)) (c := c) hl mx my)
  obtain ⟨W0, hW0⟩ : ∃ x, ((w.alloc (.cells #[.int .i64 W, .int .i64 H, .slice a l.length c] 34)).alloc (.cells #[.int .i64 mx, .int .i64 my] 24)).alloc (.cells #[.int .i64 0, .int .i64 0, .slice none 0 0] 34) = x := ⟨_, rfl⟩
  rw [hW0] at F0
  have HW := Lib.hid hW0
  obtain ⟨W1, W2⟩ := hW
  obtain ⟨H1, H2⟩ := hH
  obtain ⟨⟨v1, v2⟩, v3, v4⟩ := hm
  have hWH : W * H ≤ 64 := Nat.mul_le_mul W2 H2
  have hWH0 : 0 < W * H := Nat.mul_pos (by omega) (by omega)
  have hsh : shapeB (W : Int) (H : Int) = true := shapeB_iff.2 (by omega)
  have HO := Lib.hid (fun Wd h => l2Own_any (W : Int) (H : Int) a l c Wd h hn (by omega))
  unfold FOne at HO
  have HHAS := Lib.hid (fun x y v Wd h => specHas_is (W : Int) (H : Int) a l.length c x y v Wd hsh h)
  have HPL := Lib.hid (fun x y (h : inB (W : Int) (H : Int) x y = true) => place_int hsh h)
  have HAT := Lib.hid (fun (x y : Int) (k : Nat) Wd i hk hp h0 h1 h2 h3 => specAt_any (W : Int) (H : Int) a l c Wd.heap.size x y k Wd i (Nat.le_refl _) hk hn hp h0 h1 h2 h3)
  have HLW := Lib.hid hlw
  have hql : (mvR W H l mx my).length = l.length := by rw [mvR_len, hlw]
  have HLEN := Lib.hid (fun k hk => takeR_len hql k hk)
  have HST := Lib.hid (fun (k : Nat) (z : Int) (hk : k < l.length) (hz : (mvR W H l mx my).getD k 0 = z) => show (takeR (mvR W H l mx my) l k).set k z = takeR (mvR W H l mx my) l (k + 1) from by rw [getD_at (by omega)] at hz; rw [← hz]; exact takeR_step hql k hk)
  have HC := Lib.hid (fun (x y : Nat) (hx : x < W) (hy : y < H) => show (mvR W H l mx my).getD (y * W + x) 0 = mvC W H l mx my x y from by
    have hlt : y * W + x < W * H := by have := Nat.mul_le_mul_right W (show y + 1 ≤ H by omega); rw [Nat.add_mul, Nat.one_mul] at this; rw [Nat.mul_comm W H]; omega
    rw [mvR_getD l mx my hlt]
    have e : ((y * W + x : Nat) : Int) = (y : Int) * (W : Int) + (x : Int) := by push_cast; rfl
    rw [e, cell_mod (by omega) (by omega), cell_div (by omega) (by omega)])
  have HALL := Lib.hid (takeR_all hql)
  have HZ := Lib.hid (takeR_zero (mvR W H l mx my) l)
  clear hl hW0 hsh hlw hql
  generalize hq : mvR W H l mx my = q at *
  have HQ := Lib.hid hq
  clear hq
  go_enter Try.func58, Try.ntmps58
  have y0 := F0.out.k0.cells.1
  have y1 := F0.out.k0.cells.2.1
  have y2 := F0.out.k0.cells.2.2
  rw [← HW.out] at y0 y1 y2
  go_wp2_with fail
  rw [HW.out]
  clear y0 y1 y2
  refine (HO.out _ F0.out.i0).mono ?_
  rintro e w1 ⟨a1, c1, rfl, o1, b1⟩
  have F1 := Lib.hid (F0.out.step b1)
  have hz1 := F0.out.r.lt
  obtain ⟨g, rfl, hB⟩ := Bm.new (P := (W : Int)) (Q := (H : Int)) (cap := c1) F1.out (o1.more (by omega)) (by rw [HLW.out]; exact hWH0)
  have HB := Lib.hid hB
  have hzr := F1.out.r.lt
  clear b1 F0 o1 hB hz1 HW HO
  obtain ⟨k0, k1, k2⟩ := F1.out.k0.cells
  have q3 : w.heap.size < w1.heap.size := by omega
  have q4 : ¬ w.heap.size = w1.heap.size := by omega
  go_wp2
  generalize w1.heap.size = ob at *
  clear k0 k1 k2 q3 q4 F1 hzr
  go_loopw [6] (fun i wr => ∃ y : Nat, y ≤ H ∧ i = .int .i64 y ∧ Bm w ob g W H a l c mx my W H (takeR q l (y * W)) c1 wr) (fun i _ => H - (intOf i).toNat)
  case atStart => exact ⟨0, Nat.zero_le _, rfl, by rw [Nat.zero_mul, HZ.out]; exact HB.out⟩
  case round =>
    obtain ⟨y, hy, rfl, hS⟩ := hrel
    clear HB
    have HS := Lib.hid hS
    obtain ⟨k0, k1, k2⟩ := hS.f.k0.cells
    by_cases hlt : y < H
    · clear hS
      have hi : (y : Int) < (H : Int) := by omega
      go_wp2
      clear k0 k1 k2
      go_loopw [7] (fun i wr => ∃ x : Nat, x ≤ W ∧ i = .int .i64 x ∧ Bm w ob g W H a l c mx my W H (takeR q l (y * W + x)) c1 wr) (fun i _ => W - (intOf i).toNat)
      case atStart => exact ⟨0, Nat.zero_le _, rfl, HS.out⟩
      case round =>
        clear HS
        obtain ⟨x, hx, rfl, hS⟩ := hrel
        have HS := Lib.hid hS
        obtain ⟨k0, k1, k2⟩ := hS.f.k0.cells
        obtain ⟨n0, n1⟩ := hS.f.m.cells
        clear hS
        by_cases hlt2 : x < W
        · have hi2 : (x : Int) < (W : Int) := by omega
          have hk : y * W + x < W * H := by have := Nat.mul_le_mul_right W (show y + 1 ≤ H by omega); rw [Nat.add_mul, Nat.one_mul] at this; rw [Nat.mul_comm W H]; omega
          have hkl : y * W + x < l.length := by rw [HLW.out]; exact hk
          have hv := HC.out x y hlt2 hlt
          have hTL := HLEN.out (y * W + x) (by omega)
          have hyW : y * W ≤ 64 := by omega
          have wx := IntWalk.i64_in ((x : Int) - mx) (by omega)
          have wy := IntWalk.i64_in ((y : Int) - my) (by omega)
          obtain ⟨p, hp⟩ : ∃ p, y * W = p := ⟨_, rfl⟩
          obtain ⟨n, hn'⟩ : ∃ n, y * W + x = n := ⟨_, rfl⟩
          have e1 : (y : Int) * (W : Int) = (p : Int) := by rw [← hp]; push_cast; rfl
          have e2 : (p : Int) + (x : Int) = (n : Int) := by omega
          have HN1 := Lib.hid (show y * W + (x + 1) = n + 1 by omega)
          rw [hn'] at HS hk hkl hv hTL
          have hp64 : p ≤ 64 := by omega
          have w1' := IntWalk.i64_in (p : Int) (by omega)
          have w2' := IntWalk.i64_in (n : Int) (by omega)
          have hk0 : (0 : Int) ≤ (n : Int) := by omega
          have hk1 : (n : Int) < ((takeR q l n).length : Int) := by rw [hTL]; omega
          clear hp hn' hyW
          have HSTK := Lib.hid (fun z hz => HST.out n z hkl hz)
          unfold mvC at hv
          have HXL := Lib.hid (HLW.out)
          clear hTL
          cases hin : inB (W : Int) (H : Int) ((x : Int) - mx) ((y : Int) - my) with
          | false =>
            rw [if_neg (by rw [hin]; simp)] at hv
            have HT := Lib.hid (HSTK.out _ hv)
            have HC2 := Lib.hid (fun Wd => HHAS.out _ _ false Wd hin)
            clear hin hv
            go_wp2_with fail
            refine (HC2.out _).mono ?_
            rintro e w5 ⟨rfl, b5⟩
            have HB5 := Lib.hid (HS.out.step b5)
            clear b5 k0 k1 k2 n0 n1 HS
            obtain ⟨k0, k1, k2⟩ := HB5.out.f.k0.cells
            obtain ⟨x0, x1, x2⟩ := HB5.out.x.cells
            obtain ⟨ov, hov⟩ : ∃ ov, w5.cell? ⟨g, n, none⟩ = some (.int .i64 ov) := ⟨_, HB5.out.get (j := n) (by omega)⟩
            have hof := HB5.out.o.frozen (n)
            have HPT : Hid (Bm w ob g W H a l c mx my W H (takeR q l (n + 1)) c1 (w5.setCell ⟨g, n, none⟩ (.int .i64 (-9999)))) := Lib.hid (by rw [← HT.out]; exact HB5.out.put _ _)
            go_wp2
            go_roundw
            case rel => exact ⟨x + 1, by omega, by go_num, by rw [HN1.out]; exact HPT.out⟩
            case measure => simp [intOf]; omega
          | true =>
            rw [if_pos hin] at hv
            have HT := Lib.hid (HSTK.out _ hv)
            have HC2 := Lib.hid (fun Wd => HHAS.out _ _ true Wd hin)
            obtain ⟨p1, p2, p3, p4⟩ := HPL.out _ _ hin
            obtain ⟨⟨i1, i2⟩, i3, i4⟩ := inB_iff.1 hin
            rw [← Int.natCast_mul] at p2
            generalize place (W : Int) ((x : Int) - mx) ((y : Int) - my) = j at *
            have hj : j < l.length := by rw [HLW.out]; omega
            rw [getD_at hj] at HT
            have HA2 := Lib.hid (fun Wd i => HAT.out _ _ j Wd i hj p1 p3 p4 (by omega) (by omega))
            generalize l[j] = z at *
            clear hin hv p1
            go_wp2_with fail
            refine (HC2.out _).mono ?_
            rintro e w5 ⟨rfl, b5⟩
            have HB5 := Lib.hid (HS.out.step b5)
            clear b5 k0 k1 k2 n0 n1 HS
            obtain ⟨k0, k1, k2⟩ := HB5.out.f.k0.cells
            obtain ⟨n0, n1⟩ := HB5.out.f.m.cells
            go_wp2_with fail
            refine (HA2.out _ HB5.out.f.i0).mono ?_
            rintro e w6 ⟨rfl, b6⟩
            have HB6 := Lib.hid (HB5.out.step b6)
            clear b6 k0 k1 k2 n0 n1 HB5
            obtain ⟨k0, k1, k2⟩ := HB6.out.f.k0.cells
            obtain ⟨x0, x1, x2⟩ := HB6.out.x.cells
            obtain ⟨ov, hov⟩ : ∃ ov, w6.cell? ⟨g, n, none⟩ = some (.int .i64 ov) := ⟨_, HB6.out.get (j := n) (by omega)⟩
            have hof := HB6.out.o.frozen (n)
            have HPT : Hid (Bm w ob g W H a l c mx my W H (takeR q l (n + 1)) c1 (w6.setCell ⟨g, n, none⟩ (.int .i64 z))) := Lib.hid (by rw [← HT.out]; exact HB6.out.put _ _)
            go_wp2
            go_roundw
            case rel => exact ⟨x + 1, by omega, by go_num, by rw [HN1.out]; exact HPT.out⟩
            case measure => simp [intOf]; omega
        · obtain rfl : x = W := by omega
          have e3 : y * x + x = (y + 1) * x := by rw [Nat.add_mul, Nat.one_mul]
          rw [e3] at HS
          go_wp2
          go_roundw
          case rel => exact ⟨y + 1, by omega, by go_num, HS.out⟩
          case measure => simp [intOf]; omega
    · obtain rfl : y = H := by omega
      clear k0 k1 k2
      rw [Nat.mul_comm y W, ← HLW.out, HALL.out] at hS
      have HBB := Lib.hid hS
      obtain ⟨f0, f1, f2⟩ := hS.f.k0.cells
      obtain ⟨x0, x1, x2⟩ := hS.x.cells
      obtain ⟨r0, r1, r2⟩ := hS.f.r.cells
      have g0 := hS.f.r.frozen 0
      have g1 := hS.f.r.frozen 1
      have g2 := hS.f.r.frozen 2
      have q7 : ¬ w.heap.size + 2 = ob := by have := hS.n; omega
      have q8 : ¬ ob = w.heap.size + 2 := by omega
      clear hS HS
      go_wp2
      refine bodyPost_ret (v := .agg #[.int .i64 W, .int .i64 y, .slice (some ⟨g, 0, none⟩) q.length c1]) (by simp [results, Try.results58, go_sem, r0, r1, r2]) rfl ?_
      exact HBB.out.retOne rfl _ _ _
set_option maxRecDepth 100000 in
set_option maxHeartbeats 4000000 in
theorem specMove_any (wd hg : Int) (a : Option Addr) (l : List Int) (c : Nat) (mx my : Int) (w : World) (hl : Ints .i64 w w.heap.size a l) (hn : l.length ≤ 1048576) :
    Calls Try.prog 19 #[.agg #[.int .i64 wd, .int .i64 hg, .slice a l.length c], .agg #[.int .i64 mx, .int .i64 my]] w (FRet (moveR wd hg l mx my) w) := by
  have F0 := Lib.hid (Fm1.new (wd := wd) (hg := hg) (c := c) hl mx my)
  obtain ⟨W0, hW0⟩ : ∃ W, ((w.alloc (.cells #[.int .i64 wd, .int .i64 hg, .slice a l.length c] 34)).alloc (.cells #[.int .i64 mx, .int .i64 my] 24)).alloc (.cells #[.int .i64 0, .int .i64 0, .slice none 0 0] 34) = W := ⟨_, rfl⟩
  rw [hW0] at F0
  have HW := Lib.hid hW0
  clear hl hW0
  cases hs : goodB wd hg l with
  | false =>
    rw [moveR_no (by unfold movB; rw [hs]; rfl)]
    have HC := Lib.hid (fun W i => specGood_is wd hg a l c _ false W i (Nat.le_refl _) hn hs)
    clear hs
    go_enter Try.func19, Try.ntmps19
    go_wp2_with fail
    rw [HW.out]
    refine (HC.out _ F0.out.i0).mono ?_
    rintro e w1 ⟨rfl, b1⟩
    have F1 := Lib.hid (F0.out.step b1)
    clear b1 F0
    obtain ⟨r0, r1, r2⟩ := F1.out.r.cells
    have g0 := F1.out.r.frozen 0
    have g1 := F1.out.r.frozen 1
    have g2 := F1.out.r.frozen 2
    go_wp2
    refine bodyPost_ret (v := .tuple #[.agg #[.int .i64 0, .int .i64 0, .slice none 0 0], .bool false]) (by simp [results, Try.results19, go_sem, r0, r1, r2]) rfl ⟨none, 0, rfl, OwnI.none_, ?_⟩
    exact ((F1.out.b.setCell (by simp <;> omega) _).setCell (by simp <;> omega) _).setCell (by simp <;> omega) _
  | true =>
    have HC := Lib.hid (fun W i => specGood_is wd hg a l c _ true W i (Nat.le_refl _) hn hs)
    cases hmt : motB mx my with
    | false =>
      rw [moveR_no (by unfold movB; rw [hmt]; simp)]
      have HG := Lib.hid (fun W => specMot_is mx my false W hmt)
      clear hs hmt
      go_enter Try.func19, Try.ntmps19
      go_wp2_with fail
      rw [HW.out]
      refine (HC.out _ F0.out.i0).mono ?_
      rintro e w1 ⟨rfl, b1⟩
      have F1 := Lib.hid (F0.out.step b1)
      clear b1 F0
      obtain ⟨m0, m1⟩ := F1.out.m.cells
      go_wp2_with fail
      refine (HG.out _).mono ?_
      rintro e w2 ⟨rfl, b2⟩
      have F2 := Lib.hid (F1.out.step b2)
      clear b2 F1 m0 m1
      obtain ⟨r0, r1, r2⟩ := F2.out.r.cells
      have g0 := F2.out.r.frozen 0
      have g1 := F2.out.r.frozen 1
      have g2 := F2.out.r.frozen 2
      go_wp2
      refine bodyPost_ret (v := .tuple #[.agg #[.int .i64 0, .int .i64 0, .slice none 0 0], .bool false]) (by simp [results, Try.results19, go_sem, r0, r1, r2]) rfl ⟨none, 0, rfl, OwnI.none_, ?_⟩
      exact ((F2.out.b.setCell (by simp <;> omega) _).setCell (by simp <;> omega) _).setCell (by simp <;> omega) _
    | true =>
      rw [moveR_yes (movB_iff.2 ⟨hs, hmt⟩)]
      have HG := Lib.hid (fun W => specMot_is mx my true W hmt)
      have hsh := good_shape hs
      obtain ⟨⟨s1, s2⟩, s3, s4⟩ := shapeB_iff.1 hsh
      have hmm := motB_iff.1 hmt
      have hlen := good_len hs
      obtain ⟨W, rfl⟩ := Int.eq_ofNat_of_zero_le (show 0 ≤ wd by omega)
      obtain ⟨H, rfl⟩ := Int.eq_ofNat_of_zero_le (show 0 ≤ hg by omega)
      rw [← Int.natCast_mul] at hlen
      simp only [Int.toNat_natCast]
      have HMV := Lib.hid (fun Wd i => specMv_any W H a l c mx my Wd i hn (by omega) (by omega) (by omega) hmm)
      unfold FOne at HMV
      clear hs hmt hsh hlen hmm
      generalize mvR W H l mx my = q at *
      go_enter Try.func19, Try.ntmps19
      go_wp2_with fail
      rw [HW.out]
      refine (HC.out _ F0.out.i0).mono ?_
      rintro e w1 ⟨rfl, b1⟩
      have F1 := Lib.hid (F0.out.step b1)
      clear b1 F0
      obtain ⟨m0, m1⟩ := F1.out.m.cells
      go_wp2_with fail
      refine (HG.out _).mono ?_
      rintro e w2 ⟨rfl, b2⟩
      have F2 := Lib.hid (F1.out.step b2)
      clear b2 F1 m0 m1
      obtain ⟨m0, m1⟩ := F2.out.m.cells
      obtain ⟨k0, k1, k2⟩ := F2.out.k0.cells
      go_wp2_with fail
      refine (HMV.out _ F2.out.i0).mono ?_
      rintro e w3 ⟨a3, c3, rfl, o3, b3⟩
      have F3 := Lib.hid (F2.out.step b3)
      have HO := Lib.hid o3
      have hz := F2.out.r.lt
      clear b3 F2 m0 m1 k0 k1 k2 o3
      obtain ⟨r0, r1, r2⟩ := F3.out.r.cells
      have g0 := F3.out.r.frozen 0
      have g1 := F3.out.r.frozen 1
      have g2 := F3.out.r.frozen 2
      go_wp2
      refine bodyPost_ret (v := .tuple #[.agg #[.int .i64 W, .int .i64 H, .slice a3 q.length c3], .bool true]) (by simp [results, Try.results19, go_sem, r0, r1, r2]) rfl ⟨a3, c3, rfl, ?_, ?_⟩
      · exact (ownI_set (ownI_set (ownI_set HO.out (by first | omega | (simp <;> omega)) _) (by first | omega | (simp <;> omega)) _) (by first | omega | (simp <;> omega)) _).more (by omega)
      · exact ((F3.out.b.setCell (by simp <;> omega) _).setCell (by simp <;> omega) _).setCell (by simp <;> omega) _
end Go.Proofs.Ytggdkibbfmjelaa
