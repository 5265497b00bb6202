/- The program's RegridNearest. -/
import Derived.Test.YtccplndimdmjpaaRgBk
import Derived.Test.YtccplndimdmjpaaRgNear
import Derived.Deep.RegionLaw
import Derived.Deep.DeepCutAuto
namespace Go.Proofs.Ytccplndimdmjpaa
open Go.RowKit
set_option linter.unusedVariables false
set_option linter.unusedSimpArgs false
/-- a call that leaves every world as it is, in a region that reads behind another one -/
theorem quietMore {P : Program} {f : FuncId} {args : Array Value} {w : World} {a n : Nat} {v : Value} (h : ∀ W : World, Calls P f args W fun e w' => e = .returned v ∧ W = w') :
    Calls P f args (w.drewN (a + n)) fun e w'' => e = .returned v ∧ ∃ m, w'' = w.drewN (a + m) := (h _).mono fun _ _ h9 => ⟨h9.1, n, h9.2.symm⟩
set_option maxRecDepth 100000 in
set_option maxHeartbeats 4000000 in
theorem implNearR_any (wd hg : Int) (a : Option Addr) (l : List Int) (c : Nat) (p q : Int) (w : World) (hl : Ints .i64 w w.heap.size a l) (hn : l.length ≤ 1048576) :
    Calls Try.prog 21 #[.agg #[.int .i64 wd, .int .i64 hg, .slice a l.length c], .int .i64 p, .int .i64 q] w (FRet (nearR wd hg l p q) w) := by
  have F0 := Lib.hid (Fr1.new (wd0 := wd) (hg0 := hg) (c0 := c) hl)
  have HNEW := Lib.hid (fun W' => implNew_any p q (-9999) W')
  unfold FRet at HNEW
  cases hs : shapeB p q with
  | false =>
    rw [nearR_no (by unfold nearB; rw [hs]; simp)]
    rw [newR_no (by rw [hs]; rfl)] at HNEW
    simp only [rW, rH, rL, rB, List.length_nil] at HNEW
    clear hl hs
    go_enter Try.func21, Try.ntmps21
    go_wp2_with fail
    refine (HNEW.out _).mono ?_
    rintro e w1 ⟨a1, c1, rfl, o1, b⟩
    have F1 := Lib.hid (F0.out.step b)
    clear b F0 o1
    have zr := F1.out.r.lt
    have q5 : w.heap.size + 1 < w1.heap.size := by omega
    have q6 : ¬ w.heap.size + 1 = w1.heap.size := by omega
    obtain ⟨s0, s1, s2⟩ := F1.out.r.cells
    have t0 := F1.out.r.frozen 0
    have t1 := F1.out.r.frozen 1
    have t2 := F1.out.r.frozen 2
    have F2 := Lib.hid (F1.out.step (below_all w1 (.cells #[.int .i64 0, .int .i64 0, .slice a1 0 c1] 29)))
    obtain ⟨r0, r1, r2⟩ := F2.out.r.cells
    have g0 := F2.out.r.frozen 0
    have g1 := F2.out.r.frozen 1
    have g2 := F2.out.r.frozen 2
    go_wp2
    refine bodyPost_ret (v := .tuple #[.agg #[.int .i64 0, .int .i64 0, .slice none 0 0], .bool false]) (by simp [results, Try.results21, go_sem, r0, r1, r2, *]) rfl ⟨none, 0, rfl, OwnI.none_, ?_⟩
    first | exact F2.out.b | exact (((F1.out.b.setCell (p := ⟨w.heap.size + 1, 0, none⟩) (by show w.heap.size ≤ w.heap.size + 1; omega) _).setCell (p := ⟨w.heap.size + 1, 1, none⟩) (by show w.heap.size ≤ w.heap.size + 1; omega) _).setCell (p := ⟨w.heap.size + 1, 2, none⟩) (by show w.heap.size ≤ w.heap.size + 1; omega) _).alloc (by simp [World.setCell]; omega) _
  | true =>
    rw [newR_yes (by rw [hs]; rfl)] at HNEW
    simp only [rW, rH, rL, rB] at HNEW
    obtain ⟨P, Q, rfl, rfl⟩ : ∃ P Q : Nat, p = (P : Int) ∧ q = (Q : Int) := by
      obtain ⟨⟨b1, b2⟩, b3, b4⟩ := shapeB_iff.1 hs
      exact ⟨p.toNat, q.toNat, by omega, by omega⟩
    obtain ⟨⟨p1, p2⟩, q1, q2⟩ := shapeB_iff.1 hs
    have e9 : ((P : Int) * (Q : Int)).toNat = P * Q := by rw [← Int.natCast_mul]; exact Int.toNat_natCast _
    rw [e9] at HNEW
    obtain ⟨S0, hS0⟩ : ∃ S, List.replicate (P * Q) (-9999 : Int) = S := ⟨_, rfl⟩
    rw [hS0] at HNEW
    have hSl : S0.length = P * Q := by rw [← hS0, List.length_replicate]
    have hPQ : 1 ≤ P * Q := Nat.mul_le_mul (by omega : 1 ≤ P) (by omega : 1 ≤ Q)
    have hPQ8 : P * Q ≤ 64 := Nat.mul_le_mul (by omega : P ≤ 8) (by omega : Q ≤ 8)
    have hl0 : 0 < S0.length := by omega
    have HSL := Lib.hid hSl
    clear hS0 e9
    cases hgd : goodB wd hg l with
    | false =>
      rw [nearR_no (by unfold nearB; rw [hgd]; rfl)]
      have C1 := Lib.hid (fun W h => implGood_is wd hg a l c _ false W h (Nat.le_refl _) hn hgd)
      clear hl hs hgd hSl
      go_enter Try.func21, Try.ntmps21
      go_wp2_with fail
      refine (HNEW.out _).mono ?_
      rintro e w1 ⟨a1, c1, rfl, o1, b⟩
      have F1 := Lib.hid (F0.out.step b)
      clear b F0 o1
      have zr := F1.out.r.lt
      have F2 := Lib.hid (F1.out.step (below_all w1 (.cells #[.int .i64 P, .int .i64 Q, .slice a1 S0.length c1] 29)))
      obtain ⟨k0, k1, k2⟩ := F1.out.k0.cells
      have q3 : w.heap.size < w1.heap.size := by omega
      have q4 : ¬ w.heap.size = w1.heap.size := by omega
      go_wp2_with fail
      refine (C1.out _ F2.out.i0).mono ?_
      rintro e w2 ⟨rfl, b⟩
      have F3 := Lib.hid (F2.out.step b)
      clear b F2 F1 k0 k1 k2 q3 q4
      obtain ⟨r0, r1, r2⟩ := F3.out.r.cells
      have g0 := F3.out.r.frozen 0
      have g1 := F3.out.r.frozen 1
      have g2 := F3.out.r.frozen 2
      go_wp2
      refine bodyPost_ret (v := .tuple #[.agg #[.int .i64 0, .int .i64 0, .slice none 0 0], .bool false]) (by simp [results, Try.results21, go_sem, r0, r1, r2]) rfl ⟨none, 0, rfl, OwnI.none_, ?_⟩
      first | exact F3.out.b | exact ((F3.out.b.setCell (p := ⟨w.heap.size + 1, 0, none⟩) (by show w.heap.size ≤ w.heap.size + 1; omega) _).setCell (p := ⟨w.heap.size + 1, 1, none⟩) (by show w.heap.size ≤ w.heap.size + 1; omega) _).setCell (p := ⟨w.heap.size + 1, 2, none⟩) (by show w.heap.size ≤ w.heap.size + 1; omega) _
    | true =>
      have hnb : nearB wd hg l (P : Int) (Q : Int) = true := by unfold nearB; rw [hgd, hs]; rfl
      rw [nearR_yes hnb]
      have C1 := Lib.hid (fun W h => implGood_is wd hg a l c _ true W h (Nat.le_refl _) hn hgd)
      obtain ⟨W, H, P', Q', rfl, rfl, eP, eQ, n1, n2, n3, n4, _, _, _, _, hln⟩ := near_nat hnb
      obtain rfl : P = P' := by omega
      obtain rfl : Q = Q' := by omega
      have HN := Lib.hid hln
      have hl64 : l.length ≤ 64 := by rw [hln]; exact Nat.mul_le_mul n2 n4
      simp only [Int.toNat_natCast]
      clear hl hs hgd hnb hln eP eQ hSl
      go_enter Try.func21, Try.ntmps21
      go_wp2_with fail
      refine (HNEW.out _).mono ?_
      rintro e w1 ⟨a1, c1, rfl, o1, b⟩
      have F1 := Lib.hid (F0.out.step b)
      obtain ⟨g, rfl, hB⟩ := Bk.new (P := P) (Q := Q) (cap := c1) F1.out (o1.more (by have := F0.out.r.lt; omega)) hl0
      have zr := F1.out.r.lt
      have HB := Lib.hid hB
      obtain ⟨k0, k1, k2⟩ := F1.out.k0.cells
      have q3 : w.heap.size < w1.heap.size := by omega
      have q4 : ¬ w.heap.size = w1.heap.size := by omega
      clear b F0 o1 hB
      go_wp2_with fail
      refine (C1.out _ HB.out.f.i0).mono ?_
      rintro e w2 ⟨rfl, b⟩
      have HB2 := Lib.hid (HB.out.step b)
      clear b HB F1 k0 k1 k2 q3 q4 zr HNEW
      generalize w1.heap.size = ob at *
      obtain ⟨x0, x1, x2⟩ := HB2.out.x.cells
      go_wp2
      have HSLI := Lib.hid (show (S0.length : Int) = ((P * Q : Nat) : Int) by rw [HSL.out])
      clear x0 x1 x2
      go_loopw [30] (fun i wr => ∃ k : Nat, k ≤ S0.length ∧ i = .int .i64 k ∧ Bk w ob g W H a l c P Q (nearK W H P Q l S0 k) c1 wr) (fun i _ => S0.length - (intOf i).toNat)
      case atStart => exact ⟨0, Nat.zero_le _, rfl, by rw [nearK_zero]; exact HB2.out⟩
      case round =>
        obtain ⟨k, hkS, rfl, hS⟩ := hrel
        clear HB2
        have HS := Lib.hid hS
        by_cases hlt : k < S0.length
        · have hi : (k : Int) < (S0.length : Int) := by omega
          have hi0 : (0 : Int) ≤ (k : Int) := by omega
          have hk : k < P * Q := by rw [← HSL.out]; exact hlt
          have hat := near_at (W := W) (H := H) n1 n3 (by omega : 1 ≤ P) hk
          rw [← HN.out] at hat
          have HSTEP := Lib.hid (nearK_step (W := W) (H := H) (l := l) HSL.out hk hat)
          have hv : k / P < Q := by rw [Nat.div_lt_iff_lt_mul (by omega), Nat.mul_comm]; exact hk
          have hu : k % P < P := Nat.mod_lt _ (by omega)
          have hn1 := nr_lt n3 hv
          have hn2 := nr_lt n1 hu
          have hkl := nearK_len (W := W) (H := H) (l := l) HSL.out (Nat.le_of_lt hk)
          have hyW : nr H Q (k / P) * W ≤ 64 := by have := Nat.mul_le_mul (show nr H Q (k / P) ≤ 8 by omega) n2; omega
          have HN1 := Lib.hid (fun W' => implNear_is W P (k % P) W' n1 n2 (by omega) hu)
          have HN2 := Lib.hid (fun W' => implNear_is H Q (k / P) W' n3 n4 (by omega) hv)
          obtain ⟨z, hzz⟩ : ∃ z, l[nr H Q (k / P) * W + nr W P (k % P)] = z := ⟨_, rfl⟩
          obtain ⟨bl, ol, hal, hbl, hcl⟩ := (hS.f.s0.below hS.f.b (Nat.le_refl _)).at_ hat
          rw [hzz] at HSTEP hcl
          have HST2 : Hid (∀ W', Bk w ob g W H a l c P Q (nearK W H P Q l S0 k) c1 W' → Bk w ob g W H a l c P Q (nearK W H P Q l S0 (k + 1)) c1 (W'.setCell ⟨g, k, none⟩ (.int .i64 z))) := Lib.hid (fun W' h => by have h9 := h.put k z; rw [HSTEP.out] at h9; exact h9)
          have hatI : ((nr H Q (k / P) * W + nr W P (k % P) : Nat) : Int) < (l.length : Int) := by omega
          obtain ⟨j, hj⟩ : ∃ j, nr H Q (k / P) * W + nr W P (k % P) = j := ⟨_, rfl⟩
          rw [hj] at hcl hatI hat
          have m1 : (k : Int).tmod (P : Int) = ((k % P : Nat) : Int) := (Int.ofNat_tmod k P).symm
          have m2 : (k : Int).tdiv (P : Int) = ((k / P : Nat) : Int) := (Int.ofNat_tdiv k P).symm
          have m3 : (k : Int) % (P : Int) = ((k % P : Nat) : Int) := (Int.natCast_emod k P).symm
          have m4 : (k : Int) / (P : Int) = ((k / P : Nat) : Int) := (Int.natCast_ediv k P).symm
          have e1 : ((nr H Q (k / P) : Nat) : Int) * (W : Int) = ((nr H Q (k / P) * W : Nat) : Int) := by push_cast; rfl
          subst hal
          obtain ⟨x0, x1, x2⟩ := hS.x.cells
          obtain ⟨k0, k1, k2⟩ := hS.f.k0.cells
          rw [hkl, ← HSL.out] at x2
          obtain ⟨ov, ovx⟩ : ∃ ov, wr.cell? ⟨g, k, none⟩ = some (.int .i64 ov) := ⟨_, hS.get (j := k) (by omega)⟩
          have of := hS.o.frozen k
          clear hS hzz hkl HSTEP
          generalize nr H Q (k / P) * W = pp at *
          generalize nr H Q (k / P) = nv at *
          generalize nr W P (k % P) = nu at *
          have e2 : (pp : Int) + (nu : Int) = (j : Int) := by omega
          have hj0 : (0 : Int) ≤ (j : Int) := by omega
          have hk64 : k ≤ 64 := by omega
          have hu8 : k % P ≤ 8 := by omega
          have hv8 : k / P ≤ 8 := by omega
          have m5 : ¬ P = 0 := by omega
          clear hj
          generalize k % P = km at *
          generalize k / P = kd at *
          have m7 : IntKind.i64.wrap (km : Int) = (km : Int) := IntWalk.i64_in _ (by omega)
          have m8 : IntKind.i64.wrap (kd : Int) = (kd : Int) := IntWalk.i64_in _ (by omega)
          have m9 : IntKind.i64.wrap (pp : Int) = (pp : Int) := IntWalk.i64_in _ (by omega)
          have m10 : IntKind.i64.wrap (j : Int) = (j : Int) := IntWalk.i64_in _ (by omega)
          clear HSLI
          go_wp2_with fail
          go_quiet ((go_at_call 51; exact Calls.quiet_of_same (quietSame (HN1.out _))))
          go_wp2_with fail
          go_quiet ((go_at_call 51; exact quietMore HN2.out))
          go_wp2_with fail
          go_region
          all_goals
            go_wp2
            go_roundw
            case rel => exact ⟨k + 1, by omega, by go_num, (HST2.out _ HS.out).step (by exact ⟨rfl, rfl, rfl, Nat.le_refl _, fun _ _ => rfl⟩)⟩
            case measure => simp [intOf]; omega
        · obtain rfl : k = S0.length := by omega
          have hal := nearK_all (W := W) (H := H) (l := l) HSL.out
          rw [HSL.out, hal] at hS
          obtain ⟨x0, x1, x2⟩ := hS.x.cells
          obtain ⟨r0, r1, r2⟩ := hS.f.r.cells
          have g0 := hS.f.r.frozen 0
          have g1 := hS.f.r.frozen 1
          have g2 := hS.f.r.frozen 2
          have q7 : ¬ w.heap.size + 1 = ob := by have := hS.n; omega
          have q8 : ¬ ob = w.heap.size + 1 := by omega
          have HSe := Lib.hid hS
          clear hS HS hal
          generalize nearL W H P Q l = L at *
          go_wp2
          refine bodyPost_ret (v := .tuple #[.agg #[.int .i64 P, .int .i64 Q, .slice (some ⟨g, 0, none⟩) L.length c1], .bool true]) (by simp [results, Try.results21, go_sem, r0, r1, r2]) rfl ?_
          exact HSe.out.ret2 rfl (.inr rfl) _ _ _
end Go.Proofs.Ytccplndimdmjpaa
