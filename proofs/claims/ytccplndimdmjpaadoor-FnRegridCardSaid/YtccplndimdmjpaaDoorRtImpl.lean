/- The program's RegridTotal. -/
import Derived.Test.YtccplndimdmjpaaDoorRtCell
import Derived.Test.YtccplndimdmjpaaDoorRgFull
import Derived.Test.YtccplndimdmjpaaDoorRgBk
import Derived.Test.YtccplndimdmjpaaDoorSpSpec2
namespace Go.Proofs.YtccplndimdmjpaaDoor
open Go.RowKit
set_option linter.unusedVariables false
set_option linter.unusedSimpArgs false
theorem reg_next (W H P Q : Nat) (l : List Int) (k : Nat) : mixR (fun x y => x + y) (regK W H P Q l k) (partsOf W H P Q l k) (P * Q) = regK W H P Q l (k + 1) := by
  have h := mix_all (fun x y : Int => x + y) (a := regK W H P Q l k) (b := partsOf W H P Q l k) (by rw [regK_len, partsOf_len])
  rw [regK_len] at h
  rw [h]
  rfl
set_option maxRecDepth 100000 in
set_option maxHeartbeats 8000000 in
theorem implReg_any (wd hg : Int) (a : Option Addr) (l : List Int) (c : Nat) (p q : Int) (w : World) (hl : Ints .i64 w w.heap.size a l) (hn : l.length ≤ 1048576) (ht : BlockIs w 0 deBruijn64tabCells.toArray) :
    Calls Tryd.prog 15 #[.agg #[.int .i64 wd, .int .i64 hg, .slice a l.length c], .int .i64 p, .int .i64 q] w (FRet (regR wd hg l p q) w) := by
  have F0 := Lib.hid (Fr1.new (wd0 := wd) (hg0 := hg) (c0 := c) hl)
  have HT := Lib.hid ht
  have HNEW := Lib.hid (fun W' => implNew_any p q 0 W')
  unfold FRet at HNEW
  cases hs : shapeB p q with
  | false =>
    rw [regR_no (by unfold regB; rw [hs]; simp)]
    rw [newR_no (by rw [hs]; rfl)] at HNEW
    simp only [rW, rH, rL, rB, List.length_nil] at HNEW
    clear hl hs ht
    go_enter Tryd.func15, Tryd.ntmps15
    go_wp2_with fail
    refine (HNEW.out _).mono ?_
    rintro e w1 ⟨a1, c1, rfl, o1, b⟩
    have F1 := Lib.hid (F0.out.step b)
    clear b F0 o1
    have zr := F1.out.r.lt
    have q5 : w.heap.size + 1 < w1.heap.size := by omega
    have q6 : ¬ w.heap.size + 1 = w1.heap.size := by omega
    obtain ⟨s0, s1, s2⟩ := F1.out.r.cells
    have t0 := F1.out.r.frozen 0
    have t1 := F1.out.r.frozen 1
    have t2 := F1.out.r.frozen 2
    have F2 := Lib.hid (F1.out.step (below_all w1 (.cells #[.int .i64 0, .int .i64 0, .slice a1 0 c1] 32)))
    obtain ⟨r0, r1, r2⟩ := F2.out.r.cells
    have g0 := F2.out.r.frozen 0
    have g1 := F2.out.r.frozen 1
    have g2 := F2.out.r.frozen 2
    go_wp2
    refine bodyPost_ret (v := .tuple #[.agg #[.int .i64 0, .int .i64 0, .slice none 0 0], .bool false]) (by simp [results, Tryd.results15, go_sem, r0, r1, r2, *]) rfl ⟨none, 0, rfl, OwnI.none_, ?_⟩
    first | exact F2.out.b | exact (((F1.out.b.setCell (p := ⟨w.heap.size + 1, 0, none⟩) (by show w.heap.size ≤ w.heap.size + 1; omega) _).setCell (p := ⟨w.heap.size + 1, 1, none⟩) (by show w.heap.size ≤ w.heap.size + 1; omega) _).setCell (p := ⟨w.heap.size + 1, 2, none⟩) (by show w.heap.size ≤ w.heap.size + 1; omega) _).alloc (by simp [World.setCell]; omega) _
  | true =>
    rw [newR_yes (by rw [hs]; rfl)] at HNEW
    simp only [rW, rH, rL, rB] at HNEW
    obtain ⟨P, Q, rfl, rfl⟩ : ∃ P Q : Nat, p = (P : Int) ∧ q = (Q : Int) := by
      obtain ⟨⟨b1, b2⟩, b3, b4⟩ := shapeB_iff.1 hs
      exact ⟨p.toNat, q.toNat, by omega, by omega⟩
    obtain ⟨⟨p1, p2⟩, q1, q2⟩ := shapeB_iff.1 hs
    have e9 : ((P : Int) * (Q : Int)).toNat = P * Q := by rw [← Int.natCast_mul]; exact Int.toNat_natCast _
    rw [e9] at HNEW
    obtain ⟨S0, hS0⟩ : ∃ S, List.replicate (P * Q) (0 : Int) = S := ⟨_, rfl⟩
    rw [hS0] at HNEW
    have hSl : S0.length = P * Q := by rw [← hS0, List.length_replicate]
    have hPQ : 1 ≤ P * Q := Nat.mul_le_mul (by omega : 1 ≤ P) (by omega : 1 ≤ Q)
    have hPQ8 : P * Q ≤ 64 := Nat.mul_le_mul (by omega : P ≤ 8) (by omega : Q ≤ 8)
    have hl0 : 0 < S0.length := by omega
    have HS0 := Lib.hid hS0
    clear hS0 e9
    cases hf : fullB wd hg l with
    | false =>
      rw [regR_no (by unfold regB; rw [hf]; rfl)]
      have C1 := Lib.hid (fun W h => implFull_is wd hg a l c false W h hn hf)
      clear hl hs hf hSl ht
      go_enter Tryd.func15, Tryd.ntmps15
      go_wp2_with fail
      refine (HNEW.out _).mono ?_
      rintro e w1 ⟨a1, c1, rfl, o1, b⟩
      have F1 := Lib.hid (F0.out.step b)
      clear b F0 o1
      have zr := F1.out.r.lt
      have F2 := Lib.hid (F1.out.step (below_all w1 (.cells #[.int .i64 P, .int .i64 Q, .slice a1 S0.length c1] 32)))
      obtain ⟨k0, k1, k2⟩ := F1.out.k0.cells
      have q3 : w.heap.size < w1.heap.size := by omega
      have q4 : ¬ w.heap.size = w1.heap.size := by omega
      go_wp2_with fail
      refine (C1.out _ F2.out.i0).mono ?_
      rintro e w2 ⟨rfl, b⟩
      have F3 := Lib.hid (F2.out.step b)
      clear b F2 F1 k0 k1 k2 q3 q4
      obtain ⟨r0, r1, r2⟩ := F3.out.r.cells
      have g0 := F3.out.r.frozen 0
      have g1 := F3.out.r.frozen 1
      have g2 := F3.out.r.frozen 2
      go_wp2
      refine bodyPost_ret (v := .tuple #[.agg #[.int .i64 0, .int .i64 0, .slice none 0 0], .bool false]) (by simp [results, Tryd.results15, go_sem, r0, r1, r2]) rfl ⟨none, 0, rfl, OwnI.none_, ?_⟩
      first | exact F3.out.b | exact ((F3.out.b.setCell (p := ⟨w.heap.size + 1, 0, none⟩) (by show w.heap.size ≤ w.heap.size + 1; omega) _).setCell (p := ⟨w.heap.size + 1, 1, none⟩) (by show w.heap.size ≤ w.heap.size + 1; omega) _).setCell (p := ⟨w.heap.size + 1, 2, none⟩) (by show w.heap.size ≤ w.heap.size + 1; omega) _
    | true =>
      have hrb : regB wd hg l (P : Int) (Q : Int) = true := by unfold regB; rw [hf, hs]; rfl
      rw [regR_yes hrb]
      have C1 := Lib.hid (fun W h => implFull_is wd hg a l c true W h hn hf)
      have hcell := full_cell hf
      obtain ⟨W, H, P', Q', rfl, rfl, eP, eQ, n1, n2, n3, n4, _, _, _, _, hln⟩ := reg_nat hrb
      obtain rfl : P = P' := by omega
      obtain rfl : Q = Q' := by omega
      have p1 : 1 ≤ P := by omega
      have p8 : P ≤ 8 := by omega
      have q1 : 1 ≤ Q := by omega
      have q8 : Q ≤ 8 := by omega
      have HCE := Lib.hid (fun i n2' a' ag c' cg W' (hi : i < W * H) => cellOv_any W H P Q i n2' (P * Q) a' ag c' cg W' n1 n2 n3 n4 p1 p8 q1 q8 hi rfl)
      have HOK := Lib.hid (fun i (hi : i < W * H) v v1 v2 => ovW_ok n1 n2 n4 p1 p8 q1 q8 hi (v := v) v1 v2)
      have HRB := Lib.hid (fun k hk => regK_bd n1 n2 n4 p1 p8 q1 q8 hcell k hk)
      have HPB := Lib.hid (fun k hk => partsOf_bd n1 n2 n4 p1 p8 q1 q8 hcell (k := k) hk)
      have HRL := Lib.hid (fun k => regK_len W H P Q l k)
      have HTL := Lib.hid (fun k => partsOf_len W H P Q l k)
      have HNX := Lib.hid (fun k => reg_next W H P Q l k)
      have HOL := Lib.hid (fun k => ovW_len W H P Q k)
      have hS0e : S0 = regK W H P Q l 0 := HS0.out.symm
      have HS0E := Lib.hid hS0e
      have HN := Lib.hid hln
      have HCELL := Lib.hid hcell
      have hl64 : l.length ≤ 64 := by rw [hln]; exact Nat.mul_le_mul n2 n4
      have hWH : W * H ≤ 64 := Nat.mul_le_mul n2 n4
      simp only [Int.toNat_natCast]
      obtain ⟨m, hm⟩ : ∃ m, P * Q = m := ⟨_, rfl⟩
      rw [hm] at hPQ hPQ8 HCE HRL HTL HNX HOL
      clear hl hs hf hrb hln eP eQ hS0e HS0 hcell ht hm hSl
      go_enter Tryd.func15, Tryd.ntmps15
      go_wp2_with fail
      refine (HNEW.out _).mono ?_
      rintro e w1 ⟨a1, c1, rfl, o1, b⟩
      have F1 := Lib.hid (F0.out.step b)
      obtain ⟨g, rfl, hB⟩ := Bk.new (P := P) (Q := Q) (cap := c1) F1.out (o1.more (by have := F0.out.r.lt; omega)) hl0
      have zr := F1.out.r.lt
      have HB := Lib.hid hB
      obtain ⟨k0, k1, k2⟩ := F1.out.k0.cells
      have q3 : w.heap.size < w1.heap.size := by omega
      have q4 : ¬ w.heap.size = w1.heap.size := by omega
      clear b F0 o1 hB hl0
      go_wp2_with fail
      refine (C1.out _ HB.out.f.i0).mono ?_
      rintro e w2 ⟨rfl, b⟩
      have HB2 := Lib.hid (HB.out.step b)
      clear b HB F1 k0 k1 k2 q3 q4 zr HNEW
      generalize w1.heap.size = ob at *
      obtain ⟨k0, k1, k2⟩ := HB2.out.f.k0.cells
      go_wp2
      clear k0 k1 k2
      rw [HS0E.out] at HB2
      have hz0 := HB2.out.m
      have hz1 := HB2.out.o.lt
      go_loopw [33] (fun t wr => ∃ k : Nat, k ≤ l.length ∧ t = .int .i64 k ∧ Bk w ob g W H a l c P Q (regK W H P Q l k) c1 wr) (fun t _ => l.length - (intOf t).toNat)
      case atStart => exact ⟨0, Nat.zero_le _, rfl, HB2.out⟩
      case round =>
        clear HB2
        obtain ⟨k, hk, rfl, hS⟩ := hrel
        have HS := Lib.hid hS
        obtain ⟨x0, x1, x2⟩ := hS.x.cells
        obtain ⟨k0, k1, k2⟩ := hS.f.k0.cells
        rw [HRL.out] at x2
        by_cases hlt : k < l.length
        · obtain ⟨bl, ol, rfl, hbl, hcl⟩ := (hS.f.s0.below hS.f.b (Nat.le_refl _)).at_ hlt
          have hi : (k : Int) < (l.length : Int) := by omega
          have hi0 : (0 : Int) ≤ (k : Int) := by omega
          have hkH : k < W * H := by rw [← HN.out]; exact hlt
          have hv := HCELL.out _ (List.getElem_mem hlt)
          have HCO := Lib.hid (fun n2' a' ag c' cg W' => HCE.out k n2' a' ag c' cg W' hkH)
          unfold IntsPost at HCO
          have hok := HOK.out k hkH l[k] hv.1 hv.2
          have HSP := Lib.hid (fun a' c' W' h ht => implSplit_any l[k] a' (ovW W H P Q k) c' W' h (by rw [HOL.out]; omega) ht)
          rw [hok, spR_yes hok, show splitD l[k] (tot (ovW W H P Q k)) (ovW W H P Q k) = partsOf W H P Q l k by unfold partsOf; rw [gd_at hlt]] at HSP
          unfold SvRet at HSP
          have hlT := HTL.out k
          have HTB := Lib.hid (HPB.out k hkH)
          have HKB := Lib.hid (HRB.out k (by omega))
          have hlR := HRL.out k
          have HNXk := Lib.hid (HNX.out k)
          have hok2 := HOL.out k
          have HST : Hid (∀ j (hj : j < (regK W H P Q l k).length) (ht : j < (partsOf W H P Q l k).length) v, v = (regK W H P Q l k)[j] + (partsOf W H P Q l k)[j] → (mixR (fun x y : Int => x + y) (regK W H P Q l k) (partsOf W H P Q l k) j).set j v = mixR (fun x y : Int => x + y) (regK W H P Q l k) (partsOf W H P Q l k) (j + 1)) := Lib.hid (fun j hj ht v hv => mix_step (fun x y : Int => x + y) (by rw [hlT, hlR]) j hj v hv)
          have HML : Hid (∀ j, j ≤ (regK W H P Q l k).length → (mixR (fun x y : Int => x + y) (regK W H P Q l k) (partsOf W H P Q l k) j).length = (regK W H P Q l k).length) := Lib.hid (fun j hj => mix_len (fun x y : Int => x + y) (by rw [hlT, hlR]) j hj)
          have HMG : Hid (∀ j (hj : j < (regK W H P Q l k).length) (h2 : j < (mixR (fun x y : Int => x + y) (regK W H P Q l k) (partsOf W H P Q l k) j).length), (mixR (fun x y : Int => x + y) (regK W H P Q l k) (partsOf W H P Q l k) j)[j] = (regK W H P Q l k)[j]) := Lib.hid (fun j hj h2 => mix_get (fun x y : Int => x + y) (by rw [hlT, hlR]) j hj h2)
          have HM0 := Lib.hid (mix_zero (fun x y : Int => x + y) (regK W H P Q l k) (partsOf W H P Q l k))
          have HLT := Lib.hid hlT
          have HLR := Lib.hid hlR
          have HO2 := Lib.hid hok2
          rw [hok2] at HCO
          rw [hlT] at HSP
          clear hok hv hok2 hlT hlR
          generalize ovW W H P Q k = OV at *
          generalize partsOf W H P Q l k = T at *
          generalize regK W H P Q l k = R at *
          generalize l[k] = z at *
          have hgz := hS.o.lt
          clear hS
          go_wp2_with fail
          refine (HCO.out _ _ _ _ _ _).mono ?_
          rintro e w3 ⟨a3, c3, rfl, o3, b3⟩
          have HS3 := Lib.hid (HS.out.step b3)
          have O3 := Lib.hid o3.ints
          have z3 := b3.size
          clear o3 b3 x0 x1 x2 k0 k1 k2 HS
          have HSP2 := HSP.out a3 c3 w3 O3.out (HT.out.below HS3.out.f.b)
          rw [HO2.out] at HSP2
          go_wp2_with fail
          refine HSP2.mono ?_
          rintro e w4 ⟨a4, c4, rfl, o4, b4⟩
          have HS4 := Lib.hid (HS3.out.step b4)
          have O4 := Lib.hid o4
          have z4 := b4.size
          clear o4 b4 O3 HS3 HSP2
          have hgB : g < w3.heap.size := by omega
          generalize w3.heap.size = B3 at *
          go_wp2
          go_loopw [49] (fun t wx => ∃ j : Nat, j ≤ m ∧ t = .int .i64 j ∧ Bk w ob g W H (some ⟨bl, ol, none⟩) l c P Q (mixR (fun x y => x + y) R T j) c1 wx ∧ OwnI wx B3 a4 T) (fun t _ => m - (intOf t).toNat)
          case atStart => exact ⟨0, Nat.zero_le _, rfl, by rw [HM0.out]; exact HS4.out, O4.out⟩
          case round =>
            clear HS4 O4
            obtain ⟨j, hj, rfl, hSj, hOj⟩ := hrel
            have HSj := Lib.hid hSj
            have HOj := Lib.hid hOj
            by_cases hltj : j < m
            · have hjT : j < T.length := by rw [HLT.out]; exact hltj
              have hjR : j < R.length := by rw [HLR.out]; exact hltj
              obtain ⟨bt, ot, rfl, hbt, hct⟩ := hOj.ints.at_ hjT
              have hml := HML.out j (by omega)
              rw [HLR.out] at hml
              obtain ⟨x0, x1, x2⟩ := hSj.x.cells
              rw [hml] at x2
              have cg := hSj.get (j := j) (by omega)
              rw [HMG.out j hjR] at cg
              have fg := hSj.o.frozen j
              have hbT := HTB.out _ (List.getElem_mem hjT)
              have hbR := HKB.out _ (List.getElem_mem hjR)
              have HPUT := Lib.hid (fun v hv => by have h9 := hSj.put j v; rw [HST.out j hjR hjT v hv] at h9; exact h9)
              have HP2 := Lib.hid (HPUT.out (R[j] + T[j]) rfl)
              have hjI : (j : Int) < (m : Int) := by omega
              have hj0 : (0 : Int) ≤ (j : Int) := by omega
              have HO9 := Lib.hid (ownI_set (i := j) HOj.out hgB (.int .i64 (R[j] + T[j])))
              clear hSj hOj HPUT hml
              generalize R[j] = rr at *
              generalize T[j] = tt at *
              go_wp2
              go_roundw
              case rel => exact ⟨j + 1, by omega, by go_num, HP2.out, HO9.out⟩
              case measure => simp [intOf]; omega
            · obtain rfl : j = m := by omega
              rw [HNXk.out] at HSj
              clear hSj hOj
              go_wp2
              go_roundw
              case rel => exact ⟨k + 1, by omega, by go_num, HSj.out⟩
              case measure => simp [intOf]; omega
        · obtain rfl : k = l.length := by omega
          have hlR := HRL.out l.length
          have hs64 : (regK W H P Q l l.length).length ≤ 64 := by rw [hlR]; exact hPQ8
          have HWR := Lib.hid (show regK W H P Q l (W * H) = regK W H P Q l l.length by rw [HN.out])
          clear hlR x0 x1 x2 k0 k1 k2 HS
          generalize regK W H P Q l l.length = R at *
          obtain ⟨x0, x1, x2⟩ := hS.x.cells
          have HB := Lib.hid hS
          clear hS
          cases hf : fullB (P : Int) (Q : Int) R with
          | false =>
            have C3 := Lib.hid (fun W' a c h => implWhole_no (P : Int) (Q : Int) a R c W' h (by omega) hf)
            have HFU := Lib.hid hf
            clear hf
            go_wp2_with fail
            refine (C3.out _ _ _ (HB.out.own.ints)).mono ?_
            rintro e w3 ⟨rfl, b3⟩
            have HB3 := Lib.hid (HB.out.step b3)
            clear b3 HB x0 x1 x2
            obtain ⟨r0, r1, r2⟩ := HB3.out.f.r.cells
            have g0 := HB3.out.f.r.frozen 0
            have g1 := HB3.out.f.r.frozen 1
            have g2 := HB3.out.f.r.frozen 2
            go_wp2
            rw [HWR.out, wholeR_no HFU.out]
            refine bodyPost_ret (v := .tuple #[.agg #[.int .i64 0, .int .i64 0, .slice none 0 0], .bool false]) (by simp [results, Tryd.results15, go_sem, r0, r1, r2]) rfl ⟨none, 0, rfl, OwnI.none_, ?_⟩
            first | exact HB3.out.f.b | exact ((HB3.out.f.b.setCell (p := ⟨w.heap.size + 1, 0, none⟩) (by show w.heap.size ≤ w.heap.size + 1; omega) _).setCell (p := ⟨w.heap.size + 1, 1, none⟩) (by show w.heap.size ≤ w.heap.size + 1; omega) _).setCell (p := ⟨w.heap.size + 1, 2, none⟩) (by show w.heap.size ≤ w.heap.size + 1; omega) _
          | true =>
            have C3 := Lib.hid (fun W' a c h => implWhole_yes (P : Int) (Q : Int) a R c W' h (by omega) hf)
            have HFU := Lib.hid hf
            clear hf
            go_wp2_with fail
            refine (C3.out _ _ _ (HB.out.own.ints)).mono ?_
            rintro e w3 ⟨rfl, b3⟩
            have HB3 := Lib.hid (HB.out.step b3)
            clear b3 HB x0 x1 x2
            obtain ⟨r0, r1, r2⟩ := HB3.out.f.r.cells
            have g0 := HB3.out.f.r.frozen 0
            have g1 := HB3.out.f.r.frozen 1
            have g2 := HB3.out.f.r.frozen 2
            go_wp2
            rw [HWR.out, wholeR_yes HFU.out]
            refine bodyPost_ret (v := .tuple #[.agg #[.int .i64 P, .int .i64 Q, .slice (some ⟨g, 0, none⟩) R.length c1], .bool true]) (by simp [results, Tryd.results15, go_sem, r0, r1, r2]) rfl ?_
            exact HB3.out.ret2 rfl (.inr rfl) _ _ _
end Go.Proofs.YtccplndimdmjpaaDoor
