/- The model's RegridNearest. -/
import Derived.Test.YtccplndimdmjpaaRgBk
import Derived.Test.YtccplndimdmjpaaRgNear
import Derived.Deep.RegionLaw
import Derived.Deep.DeepCutAuto
namespace Go.Proofs.Ytccplndimdmjpaa
open Go.RowKit
set_option linter.unusedVariables false
set_option linter.unusedSimpArgs false
theorem rowm {W x y : Nat} (h : x < W) : (y * W + x) % W = x ∧ (y * W + x) / W = y := by
  have hW : 0 < W := by omega
  constructor
  · rw [Nat.add_comm, Nat.add_mul_mod_self_right, Nat.mod_eq_of_lt h]
  · rw [Nat.add_comm, Nat.add_mul_div_right _ _ hW, Nat.div_eq_of_lt h, Nat.zero_add]
set_option maxRecDepth 100000 in
set_option maxHeartbeats 4000000 in
theorem specNearR_any (wd hg : Int) (a : Option Addr) (l : List Int) (c : Nat) (p q : Int) (w : World) (hl : Ints .i64 w w.heap.size a l) (hn : l.length ≤ 1048576) :
    Calls Try.prog 20 #[.agg #[.int .i64 wd, .int .i64 hg, .slice a l.length c], .int .i64 p, .int .i64 q] w (FRet (nearR wd hg l p q) w) := by
  have F0 := Lib.hid (Fr1.new (wd0 := wd) (hg0 := hg) (c0 := c) hl)
  cases hgd : goodB wd hg l with
  | false =>
    rw [nearR_no (by unfold nearB; rw [hgd]; rfl)]
    have C1 := Lib.hid (fun W h => specGood_is wd hg a l c _ false W h (Nat.le_refl _) hn hgd)
    clear hl hgd
    go_enter Try.func20, Try.ntmps20
    obtain ⟨k0, k1, k2⟩ := F0.out.k0.cells
    go_wp2_with fail
    refine (C1.out _ F0.out.i0).mono ?_
    rintro e w1 ⟨rfl, b⟩
    have F1 := Lib.hid (F0.out.step b)
    clear b k0 k1 k2 F0
    obtain ⟨r0, r1, r2⟩ := F1.out.r.cells
    have g0 := F1.out.r.frozen 0
    have g1 := F1.out.r.frozen 1
    have g2 := F1.out.r.frozen 2
    go_wp2
    refine bodyPost_ret (v := .tuple #[.agg #[.int .i64 0, .int .i64 0, .slice none 0 0], .bool false]) (by simp [results, Try.results20, go_sem, r0, r1, r2]) rfl ⟨none, 0, rfl, OwnI.none_, ?_⟩
    first | exact F1.out.b | exact ((F1.out.b.setCell (by show w.heap.size ≤ w.heap.size + 1; omega) _).setCell (by show w.heap.size ≤ w.heap.size + 1; omega) _).setCell (by show w.heap.size ≤ w.heap.size + 1; omega) _
  | true =>
    have C1 := Lib.hid (fun W h => specGood_is wd hg a l c _ true W h (Nat.le_refl _) hn hgd)
    cases hs : shapeB p q with
    | false =>
      rw [nearR_no (by unfold nearB; rw [hs]; simp)]
      have C2 := Lib.hid (fun W => specShape_is p q false W hs)
      clear hl hgd hs
      go_enter Try.func20, Try.ntmps20
      obtain ⟨k0, k1, k2⟩ := F0.out.k0.cells
      go_wp2_with fail
      refine (C1.out _ F0.out.i0).mono ?_
      rintro e w1 ⟨rfl, b⟩
      have F1 := Lib.hid (F0.out.step b)
      clear b k0 k1 k2 F0
      go_wp2_with fail
      refine (C2.out _).mono ?_
      rintro e w9 ⟨rfl, rfl⟩
      obtain ⟨r0, r1, r2⟩ := F1.out.r.cells
      have g0 := F1.out.r.frozen 0
      have g1 := F1.out.r.frozen 1
      have g2 := F1.out.r.frozen 2
      go_wp2
      refine bodyPost_ret (v := .tuple #[.agg #[.int .i64 0, .int .i64 0, .slice none 0 0], .bool false]) (by simp [results, Try.results20, go_sem, r0, r1, r2]) rfl ⟨none, 0, rfl, OwnI.none_, ?_⟩
      first | exact F1.out.b | exact ((F1.out.b.setCell (by show w.heap.size ≤ w.heap.size + 1; omega) _).setCell (by show w.heap.size ≤ w.heap.size + 1; omega) _).setCell (by show w.heap.size ≤ w.heap.size + 1; omega) _
    | true =>
      have hnb : nearB wd hg l p q = true := by unfold nearB; rw [hgd, hs]; rfl
      rw [nearR_yes hnb]
      have C2 := Lib.hid (fun W => specShape_is p q true W hs)
      have C3 := Lib.hid (fun W => fill_any p q 0 W hs)
      obtain ⟨W, H, P, Q, rfl, rfl, rfl, rfl, n1, n2, n3, n4, p1, p2, q1, q2, hln⟩ := near_nat hnb
      have e9 : ((P : Int) * (Q : Int)).toNat = P * Q := by rw [← Int.natCast_mul]; exact Int.toNat_natCast _
      rw [e9] at C3
      obtain ⟨S0, hS0⟩ : ∃ S, List.replicate (P * Q) (0 : Int) = S := ⟨_, rfl⟩
      rw [hS0] at C3
      have hSl : S0.length = P * Q := by rw [← hS0, List.length_replicate]
      have hPQ : 1 ≤ P * Q := Nat.mul_le_mul p1 q1
      have hl0 : 0 < S0.length := by omega
      have HSL := Lib.hid hSl
      have HN := Lib.hid hln
      have hl64 : l.length ≤ 64 := by rw [hln]; exact Nat.mul_le_mul n2 n4
      simp only [Int.toNat_natCast]
      clear hl hgd hs hnb e9 hS0 hSl hln
      go_enter Try.func20, Try.ntmps20
      obtain ⟨k0, k1, k2⟩ := F0.out.k0.cells
      go_wp2_with fail
      refine (C1.out _ F0.out.i0).mono ?_
      rintro e w1 ⟨rfl, b⟩
      have F1 := Lib.hid (F0.out.step b)
      clear b k0 k1 k2 F0
      go_wp2_with fail
      refine (C2.out _).mono ?_
      rintro e w9 ⟨rfl, rfl⟩
      go_wp2_with fail
      refine (C3.out _).mono ?_
      rintro e w2 ⟨a2, c2, rfl, o2, b2⟩
      have F2 := Lib.hid (F1.out.step b2)
      obtain ⟨g, rfl, hB⟩ := Bk.new (P := P) (Q := Q) (cap := c2) F2.out (o2.more (by have := F1.out.r.lt; omega)) hl0
      have HB := Lib.hid hB
      have zq := F2.out.r.lt
      obtain ⟨ob, hob⟩ : ∃ x, w2.heap.size = x := ⟨_, rfl⟩
      clear o2 b2 F1 hB
      go_wp2
      rw [hob] at HB
      clear hob
      go_loopw [9] (fun i wr => ∃ v : Nat, v ≤ Q ∧ i = .int .i64 v ∧ Bk w ob g W H a l c P Q (nearK W H P Q l S0 (v * P)) c2 wr) (fun i _ => Q - (intOf i).toNat)
      case atStart => exact ⟨0, Nat.zero_le _, rfl, by rw [Nat.zero_mul, nearK_zero]; exact HB.out⟩
      case round =>
        obtain ⟨v, hv, rfl, hS⟩ := hrel
        clear HB
        have HS := Lib.hid hS
        clear hS
        by_cases hlt : v < Q
        · have hi : (v : Int) < (Q : Int) := by omega
          go_wp2
          go_loopw [10] (fun i wr => ∃ u : Nat, u ≤ P ∧ i = .int .i64 u ∧ Bk w ob g W H a l c P Q (nearK W H P Q l S0 (v * P + u)) c2 wr) (fun i _ => P - (intOf i).toNat)
          case atStart => exact ⟨0, Nat.zero_le _, rfl, HS.out⟩
          case round =>
            clear HS
            obtain ⟨u, hu, rfl, hS⟩ := hrel
            have HS := Lib.hid hS
            by_cases hlt2 : u < P
            · have hi2 : (u : Int) < (P : Int) := by omega
              have hk : v * P + u < P * Q := by have := Nat.mul_le_mul_right P (show v + 1 ≤ Q by omega); rw [Nat.add_mul, Nat.one_mul] at this; rw [Nat.mul_comm P Q]; omega
              obtain ⟨rm1, rm2⟩ := rowm (y := v) hlt2
              have hat := near_at (W := W) (H := H) n1 n3 p1 hk
              rw [← HN.out] at hat
              have HSTEP := Lib.hid (nearK_step (W := W) (H := H) (l := l) HSL.out hk hat)
              have hn1 := nr_lt n3 hlt
              have hn2 := nr_lt n1 hlt2
              rw [rm1, rm2] at hat
              simp only [rm1, rm2] at HSTEP
              have hkl := nearK_len (W := W) (H := H) (l := l) HSL.out (Nat.le_of_lt hk)
              have hyW : nr H Q v * W ≤ 64 := by have := Nat.mul_le_mul (show nr H Q v ≤ 8 by omega) n2; omega
              have HN1 := Lib.hid (fun W' => specNear_is W P u W' n1 n2 p2 hlt2)
              have HN2 := Lib.hid (fun W' => specNear_is H Q v W' n3 n4 q2 hlt)
              have HCALL := Lib.hid (fun W' h => specAt_any (W : Int) H a l c _ (nr W P u : Int) (nr H Q v : Int) (nr H Q v * W + nr W P u) W' h (Nat.le_refl _) hat (by omega) (by push_cast; rfl) (by rw [← Int.natCast_mul]; omega) (by rw [← Int.natCast_mul]; omega) (by omega) (by omega))
              obtain ⟨z, hzz⟩ : ∃ z, l[nr H Q v * W + nr W P u] = z := ⟨_, rfl⟩
              rw [hzz] at HCALL HSTEP
              have hvP : v * P ≤ 64 := by have := Nat.mul_le_mul (show v ≤ 8 by omega) p2; omega
              have e1 : (v : Int) * (P : Int) = ((v * P : Nat) : Int) := by push_cast; rfl
              obtain ⟨j, hj⟩ : ∃ j, v * P + u = j := ⟨_, rfl⟩
              have HJ := Lib.hid hj
              rw [hj] at HSTEP hk hkl
              have HST2 : Hid (∀ W', Bk w ob g W H a l c P Q (nearK W H P Q l S0 j) c2 W' → Bk w ob g W H a l c P Q (nearK W H P Q l S0 (j + 1)) c2 (W'.setCell ⟨g, j, none⟩ (.int .i64 z))) := Lib.hid (fun W' h => by have h9 := h.put j z; rw [HSTEP.out] at h9; exact h9)
              rw [hj] at HS
              rw [hj] at hS
              have hjI : (j : Int) < ((P * Q : Nat) : Int) := by omega
              generalize v * P = pp at *
              have e2 : (pp : Int) + (u : Int) = (j : Int) := by omega
              have hj0 : (0 : Int) ≤ (j : Int) := by omega
              have e3 : IntKind.i64.wrap (pp : Int) = (pp : Int) := IntWalk.i64_in _ (by omega)
              have e4 : IntKind.i64.wrap (j : Int) = (j : Int) := IntWalk.i64_in _ (by omega)
              obtain ⟨x0, x1, x2⟩ := hS.x.cells
              obtain ⟨k0, k1, k2⟩ := hS.f.k0.cells
              rw [hkl] at x2
              have ovx := hS.get (j := j) (by omega)
              obtain ⟨ov, hov⟩ : ∃ ov, (nearK W H P Q l S0 j)[j]'(by omega) = ov := ⟨_, rfl⟩
              rw [hov] at ovx
              have of := hS.o.frozen j
              have HX2 : Hid (∀ W', Bk w ob g W H a l c P Q (nearK W H P Q l S0 j) c2 W' → W'.cell? ⟨ob, 2, none⟩ = some (.slice (some ⟨g, 0, none⟩) (P * Q) c2) ∧ W'.cell? ⟨g, j, none⟩ = some (.int .i64 ov)) := Lib.hid (fun W' h => ⟨by have h9 := h.x.cells.2.2; rw [hkl] at h9; exact h9, by have h9 := h.get (j := j) (by omega); rw [hov] at h9; exact h9⟩)
              clear hS hj hov hzz hkl rm1 rm2
              have HX3 : Hid (∀ W', Bk w ob g W H a l c P Q (nearK W H P Q l S0 (j + 1)) c2 W' → W'.cell? ⟨ob, 2, none⟩ = some (.slice (some ⟨g, 0, none⟩) (P * Q) c2)) := Lib.hid (fun W' h => by have h9 := h.x.cells.2.2; rw [nearK_len HSL.out (by omega)] at h9; exact h9)
              generalize P * Q = pq at *
              generalize nr H Q v = nv at *
              generalize nr W P u = nu at *
              go_wp2_with fail
              have HSd := Lib.hid HS.out.drew
              go_region_held3 (fun w' => (w'.cell? ⟨w.heap.size, 0, none⟩ = some (.int .i64 W) ∧ w'.cell? ⟨w.heap.size, 1, none⟩ = some (.int .i64 H) ∧ w'.cell? ⟨w.heap.size, 2, none⟩ = some (.slice a l.length c)) ∧ w'.cell? ⟨ob, 2, none⟩ = some (.slice (some ⟨g, 0, none⟩) pq c2))
                (first | (with_reducible exact ⟨HS6.out.f.k0.cells, y0⟩) | (with_reducible exact ⟨HSd.out.f.k0.cells, x2⟩) | (with_reducible exact ⟨(HST2.out _ HS6.out).f.k0.cells, HX3.out _ (HST2.out _ HS6.out)⟩) | go_keep)
                (first
                  | (go_at_call 48; (first | ((with_reducible refine (HN1.out _).mono ?_); rintro e w8 ⟨rfl, rfl⟩) | ((with_reducible refine (HN2.out _).mono ?_); rintro e w8 ⟨rfl, rfl⟩)))
                  | (go_at_call 47; (with_reducible refine (HCALL.out _ HSd.out.f.i0).mono ?_); rintro e w6 ⟨rfl, b6⟩; have HS6 := Lib.hid (HSd.out.step b6); obtain ⟨y0, y1⟩ := HX2.out _ HS6.out; have y4 := HS6.out.o.frozen j; clear b6))
              all_goals
                go_wp2
                go_roundw
                case rel => exact ⟨u + 1, by omega, by go_num, by rw [← Nat.add_assoc, HJ.out]; exact HST2.out _ HS6.out⟩
                case measure => simp [intOf]; omega
            · obtain rfl : u = P := by omega
              have hrow : v * u + u = (v + 1) * u := by rw [Nat.add_mul, Nat.one_mul]
              rw [hrow] at HS
              clear hS
              go_wp2
              go_roundw
              case rel => exact ⟨v + 1, by omega, by go_num, HS.out⟩
              case measure => simp [intOf]; omega
        · obtain rfl : v = Q := by omega
          have hS := HS.out
          rw [Nat.mul_comm, nearK_all HSL.out] at hS
          obtain ⟨x0, x1, x2⟩ := hS.x.cells
          obtain ⟨r0, r1, r2⟩ := hS.f.r.cells
          have g0 := hS.f.r.frozen 0
          have g1 := hS.f.r.frozen 1
          have g2 := hS.f.r.frozen 2
          have q7 : ¬ w.heap.size + 1 = ob := by have := hS.n; omega
          have q8 : ¬ ob = w.heap.size + 1 := by omega
          have HSe := Lib.hid hS
          clear hS HS
          generalize nearL W H P v l = L at *
          go_wp2
          refine bodyPost_ret (v := .tuple #[.agg #[.int .i64 P, .int .i64 v, .slice (some ⟨g, 0, none⟩) L.length c2], .bool true]) (by simp [results, Try.results20, go_sem, r0, r1, r2]) rfl ?_
          exact HSe.out.ret2 rfl (.inr rfl) _ _ _
end Go.Proofs.Ytccplndimdmjpaa
