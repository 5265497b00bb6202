/- The program's CoarsenSum and CoarsenMean. -/
import Derived.Test.YtccplndimdmjpaaRgImplB
namespace Go.Proofs.Ytccplndimdmjpaa
open Go.RowKit
set_option linter.unusedVariables false
set_option linter.unusedSimpArgs false
set_option maxRecDepth 100000 in
set_option maxHeartbeats 2000000 in
theorem implSum_any (wd hg : Int) (a : Option Addr) (l : List Int) (c : Nat) (p q : Int) (w : World) (hl : Ints .i64 w w.heap.size a l) (hn : l.length ≤ 1048576) :
    Calls Try.prog 14 #[.agg #[.int .i64 wd, .int .i64 hg, .slice a l.length c], .int .i64 p, .int .i64 q] w (FRet (sumR wd hg l p q) w) := by
  have F0 := Lib.hid (Fr1.new (wd0 := wd) (hg0 := hg) (c0 := c) hl)
  cases hd : divB wd hg l p q with
  | false =>
    rw [sumR_no hd]
    have C1 := Lib.hid (fun W h => implBlk_no wd hg a l c p q W h hn hd)
    unfold FRet at C1
    simp only [rW, rH, rL, rB, List.length_nil] at C1
    clear hd hl
    go_enter Try.func14, Try.ntmps14
    obtain ⟨k0, k1, k2⟩ := F0.out.k0.cells
    go_wp2_with fail
    refine (C1.out _ F0.out.i0).mono ?_
    rintro e w1 ⟨a1, c1, rfl, o1, b⟩
    have F1 := Lib.hid (F0.out.step b)
    clear b k0 k1 k2 F0 o1
    have zr := F1.out.r.lt
    have q5 : w.heap.size + 1 < w1.heap.size := by omega
    have q6 : ¬ w.heap.size + 1 = w1.heap.size := by omega
    obtain ⟨s0, s1, s2⟩ := F1.out.r.cells
    have t0 := F1.out.r.frozen 0
    have t1 := F1.out.r.frozen 1
    have t2 := F1.out.r.frozen 2
    have F2 := Lib.hid (F1.out.step (below_all w1 (.cells #[.int .i64 0, .int .i64 0, .slice a1 0 c1] 29)))
    obtain ⟨r0, r1, r2⟩ := F2.out.r.cells
    have g0 := F2.out.r.frozen 0
    have g1 := F2.out.r.frozen 1
    have g2 := F2.out.r.frozen 2
    go_wp2
    refine bodyPost_ret (v := .tuple #[.agg #[.int .i64 0, .int .i64 0, .slice none 0 0], .bool false]) (by simp [results, Try.results14, go_sem, r0, r1, r2, *]) rfl ⟨none, 0, rfl, OwnI.none_, ?_⟩
    first | exact F2.out.b | exact ((F2.out.b.setCell (p := ⟨w.heap.size + 1, 0, none⟩) (by show w.heap.size ≤ w.heap.size + 1; omega) _).setCell (p := ⟨w.heap.size + 1, 1, none⟩) (by show w.heap.size ≤ w.heap.size + 1; omega) _).setCell (p := ⟨w.heap.size + 1, 2, none⟩) (by show w.heap.size ≤ w.heap.size + 1; omega) _ | exact (((F1.out.b.setCell (p := ⟨w.heap.size + 1, 0, none⟩) (by show w.heap.size ≤ w.heap.size + 1; omega) _).setCell (p := ⟨w.heap.size + 1, 1, none⟩) (by show w.heap.size ≤ w.heap.size + 1; omega) _).setCell (p := ⟨w.heap.size + 1, 2, none⟩) (by show w.heap.size ≤ w.heap.size + 1; omega) _).alloc (by simp [World.setCell]; omega) _
  | true =>
    rw [sumR_yes hd]
    obtain ⟨W, H, P, Q, rfl, rfl, rfl, rfl, n1, n2, n3, n4, p1, p2, q1, q2, dP, dQ, hln⟩ := div_nat hd
    obtain ⟨Wa, hWa⟩ : ∃ x, W / P = x := ⟨_, rfl⟩
    obtain ⟨Hd, hHd⟩ : ∃ x, H / Q = x := ⟨_, rfl⟩
    have hF := (divB_iff.1 hd).1
    have hB := full_cell hF
    have C1 := Lib.hid (fun W' h => implBlk_yes W H P Q Wa Hd a l c W' h hF n1 n2 n3 n4 p1 p2 q1 q2 dP dQ hln hWa hHd)
    have wa1 : 1 ≤ Wa := by rw [← hWa]; exact Nat.div_pos p2 (by omega)
    have hd1 : 1 ≤ Hd := by rw [← hHd]; exact Nat.div_pos q2 (by omega)
    have hP1 : 1 ≤ Wa * Hd := Nat.mul_le_mul wa1 hd1
    have hSL : (blkL W H P Q l).length = Wa * Hd := by rw [blkL_len, hWa, hHd]
    have hS64 : (blkL W H P Q l).length ≤ 64 := by rw [blkL_len]; exact blk_le n2 n4
    have hSB : ∀ z ∈ blkL W H P Q l, -576000 ≤ z ∧ z ≤ 576000 := fun z hz => by
      have h1 := accK_bd (blkI W P Q) (W / P * (H / Q)) hB (W * H) z hz
      have h2 : W * H ≤ 64 := Nat.mul_le_mul n2 n4
      omega
    have e1 : (W : Int) / (P : Int) = (Wa : Int) := by rw [nat_ediv', hWa]
    have e2 : (H : Int) / (Q : Int) = (Hd : Int) := by rw [nat_ediv', hHd]
    rw [e1, e2]
    simp only [Int.toNat_natCast]
    generalize blkL W H P Q l = S at *
    have hS0 : 0 < S.length := by omega
    clear hSL hd hl e1 e2 hB hF dP dQ hln hWa hHd
    unfold FRet at C1
    simp only [rW, rH, rL, rB] at C1
    cases hf : fullB Wa Hd S with
    | false =>
      rw [wholeR_no hf]
      have C3 := Lib.hid (fun W' a c h => implWhole_no (Wa : Int) (Hd : Int) a S c W' h (by omega) hf)
      clear hf
      go_enter Try.func14, Try.ntmps14
      obtain ⟨k0, k1, k2⟩ := F0.out.k0.cells
      go_wp2_with fail
      refine (C1.out _ F0.out.i0).mono ?_
      rintro e w1 ⟨a1, c1, rfl, o1, b⟩
      have F1 := Lib.hid (F0.out.step b)
      obtain ⟨g, rfl, hB⟩ := Bk.new (P := Wa) (Q := Hd) (cap := c1) F1.out (o1.more (by have := F0.out.r.lt; omega)) hS0
      have HB := Lib.hid hB
      have zq := F1.out.r.lt
      have q5 : w.heap.size + 1 < w1.heap.size := by omega
      have q6 : ¬ w.heap.size + 1 = w1.heap.size := by omega
      obtain ⟨x0, x1, x2⟩ := HB.out.x.cells
      clear o1 b k0 k1 k2 F0 hB
      go_wp2_with fail
      refine (C3.out _ _ _ (HB.out.own.ints)).mono ?_
      rintro e w3 ⟨rfl, b3⟩
      have HB3 := Lib.hid (HB.out.step b3)
      clear b3 HB x0 x1 x2
      obtain ⟨r0, r1, r2⟩ := HB3.out.f.r.cells
      have g0 := HB3.out.f.r.frozen 0
      have g1 := HB3.out.f.r.frozen 1
      have g2 := HB3.out.f.r.frozen 2
      go_wp2
      refine bodyPost_ret (v := .tuple #[.agg #[.int .i64 0, .int .i64 0, .slice none 0 0], .bool false]) (by simp [results, Try.results14, go_sem, r0, r1, r2, *]) rfl ⟨none, 0, rfl, OwnI.none_, ?_⟩
      first | exact HB3.out.f.b | exact ((HB3.out.f.b.setCell (p := ⟨w.heap.size + 1, 0, none⟩) (by show w.heap.size ≤ w.heap.size + 1; omega) _).setCell (p := ⟨w.heap.size + 1, 1, none⟩) (by show w.heap.size ≤ w.heap.size + 1; omega) _).setCell (p := ⟨w.heap.size + 1, 2, none⟩) (by show w.heap.size ≤ w.heap.size + 1; omega) _
    | true =>
      rw [wholeR_yes hf]
      have C3 := Lib.hid (fun W' a c h => implWhole_yes (Wa : Int) (Hd : Int) a S c W' h (by omega) hf)
      clear hf
      go_enter Try.func14, Try.ntmps14
      obtain ⟨k0, k1, k2⟩ := F0.out.k0.cells
      go_wp2_with fail
      refine (C1.out _ F0.out.i0).mono ?_
      rintro e w1 ⟨a1, c1, rfl, o1, b⟩
      have F1 := Lib.hid (F0.out.step b)
      obtain ⟨g, rfl, hB⟩ := Bk.new (P := Wa) (Q := Hd) (cap := c1) F1.out (o1.more (by have := F0.out.r.lt; omega)) hS0
      have HB := Lib.hid hB
      have zq := F1.out.r.lt
      have q5 : w.heap.size + 1 < w1.heap.size := by omega
      have q6 : ¬ w.heap.size + 1 = w1.heap.size := by omega
      obtain ⟨x0, x1, x2⟩ := HB.out.x.cells
      clear o1 b k0 k1 k2 F0 hB
      go_wp2_with fail
      refine (C3.out _ _ _ (HB.out.own.ints)).mono ?_
      rintro e w3 ⟨rfl, b3⟩
      have HB3 := Lib.hid (HB.out.step b3)
      clear b3 HB x0 x1 x2
      obtain ⟨r0, r1, r2⟩ := HB3.out.f.r.cells
      have g0 := HB3.out.f.r.frozen 0
      have g1 := HB3.out.f.r.frozen 1
      have g2 := HB3.out.f.r.frozen 2
      go_wp2
      refine bodyPost_ret (v := .tuple #[.agg #[.int .i64 Wa, .int .i64 Hd, .slice (some ⟨g, 0, none⟩) S.length c1], .bool true]) (by simp [results, Try.results14, go_sem, r0, r1, r2]) rfl ?_
      exact HB3.out.ret2 rfl (.inr rfl) _ _ _
set_option maxRecDepth 100000 in
set_option maxHeartbeats 2000000 in
theorem implMeans_any (wd hg : Int) (a : Option Addr) (l : List Int) (c : Nat) (p q : Int) (w : World) (hl : Ints .i64 w w.heap.size a l) (hn : l.length ≤ 1048576) :
    Calls Try.prog 19 #[.agg #[.int .i64 wd, .int .i64 hg, .slice a l.length c], .int .i64 p, .int .i64 q] w (FRet (meansR wd hg l p q) w) := by
  have F0 := Lib.hid (Fr1.new (wd0 := wd) (hg0 := hg) (c0 := c) hl)
  cases hd : divB wd hg l p q with
  | false =>
    rw [meansR_no hd]
    have C1 := Lib.hid (fun W h => implBlk_no wd hg a l c p q W h hn hd)
    unfold FRet at C1
    simp only [rW, rH, rL, rB, List.length_nil] at C1
    clear hd hl
    go_enter Try.func19, Try.ntmps19
    obtain ⟨k0, k1, k2⟩ := F0.out.k0.cells
    go_wp2_with fail
    refine (C1.out _ F0.out.i0).mono ?_
    rintro e w1 ⟨a1, c1, rfl, o1, b⟩
    have F1 := Lib.hid (F0.out.step b)
    clear b k0 k1 k2 F0 o1
    have zr := F1.out.r.lt
    have q5 : w.heap.size + 1 < w1.heap.size := by omega
    have q6 : ¬ w.heap.size + 1 = w1.heap.size := by omega
    obtain ⟨s0, s1, s2⟩ := F1.out.r.cells
    have t0 := F1.out.r.frozen 0
    have t1 := F1.out.r.frozen 1
    have t2 := F1.out.r.frozen 2
    have F2 := Lib.hid (F1.out.step (below_all w1 (.cells #[.int .i64 0, .int .i64 0, .slice a1 0 c1] 29)))
    obtain ⟨r0, r1, r2⟩ := F2.out.r.cells
    have g0 := F2.out.r.frozen 0
    have g1 := F2.out.r.frozen 1
    have g2 := F2.out.r.frozen 2
    obtain ⟨y0, y1, y2⟩ := (Box.new w1 29 (.int .i64 0) (.int .i64 0) (.slice a1 0 c1)).cells
    go_wp2
    go_loopw [22] (fun i wr => i = .int .i64 0 ∧ wr = w1.alloc (.cells #[.int .i64 0, .int .i64 0, .slice a1 0 c1] 29)) (fun i _ => 0)
    case atStart => exact ⟨rfl, rfl⟩
    case round =>
      obtain ⟨rfl, rfl⟩ := hrel
      go_wp2
      refine bodyPost_ret (v := .tuple #[.agg #[.int .i64 0, .int .i64 0, .slice a1 0 c1], .bool false]) (by simp [results, Try.results19, go_sem, r0, r1, r2, *]) rfl ⟨a1, c1, rfl, OwnI.none_, ?_⟩
      first | exact F2.out.b | exact ((F2.out.b.setCell (p := ⟨w.heap.size + 1, 0, none⟩) (by show w.heap.size ≤ w.heap.size + 1; omega) _).setCell (p := ⟨w.heap.size + 1, 1, none⟩) (by show w.heap.size ≤ w.heap.size + 1; omega) _).setCell (p := ⟨w.heap.size + 1, 2, none⟩) (by show w.heap.size ≤ w.heap.size + 1; omega) _ | exact (((F1.out.b.setCell (p := ⟨w.heap.size + 1, 0, none⟩) (by show w.heap.size ≤ w.heap.size + 1; omega) _).setCell (p := ⟨w.heap.size + 1, 1, none⟩) (by show w.heap.size ≤ w.heap.size + 1; omega) _).setCell (p := ⟨w.heap.size + 1, 2, none⟩) (by show w.heap.size ≤ w.heap.size + 1; omega) _).alloc (by simp [World.setCell]; omega) _
  | true =>
    rw [meansR_yes hd]
    obtain ⟨W, H, P, Q, rfl, rfl, rfl, rfl, n1, n2, n3, n4, p1, p2, q1, q2, dP, dQ, hln⟩ := div_nat hd
    obtain ⟨Wa, hWa⟩ : ∃ x, W / P = x := ⟨_, rfl⟩
    obtain ⟨Hd, hHd⟩ : ∃ x, H / Q = x := ⟨_, rfl⟩
    have hF := (divB_iff.1 hd).1
    have hB := full_cell hF
    have C1 := Lib.hid (fun W' h => implBlk_yes W H P Q Wa Hd a l c W' h hF n1 n2 n3 n4 p1 p2 q1 q2 dP dQ hln hWa hHd)
    have wa1 : 1 ≤ Wa := by rw [← hWa]; exact Nat.div_pos p2 (by omega)
    have hd1 : 1 ≤ Hd := by rw [← hHd]; exact Nat.div_pos q2 (by omega)
    have hP1 : 1 ≤ Wa * Hd := Nat.mul_le_mul wa1 hd1
    have hSL : (blkL W H P Q l).length = Wa * Hd := by rw [blkL_len, hWa, hHd]
    have hS64 : (blkL W H P Q l).length ≤ 64 := by rw [blkL_len]; exact blk_le n2 n4
    have hSB : ∀ z ∈ blkL W H P Q l, -576000 ≤ z ∧ z ≤ 576000 := fun z hz => by
      have h1 := accK_bd (blkI W P Q) (W / P * (H / Q)) hB (W * H) z hz
      have h2 : W * H ≤ 64 := Nat.mul_le_mul n2 n4
      omega
    have e1 : (W : Int) / (P : Int) = (Wa : Int) := by rw [nat_ediv', hWa]
    have e2 : (H : Int) / (Q : Int) = (Hd : Int) := by rw [nat_ediv', hHd]
    rw [e1, e2]
    simp only [Int.toNat_natCast]
    generalize blkL W H P Q l = S at *
    have hS0 : 0 < S.length := by omega
    clear hSL hd hl e1 e2 hB hF dP dQ hln hWa hHd
    unfold FRet at C1
    simp only [rW, rH, rL, rB] at C1
    have C3 := Lib.hid (fun (k : Nat) (hk : k < S.length) W' => quotW_is S[k] ((P : Int) * (Q : Int)) W' (by have := hSB _ (List.getElem_mem hk); omega) (by have := hSB _ (List.getElem_mem hk); omega) (by have : 1 * 1 ≤ P * Q := Nat.mul_le_mul p1 q1; rw [← Int.natCast_mul]; omega) (by have : P * Q ≤ 8 * 8 := Nat.mul_le_mul (by omega) (by omega); rw [← Int.natCast_mul]; omega))
    obtain ⟨pq, hpq⟩ : ∃ x : Nat, P * Q = x := ⟨_, rfl⟩
    have pq1 : 1 ≤ pq := by rw [← hpq]; exact Nat.mul_le_mul p1 q1
    have pq2 : pq ≤ 64 := by rw [← hpq]; exact Nat.mul_le_mul (by omega : P ≤ 8) (by omega : Q ≤ 8)
    have E9 := Lib.hid (show (P : Int) * (Q : Int) = (pq : Int) by rw [← hpq]; push_cast; rfl)
    rw [E9.out] at C3 ⊢
    clear hpq
    go_enter Try.func19, Try.ntmps19
    obtain ⟨k0, k1, k2⟩ := F0.out.k0.cells
    go_wp2_with fail
    refine (C1.out _ F0.out.i0).mono ?_
    rintro e w1 ⟨a1, c1, rfl, o1, b⟩
    have F1 := Lib.hid (F0.out.step b)
    obtain ⟨g, rfl, hB⟩ := Bk.new (P := Wa) (Q := Hd) (cap := c1) F1.out (o1.more (by have := F0.out.r.lt; omega)) hS0
    have HB := Lib.hid hB
    have zq := F1.out.r.lt
    have q5 : w.heap.size + 1 < w1.heap.size := by omega
    have q6 : ¬ w.heap.size + 1 = w1.heap.size := by omega
    obtain ⟨x0, x1, x2⟩ := HB.out.x.cells
    clear o1 b k0 k1 k2 F0 hB
    obtain ⟨ob, hob⟩ : ∃ x, w1.heap.size = x := ⟨_, rfl⟩
    go_wp2
    rw [hob] at HB
    clear hob x0 x1 x2
    go_loopw [22] (fun i wr => ∃ k : Nat, k ≤ S.length ∧ i = .int .i64 k ∧ Bk w ob g W H a l c Wa Hd (divK pq S k) c1 wr) (fun i _ => S.length - (intOf i).toNat)
    case atStart => exact ⟨0, Nat.zero_le _, rfl, by rw [divK_zero]; exact HB.out⟩
    case round =>
      obtain ⟨k, hk, rfl, hS⟩ := hrel
      clear HB
      have HS := Lib.hid hS
      have hdl := divK_len (pq : Int) S k hk
      obtain ⟨x0, x1, x2⟩ := hS.x.cells
      rw [hdl] at x2
      by_cases hlt : k < S.length
      · have hi : (k : Int) < (S.length : Int) := by omega
        have hi0 : (0 : Int) ≤ (k : Int) := by omega
        have hgt := hS.get (j := k) (by omega)
        rw [divK_get _ _ _ hlt] at hgt
        have hfz := hS.o.frozen k
        have HQ := Lib.hid (C3.out k hlt)
        have HPUT := Lib.hid (fun (W' : World) (h : Bk w ob g W H a l c Wa Hd (divK pq S k) c1 W') => h.put k (S[k] / (pq : Int)))
        rw [divK_step _ _ _ hlt] at HPUT
        generalize S[k] = z at *
        have HSd := Lib.hid hS.drew
        have e9 := E9.out
        have e10 : IntKind.i64.wrap (pq : Int) = (pq : Int) := IntWalk.i64_in _ (by omega)
        clear hS hdl
        go_wp2_with fail
        go_region_law (first
          | (go_simp; go_at_call 44; (with_reducible refine (HQ.out _).mono ?_); rintro e w9 ⟨rfl, rfl⟩))
        all_goals
          go_wp2
          go_roundw
          case rel => exact ⟨k + 1, by omega, by go_num, HPUT.out _ HSd.out⟩
          case measure => simp [intOf]; omega
      · obtain rfl : k = S.length := by omega
        have hal := divK_all (pq : Int) S
        rw [hal] at hS
        obtain ⟨r0, r1, r2⟩ := hS.f.r.cells
        have g0 := hS.f.r.frozen 0
        have g1 := hS.f.r.frozen 1
        have g2 := hS.f.r.frozen 2
        have q7 : ¬ w.heap.size + 1 = ob := by have := hS.n; omega
        have q8 : ¬ ob = w.heap.size + 1 := by omega
        have HSe := Lib.hid hS
        clear hS HS hal hdl
        go_wp2
        refine bodyPost_ret (v := .tuple #[.agg #[.int .i64 Wa, .int .i64 Hd, .slice (some ⟨g, 0, none⟩) (S.map (· / (pq : Int))).length c1], .bool true]) (by simp [results, Try.results19, go_sem, r0, r1, r2]) rfl ?_
        exact HSe.out.ret2 rfl (.inr rfl) _ _ _
end Go.Proofs.Ytccplndimdmjpaa
