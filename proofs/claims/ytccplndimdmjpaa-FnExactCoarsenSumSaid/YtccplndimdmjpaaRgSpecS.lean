/- The model's CoarsenSum and CoarsenMean. -/
import Derived.Test.YtccplndimdmjpaaRgSpecB
import Derived.Test.YtccplndimdmjpaaRgDiv
namespace Go.Proofs.Ytccplndimdmjpaa
open Go.RowKit
set_option linter.unusedVariables false
set_option linter.unusedSimpArgs false
/-- a function of one field without a result's box -/
structure Fb1 (w : World) (wd0 hg0 : Int) (a0 : Option Addr) (l0 : List Int) (c0 : Nat) (w' : World) : Prop where
  b : Below w.heap.size w w'
  i0 : Ints .i64 w' w'.heap.size a0 l0
  k0 : Box w' (w.heap.size) 29 (.int .i64 wd0) (.int .i64 hg0) (.slice a0 l0.length c0)
theorem Fb1.new {w : World} {wd0 hg0 : Int} {a0 : Option Addr} {l0 : List Int} {c0 : Nat} (h0 : Ints .i64 w w.heap.size a0 l0) : Fb1 w wd0 hg0 a0 l0 c0 (w.alloc (.cells #[.int .i64 wd0, .int .i64 hg0, .slice a0 l0.length c0] 29)) := ⟨below_all _ _, ints_alloc h0 _, Box.new _ _ _ _ _⟩
theorem Fb1.step {w w1 w2 : World} {wd0 hg0 : Int} {a0 : Option Addr} {l0 : List Int} {c0 : Nat} (h : Fb1 w wd0 hg0 a0 l0 c0 w1) (b : Below w1.heap.size w1 w2) : Fb1 w wd0 hg0 a0 l0 c0 w2 := ⟨below_then h.b b, ints_below h.i0 b, h.k0.below b⟩
set_option maxHeartbeats 2000000 in
theorem specDiv_is (wd hg : Int) (a : Option Addr) (l : List Int) (c : Nat) (p q : Int) (v : Bool) (w : World) (hl : Ints .i64 w w.heap.size a l) (hn : l.length ≤ 1048576) (h : divB wd hg l p q = v) :
    Calls Try.prog 34 #[.agg #[.int .i64 wd, .int .i64 hg, .slice a l.length c], .int .i64 p, .int .i64 q] w fun e w' => e = .returned (.bool v) ∧ Below w.heap.size w w' := by
  have F0 := Lib.hid (Fb1.new (wd0 := wd) (hg0 := hg) (c0 := c) hl)
  clear hl
  cases hf : fullB wd hg l with
  | false =>
    obtain rfl : v = false := by rw [← h]; exact divB_not (fun h9 => by rw [hf] at h9; exact absurd h9.1 (by simp))
    have C1 := Lib.hid (fun W h => specFull_is wd hg a l c false W h hn hf)
    clear h hf
    go_enter Try.func34, Try.ntmps34
    obtain ⟨k0, k1, k2⟩ := F0.out.k0.cells
    go_wp2_with fail
    refine (C1.out _ F0.out.i0).mono ?_
    rintro e w1 ⟨rfl, b⟩
    have F1 := Lib.hid (F0.out.step b)
    clear b k0 k1 k2 F0
    obtain ⟨k0, k1, k2⟩ := F1.out.k0.cells
    go_wp2
    go_ret
    exact ⟨rfl, F1.out.b⟩
  | true =>
    have C1 := Lib.hid (fun W h => specFull_is wd hg a l c true W h hn hf)
    obtain ⟨⟨w1, w2⟩, g1, g2⟩ := shapeB_iff.1 (good_shape (full_good hf))
    cases h1 : (decide (1 ≤ p) && decide (p ≤ wd)) with
    | false =>
      obtain rfl : v = false := by rw [← h]; exact divB_not (fun h9 => by have := le_of_mod w1 h9.2.1.1 h9.2.1.2; have := h9.2.1.1; simp at h1; omega)
      have C2 := Lib.hid (fun W => l1In_is p 1 wd false W h1)
      clear h hf h1
      go_enter Try.func34, Try.ntmps34
      obtain ⟨k0, k1, k2⟩ := F0.out.k0.cells
      go_wp2_with fail
      refine (C1.out _ F0.out.i0).mono ?_
      rintro e w1 ⟨rfl, b⟩
      have F1 := Lib.hid (F0.out.step b)
      clear b k0 k1 k2 F0
      obtain ⟨k0, k1, k2⟩ := F1.out.k0.cells
      go_wp2_with fail
      refine (C2.out _).mono ?_
      rintro e w9 ⟨rfl, rfl⟩
      clear k0 k1 k2
      obtain ⟨k0, k1, k2⟩ := F1.out.k0.cells
      go_wp2
      go_ret
      exact ⟨rfl, F1.out.b⟩
    | true =>
      have C2 := Lib.hid (fun W => l1In_is p 1 wd true W h1)
      cases h2 : (decide (1 ≤ q) && decide (q ≤ hg)) with
      | false =>
        obtain rfl : v = false := by rw [← h]; exact divB_not (fun h9 => by have := le_of_mod g1 h9.2.2.1 h9.2.2.2; have := h9.2.2.1; simp at h2; omega)
        have C3 := Lib.hid (fun W => l1In_is q 1 hg false W h2)
        clear h hf h1 h2
        go_enter Try.func34, Try.ntmps34
        obtain ⟨k0, k1, k2⟩ := F0.out.k0.cells
        go_wp2_with fail
        refine (C1.out _ F0.out.i0).mono ?_
        rintro e w1 ⟨rfl, b⟩
        have F1 := Lib.hid (F0.out.step b)
        clear b k0 k1 k2 F0
        obtain ⟨k0, k1, k2⟩ := F1.out.k0.cells
        go_wp2_with fail
        refine (C2.out _).mono ?_
        rintro e w9 ⟨rfl, rfl⟩
        clear k0 k1 k2
        obtain ⟨k0, k1, k2⟩ := F1.out.k0.cells
        go_wp2_with fail
        refine (C3.out _).mono ?_
        rintro e w9 ⟨rfl, rfl⟩
        clear k0 k1 k2
        obtain ⟨k0, k1, k2⟩ := F1.out.k0.cells
        go_wp2
        go_ret
        exact ⟨rfl, F1.out.b⟩
      | true =>
        have C3 := Lib.hid (fun W => l1In_is q 1 hg true W h2)
        simp only [Bool.and_eq_true, decide_eq_true_eq] at h1 h2
        obtain ⟨p1, p2⟩ := h1
        obtain ⟨q1, q2⟩ := h2
        have t1 : wd.tmod p = wd % p := Int.tmod_eq_emod_of_nonneg (by omega)
        have t2 : hg.tmod q = hg % q := Int.tmod_eq_emod_of_nonneg (by omega)
        by_cases m1 : wd % p = 0
        · by_cases m2 : hg % q = 0
          · obtain rfl : v = true := by rw [← h]; exact divB_iff.2 ⟨hf, ⟨p1, m1⟩, q1, m2⟩
            have x1 : (wd % p == 0) = true := by simp [m1]
            have x2 : (hg % q == 0) = true := by simp [m2]
            clear m1 m2
            clear h hf
            go_enter Try.func34, Try.ntmps34
            obtain ⟨k0, k1, k2⟩ := F0.out.k0.cells
            go_wp2_with fail
            refine (C1.out _ F0.out.i0).mono ?_
            rintro e w1 ⟨rfl, b⟩
            have F1 := Lib.hid (F0.out.step b)
            clear b k0 k1 k2 F0
            obtain ⟨k0, k1, k2⟩ := F1.out.k0.cells
            go_wp2_with fail
            refine (C2.out _).mono ?_
            rintro e w9 ⟨rfl, rfl⟩
            clear k0 k1 k2
            obtain ⟨k0, k1, k2⟩ := F1.out.k0.cells
            go_wp2_with fail
            refine (C3.out _).mono ?_
            rintro e w9 ⟨rfl, rfl⟩
            clear k0 k1 k2
            obtain ⟨k0, k1, k2⟩ := F1.out.k0.cells
            go_wp2
            go_ret
            exact ⟨rfl, F1.out.b⟩
          · obtain rfl : v = false := by rw [← h]; exact divB_not (fun h9 => m2 h9.2.2.2)
            have x1 : (wd % p == 0) = true := by simp [m1]
            have x2 : (hg % q == 0) = false := by simp [m2]
            clear m1 m2
            clear h hf
            go_enter Try.func34, Try.ntmps34
            obtain ⟨k0, k1, k2⟩ := F0.out.k0.cells
            go_wp2_with fail
            refine (C1.out _ F0.out.i0).mono ?_
            rintro e w1 ⟨rfl, b⟩
            have F1 := Lib.hid (F0.out.step b)
            clear b k0 k1 k2 F0
            obtain ⟨k0, k1, k2⟩ := F1.out.k0.cells
            go_wp2_with fail
            refine (C2.out _).mono ?_
            rintro e w9 ⟨rfl, rfl⟩
            clear k0 k1 k2
            obtain ⟨k0, k1, k2⟩ := F1.out.k0.cells
            go_wp2_with fail
            refine (C3.out _).mono ?_
            rintro e w9 ⟨rfl, rfl⟩
            clear k0 k1 k2
            obtain ⟨k0, k1, k2⟩ := F1.out.k0.cells
            go_wp2
            go_ret
            exact ⟨rfl, F1.out.b⟩
        · obtain rfl : v = false := by rw [← h]; exact divB_not (fun h9 => m1 h9.2.1.2)
          have x1 : (wd % p == 0) = false := by simp [m1]
          clear m1
          clear h hf
          go_enter Try.func34, Try.ntmps34
          obtain ⟨k0, k1, k2⟩ := F0.out.k0.cells
          go_wp2_with fail
          refine (C1.out _ F0.out.i0).mono ?_
          rintro e w1 ⟨rfl, b⟩
          have F1 := Lib.hid (F0.out.step b)
          clear b k0 k1 k2 F0
          obtain ⟨k0, k1, k2⟩ := F1.out.k0.cells
          go_wp2_with fail
          refine (C2.out _).mono ?_
          rintro e w9 ⟨rfl, rfl⟩
          clear k0 k1 k2
          obtain ⟨k0, k1, k2⟩ := F1.out.k0.cells
          go_wp2_with fail
          refine (C3.out _).mono ?_
          rintro e w9 ⟨rfl, rfl⟩
          clear k0 k1 k2
          obtain ⟨k0, k1, k2⟩ := F1.out.k0.cells
          go_wp2
          go_ret
          exact ⟨rfl, F1.out.b⟩
set_option maxRecDepth 100000 in
set_option maxHeartbeats 2000000 in
theorem specSum_any (wd hg : Int) (a : Option Addr) (l : List Int) (c : Nat) (p q : Int) (w : World) (hl : Ints .i64 w w.heap.size a l) (hn : l.length ≤ 1048576) :
    Calls Try.prog 12 #[.agg #[.int .i64 wd, .int .i64 hg, .slice a l.length c], .int .i64 p, .int .i64 q] w (FRet (sumR wd hg l p q) w) := by
  have F0 := Lib.hid (Fr1.new (wd0 := wd) (hg0 := hg) (c0 := c) hl)
  cases hd : divB wd hg l p q with
  | false =>
    rw [sumR_no hd]
    have C1 := Lib.hid (fun W h => specDiv_is wd hg a l c p q false W h hn hd)
    clear hd hl
    go_enter Try.func12, Try.ntmps12
    obtain ⟨k0, k1, k2⟩ := F0.out.k0.cells
    go_wp2_with fail
    refine (C1.out _ F0.out.i0).mono ?_
    rintro e w1 ⟨rfl, b⟩
    have F1 := Lib.hid (F0.out.step b)
    clear b k0 k1 k2 F0
    obtain ⟨r0, r1, r2⟩ := F1.out.r.cells
    have g0 := F1.out.r.frozen 0
    have g1 := F1.out.r.frozen 1
    have g2 := F1.out.r.frozen 2
    go_wp2
    refine bodyPost_ret (v := .tuple #[.agg #[.int .i64 0, .int .i64 0, .slice none 0 0], .bool false]) (by simp [results, Try.results12, go_sem, r0, r1, r2]) rfl ⟨none, 0, rfl, OwnI.none_, ?_⟩
    first | exact F1.out.b | exact ((F1.out.b.setCell (by show w.heap.size ≤ w.heap.size + 1; omega) _).setCell (by show w.heap.size ≤ w.heap.size + 1; omega) _).setCell (by show w.heap.size ≤ w.heap.size + 1; omega) _
  | true =>
    rw [sumR_yes hd]
    have C1 := Lib.hid (fun W h => specDiv_is wd hg a l c p q true W h hn hd)
    obtain ⟨W, H, P, Q, rfl, rfl, rfl, rfl, n1, n2, n3, n4, p1, p2, q1, q2, dP, dQ, hln⟩ := div_nat hd
    obtain ⟨Wa, hWa⟩ : ∃ x, W / P = x := ⟨_, rfl⟩
    obtain ⟨Hd, hHd⟩ : ∃ x, H / Q = x := ⟨_, rfl⟩
    have hB := full_cell (divB_iff.1 hd).1
    have C2 := Lib.hid (fun W' h => specBlocks_any W H P Q Wa Hd a l c W' h n1 n2 n3 n4 p1 p2 q1 q2 dP dQ hln hB hWa hHd)
    have wa1 : 1 ≤ Wa := by rw [← hWa]; exact Nat.div_pos p2 (by omega)
    have hd1 : 1 ≤ Hd := by rw [← hHd]; exact Nat.div_pos q2 (by omega)
    have hP1 : 1 ≤ Wa * Hd := Nat.mul_le_mul wa1 hd1
    have hSL : (blkL W H P Q l).length = Wa * Hd := by rw [blkL_len, hWa, hHd]
    have hS64 : (blkL W H P Q l).length ≤ 64 := by rw [blkL_len]; exact blk_le n2 n4
    have hSB : ∀ z ∈ blkL W H P Q l, -576000 ≤ z ∧ z ≤ 576000 := fun z hz => by
      have h1 := accK_bd (blkI W P Q) (W / P * (H / Q)) hB (W * H) z hz
      have h2 : W * H ≤ 64 := Nat.mul_le_mul n2 n4
      omega
    have e1 : (W : Int) / (P : Int) = (Wa : Int) := by rw [nat_ediv, hWa]
    have e2 : (H : Int) / (Q : Int) = (Hd : Int) := by rw [nat_ediv, hHd]
    rw [e1, e2]
    simp only [Int.toNat_natCast]
    generalize blkL W H P Q l = S at *
    have hS0 : 0 < S.length := by omega
    clear hSL hd hl e1 e2 hB dP dQ hln hWa hHd

    cases hf : fullB Wa Hd S with
    | false =>
      rw [wholeR_no hf]
      have C3 := Lib.hid (fun W' a c h => specFull_is (Wa : Int) (Hd : Int) a S c false W' h (by omega) hf)
      clear hf
      go_enter Try.func12, Try.ntmps12
      obtain ⟨k0, k1, k2⟩ := F0.out.k0.cells
      go_wp2_with fail
      refine (C1.out _ F0.out.i0).mono ?_
      rintro e w1 ⟨rfl, b⟩
      have F1 := Lib.hid (F0.out.step b)
      clear b k0 k1 k2 F0
      obtain ⟨k0, k1, k2⟩ := F1.out.k0.cells
      go_wp2_with fail
      refine (C2.out _ F1.out.i0).mono ?_
      rintro e w2 ⟨a2, c2, rfl, o2, b2⟩
      have F2 := Lib.hid (F1.out.step b2)
      obtain ⟨g, rfl, hB⟩ := Bk.new (P := Wa) (Q := Hd) (cap := c2) F2.out (o2.more (by have := F1.out.r.lt; omega)) hS0
      have HB := Lib.hid hB
      have zq := F2.out.r.lt
      clear o2 b2 k0 k1 k2 F1 hB
      obtain ⟨x0, x1, x2⟩ := HB.out.x.cells
      go_wp2_with fail
      refine (C3.out _ _ _ (HB.out.own.ints)).mono ?_
      rintro e w3 ⟨rfl, b3⟩
      have HB3 := Lib.hid (HB.out.step b3)
      clear b3 HB F2 x0 x1 x2
      have F3 := Lib.hid HB3.out.f
      obtain ⟨r0, r1, r2⟩ := F3.out.r.cells
      have g0 := F3.out.r.frozen 0
      have g1 := F3.out.r.frozen 1
      have g2 := F3.out.r.frozen 2
      go_wp2
      refine bodyPost_ret (v := .tuple #[.agg #[.int .i64 0, .int .i64 0, .slice none 0 0], .bool false]) (by simp [results, Try.results12, go_sem, r0, r1, r2]) rfl ⟨none, 0, rfl, OwnI.none_, ?_⟩
      first | exact F3.out.b | exact ((F3.out.b.setCell (by show w.heap.size ≤ w.heap.size + 1; omega) _).setCell (by show w.heap.size ≤ w.heap.size + 1; omega) _).setCell (by show w.heap.size ≤ w.heap.size + 1; omega) _
    | true =>
      rw [wholeR_yes hf]
      have C3 := Lib.hid (fun W' a c h => specFull_is (Wa : Int) (Hd : Int) a S c true W' h (by omega) hf)
      clear hf
      go_enter Try.func12, Try.ntmps12
      obtain ⟨k0, k1, k2⟩ := F0.out.k0.cells
      go_wp2_with fail
      refine (C1.out _ F0.out.i0).mono ?_
      rintro e w1 ⟨rfl, b⟩
      have F1 := Lib.hid (F0.out.step b)
      clear b k0 k1 k2 F0
      obtain ⟨k0, k1, k2⟩ := F1.out.k0.cells
      go_wp2_with fail
      refine (C2.out _ F1.out.i0).mono ?_
      rintro e w2 ⟨a2, c2, rfl, o2, b2⟩
      have F2 := Lib.hid (F1.out.step b2)
      obtain ⟨g, rfl, hB⟩ := Bk.new (P := Wa) (Q := Hd) (cap := c2) F2.out (o2.more (by have := F1.out.r.lt; omega)) hS0
      have HB := Lib.hid hB
      have zq := F2.out.r.lt
      clear o2 b2 k0 k1 k2 F1 hB
      obtain ⟨x0, x1, x2⟩ := HB.out.x.cells
      go_wp2_with fail
      refine (C3.out _ _ _ (HB.out.own.ints)).mono ?_
      rintro e w3 ⟨rfl, b3⟩
      have HB3 := Lib.hid (HB.out.step b3)
      clear b3 HB F2 x0 x1 x2
      obtain ⟨x0, x1, x2⟩ := HB3.out.x.cells
      have F3 := Lib.hid HB3.out.f
      obtain ⟨r0, r1, r2⟩ := F3.out.r.cells
      have g0 := F3.out.r.frozen 0
      have g1 := F3.out.r.frozen 1
      have g2 := F3.out.r.frozen 2
      go_wp2
      refine bodyPost_ret (v := .tuple #[.agg #[.int .i64 Wa, .int .i64 Hd, .slice (some ⟨g, 0, none⟩) S.length c2], .bool true]) (by simp [results, Try.results12, go_sem, r0, r1, r2]) rfl ?_
      exact HB3.out.ret2 rfl (.inr rfl) _ _ _

set_option maxRecDepth 100000 in
set_option maxHeartbeats 2000000 in
theorem specMeans_any (wd hg : Int) (a : Option Addr) (l : List Int) (c : Nat) (p q : Int) (w : World) (hl : Ints .i64 w w.heap.size a l) (hn : l.length ≤ 1048576) :
    Calls Try.prog 18 #[.agg #[.int .i64 wd, .int .i64 hg, .slice a l.length c], .int .i64 p, .int .i64 q] w (FRet (meansR wd hg l p q) w) := by
  have F0 := Lib.hid (Fr1.new (wd0 := wd) (hg0 := hg) (c0 := c) hl)
  cases hd : divB wd hg l p q with
  | false =>
    rw [meansR_no hd]
    have C1 := Lib.hid (fun W h => specDiv_is wd hg a l c p q false W h hn hd)
    clear hd hl
    go_enter Try.func18, Try.ntmps18
    obtain ⟨k0, k1, k2⟩ := F0.out.k0.cells
    go_wp2_with fail
    refine (C1.out _ F0.out.i0).mono ?_
    rintro e w1 ⟨rfl, b⟩
    have F1 := Lib.hid (F0.out.step b)
    clear b k0 k1 k2 F0
    obtain ⟨r0, r1, r2⟩ := F1.out.r.cells
    have g0 := F1.out.r.frozen 0
    have g1 := F1.out.r.frozen 1
    have g2 := F1.out.r.frozen 2
    go_wp2
    refine bodyPost_ret (v := .tuple #[.agg #[.int .i64 0, .int .i64 0, .slice none 0 0], .bool false]) (by simp [results, Try.results18, go_sem, r0, r1, r2]) rfl ⟨none, 0, rfl, OwnI.none_, ?_⟩
    first | exact F1.out.b | exact ((F1.out.b.setCell (by show w.heap.size ≤ w.heap.size + 1; omega) _).setCell (by show w.heap.size ≤ w.heap.size + 1; omega) _).setCell (by show w.heap.size ≤ w.heap.size + 1; omega) _
  | true =>
    rw [meansR_yes hd]
    have C1 := Lib.hid (fun W h => specDiv_is wd hg a l c p q true W h hn hd)
    obtain ⟨W, H, P, Q, rfl, rfl, rfl, rfl, n1, n2, n3, n4, p1, p2, q1, q2, dP, dQ, hln⟩ := div_nat hd
    obtain ⟨Wa, hWa⟩ : ∃ x, W / P = x := ⟨_, rfl⟩
    obtain ⟨Hd, hHd⟩ : ∃ x, H / Q = x := ⟨_, rfl⟩
    have hB := full_cell (divB_iff.1 hd).1
    have C2 := Lib.hid (fun W' h => specBlocks_any W H P Q Wa Hd a l c W' h n1 n2 n3 n4 p1 p2 q1 q2 dP dQ hln hB hWa hHd)
    have wa1 : 1 ≤ Wa := by rw [← hWa]; exact Nat.div_pos p2 (by omega)
    have hd1 : 1 ≤ Hd := by rw [← hHd]; exact Nat.div_pos q2 (by omega)
    have hP1 : 1 ≤ Wa * Hd := Nat.mul_le_mul wa1 hd1
    have hSL : (blkL W H P Q l).length = Wa * Hd := by rw [blkL_len, hWa, hHd]
    have hS64 : (blkL W H P Q l).length ≤ 64 := by rw [blkL_len]; exact blk_le n2 n4
    have hSB : ∀ z ∈ blkL W H P Q l, -576000 ≤ z ∧ z ≤ 576000 := fun z hz => by
      have h1 := accK_bd (blkI W P Q) (W / P * (H / Q)) hB (W * H) z hz
      have h2 : W * H ≤ 64 := Nat.mul_le_mul n2 n4
      omega
    have e1 : (W : Int) / (P : Int) = (Wa : Int) := by rw [nat_ediv, hWa]
    have e2 : (H : Int) / (Q : Int) = (Hd : Int) := by rw [nat_ediv, hHd]
    rw [e1, e2]
    simp only [Int.toNat_natCast]
    generalize blkL W H P Q l = S at *
    have hS0 : 0 < S.length := by omega
    clear hSL hd hl e1 e2 hB dP dQ hln hWa hHd

    have C3 := Lib.hid (fun (k : Nat) (hk : k < S.length) W' => floorW_is S[k] ((P : Int) * (Q : Int)) W' (by have := hSB _ (List.getElem_mem hk); omega) (by have := hSB _ (List.getElem_mem hk); omega) (by have : 1 * 1 ≤ P * Q := Nat.mul_le_mul p1 q1; rw [← Int.natCast_mul]; omega) (by have : P * Q ≤ 8 * 8 := Nat.mul_le_mul (by omega) (by omega); rw [← Int.natCast_mul]; omega))
    obtain ⟨pq, hpq⟩ : ∃ x : Nat, P * Q = x := ⟨_, rfl⟩
    have pq1 : 1 ≤ pq := by rw [← hpq]; exact Nat.mul_le_mul p1 q1
    have pq2 : pq ≤ 64 := by rw [← hpq]; exact Nat.mul_le_mul (by omega : P ≤ 8) (by omega : Q ≤ 8)
    have E9 := Lib.hid (show (P : Int) * (Q : Int) = (pq : Int) by rw [← hpq]; push_cast; rfl)
    rw [E9.out] at C3 ⊢
    clear hpq
    go_enter Try.func18, Try.ntmps18
    obtain ⟨k0, k1, k2⟩ := F0.out.k0.cells
    go_wp2_with fail
    refine (C1.out _ F0.out.i0).mono ?_
    rintro e w1 ⟨rfl, b⟩
    have F1 := Lib.hid (F0.out.step b)
    clear b k0 k1 k2 F0
    obtain ⟨k0, k1, k2⟩ := F1.out.k0.cells
    go_wp2_with fail
    refine (C2.out _ F1.out.i0).mono ?_
    rintro e w2 ⟨a2, c2, rfl, o2, b2⟩
    have F2 := Lib.hid (F1.out.step b2)
    obtain ⟨g, rfl, hB⟩ := Bk.new (P := Wa) (Q := Hd) (cap := c2) F2.out (o2.more (by have := F1.out.r.lt; omega)) hS0
    have HB := Lib.hid hB
    have zq := F2.out.r.lt
    obtain ⟨ob, hob⟩ : ∃ x, w2.heap.size = x := ⟨_, rfl⟩
    clear o2 b2 k0 k1 k2 F1 hB
    go_wp2
    rw [hob] at HB
    clear hob
    go_loopw [9] (fun i wr => ∃ k : Nat, k ≤ S.length ∧ i = .int .i64 k ∧ Bk w ob g W H a l c Wa Hd (divK pq S k) c2 wr) (fun i _ => S.length - (intOf i).toNat)
    case atStart => exact ⟨0, Nat.zero_le _, rfl, by rw [divK_zero]; exact HB.out⟩
    case round =>
      obtain ⟨k, hk, rfl, hS⟩ := hrel
      clear HB
      have HS := Lib.hid hS
      have hdl := divK_len (pq : Int) S k hk
      obtain ⟨x0, x1, x2⟩ := hS.x.cells
      rw [hdl] at x2
      by_cases hlt : k < S.length
      · have hi : (k : Int) < (S.length : Int) := by omega
        have hi0 : (0 : Int) ≤ (k : Int) := by omega
        have hgt := hS.get (j := k) (by omega)
        rw [divK_get _ _ _ hlt] at hgt
        have hfz := hS.o.frozen k
        have HQ := Lib.hid (C3.out k hlt)
        have HPUT := Lib.hid (fun (W' : World) (h : Bk w ob g W H a l c Wa Hd (divK pq S k) c2 W') => h.put k (S[k] / (pq : Int)))
        rw [divK_step _ _ _ hlt] at HPUT
        generalize S[k] = z at *
        have HSd := Lib.hid hS.drew
        have e9 := E9.out
        have e10 : IntKind.i64.wrap (pq : Int) = (pq : Int) := IntWalk.i64_in _ (by omega)
        clear hS hdl
        go_wp2_with fail
        go_region_law (first
          | (go_simp; go_at_call 43; (with_reducible refine (HQ.out _).mono ?_); rintro e w9 ⟨rfl, rfl⟩))
        all_goals
          go_wp2
          go_roundw
          case rel => exact ⟨k + 1, by omega, by go_num, HPUT.out _ HSd.out⟩
          case measure => simp [intOf]; omega
      · obtain rfl : k = S.length := by omega
        have hal := divK_all (pq : Int) S
        rw [hal] at hS
        obtain ⟨r0, r1, r2⟩ := hS.f.r.cells
        have g0 := hS.f.r.frozen 0
        have g1 := hS.f.r.frozen 1
        have g2 := hS.f.r.frozen 2
        have q7 : ¬ w.heap.size + 1 = ob := by have := hS.n; omega
        have q8 : ¬ ob = w.heap.size + 1 := by omega
        have HSe := Lib.hid hS
        have hml : (S.map (· / (pq : Int))).length = S.length := List.length_map _
        have HML := Lib.hid hml
        clear hS HS hal hdl hml
        go_wp2
        refine bodyPost_ret (v := .tuple #[.agg #[.int .i64 Wa, .int .i64 Hd, .slice (some ⟨g, 0, none⟩) (S.map (· / (pq : Int))).length c2], .bool true]) (by simp [results, Try.results18, go_sem, r0, r1, r2]) rfl ?_
        exact HSe.out.ret2 rfl (.inr rfl) _ _ _

end Go.Proofs.Ytccplndimdmjpaa
