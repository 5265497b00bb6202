/- The program's AddCase. -/
import Derived.Test.YtjpiiidjocilcaaAddCM
import Derived.Test.YtjpiiidjocilcaaAddI
namespace Go.Proofs.Ytjpiiidjocilcaa
open Go.RowKit
set_option linter.unusedVariables false
set_option linter.unusedSimpArgs false
theorem ac_is {l r : List Int} {k : Int} {h : Bool} (hc : clsB k = true) : acP l r k h = adP l r (oneK k) (hitK k h) ∧ acQ l r k h = adQ l r (oneK k) (hitK k h) ∧ acB l r k h = adB l r (oneK k) (hitK k h) := by
  unfold acP acQ acB
  rw [if_pos hc, if_pos hc, hc]
  exact ⟨rfl, rfl, rfl⟩
theorem geR_made {w : World} {g : Nat} (h : w.heap[g]? = some (.cells (madeCells #[.int .i64 0] 11) 3 (0, 0))) : GeR w g zero11 := by
  refine ⟨_, h, fun k hk => ?_⟩
  have hk1 : k < zero11.length := by rw [iv_length] at hk; exact hk
  have hk2 : k < 11 := by rw [zero_len] at hk1; exact hk1
  have e : (iv zero11)[k] = .int .i64 0 := (iv_get zero11 k hk).trans (congrArg (Value.int .i64) (zero_at hk1))
  refine Eq.trans ?_ (congrArg some e.symm)
  simp [madeCells, hk2, Nat.mod_one]
theorem heap3 (W : World) (o1 o2 o3 : Obj) : (((W.alloc o1).alloc o2).alloc o3).drew.heap[W.heap.size]? = some o1 ∧ (((W.alloc o1).alloc o2).alloc o3).drew.heap[W.heap.size + 1]? = some o2 ∧ (((W.alloc o1).alloc o2).alloc o3).drew.heap[W.heap.size + 1 + 1]? = some o3 ∧ Below W.heap.size W (((W.alloc o1).alloc o2).alloc o3).drew := by
  refine ⟨?_, ?_, ?_, ((((Below.refl _ _).alloc (Nat.le_refl _) _).alloc (by simp) _).alloc (by simp; omega) _).drew⟩
  · show (((W.alloc o1).alloc o2).alloc o3).heap[W.heap.size]? = some o1
    rw [Below.heap_alloc _ _ _ (by simp; omega), Below.heap_alloc _ _ _ (by simp)]
    exact heap_alloc_new W o1
  · show (((W.alloc o1).alloc o2).alloc o3).heap[W.heap.size + 1]? = some o2
    rw [Below.heap_alloc _ _ _ (by simp)]
    have h := heap_alloc_new (W.alloc o1) o2
    rw [World.size_alloc] at h
    exact h
  · show (((W.alloc o1).alloc o2).alloc o3).heap[W.heap.size + 1 + 1]? = some o3
    have h := heap_alloc_new ((W.alloc o1).alloc o2) o3
    rw [World.size_alloc, World.size_alloc] at h
    exact h
set_option maxRecDepth 100000 in
set_option maxHeartbeats 8000000 in
theorem implAddC_any (a b : Option Addr) (l r : List Int) (c d : Nat) (k : Int) (hit : Bool) (w : World) (hl : Ints .i64 w w.heap.size a l) (hr : Ints .i64 w w.heap.size b r) :
    Calls Try.prog 19 #[.agg #[.slice a l.length c, .slice b r.length d], .int .i64 k, .bool hit] w (TRet (acP l r k hit) (acQ l r k hit) (acB l r k hit) w) := by
  have hW0 : ∀ o1 o2, Below w.heap.size w ((w.alloc o1).alloc o2) := fun o1 o2 => ((Below.refl _ _).alloc (Nat.le_refl _) _).alloc (by simp) _
  have B0 := Lib.hid (hW0 (.cells #[.slice a l.length c, .slice b r.length d] 27) (.cells #[.slice none 0 0, .slice none 0 0] 27))
  have hs0 : ((w.alloc (.cells #[.slice a l.length c, .slice b r.length d] 27)).alloc (.cells #[.slice none 0 0, .slice none 0 0] 27)).heap.size = w.heap.size + 2 := by simp
  have X1 := Lib.hid ((Box2.new w 27 (.slice a l.length c) (.slice b r.length d)).alloc (.cells #[.slice none 0 0, .slice none 0 0] 27))
  have x3 := Box2.new (w.alloc (.cells #[.slice a l.length c, .slice b r.length d] 27)) 27 (.slice none 0 0) (.slice none 0 0)
  rw [World.size_alloc] at x3
  have X3 := Lib.hid x3
  have HCL := Lib.hid (fun W => implClass_any k W)
  have HS0 := Lib.hid hs0
  have HL := Lib.hid hl
  have HR := Lib.hid hr
  clear hl hr hW0 hs0 x3
  cases hc : clsB k with
  | false =>
    have eB : acB l r k hit = false := by unfold acB; rw [hc]; rfl
    rw [(ac_no eB).1, (ac_no eB).2, eB]
    rw [hc] at HCL
    clear hc eB
    go_enter Try.func19, Try.ntmps19
    go_wp2_with fail
    generalize (w.alloc (.cells #[.slice a l.length c, .slice b r.length d] 27)).alloc (.cells #[.slice none 0 0, .slice none 0 0] 27) = W0 at *
    refine (HCL.out _).mono ?_
    rintro e w1 ⟨rfl, rfl⟩
    obtain ⟨t0, t1⟩ := X3.out.cells
    have f0 := X3.out.frozen 0
    have f1 := X3.out.frozen 1
    have z4 := X3.out.lt
    go_wp2
    refine bodyPost_ret (v := .tuple #[.agg #[.slice none 0 0, .slice none 0 0], .bool false]) (by simp [results, Try.results19, go_sem, t0, t1, f0, f1, z4]) rfl (tret_no ?_ ?_)
    · simp only [World.size_setCell]; have := HS0.out; omega
    · exact (B0.out.setCell (by simp) _).setCell (by simp) _
  | true =>
    rw [hc] at HCL
    have ik := cls_in hc
    obtain ⟨n, rfl⟩ := Int.eq_ofNat_of_zero_le ik.1
    have hi : (n : Int) < 11 := by omega
    have hi0 : (0 : Int) ≤ (n : Int) := by omega
    have hn11 : n < 11 := by omega
    have HAD := Lib.hid (fun (W : World) (g h : Nat) (G : Below w.heap.size w W) (hg : GeR W g (oneK (n : Int))) (hh : GeR W h (hitK (n : Int) hit)) => implAddT_any a b (some ⟨g, 0, none⟩) (some ⟨h, 0, none⟩) l r (oneK (n : Int)) (hitK (n : Int) hit) c d 11 11 W ((HL.out.below G (Nat.le_refl _)).more G.size) ((HR.out.below G (Nat.le_refl _)).more G.size) (GeR.ints hg) (GeR.ints hh))
    rw [one_len, hit_len] at HAD
    rw [(ac_is hc).1, (ac_is hc).2.1, (ac_is hc).2.2]
    have HON := Lib.hid (show zero11.set n 1 = oneK (n : Int) from rfl)
    have HHT := Lib.hid (show (if hit = true then oneK (n : Int) else zero11) = hitK (n : Int) hit from rfl)
    unfold TRet at HAD
    generalize adP l r (oneK (n : Int)) (hitK (n : Int) hit) = P at *
    generalize adQ l r (oneK (n : Int)) (hitK (n : Int) hit) = Q at *
    generalize adB l r (oneK (n : Int)) (hitK (n : Int) hit) = V at *
    have hmk : ∀ W : World, (Instr.makeSlice 22 (.int .i64 11) (.int .i64 11)).run Try.prog W = .ok (.slice (some ⟨W.heap.size, 0, none⟩) 11 11) (W.alloc (.cells (madeCells #[.int .i64 0] 11) 3)) := fun W => run_make_row' (P := Try.prog) 22 3 (.int .i64 0) 8 Try.underlying22 infoInt rfl .i64 .i64 11 (by omega) (by omega) W
    clear hc ik
    go_enter Try.func19, Try.ntmps19
    go_wp2_with fail
    generalize (w.alloc (.cells #[.slice a l.length c, .slice b r.length d] 27)).alloc (.cells #[.slice none 0 0, .slice none 0 0] 27) = W0 at *
    refine (HCL.out _).mono ?_
    rintro e w1 ⟨rfl, rfl⟩
    go_upto_region 3 with fail
    go_cut [8] (fun p wx => ∃ b8 g h : Nat, p = .pointer (some ⟨b8, 0, none⟩) ∧ Box2 wx b8 27 (.slice (some ⟨g, 0, none⟩) 11 11) (.slice (some ⟨h, 0, none⟩) 11 11) ∧ GeR wx g zero11 ∧ GeR wx h zero11 ∧ g ≠ h ∧ W0.heap.size ≤ g ∧ W0.heap.size ≤ h ∧ W0.heap.size ≤ b8 ∧ Below W0.heap.size W0 wx)
    case first =>
      go_region
      all_goals
        go_wp2
        go_meet
        first
          | exact ⟨_, _, _, rfl, (heap3 W0 _ _ _).1, geR_made (heap3 W0 _ _ _).2.1, geR_made (heap3 W0 _ _ _).2.2.1, by omega, by omega, by omega, by omega, (heap3 W0 _ _ _).2.2.2⟩
          | exact ⟨_, _, _, rfl, (heap3 W0 _ _ _).1, geR_made (heap3 W0 _ _ _).2.2.1, geR_made (heap3 W0 _ _ _).2.1, by omega, by omega, by omega, by omega, (heap3 W0 _ _ _).2.2.2⟩
          | exact ⟨_, _, _, rfl, (heap3 W0 _ _ _).2.1, geR_made (heap3 W0 _ _ _).1, geR_made (heap3 W0 _ _ _).2.2.1, by omega, by omega, by omega, by omega, (heap3 W0 _ _ _).2.2.2⟩
          | exact ⟨_, _, _, rfl, (heap3 W0 _ _ _).2.1, geR_made (heap3 W0 _ _ _).2.2.1, geR_made (heap3 W0 _ _ _).1, by omega, by omega, by omega, by omega, (heap3 W0 _ _ _).2.2.2⟩
          | exact ⟨_, _, _, rfl, (heap3 W0 _ _ _).2.2.1, geR_made (heap3 W0 _ _ _).1, geR_made (heap3 W0 _ _ _).2.1, by omega, by omega, by omega, by omega, (heap3 W0 _ _ _).2.2.2⟩
          | exact ⟨_, _, _, rfl, (heap3 W0 _ _ _).2.2.1, geR_made (heap3 W0 _ _ _).2.1, geR_made (heap3 W0 _ _ _).1, by omega, by omega, by omega, by omega, (heap3 W0 _ _ _).2.2.2⟩
    case rest =>
      obtain ⟨b8, g, h, rfl, x8, g8, h8, hgh, hg1, hh1, hb1, hD⟩ := hcut
      have n1 : ¬ g = h := hgh
      have n2 : ¬ h = g := fun e => hgh e.symm
      have m1 : ¬ g = b8 := far2 g8 x8
      have m2 : ¬ h = b8 := far2 h8 x8
      have m3 : ¬ b8 = g := fun e => m1 e.symm
      have m4 : ¬ b8 = h := fun e => m2 e.symm
      have X8 := Lib.hid x8
      have G8 := Lib.hid g8
      have H8 := Lib.hid h8
      have DD := Lib.hid hD
      obtain ⟨y0, y1⟩ := x8.cells
      have lb := x8.lt
      have lg := Row.lt g8
      have lh := Row.lt h8
      have fg := Row.frozen g8 n
      have fh := Row.frozen h8 n
      have c1 := Row.cell (k := n) g8 (by rw [iv_length, zero_len]; exact hn11)
      have c3 := Row.cell (k := n) h8 (by rw [iv_length, zero_len]; exact hn11)
      rw [iv_get] at c1 c3
      have hs0 := HS0.out
      have k1 : ¬ w.heap.size = g := by omega
      have k2 : ¬ w.heap.size = h := by omega
      have k3 : ¬ g = w.heap.size := by omega
      have k4 : ¬ h = w.heap.size := by omega
      obtain ⟨v0, v1⟩ := (X1.out.below hD).cells
      clear x8 g8 h8 hD hmk
      cases hit with
      | false =>
        have G9 := Lib.hid (show GeR (wc.setCell ⟨g, n, none⟩ (.int .i64 1)) g (oneK (n : Int)) by
          rw [← HON.out]
          exact G8.out.put n 1)
        have H9 := Lib.hid (show GeR (wc.setCell ⟨g, n, none⟩ (.int .i64 1)) h (hitK (n : Int) false) by
          rw [← HHT.out]
          exact H8.out.other n2 _)
        have D9 := Lib.hid (show Below W0.heap.size W0 (wc.setCell ⟨g, n, none⟩ (.int .i64 1)) from DD.out.setCell hg1 _)
        go_wp2_with fail
        generalize (wc.setCell ⟨g, n, none⟩ (.int .i64 1)) = W9 at *
        clear c1 c3 fg fh
        have hoth : W0.heap.size ≤ W9.heap.size := D9.out.size
        refine (HAD.out W9 g h (B0.out.trans (D9.out.mono B0.out.size)) G9.out H9.out).mono ?_
        rintro e w5 ⟨a5, c5, f5, d5, g5, h5, rfl, lo, lp, ne, sz, sy, oa, ob, b5⟩
        have D5 := Lib.hid (D9.out.trans (b5.mono D9.out.size))
        have X5 := Lib.hid (X3.out.below D5.out)
        obtain ⟨t0, t1⟩ := X5.out.cells
        have f0 := X5.out.frozen 0
        have f1 := X5.out.frozen 1
        have z4 := X5.out.lt
        have OA := Lib.hid oa
        have OB := Lib.hid ob
        have m5 : g5 ≠ w.heap.size + 1 := by omega
        have m6 : h5 ≠ w.heap.size + 1 := by omega
        clear b5 oa ob y0 y1 v0 v1
        go_wp2
        refine bodyPost_ret (v := .tuple #[.agg #[.slice a5 P.length c5, .slice f5 Q.length d5], .bool V]) (by simp [results, Try.results19, go_sem, t0, t1, f0, f1, z4]) rfl ⟨a5, c5, f5, d5, g5, h5, rfl, by omega, by omega, ne, by simp only [World.size_setCell]; exact sz, by simp only [World.size_setCell]; exact sy, ?_, ?_, ?_⟩
        · exact (OA.out.other (by simpa using m5) _).other (by simpa using m5) _
        · exact (OB.out.other (by simpa using m6) _).other (by simpa using m6) _
        · exact ((B0.out.trans (D5.out.mono B0.out.size)).setCell (by simp) _).setCell (by simp) _
      | true =>
        have G9 := Lib.hid (show GeR ((wc.setCell ⟨g, n, none⟩ (.int .i64 1)).setCell ⟨h, n, none⟩ (.int .i64 1)) g (oneK (n : Int)) by
          rw [← HON.out]
          exact (G8.out.put n 1).other n1 _)
        have H9 := Lib.hid (show GeR ((wc.setCell ⟨g, n, none⟩ (.int .i64 1)).setCell ⟨h, n, none⟩ (.int .i64 1)) h (hitK (n : Int) true) by
          rw [← HHT.out]
          exact (H8.out.other n2 _).put n 1)
        have D9 := Lib.hid (show Below W0.heap.size W0 ((wc.setCell ⟨g, n, none⟩ (.int .i64 1)).setCell ⟨h, n, none⟩ (.int .i64 1)) from (DD.out.setCell hg1 _).setCell hh1 _)
        go_wp2_with fail
        generalize ((wc.setCell ⟨g, n, none⟩ (.int .i64 1)).setCell ⟨h, n, none⟩ (.int .i64 1)) = W9 at *
        clear c1 c3 fg fh
        have hoth : W0.heap.size ≤ W9.heap.size := D9.out.size
        refine (HAD.out W9 g h (B0.out.trans (D9.out.mono B0.out.size)) G9.out H9.out).mono ?_
        rintro e w5 ⟨a5, c5, f5, d5, g5, h5, rfl, lo, lp, ne, sz, sy, oa, ob, b5⟩
        have D5 := Lib.hid (D9.out.trans (b5.mono D9.out.size))
        have X5 := Lib.hid (X3.out.below D5.out)
        obtain ⟨t0, t1⟩ := X5.out.cells
        have f0 := X5.out.frozen 0
        have f1 := X5.out.frozen 1
        have z4 := X5.out.lt
        have OA := Lib.hid oa
        have OB := Lib.hid ob
        have m5 : g5 ≠ w.heap.size + 1 := by omega
        have m6 : h5 ≠ w.heap.size + 1 := by omega
        clear b5 oa ob y0 y1 v0 v1
        go_wp2
        refine bodyPost_ret (v := .tuple #[.agg #[.slice a5 P.length c5, .slice f5 Q.length d5], .bool V]) (by simp [results, Try.results19, go_sem, t0, t1, f0, f1, z4]) rfl ⟨a5, c5, f5, d5, g5, h5, rfl, by omega, by omega, ne, by simp only [World.size_setCell]; exact sz, by simp only [World.size_setCell]; exact sy, ?_, ?_, ?_⟩
        · exact (OA.out.other (by simpa using m5) _).other (by simpa using m5) _
        · exact (OB.out.other (by simpa using m6) _).other (by simpa using m6) _
        · exact ((B0.out.trans (D5.out.mono B0.out.size)).setCell (by simp) _).setCell (by simp) _
end Go.Proofs.Ytjpiiidjocilcaa
