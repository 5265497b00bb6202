/- The draw of BeaufortOf. -/
import Derived.Test.YtnafnkilmiebiaaDoorDraw4
import Derived.Deep.RegionHeld3
import Derived.Deep.RegionWith
namespace Go.Proofs.YtnafnkilmiebiaaDoor
open Go.RowKit
set_option linter.unusedVariables false
theorem speedL_bd : ∀ z ∈ speedL, 0 ≤ z ∧ z ≤ 327 := by decide

set_option maxRecDepth 100000 in
set_option maxHeartbeats 4000000 in
theorem drawForce_is (w : World) (a : Option Addr) (l : List Int) (c : Nat) (hi : Ints .u8 w w.heap.size a l) (hb : ∀ z ∈ l, 0 ≤ z ∧ z ≤ 255) (hl : l.length ≤ 1048576) :
    Calls Tryd.prog 25 #[.slice a l.length c] w (TwoNums w) := by
  have HC0 := Lib.hid (cur_new w a l c hi hb hl)
  clear hi hb
  go_enter Tryd.func25, Tryd.ntmps25
  go_wp2_with fail
  have hsp : ∀ k (h : k < speedL.length), ((w.alloc (.cells #[.slice a l.length c, .int .i64 0, .int .u64 0] 64)).alloc (.cells (speedL.map (Value.int .i64)).toArray 3)).cell? ⟨w.heap.size + 1, k, none⟩ = some (.int .i64 speedL[k]) := fun k hk => by
    have := lit_ints (w.alloc (.cells #[.slice a l.length c, .int .i64 0, .int .u64 0] 64)) speedL 3 k hk
    rw [World.size_alloc] at this; exact this
  have hz0 : ((w.alloc (.cells #[.slice a l.length c, .int .i64 0, .int .u64 0] 64)).alloc (.cells (speedL.map (Value.int .i64)).toArray 3)).heap.size = w.heap.size + 1 + 1 := by simp
  have HB0 := Lib.hid (show Below w.heap.size w ((w.alloc (.cells #[.slice a l.length c, .int .i64 0, .int .u64 0] 64)).alloc (.cells (speedL.map (Value.int .i64)).toArray 3)) from ((Below.refl w.heap.size w).alloc (Nat.le_refl _) _).alloc (by simp) _)
  have HC00 := Lib.hid (HC0.out.alloc (.cells (speedL.map (Value.int .i64)).toArray 3))
  change Calls _ _ _ (((w.alloc (.cells #[.slice a l.length c, .int .i64 0, .int .u64 0] 64)).alloc (.cells (speedL.map (Value.int .i64)).toArray 3)).alloc (.cells (([4, 5, 6, 4, 1, 9] : List Int).map (Value.int .i64)).toArray 3)) _
  generalize ((w.alloc (.cells #[.slice a l.length c, .int .i64 0, .int .u64 0] 64)).alloc (.cells (speedL.map (Value.int .i64)).toArray 3)) = w0 at *
  have HSP := Lib.hid hsp
  clear hsp HC0
  refine (among_any _ _ a l c 0 (w.heap.size + 1 + 1) 6 [4, 5, 6, 4, 1, 9] (by omega) rfl (by omega) (by omega) (HC00.out.alloc _) (by omega) (by simp; omega) (by intro k hk; have := lit_ints w0 [4, 5, 6, 4, 1, 9] 3 k hk; rw [hz0] at this; exact this) 6).mono ?_
  rintro e w1 ⟨v, ⟨u, hu, rfl⟩, rfl, hc, ho⟩
  have HC1 := Lib.hid hc
  have HB1 := Lib.hid ((HB0.out.alloc HB0.out.size _).trans (ho.below (Nat.le_refl _)))
  have HS1 := Lib.hid (fun k (h : k < speedL.length) => show w1.cell? ⟨w.heap.size + 1, k, none⟩ = some (.int .i64 speedL[k]) from
    (World.cell?_of_block ((ho.1.block (w.heap.size + 1) (by simp; omega) (fun e => by injection e with e; omega)).trans (Below.heap_alloc w0 _ _ (by omega)))).trans (HSP.out k h))
  have hz1 : w.heap.size + 1 < w1.heap.size := by have := ho.1.size; simp at this; omega
  have hu2 : u = 4 ∨ u = 5 ∨ u = 6 ∨ u = 1 ∨ u = 9 := by simp only [List.mem_cons, List.not_mem_nil, or_false] at hu; omega
  clear hc ho hu HSP HC00 HB0
  go_wp2_with fail
  have HC1d := Lib.hid (show CurIs w1.drew w.heap.size a l c 2 from HC1.out)
  have HB1d := Lib.hid (show Below w.heap.size w w1.drew from ⟨HB1.out.os, HB1.out.tape, HB1.out.output, HB1.out.size, HB1.out.block⟩)
  have S1 := Lib.hid (show ∀ k (h : k < speedL.length), w1.drew.cell? ⟨w.heap.size + 1, k, none⟩ = some (.int .i64 speedL[k]) from fun k hk => HS1.out k hk)
  have hzd : w.heap.size + 1 < w1.drew.heap.size := hz1
  clear HC1 HB1 HS1
  refine wp_region_any (by kernel_rfl) ?_
  change wpAny _ _ _ _ _ _ _ (World.drew _)
  refine wpAny_take (i := 0) (v := ?_) rfl (by kernel_rfl) (by kernel_rfl) (by kernel_rfl) (fun _ _ _ h => h) (Or.inl ⟨by rfl, ?_⟩) ?_
  rotate_left
  · intro w; go_simp; try with_reducible rfl
  refine wpAny_take (i := 1) (v := ?_) rfl (by kernel_rfl) (by kernel_rfl) (by kernel_rfl) (fun _ _ _ h => h) (Or.inl ⟨by rfl, ?_⟩) ?_
  rotate_left
  · intro w; go_simp; try with_reducible rfl
  refine wpAny_take (i := 5) (v := ?_) rfl (by kernel_rfl) (by kernel_rfl) (by kernel_rfl) (fun _ _ _ h => h) (Or.inl ⟨by rfl, ?_⟩) ?_
  rotate_left
  · intro w; go_simp; try with_reducible rfl
  refine wpAny_ready (rs := [2]) (by kernel_rfl) (by simp) ?_
  refine AllReady.cons rfl (fun K hK => ?_) AllReady.nil
  go_simp
  refine (pick_any _ _ a l c 2 13 (by omega) (by omega) (by omega) HC1d.out).mono ?_
  rintro e w2 ⟨v2, ⟨r, hr, rfl⟩, rfl, hc, ho⟩
  have HC2 := Lib.hid hc
  have HB2 := Lib.hid (HB1d.out.trans (ho.below (Nat.le_refl _)))
  obtain ⟨z, hzb, c2⟩ : ∃ z, (0 ≤ z ∧ z ≤ 327) ∧ w2.cell? ⟨w.heap.size + 1, r, none⟩ = some (.int .i64 z) :=
    ⟨speedL[r]'hr, speedL_bd _ (List.getElem_mem hr), (World.cell?_of_block (ho.1.block (w.heap.size + 1) hzd (fun e => by injection e with e; omega))).trans (S1.out r hr)⟩
  have hz2 : w.heap.size + 1 < w2.heap.size := Nat.lt_of_lt_of_le hzd ho.1.size
  have hri : (r : Int) < 13 := by omega
  have hr0 : (0 : Int) ≤ (r : Int) := by omega
  clear hc ho S1
  refine hK _ _ ?_
  clear hK K
  refine wpAny_take (i := 3) (v := ?_) rfl (by kernel_rfl) (by kernel_rfl) (by kernel_rfl) (fun _ _ _ h => h) (Or.inl ⟨by rfl, ?_⟩) ?_
  rotate_left
  · intro w; go_simp; try with_reducible rfl
  refine wpAny_ready (rs := [4, 6]) (by kernel_rfl) (by simp) ?_
  refine AllReady.cons rfl (fun K hK => ?_) ?_
  · go_simp
    refine hK _ _ ?_
    clear hK K
    refine wpAny_ready (rs := [6]) (by kernel_rfl) (by simp) ?_
    refine AllReady.cons rfl (fun K hK => ?_) AllReady.nil
    go_simp
    refine (pick_any _ _ a l c 4 2 (by omega) (by omega) (by omega) HC2.out).mono ?_
    rintro e w3 ⟨v3, ⟨r2, hr2, rfl⟩, rfl, hc, ho⟩
    have HC3 := Lib.hid hc
    have HB3 := Lib.hid (HB2.out.trans (ho.below (Nat.le_refl _)))
    have c3 : w3.cell? ⟨w.heap.size + 1, r, none⟩ = some (.int .i64 z) := (World.cell?_of_block (ho.1.block (w.heap.size + 1) hz2 (fun e => by injection e with e; omega))).trans c2
    clear hc ho
    refine hK _ _ ?_
    clear hK K
    refine wpAny_take (i := 7) (v := ?_) rfl (by kernel_rfl) (by kernel_rfl) (by kernel_rfl) (fun _ _ _ h => h) (Or.inl ⟨by rfl, ?_⟩) ?_
    rotate_left
    · intro w; go_simp; try with_reducible rfl
    refine wpAny_ready (rs := [8]) (by kernel_rfl) (by simp) ?_
    refine AllReady.cons rfl (fun K hK => ?_) AllReady.nil
    go_simp
    refine hK _ _ ?_
    clear hK K
    refine wpAny_done (by kernel_rfl) ?_ _
    have hwr : IntKind.i64.wrap (z - (r2 : Int)) = z - (r2 : Int) := IntWalk.i64_in _ (by omega)
    rw [hwr]
    have hten : tenB (z - (r2 : Int)) = true := ten_iff.2 (by omega)
    rcases hu2 with rfl | rfl | rfl | rfl | rfl
    · go_wp2_with fail
      go_ret2
      exact ⟨z - (r2 : Int), 4, by omega, by omega, by omega, by omega, rfl, HB3.out⟩
    · have CZ := Lib.hid (fun W => specConv_any (z - (r2 : Int)) 4 5 W (by decide) (by decide) (by decide) (by omega) (by omega))
      have CB := convZ_bd (f := 4) (t := 5) hten (by decide) (by decide)
      generalize convZ (z - (r2 : Int)) 4 5 = cz at *
      go_wp2_with fail
      refine (CZ.out _).mono ?_
      rintro e w4 ⟨rfl, rfl⟩
      go_wp2_with fail
      refine (pick_any _ _ a l c 6 3 (by omega) (by omega) (by omega) HC3.out).mono ?_
      rintro e w5 ⟨v5, ⟨r3, hr3, rfl⟩, rfl, hc, ho⟩
      have HB5 := Lib.hid (HB3.out.trans (ho.below (Nat.le_refl _)))
      clear hc ho
      go_wp2_with fail
      go_ret2
      exact ⟨cz + (r3 : Int) - 1, 5, by omega, by omega, by omega, by omega, rfl, HB5.out⟩
    · have CZ := Lib.hid (fun W => specConv_any (z - (r2 : Int)) 4 6 W (by decide) (by decide) (by decide) (by omega) (by omega))
      have CB := convZ_bd (f := 4) (t := 6) hten (by decide) (by decide)
      generalize convZ (z - (r2 : Int)) 4 6 = cz at *
      go_wp2_with fail
      refine (CZ.out _).mono ?_
      rintro e w4 ⟨rfl, rfl⟩
      go_wp2_with fail
      refine (pick_any _ _ a l c 6 3 (by omega) (by omega) (by omega) HC3.out).mono ?_
      rintro e w5 ⟨v5, ⟨r3, hr3, rfl⟩, rfl, hc, ho⟩
      have HB5 := Lib.hid (HB3.out.trans (ho.below (Nat.le_refl _)))
      clear hc ho
      go_wp2_with fail
      go_ret2
      exact ⟨cz + (r3 : Int) - 1, 6, by omega, by omega, by omega, by omega, rfl, HB5.out⟩
    · go_wp2_with fail
      go_ret2
      exact ⟨z - (r2 : Int), 1, by omega, by omega, by omega, by omega, rfl, HB3.out⟩
    · go_wp2_with fail
      go_ret2
      exact ⟨z - (r2 : Int), 9, by omega, by omega, by omega, by omega, rfl, HB3.out⟩
  · refine AllReady.cons rfl (fun K hK => ?_) AllReady.nil
    go_simp
    refine (pick_any _ _ a l c 4 2 (by omega) (by omega) (by omega) HC2.out).mono ?_
    rintro e w3 ⟨v3, ⟨r2, hr2, rfl⟩, rfl, hc, ho⟩
    have HC3 := Lib.hid hc
    have HB3 := Lib.hid (HB2.out.trans (ho.below (Nat.le_refl _)))
    have c3 : w3.cell? ⟨w.heap.size + 1, r, none⟩ = some (.int .i64 z) := (World.cell?_of_block (ho.1.block (w.heap.size + 1) hz2 (fun e => by injection e with e; omega))).trans c2
    clear hc ho
    refine hK _ _ ?_
    clear hK K
    refine wpAny_ready (rs := [4]) (by kernel_rfl) (by simp) ?_
    refine AllReady.cons rfl (fun K hK => ?_) AllReady.nil
    go_simp
    refine hK _ _ ?_
    clear hK K
    refine wpAny_take (i := 7) (v := ?_) rfl (by kernel_rfl) (by kernel_rfl) (by kernel_rfl) (fun _ _ _ h => h) (Or.inl ⟨by rfl, ?_⟩) ?_
    rotate_left
    · intro w; go_simp; try with_reducible rfl
    refine wpAny_ready (rs := [8]) (by kernel_rfl) (by simp) ?_
    refine AllReady.cons rfl (fun K hK => ?_) AllReady.nil
    go_simp
    refine hK _ _ ?_
    clear hK K
    refine wpAny_done (by kernel_rfl) ?_ _
    have hwr : IntKind.i64.wrap (z - (r2 : Int)) = z - (r2 : Int) := IntWalk.i64_in _ (by omega)
    rw [hwr]
    have hten : tenB (z - (r2 : Int)) = true := ten_iff.2 (by omega)
    rcases hu2 with rfl | rfl | rfl | rfl | rfl
    · go_wp2_with fail
      go_ret2
      exact ⟨z - (r2 : Int), 4, by omega, by omega, by omega, by omega, rfl, HB3.out⟩
    · have CZ := Lib.hid (fun W => specConv_any (z - (r2 : Int)) 4 5 W (by decide) (by decide) (by decide) (by omega) (by omega))
      have CB := convZ_bd (f := 4) (t := 5) hten (by decide) (by decide)
      generalize convZ (z - (r2 : Int)) 4 5 = cz at *
      go_wp2_with fail
      refine (CZ.out _).mono ?_
      rintro e w4 ⟨rfl, rfl⟩
      go_wp2_with fail
      refine (pick_any _ _ a l c 6 3 (by omega) (by omega) (by omega) HC3.out).mono ?_
      rintro e w5 ⟨v5, ⟨r3, hr3, rfl⟩, rfl, hc, ho⟩
      have HB5 := Lib.hid (HB3.out.trans (ho.below (Nat.le_refl _)))
      clear hc ho
      go_wp2_with fail
      go_ret2
      exact ⟨cz + (r3 : Int) - 1, 5, by omega, by omega, by omega, by omega, rfl, HB5.out⟩
    · have CZ := Lib.hid (fun W => specConv_any (z - (r2 : Int)) 4 6 W (by decide) (by decide) (by decide) (by omega) (by omega))
      have CB := convZ_bd (f := 4) (t := 6) hten (by decide) (by decide)
      generalize convZ (z - (r2 : Int)) 4 6 = cz at *
      go_wp2_with fail
      refine (CZ.out _).mono ?_
      rintro e w4 ⟨rfl, rfl⟩
      go_wp2_with fail
      refine (pick_any _ _ a l c 6 3 (by omega) (by omega) (by omega) HC3.out).mono ?_
      rintro e w5 ⟨v5, ⟨r3, hr3, rfl⟩, rfl, hc, ho⟩
      have HB5 := Lib.hid (HB3.out.trans (ho.below (Nat.le_refl _)))
      clear hc ho
      go_wp2_with fail
      go_ret2
      exact ⟨cz + (r3 : Int) - 1, 6, by omega, by omega, by omega, by omega, rfl, HB5.out⟩
    · go_wp2_with fail
      go_ret2
      exact ⟨z - (r2 : Int), 1, by omega, by omega, by omega, by omega, rfl, HB3.out⟩
    · go_wp2_with fail
      go_ret2
      exact ⟨z - (r2 : Int), 9, by omega, by omega, by omega, by omega, rfl, HB3.out⟩
end Go.Proofs.YtnafnkilmiebiaaDoor
