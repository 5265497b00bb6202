/- The model's draw of a field like another one. -/
import Derived.Test.YtglpkfkbbjbjjaaAnyField
import Derived.Test.YtglpkfkbbjbjjaaSet
namespace Go.Proofs.Ytglpkfkbbjbjjaa
open Go.RowKit
set_option linter.unusedVariables false
set_option linter.unusedSimpArgs false
set_option maxHeartbeats 1000000 in
theorem l1Own_some (ad : Addr) (l : List Int) (c : Nat) (w : World) (hl : Ints .i64 w w.heap.size (some ad) l) (hn : l.length ≤ 1048576) :
    Calls Try.prog 96 #[.slice (some ad) l.length c] w (IntsPost l w) := by
  rcases Nat.eq_zero_or_pos l.length with h0 | h0
  · obtain rfl := List.eq_nil_of_length_eq_zero h0
    obtain ⟨i0, hi0', hz0, hz1, hz2⟩ := info_parts infoInt
    have HO := Lib.hid (World.ownsRow_made (base := w.heap.size) (e := 3) (size := 1) w #[] 0 (Nat.le_refl _) (by simp) rfl)
    show Calls Try.prog 96 #[.slice (some ad) 0 c] w (IntsPost [] w)
    clear hl h0 hn
    go_enter Try.func96, Try.ntmps96
    go_wp2_with (at_builtin; refine wpList_append_own _ rfl _ _ 24 rfl w.heap.size 3 i0 (.int .i64 0) 1 8 Try.underlying24 hi0' hz0 hz1 hz2 rfl (by decide) _ 0 [] rfl HO.out ad 0 c [] rfl rfl (fun j u h => by simp at h) (fun u h => by simp at h) (by unfold maxLen; omega) (by omega) (by simp) ?_; intro v' w1 hown' hgrow _; have HB := Lib.hid ((below_all w _).grown hgrow (by simp) (fun k hk => (HO.out.lt k hk).1)); obtain ⟨a', c', hv, ho⟩ := ownI_of (l := []) hown' rfl; subst hv; have HO1 := Lib.hid ho; clear hown' hgrow ho)
    go_ret
    exact ⟨a', c', rfl, HO1.out, HB.out⟩
  · exact l1Own_any (some ad) l c w hl hn h0

set_option maxRecDepth 100000 in
set_option maxHeartbeats 1000000 in
theorem l2Own_some (wd hg : Int) (ad : Addr) (l : List Int) (c : Nat) (w : World) (hl : Ints .i64 w w.heap.size (some ad) l) (hn : l.length ≤ 1048576) :
    Calls Try.prog 67 #[.agg #[.int .i64 wd, .int .i64 hg, .slice (some ad) l.length c]] w (FOne wd hg l w) := by
  have HW := Lib.hid (fun W h => l1Own_some ad l c W h hn)
  have I0 := Lib.hid (ints_below (ints_alloc (ints_alloc hl (.cells #[.int .i64 wd, .int .i64 hg, .slice (some ad) l.length c] 26)) (.cells #[.int .i64 0, .int .i64 0, .slice none 0 0] 26)) ((Drew.more (Drew.refl _) 1).below _))
  have X0 := (Box.new w 26 (.int .i64 wd) (.int .i64 hg) (.slice (some ad) l.length c)).alloc (.cells #[.int .i64 0, .int .i64 0, .slice none 0 0] 26)
  have R0 := Box.new (w.alloc (.cells #[.int .i64 wd, .int .i64 hg, .slice (some ad) l.length c] 26)) 26 (.int .i64 0) (.int .i64 0) (.slice none 0 0)
  rw [World.size_alloc] at R0
  have B0 := (below_all w (.cells #[.int .i64 wd, .int .i64 hg, .slice (some ad) l.length c] 26)).alloc (by simp) (.cells #[.int .i64 0, .int .i64 0, .slice none 0 0] 26)
  clear hl
  go_enter Try.func67, Try.ntmps67
  go_wp2_with fail
  obtain ⟨W, hW⟩ : ∃ W, (w.alloc (.cells #[.int .i64 wd, .int .i64 hg, .slice (some ad) l.length c] 26)).alloc (.cells #[.int .i64 0, .int .i64 0, .slice none 0 0] 26) = W := ⟨_, rfl⟩
  have sW : W.heap.size = w.heap.size + 2 := by rw [← hW]; simp
  rw [hW] at I0 X0 R0 B0 ⊢
  have HX := Lib.hid X0
  have HR := Lib.hid R0
  have HB := Lib.hid B0
  obtain ⟨k0, k1, k2⟩ := X0.cells
  clear hW X0 R0 B0
  go_region_held3 (fun w' => w'.cell? ⟨w.heap.size, 0, none⟩ = some (.int .i64 wd) ∧ w'.cell? ⟨w.heap.size, 1, none⟩ = some (.int .i64 hg) ∧ w'.cell? ⟨w.heap.size, 2, none⟩ = some (.slice (some ad) l.length c))
    (first | exact X1.cells | go_keep)
    (first
      | (go_at_call 96; refine (HW.out _ I0.out).mono ?_; rintro e w1 ⟨a1, c1, rfl, o1, b1⟩; have X1 := (HX.out.below (w' := W.drew) ((Drew.more (Drew.refl W) 1).below _)).below b1; have R1 := (HR.out.below (w' := W.drew) ((Drew.more (Drew.refl W) 1).below _)).below b1; obtain ⟨r0, r1, r2⟩ := R1.cells; have g0 := R1.frozen 0; have g1 := R1.frozen 1; have g2 := R1.frozen 2; have B1 := Lib.hid (below_then (below_then HB.out ((Drew.more (Drew.refl W) 1).below _)) b1)))
  rename_i hHeld
  clear hHeld
  have HO := Lib.hid (o1.more (C := w.heap.size + 2) (by show w.heap.size + 2 ≤ W.heap.size; omega))
  clear o1 b1 X1 R1 k0 k1 k2
  go_wp2
  refine bodyPost_ret (v := .agg #[.int .i64 wd, .int .i64 hg, .slice a1 l.length c1]) (by simp [results, Try.results67, go_sem, r0, r1, r2]) rfl ⟨a1, c1, rfl, ?_, ?_⟩
  · exact (ownI_set (ownI_set (ownI_set HO.out (by omega) _) (by omega) _) (by omega) _).more (by omega)
  · exact ((B1.out.setCell (by simp) _).setCell (by simp) _).setCell (by simp) _

/-- a field is drawn (of its room nothing is said), its cursor further -/
def LDraw (g : Nat) (a : Option Addr) (l : List Int) (c K : Nat) (w : World) (e : Ending) (w' : World) : Prop :=
  ∃ (wd hg : Int) (L : List Int) (a1 : Option Addr) (c1 : Nat), L.length ≤ 64 ∧ e = .returned (.agg #[.int .i64 wd, .int .i64 hg, .slice a1 L.length c1]) ∧ Own2 w' w.heap.size a1 L ∧ CurIs w' g a l c K ∧ w.grownBy w' (some g)

set_option maxRecDepth 100000 in
set_option maxHeartbeats 8000000 in
theorem like_any (w : World) (g : Nat) (a : Option Addr) (l : List Int) (c K : Nat) (wd hg : Int) (aL : Addr) (L0 : List Int) (cL : Nat) (hK : K ≤ 800000) (h : CurIs w g a l c K) (hL0 : Ints .i64 w w.heap.size (some aL) L0) (hn : L0.length ≤ 64) :
    Calls Try.prog 54 #[.pointer (some ⟨g, 0, none⟩), .agg #[.int .i64 wd, .int .i64 hg, .slice (some aL) L0.length cL]] w (LDraw g a l c (K + 700) w) := by
  have hg' := h.lt
  have I0 := Lib.hid (ints_alloc (ints_alloc hL0 (.cells #[.int .i64 wd, .int .i64 hg, .slice (some aL) L0.length cL] 26)) (.cells #[.int .i64 0, .int .i64 0, .slice none 0 0] 26))
  have C0 := Lib.hid ((h.alloc (.cells #[.int .i64 wd, .int .i64 hg, .slice (some aL) L0.length cL] 26)).alloc (.cells #[.int .i64 0, .int .i64 0, .slice none 0 0] 26))
  have T0 := Lib.hid (turn_of_below (turn_below (g := g) (below_all w (.cells #[.int .i64 wd, .int .i64 hg, .slice (some aL) L0.length cL] 26))) (below_all _ (.cells #[.int .i64 0, .int .i64 0, .slice none 0 0] 26)))
  have R0 := Box.new (w.alloc (.cells #[.int .i64 wd, .int .i64 hg, .slice (some aL) L0.length cL] 26)) 26 (.int .i64 0) (.int .i64 0) (.slice none 0 0)
  rw [World.size_alloc] at R0
  have R0' := Lib.hid R0
  clear R0
  have HOW := Lib.hid (fun W hW => l2Own_some wd hg aL L0 cL W hW (by omega))
  clear h hL0
  go_enter Try.func54, Try.ntmps54
  go_wp2_with fail
  refine (HOW.out _ I0.out).mono ?_
  rintro e w1 ⟨a1, c1, rfl, o1, b1⟩
  have hs1 := b1.size
  simp only [World.size_alloc] at hs1 o1
  obtain ⟨fb, hfb⟩ : ∃ q, w1.heap.size = q := ⟨_, rfl⟩
  have X1 := Box.new w1 26 (.int .i64 wd) (.int .i64 hg) (.slice a1 L0.length c1)
  rw [hfb] at X1 hs1
  obtain ⟨WA, hWA⟩ : ∃ W, w1.alloc (.cells #[.int .i64 wd, .int .i64 hg, .slice a1 L0.length c1] 26) = W := ⟨_, rfl⟩
  have HR := Lib.hid (show Box WA (w.heap.size + 1) 26 (.int .i64 0) (.int .i64 0) (.slice none 0 0) by rw [← hWA]; exact (R0'.out.below b1).alloc _)
  have HX := Lib.hid (show Box WA fb 26 (.int .i64 wd) (.int .i64 hg) (.slice a1 L0.length c1) by rw [← hWA]; exact X1)
  have HC := Lib.hid (show CurIs WA g a l c K by rw [← hWA]; exact (C0.out.below b1).alloc _)
  have HG := Lib.hid (show w.grownBy WA (some g) by rw [← hWA]; exact turn_of_below (turn_of_below T0.out b1) (below_all _ _))
  have HO := Lib.hid (show OwnI WA (w.heap.size + 2) a1 L0 by rw [← hWA]; exact o1.below (below_all _ _))
  clear X1 b1 o1 I0 C0 T0 R0' HOW
  obtain ⟨n, hn'⟩ : ∃ n, L0.length = n := ⟨_, rfl⟩
  rw [hn'] at HX hn hWA ⊢
  have hgf : g < fb ∧ w.heap.size + 1 < fb := by omega
  go_wp2_with fail
  go_loopw [6] (fun i wr => ∃ (k : Nat) (L : List Int), k ≤ n ∧ L.length = n ∧ i = .int .i64 k ∧ Box wr fb 26 (.int .i64 wd) (.int .i64 hg) (.slice a1 n c1) ∧ Box wr (w.heap.size + 1) 26 (.int .i64 0) (.int .i64 0) (.slice none 0 0) ∧
      OwnI wr (w.heap.size + 2) a1 L ∧ CurIs wr g a l c (K + 4 * k) ∧ w.grownBy wr (some g)) (fun i _ => n - (intOf i).toNat)
  case atStart => exact ⟨0, L0, Nat.zero_le _, hn', rfl, HX.out, HR.out, HO.out, HC.out, HG.out⟩
  case round =>
    obtain ⟨k, L, hk, hL, rfl, hx, hr, hown, hcur, hgrw⟩ := hrel
    have HL := Lib.hid hL
    obtain ⟨c0, c1', c2⟩ := hx.cells
    clear HX HR HC HG HO hL
    by_cases hlt : k < n
    · obtain ⟨gr, hgr, hat⟩ := hown
      rcases hat with hnil | ⟨rfl, hrow⟩
      · have := HL.out; rw [hnil] at this; simp at this; omega
      · have HQ := Lib.hid (show Fq w g a l c (K + 4 * k) (w.heap.size + 1) fb wd hg gr c1 L wr from ⟨hcur, hr, by rw [HL.out]; exact hx, hrow, hgrw⟩)
        clear hx hr hrow hcur hgrw
        have hik : (k : Int) < (n : Int) := by omega
        have hi0 : (0 : Int) ≤ (k : Int) := by omega
        go_wp2_with fail
        refine (pick_any wr g a l c (K + 4 * k) 5 (by omega) (by omega) (by omega) HQ.out.cur).mono ?_
        rintro e w7 ⟨v, ⟨r9, hr9, rfl⟩, rfl, hc, ho⟩
        have HQ7 := Lib.hid (HQ.out.step hc ho (by omega) (by omega) (by omega))
        clear hc ho HQ c0 c1' c2
        obtain ⟨c0, c1', c2⟩ := HQ7.out.box.cells
        rw [HL.out] at c2
        have hap : fb ≠ gr := Ne.symm HQ7.out.apart.1
        have hzg := HQ7.out.row.lt
        by_cases r0 : r9 = 0
        · subst r0
          have HPK := Lib.hid (fun (W : World) (h : CurIs W g a l c (K + 4 * k + 2)) => show Calls Try.prog 45 #[.pointer (some ⟨g, 0, none⟩), .int .i64 40] W (Drawn g a l c (K + 4 * k + 2 + 2) (IsNum 40) W) from pick_any W g a l c (K + 4 * k + 2) 40 (by omega) (by omega) (by omega) h)
          go_wp2_with fail
          go_region_held3 (fun w' => w'.cell? ⟨fb, 2, none⟩ = some (.slice (some ⟨gr, 0, none⟩) n c1))
            (first | (have h9 := (hQ101.out.box.other (p := ⟨gr, k, none⟩) hap (.int .i64 r)).cells.2.2; rw [HL.out] at h9; exact h9) | (have h9 := hQ101.out.box.cells.2.2; rw [HL.out] at h9; exact h9) | (have h9 := HQ7.out.drew.box.cells.2.2; rw [HL.out] at h9; exact h9) | go_keep)
            (first | (go_at_call 45; (with_reducible refine (HPK.out _ HQ7.out.drew.cur).mono ?_); rintro e w101 ⟨v, ⟨r, hr, rfl⟩, rfl, hc, ho⟩; have hQ101 := Lib.hid (HQ7.out.drew.step hc ho (by omega) (by omega) (by omega)); obtain ⟨ov, hov⟩ : ∃ ov, w101.cell? ⟨gr, k, none⟩ = some ov := ⟨_, hQ101.out.row.cell (k := k) (by rw [iv_length, HL.out]; exact hlt)⟩; have hfz := hQ101.out.row.frozen k; clear hc ho hr))
          all_goals
            have HQ9 := Lib.hid (hQ101.out.set (by omega) (by omega) k r)
            go_wp2
            go_roundw
            case rel => exact ⟨k + 1, L.set k r, by omega, by rw [List.length_set]; exact HL.out, by go_num, by have h9 := HQ9.out.box; rw [List.length_set, HL.out] at h9; exact h9, HQ9.out.res, ⟨gr, hgr, .inr ⟨rfl, HQ9.out.row⟩⟩, HQ9.out.cur.more (by omega), HQ9.out.grown⟩
            case measure => simp [intOf]; omega
        · have e0 : ((r9 : Int) == 0) = false := by rw [beq_eq_false_iff_ne]; omega
          by_cases r1 : r9 = 1
          · subst r1
            clear e0
            go_wp2_with fail
            refine (one_any w7 g a l c (K + 4 * k + 2) 3 (by omega) (by omega) (by omega) HQ7.out.cur).mono ?_
            rintro e w8 ⟨v, ⟨b, rfl⟩, rfl, hc, ho⟩
            have HQ8 := Lib.hid (HQ7.out.step hc ho (by omega) (by omega) (by omega))
            clear hc ho HQ7 c0 c1' c2
            obtain ⟨c0, c1', c2⟩ := HQ8.out.box.cells
            rw [HL.out] at c2
            cases b with
            | false =>
              go_wp2
              go_roundw
              case rel => exact ⟨k + 1, L, by omega, HL.out, by go_num, by have h9 := HQ8.out.box; rw [HL.out] at h9; exact h9, HQ8.out.res, ⟨gr, hgr, .inr ⟨rfl, HQ8.out.row⟩⟩, HQ8.out.cur.more (by omega), HQ8.out.grown⟩
              case measure => simp [intOf]; omega
            | true =>
              obtain ⟨ov, hov⟩ : ∃ ov, w8.cell? ⟨gr, k, none⟩ = some ov := ⟨_, HQ8.out.row.cell (k := k) (by rw [iv_length, HL.out]; exact hlt)⟩
              have hfz := HQ8.out.row.frozen k
              have HQ9 := Lib.hid (HQ8.out.set (by omega) (by omega) k (-9999))
              go_wp2
              go_roundw
              case rel => exact ⟨k + 1, L.set k (-9999), by omega, by rw [List.length_set]; exact HL.out, by go_num, by have h9 := HQ9.out.box; rw [List.length_set, HL.out] at h9; exact h9, HQ9.out.res, ⟨gr, hgr, .inr ⟨rfl, HQ9.out.row⟩⟩, HQ9.out.cur.more (by omega), HQ9.out.grown⟩
              case measure => simp [intOf]; omega
          · have e1 : ((r9 : Int) == 1) = false := by rw [beq_eq_false_iff_ne]; omega
            go_wp2
            go_roundw
            case rel => exact ⟨k + 1, L, by omega, HL.out, by go_num, by have h9 := HQ7.out.box; rw [HL.out] at h9; exact h9, HQ7.out.res, ⟨gr, hgr, .inr ⟨rfl, HQ7.out.row⟩⟩, HQ7.out.cur.more (by omega), HQ7.out.grown⟩
            case measure => simp [intOf]; omega
    · obtain rfl : k = n := by omega
      have hge : ¬ ((k : Int) < (k : Int)) := by omega
      have HX := Lib.hid hx
      have HR := Lib.hid hr
      have HO := Lib.hid hown
      have HC := Lib.hid hcur
      have HG := Lib.hid hgrw
      clear hx hr hown hcur hgrw
      go_wp2_with fail
      refine (one_any wr g a l c (K + 4 * k) 16 (by omega) (by omega) (by omega) HC.out).mono ?_
      rintro e w7 ⟨v, ⟨b, rfl⟩, rfl, hc, ho⟩
      have HC7 := Lib.hid hc
      have HX7 := Lib.hid (HX.out.turn ho.1 (show fb ≠ g by omega))
      have HR7 := Lib.hid (HR.out.turn ho.1 (show w.heap.size + 1 ≠ g by omega))
      have HO7 := Lib.hid (HO.out.turn ho.1 (by omega))
      have HG7 := Lib.hid (turn_trans HG.out ho.1)
      clear hc ho HX HR HO HC HG c0 c1' c2
      obtain ⟨q0, q1, q2⟩ := HX7.out.cells
      obtain ⟨t0, t1, t2⟩ := HR7.out.cells
      have g0 := HR7.out.frozen 0
      have g1 := HR7.out.frozen 1
      have g2 := HR7.out.frozen 2
      have hzb := HX7.out.lt
      have hzr := HR7.out.lt
      cases b with
      | false =>
        go_wp2
        refine bodyPost_ret (v := .agg #[.int .i64 wd, .int .i64 hg, .slice a1 L.length c1]) (by simp [results, Try.results54, go_sem, t0, t1, t2, HL.out]) rfl ⟨wd, hg, L, a1, c1, by have := HL.out; omega, rfl, ?_, ?_, ?_⟩
        · exact (((Own2.of_own HO7.out).set (by omega) _).set (by omega) _).set (by omega) _ |>.more (by omega)
        · exact (((HC7.out.setOther (by omega) _ _).setOther (by omega) _ _).setOther (by omega) _ _).more (by omega)
        · exact turn_setNew (turn_setNew (turn_setNew HG7.out (by omega) _ _) (by omega) _ _) (by omega) _ _
      | true =>
        have h0 := HX7.out.frozen 0
        have h1 := HX7.out.frozen 1
        have h2 := HX7.out.frozen 2
        go_wp2_with fail
        refine (field_any w7 g a l c (K + 4 * k + 2) (by omega) HC7.out).mono ?_
        rintro e w9 ⟨wd9, hi9, L9, a9, c9, ⟨m1, m2, m3, m4, m5, m6, m7⟩, rfl, o9, hc9, ho9⟩
        have HX9 := Lib.hid (HX7.out.turn ho9 (show fb ≠ g by omega))
        have HR9 := Lib.hid (HR7.out.turn ho9 (show w.heap.size + 1 ≠ g by omega))
        have HG9 := Lib.hid (turn_trans HG7.out ho9)
        have HO9 := Lib.hid o9
        have HC9 := Lib.hid hc9
        have hs9 := ho9.size
        clear o9 hc9 ho9 q0 q1 q2 t0 t1 t2 g0 g1 g2 h0 h1 h2
        obtain ⟨q0, q1, q2⟩ := HX9.out.cells
        obtain ⟨t0, t1, t2⟩ := HR9.out.cells
        have g0 := HR9.out.frozen 0
        have g1 := HR9.out.frozen 1
        have g2 := HR9.out.frozen 2
        have h0 := HX9.out.frozen 0
        have h1 := HX9.out.frozen 1
        have h2 := HX9.out.frozen 2
        have hfe : ¬ fb = w.heap.size + 1 := by omega
        have hfe2 : ¬ w.heap.size + 1 = fb := by omega
        go_wp2
        refine bodyPost_ret (v := .agg #[.int .i64 wd9, .int .i64 hi9, .slice a9 L9.length c9]) (by simp [results, Try.results54, go_sem, t0, t1, t2, hfe, hfe2]) rfl ⟨wd9, hi9, L9, a9, c9, m2, rfl, ?_, ?_, ?_⟩
        · exact ((((((Own2.of_own HO9.out).set (by omega) _).set (by omega) _).set (by omega) _).set (by omega) _).set (by omega) _).set (by omega) _ |>.more (by omega)
        · exact ((((((HC9.out.setOther (by omega) _ _).setOther (by omega) _ _).setOther (by omega) _ _).setOther (by omega) _ _).setOther (by omega) _ _).setOther (by omega) _ _).more (by omega)
        · exact turn_setNew (turn_setNew (turn_setNew (turn_setNew (turn_setNew (turn_setNew HG9.out (by omega) _ _) (by omega) _ _) (by omega) _ _) (by omega) _ _) (by omega) _ _) (by omega) _ _
end Go.Proofs.Ytglpkfkbbjbjjaa
