/- The model's draw of a valid field: that it is valid. -/
import Derived.Test.YtgfgimpglaepaabDoorFieldDraw
import Derived.Test.YtgfgimpglaepaabDoorFieldMath
namespace Go.Proofs.YtgfgimpglaepaabDoor
open Go.RowKit
set_option linter.unusedVariables false
set_option linter.unusedSimpArgs false
theorem good_mk {wd hg : Int} {l : List Int} (hs : shapeB wd hg = true) (hl : (l.length : Int) = wd * hg) (hc : ∀ z ∈ l, cellB z = true) : goodB wd hg l = true := by
  unfold goodB
  rw [hs, hl]
  simp only [decide_true, Bool.true_and]
  exact List.all_eq_true.2 hc
theorem good_all {wd hg : Int} {l : List Int} (h : goodB wd hg l = true) : ∀ z ∈ l, cellB z = true := by
  unfold goodB at h
  simp only [Bool.and_eq_true] at h
  exact List.all_eq_true.1 h.2
theorem cell_three {z : Int} (h : z ∈ [(9000 : Int), -9000, 0]) : cellB z = true := by
  simp only [List.mem_cons, List.not_mem_nil, or_false] at h
  exact cellB_iff.2 (.inr (by omega))
theorem cells_set {L : List Int} (h : ∀ z ∈ L, cellB z = true) {y : Int} (hy : cellB y = true) (r : Nat) : ∀ z ∈ L.set r y, cellB z = true := by
  intro z hz
  rcases List.mem_or_eq_of_mem_set hz with h1 | rfl
  · exact h z h1
  · exact hy
theorem cells_snoc {L : List Int} (h : ∀ z ∈ L, cellB z = true) {y : Int} (hy : cellB y = true) : ∀ z ∈ L ++ [y], cellB z = true := by
  intro z hz
  rcases List.mem_append.1 hz with h1 | h1
  · exact h z h1
  · rw [List.mem_singleton] at h1
    rw [h1]; exact hy
/-- a valid field of the call's own, its cursor further -/
def GDraw (g : Nat) (a : Option Addr) (l : List Int) (c K : Nat) (w : World) (e : Ending) (w' : World) : Prop :=
  ∃ (wd hg : Int) (L : List Int) (a1 : Option Addr) (c1 : Nat), goodB wd hg L = true ∧ L.length ≤ c1 ∧ e = .returned (.agg #[.int .i64 wd, .int .i64 hg, .slice a1 L.length c1]) ∧ OwnI w' w.heap.size a1 L ∧ CurIs w' g a l c K ∧ w.grownBy w' (some g)
/-- behind the loop: some row -/
def FrG (w : World) (g : Nat) (a : Option Addr) (l : List Int) (c K rb fb : Nat) (wd hi : Int) (w' : World) : Prop :=
  ∃ (gr cp : Nat) (L : List Int), ((L.length : Int) = wd * hi ∧ ∀ z ∈ L, cellB z = true) ∧ 1 ≤ L.length ∧ L.length ≤ 64 ∧ L.length ≤ cp ∧ w.heap.size < gr ∧ Fq w g a l c K rb fb wd hi gr cp L w'
set_option maxRecDepth 100000 in
set_option maxHeartbeats 8000000 in
theorem gfield_any (w : World) (g : Nat) (a : Option Addr) (l : List Int) (c K : Nat) (hK : K ≤ 900000) (h : CurIs w g a l c K) :
    Calls Tryd.prog 46 #[.pointer (some ⟨g, 0, none⟩)] w (GDraw g a l c (K + 300) w) := by
  obtain ⟨i0, hi0', hz0, hz1, hz2⟩ := info_parts infoInt
  have hg := h.lt
  have C0 := Lib.hid (h.alloc (.cells #[.int .i64 0, .int .i64 0, .slice none 0 0] 26))
  have T0 := Lib.hid (turn_below (g := g) (below_all w (.cells #[.int .i64 0, .int .i64 0, .slice none 0 0] 26)))
  have R0 := Lib.hid (Box.new w 26 (.int .i64 0) (.int .i64 0) (.slice none 0 0))
  have hgr := Lib.hid (show ¬ w.heap.size = g by omega)
  clear h
  go_enter Tryd.func46, Tryd.ntmps46
  go_wp2_with fail
  refine (pick_any _ g a l c K 5 (by omega) (by omega) (by omega) C0.out).mono ?_
  rintro e w1 ⟨v, ⟨r1, hr1, rfl⟩, rfl, hc, ho⟩
  have C1 := Lib.hid hc
  have T1 := Lib.hid (turn_trans T0.out ho.1)
  have R1 := Lib.hid (R0.out.turn ho.1 hgr.out)
  have HR1 := Lib.hid hr1
  clear hc ho C0 T0 R0 hr1
  go_wp2_with fail
  refine (pick_any _ g a l c (K + 2) 5 (by omega) (by omega) (by omega) C1.out).mono ?_
  rintro e w2 ⟨v, ⟨r2, hr2, rfl⟩, rfl, hc, ho⟩
  have C2 := Lib.hid hc
  have T2 := Lib.hid (turn_trans T1.out ho.1)
  have R2 := Lib.hid (R1.out.turn ho.1 hgr.out)
  have HR2 := Lib.hid hr2
  clear hc ho C1 T1 R1 hr2
  go_wp2_with fail
  have hw1 : 1 ≤ wrap64 (1 + (r1 : Int)) ∧ wrap64 (1 + (r1 : Int)) ≤ 5 := by have := HR1.out; rw [IntWalk.wrap64_in _ (by omega)]; omega
  have hw2 : 1 ≤ wrap64 (1 + (r2 : Int)) ∧ wrap64 (1 + (r2 : Int)) ≤ 5 := by have := HR2.out; rw [IntWalk.wrap64_in _ (by omega)]; omega
  generalize wrap64 (1 + (r1 : Int)) = wd at *
  generalize wrap64 (1 + (r2 : Int)) = hi at *
  have hmn : 0 ≤ wd * hi := Int.mul_nonneg (by omega) (by omega)
  have hmx : wd * hi ≤ 25 := by
    have h1 : wd * hi ≤ 5 * hi := Int.mul_le_mul_of_nonneg_right (by omega) (by omega)
    omega
  have hmp : 1 ≤ wd * hi := by
    have h1 : 1 * hi ≤ wd * hi := Int.mul_le_mul_of_nonneg_right (by omega) (by omega)
    omega
  obtain ⟨n, hn⟩ : ∃ n : Nat, wd * hi = (n : Int) := ⟨(wd * hi).toNat, by omega⟩
  have HN := Lib.hid hn
  have hn1 : 1 ≤ n ∧ n ≤ 25 := by omega
  clear hn hmn hmx hmp
  have HW := Lib.hid (And.intro hw1 hw2)
  clear hw1 hw2 HR1 HR2
  have hs2 := T2.out.size
  obtain ⟨fb, hfb⟩ : ∃ q, w2.heap.size = q := ⟨_, rfl⟩
  obtain ⟨WA, hWA⟩ : ∃ W, w2.alloc (.cells #[.int .i64 wd, .int .i64 hi, .slice none 0 0] 26) = W := ⟨_, rfl⟩
  have sWA : WA.heap.size = fb + 1 := by rw [← hWA, ← hfb]; simp
  have C3 : CurIs WA g a l c (K + 2 + 2) := by rw [← hWA]; exact C2.out.alloc _
  have T3 : w.grownBy WA (some g) := by rw [← hWA]; exact turn_of_below T2.out (below_all _ _)
  have R3 : Box WA w.heap.size 26 (.int .i64 0) (.int .i64 0) (.slice none 0 0) := by rw [← hWA]; exact R2.out.alloc _
  have X3 : Box WA fb 26 (.int .i64 wd) (.int .i64 hi) (.slice none 0 0) := by rw [← hWA, ← hfb]; exact Box.new _ _ _ _ _
  have hL4 : ∀ k (hk : k < [(0 : Int), 10, 100, -50].length), (WA.alloc (.cells #[.int .i64 0, .int .i64 10, .int .i64 100, .int .i64 (-50)] 3)).cell? ⟨fb + 1, k, none⟩ = some (.int .i64 [(0 : Int), 10, 100, -50][k]) := by
    intro k hk
    have h := lit_ints WA [0, 10, 100, -50] 3 k hk
    rw [sWA] at h
    exact h
  rw [hfb, hWA]
  rw [hfb] at hs2
  have hfw : w.heap.size < fb := by have := R2.out.lt; omega
  have hgf := Lib.hid (show ¬ fb = g by omega)
  clear hWA hfb C2 T2 R2
  have T3' := Lib.hid (turn_of_below T3 (below_all WA (.cells #[.int .i64 0, .int .i64 10, .int .i64 100, .int .i64 (-50)] 3)))
  have R3' := Lib.hid (R3.alloc (.cells #[.int .i64 0, .int .i64 10, .int .i64 100, .int .i64 (-50)] 3))
  have X3' := Lib.hid (X3.alloc (.cells #[.int .i64 0, .int .i64 10, .int .i64 100, .int .i64 (-50)] 3))
  refine (among_any _ g a l c (K + 2 + 2) (fb + 1) 4 [0, 10, 100, -50] (by omega) rfl (by omega) (by omega) (C3.alloc _) (by omega) (by simp [sWA]) hL4 4).mono ?_
  rintro e w3 ⟨v, ⟨base, hbase, rfl⟩, rfl, hc, ho⟩
  have hbb : -50 ≤ base ∧ base ≤ 100 := by
    simp only [List.mem_cons, List.not_mem_nil, or_false] at hbase
    omega
  have CL := Lib.hid hc
  have TL := Lib.hid (turn_trans T3'.out ho.1)
  have RL := Lib.hid (R3'.out.turn ho.1 hgr.out)
  have XL := Lib.hid (X3'.out.turn ho.1 hgf.out)
  have HBB := Lib.hid hbb
  have hz3 : fb < w3.heap.size := by have := XL.out.lt; omega
  clear hc ho hbase hL4 C3 T3 R3 X3 T3' R3' X3' hbb sWA
  go_wp2_with fail
  go_loopw [5] (fun i wr => ∃ k : Nat, ∃ (out : Value) (L : List Int), k ≤ n ∧ L.length = k ∧ (∀ z ∈ L, cellB z = true) ∧ i = .int .i64 k ∧ Box wr fb 26 (.int .i64 wd) (.int .i64 hi) out ∧ Box wr w.heap.size 26 (.int .i64 0) (.int .i64 0) (.slice none 0 0) ∧
      wr.ownsRow (w.heap.size + 1) 3 1 out k (iv L) ∧ CurIs wr g a l c (K + 6 + 4 * k) ∧ w.grownBy wr (some g)) (fun i _ => n - (intOf i).toNat)
  case atStart => exact ⟨0, .slice none 0 0, [], Nat.zero_le _, rfl, (fun z hz => by cases hz), rfl, XL.out, RL.out, World.ownsRow_nil _ _ _ _, CL.out.more (by omega), TL.out⟩
  case round =>
    obtain ⟨k, out, L, hk, hLk, hcb, rfl, hx, hr, hown, hcur, hgrw⟩ := hrel
    have HCB := Lib.hid hcb
    clear hcb
    obtain ⟨c0, c1, c2⟩ := hx.cells
    have HX := Lib.hid hx
    have HR := Lib.hid hr
    have HO := Lib.hid hown
    have HC := Lib.hid hcur
    have HG := Lib.hid hgrw
    have HLk := Lib.hid hLk
    have hmul := HN.out
    clear hx hr hown hcur hgrw XL RL CL TL hLk
    by_cases hlt : k < n
    · have hik : (k : Int) < (n : Int) := by omega
      go_wp2_with fail
      refine (pick_any wr g a l c (K + 6 + 4 * k) 40 (by omega) (by omega) (by omega) HC.out).mono ?_
      rintro e w4 ⟨v, ⟨r, hr, rfl⟩, rfl, hc, ho⟩
      have HZ := Lib.hid (show cellB (wrap64 (base + (r : Int))) = true from by have := HBB.out; rw [IntWalk.wrap64_in _ (by omega)]; exact cellB_iff.2 (.inr (by omega)))
      have HC4 := Lib.hid hc
      have HX4 := Lib.hid (HX.out.turn ho.1 hgf.out)
      have HR4 := Lib.hid (HR.out.turn ho.1 hgr.out)
      have HO4 := Lib.hid (own_cur HO.out ho.1 (by omega))
      have HG4 := Lib.hid (turn_trans HG.out ho.1)
      clear hc ho HX HR HO HC HG c0 c1 c2 hr
      go_wp2_with fail
      generalize wrap64 (base + (r : Int)) = z at *
      refine (one_any w4 g a l c (K + 6 + 4 * k + 2) 12 (by omega) (by omega) (by omega) HC4.out).mono ?_
      rintro e w5 ⟨v, ⟨b, rfl⟩, rfl, hc, ho⟩
      have HC5 := Lib.hid hc
      have HX5 := Lib.hid (HX4.out.turn ho.1 hgf.out)
      have HR5 := Lib.hid (HR4.out.turn ho.1 hgr.out)
      have HO5 := Lib.hid (own_cur HO4.out ho.1 (by omega))
      have HG5 := Lib.hid (turn_trans HG4.out ho.1)
      have hne := Lib.hid (own_ne_box HO5.out HX5.out (by decide))
      have hne2 := Lib.hid (own_ne_box HO5.out HR5.out (by decide))
      obtain ⟨c0, c1, c2⟩ := HX5.out.cells
      have f2 := HX5.out.frozen 2
      have hz5 := HX5.out.lt
      have hz5' := HR5.out.lt
      clear hc ho HX4 HR4 HO4 HC4 HG4
      have key : ∀ (x : Int) (v' : Value) (w6 : World), w6.ownsRow (w.heap.size + 1) 3 1 v' (k + 1) (iv L ++ [.int .i64 x]) → (w5.alloc (.cells #[.int .i64 x] 3)).grownBy w6 out.ownBlock →
          (∃ g' cap', v' = .slice (some ⟨g', 0, none⟩) (k + 1) cap') ∧ Box w6 fb 26 (.int .i64 wd) (.int .i64 hi) out ∧ Box w6 w.heap.size 26 (.int .i64 0) (.int .i64 0) (.slice none 0 0) ∧ CurIs w6 g a l c (K + 6 + 4 * (k + 1)) ∧ w.grownBy w6 (some g) ∧ v'.ownBlock ≠ some fb := by
        intro x v' w6 hown' hgrow
        have hX6 := (HX5.out.alloc (.cells #[.int .i64 x] 3)).grown hgrow (Ne.symm hne.out)
        refine ⟨own_slice hown' (by omega), hX6, (HR5.out.alloc _).grown hgrow (Ne.symm hne2.out), ((HC5.out.alloc _).past hgrow (fun j hj => by have := (HO5.out.lt j hj).1; omega)).more (by omega), turn_new (turn_of_below HG5.out (below_all _ _)) hgrow (fun j hj => by have := (HO5.out.lt j hj).1; omega), own_ne_box hown' hX6 (by decide)⟩
      have KEY := Lib.hid key
      clear key
      cases b with
      | false =>
        go_wp2_with (at_builtin; refine wpList_append_own _ rfl _ _ 24 rfl (w.heap.size + 1) 3 i0 (.int .i64 0) 1 8 Tryd.underlying24 hi0' hz0 hz1 hz2 rfl (by decide) _ k (iv L) rfl (HO5.out.alloc _) ⟨w5.heap.size, 0, none⟩ 1 1 [.int .i64 z] rfl rfl (cell_one_new _ _ _) (by simp [Value.oneCell']) (by unfold maxLen; omega) (by omega) (by have := HX5.out.lt; simp; omega) ?_; intro v' w6 hown' hgrow _; obtain ⟨⟨g', cap', rfl⟩, x6, r6, cu6, gw6, ne6⟩ := KEY.out z _ _ hown' hgrow; have HO6 := Lib.hid hown'; have HX6 := Lib.hid x6; have HR6 := Lib.hid r6; have HC6 := Lib.hid cu6; have HG6 := Lib.hid gw6; have NE6 := Lib.hid ne6; obtain ⟨d0, d1, d2⟩ := x6.cells; have f3 := x6.frozen 2; clear hown' hgrow x6 r6 cu6 gw6 ne6)
        go_roundw
        case rel => exact ⟨k + 1, _, L ++ [z], by omega, by simp [HLk.out], cells_snoc HCB.out HZ.out, by go_num, HX6.out.set _, HR6.out.other (by simp <;> omega) _, by rw [iv_snoc]; exact own_setBox HO6.out NE6.out _ _, HC6.out.setOther (by omega) _ _, turn_setNew HG6.out (by omega) _ _⟩
        case measure => simp [intOf]; omega
      | true =>
        go_wp2_with (at_builtin; refine wpList_append_own _ rfl _ _ 24 rfl (w.heap.size + 1) 3 i0 (.int .i64 0) 1 8 Tryd.underlying24 hi0' hz0 hz1 hz2 rfl (by decide) _ k (iv L) rfl (HO5.out.alloc _) ⟨w5.heap.size, 0, none⟩ 1 1 [.int .i64 (-9999)] rfl rfl (cell_one_new _ _ _) (by simp [Value.oneCell']) (by unfold maxLen; omega) (by omega) (by have := HX5.out.lt; simp; omega) ?_; intro v' w6 hown' hgrow _; obtain ⟨⟨g', cap', rfl⟩, x6, r6, cu6, gw6, ne6⟩ := KEY.out (-9999) _ _ hown' hgrow; have HO6 := Lib.hid hown'; have HX6 := Lib.hid x6; have HR6 := Lib.hid r6; have HC6 := Lib.hid cu6; have HG6 := Lib.hid gw6; have NE6 := Lib.hid ne6; obtain ⟨d0, d1, d2⟩ := x6.cells; have f3 := x6.frozen 2; clear hown' hgrow x6 r6 cu6 gw6 ne6)
        go_roundw
        case rel => exact ⟨k + 1, _, L ++ [(-9999)], by omega, by simp [HLk.out], cells_snoc HCB.out rfl, by go_num, HX6.out.set _, HR6.out.other (by simp <;> omega) _, by rw [iv_snoc]; exact own_setBox HO6.out NE6.out _ _, HC6.out.setOther (by omega) _ _, turn_setNew HG6.out (by omega) _ _⟩
        case measure => simp [intOf]; omega
    · obtain rfl : k = n := by omega
      have hn0 : 0 < k := by omega
      have hge : ¬ ((k : Int) < (k : Int)) := by omega
      obtain ⟨cp, gr, hout, hgr9, hrow, hcp⟩ := Row.of_own HO.out hn0
      subst hout
      have HQ := Lib.hid (show Fq w g a l c (K + 6 + 4 * k) w.heap.size fb wd hi gr cp L wr from ⟨HC.out, HR.out, by rw [HLk.out]; exact HX.out, hrow, HG.out⟩)
      have HCP := Lib.hid (show L.length ≤ cp by rw [HLk.out]; exact hcp)
      clear HC HR HX HG HO hrow hcp
      go_wp2_with fail
      refine (one_any wr g a l c (K + 6 + 4 * k) 10 (by omega) (by omega) (by omega) HQ.out.cur).mono ?_
      rintro e w7 ⟨v, ⟨b, rfl⟩, rfl, hc, ho⟩
      have HQ7 := Lib.hid (HQ.out.step hc ho (by omega) (by omega) (by omega))
      clear hc ho HQ c0 c1 c2
      have hk25 : L.length ≤ 25 ∧ 1 ≤ L.length := by have := HLk.out; omega
      have HRB := Lib.hid (show w.heap.size < gr by have := HQ7.out.apart; omega)
      have hzb := HQ7.out.box.lt
      have hzr := HQ7.out.res.lt
      have hzg := HQ7.out.row.lt
      go_upto_if 39 with fail
      go_cut [] (fun wx => FrG w g a l c (K + 6 + 4 * k + 10) w.heap.size fb wd hi wx)
      case first =>
        cases b with
        | false =>
          go_wp2_with fail
          go_meet
          exact ⟨gr, cp, L, ⟨by rw [HLk.out]; exact HN.out.symm, HCB.out⟩, hk25.2, by omega, HCP.out, HRB.out, HQ7.out.more (by omega)⟩
        | true =>
          have hLl : 1 ≤ L.length ∧ L.length ≤ 1048576 := by omega
          have HPK := Lib.hid (fun (W : World) (h : CurIs W g a l c (K + 6 + 4 * k + 2)) => pick_any W g a l c (K + 6 + 4 * k + 2) L.length (by omega) hLl.1 hLl.2 h)
          have HAM := Lib.hid (fun (b : Nat) (W : World) (h : CurIs W g a l c (K + 6 + 4 * k + 2 + 2)) (hb : b ≠ g) (hbs : b < W.heap.size) (hL : ∀ k (h : k < [(9000 : Int), -9000, 0].length), W.cell? ⟨b, k, none⟩ = some (.int .i64 [(9000 : Int), -9000, 0][k])) => among_any W g a l c (K + 6 + 4 * k + 2 + 2) b 3 [9000, -9000, 0] (by omega) rfl (by omega) (by omega) h hb hbs hL 3)
          have HLIT := Lib.hid (fun (W : World) => lit_ints W [9000, -9000, 0] 3)
          have hgw : g < w7.heap.size := HQ7.out.cur.lt
          have hap : fb ≠ gr := Ne.symm HQ7.out.apart.1
          go_wp2_with fail
          go_region_held3 (fun w' => w'.cell? ⟨fb, 2, none⟩ = some (.slice (some ⟨gr, 0, none⟩) L.length cp))
            (first | (exact (hQ102.out.box.other (p := ⟨gr, r, none⟩) hap _).cells.2.2) | (with_reducible exact hQ102.out.box.cells.2.2) | (with_reducible exact (hQ102.out.alloc _).box.cells.2.2) | (with_reducible exact hQ101.out.box.cells.2.2) | (with_reducible exact (hQ101.out.alloc _).box.cells.2.2) | (with_reducible exact HQ7.out.drew.box.cells.2.2) | (with_reducible exact (HQ7.out.alloc _).drew.box.cells.2.2) | go_keep)
            (first | (go_at_call 27; (with_reducible refine (HPK.out _ ?_).mono ?_); (first | ((with_reducible exact HQ7.out.drew.cur); rintro e w101 ⟨v, ⟨r, hr, rfl⟩, rfl, hc, ho⟩; have hQ101 := Lib.hid (HQ7.out.drew.step hc ho (by omega) (by omega) (by omega)); have hs101 : w101.heap.size = w7.heap.size := ho.2; have hr1 := hr; have hr2 : (r : Int) < (L.length : Int) := (by omega); clear hc ho hr) | ((with_reducible exact (HQ7.out.alloc _).drew.cur); rintro e w101 ⟨v, ⟨r, hr, rfl⟩, rfl, hc, ho⟩; have hQ101 := Lib.hid ((HQ7.out.alloc _).drew.step hc ho (by omega) (by omega) (by omega)); have hs101 : w101.heap.size = w7.heap.size + 1 := ho.2.trans (World.size_alloc _ _); have hlt101 := Lib.hid (fun k (hk : k < [(9000 : Int), -9000, 0].length) => (World.cell?_of_block (ho.1.block w7.heap.size (by show w7.heap.size < (w7.alloc _).heap.size; rw [World.size_alloc]; omega) (by intro e; injection e with e; omega))).trans (HLIT.out w7 k hk)); have hr1 := hr; have hr2 : (r : Int) < (L.length : Int) := (by omega); clear hc ho hr))) | (go_at_call 28; (first | ((with_reducible refine (HAM.out _ _ hQ101.out.cur ?_ ?_ hlt101.out).mono ?_); (omega); (omega); rintro e w102 ⟨v, ⟨z, hz, rfl⟩, rfl, hc, ho⟩; have hQ102 := Lib.hid (hQ101.out.step hc ho (by omega) (by omega) (by omega)); obtain ⟨ov, hov⟩ : ∃ ov, w102.cell? ⟨gr, r, none⟩ = some ov := ⟨_, hQ102.out.row.cell (k := r) (by rw [iv_length]; exact hr1)⟩; have hfz := hQ102.out.row.frozen r; have hr0 : (0 : Int) ≤ (r : Int) := (by omega); have HZC := Lib.hid (cell_three hz); clear hc ho hz) | ((with_reducible refine (HAM.out _ _ (hQ101.out.alloc _).cur ?_ ?_ ?_).mono ?_); (omega); (rw [World.size_alloc]; omega); (have h9 := HLIT.out w101; rw [hs101] at h9; exact h9); rintro e w102 ⟨v, ⟨z, hz, rfl⟩, rfl, hc, ho⟩; have hQ102 := Lib.hid ((hQ101.out.alloc _).step hc ho (by omega) (by omega) (by omega)); obtain ⟨ov, hov⟩ : ∃ ov, w102.cell? ⟨gr, r, none⟩ = some ov := ⟨_, hQ102.out.row.cell (k := r) (by rw [iv_length]; exact hr1)⟩; have hfz := hQ102.out.row.frozen r; have hr0 : (0 : Int) ≤ (r : Int) := (by omega); have HZC := Lib.hid (cell_three hz); clear hc ho hz))))
          all_goals (go_wp2_with fail; go_meet)
          all_goals exact ⟨gr, cp, L.set r z, ⟨by rw [List.length_set, HLk.out]; exact HN.out.symm, cells_set HCB.out HZC.out r⟩, by rw [List.length_set]; omega, by rw [List.length_set]; omega, by rw [List.length_set]; exact HCP.out, HRB.out, (hQ102.out.set (by omega) (by omega) r z).more (by omega)⟩
      case rest =>
        obtain ⟨gr2, cp2, L2, hgd2, m1, m2, m3, m4, hq⟩ := hcut
        have HGD := Lib.hid (show goodB wd hi L2 = true from good_mk (by have := HW.out; exact shapeB_iff.2 (by omega)) hgd2.1 hgd2.2)
        clear hgd2
        have HQR := Lib.hid hq
        obtain ⟨q0, q1, q2⟩ := hq.box.cells
        have hzb' := hq.box.lt
        have hzr' := hq.res.lt
        go_wp2_with fail
        refine (one_any wc g a l c _ 24 (by omega) (by omega) (by omega) hq.cur).mono ?_
        rintro e w8 ⟨v, ⟨b, rfl⟩, rfl, hc, ho⟩
        have HQ8 := Lib.hid (hq.step hc ho (by omega) (by omega) (by omega))
        have hsz8 := ho.2
        clear hc ho hq HQR q0 q1 q2
        obtain ⟨q0, q1, q2⟩ := HQ8.out.box.cells
        obtain ⟨r0, r1, r2⟩ := HQ8.out.res.cells
        have g0 := HQ8.out.res.frozen 0
        have g1 := HQ8.out.res.frozen 1
        have g2 := HQ8.out.res.frozen 2
        have hww := HW.out
        cases b with
        | false =>
          go_wp2
          refine bodyPost_ret (v := .agg #[.int .i64 wd, .int .i64 hi, .slice (some ⟨gr2, 0, none⟩) L2.length cp2]) (by simp [results, Tryd.results46, go_sem, r0, r1, r2]) rfl ⟨wd, hi, L2, _, cp2, HGD.out, m3, rfl, ?_, ?_, ?_⟩
          · exact (ownI_set (ownI_set (ownI_set (HQ8.out.own m4) (by omega) _) (by omega) _) (by omega) _).more (by omega)
          · exact (((HQ8.out.cur.setOther (by omega) _ _).setOther (by omega) _ _).setOther (by omega) _ _).more (by omega)
          · exact turn_setNew (turn_setNew (turn_setNew HQ8.out.grown (Nat.le_refl _) _ _) (Nat.le_refl _) _ _) (Nat.le_refl _) _ _
        | true =>
          have h0 := HQ8.out.box.frozen 0
          have h1 := HQ8.out.box.frozen 1
          have h2 := HQ8.out.box.frozen 2
          go_wp2_with fail
          refine (fill_room 8 8 3 w8 rfl).mono ?_
          rintro e w9 ⟨a9, c9, rfl, hc9, o9, b9⟩
          have HQ9 := Lib.hid (HQ8.out.below b9)
          have HO9 := Lib.hid o9
          have hsz9 := b9.size
          clear o9 b9 q0 q1 q2 r0 r1 r2 g0 g1 g2 h0 h1 h2
          obtain ⟨q0, q1, q2⟩ := HQ9.out.box.cells
          obtain ⟨r0, r1, r2⟩ := HQ9.out.res.cells
          have g0 := HQ9.out.res.frozen 0
          have g1 := HQ9.out.res.frozen 1
          have g2 := HQ9.out.res.frozen 2
          have h0 := HQ9.out.box.frozen 0
          have h1 := HQ9.out.box.frozen 1
          have h2 := HQ9.out.box.frozen 2
          have hfe : ¬ fb = w.heap.size := by omega
          have hfe2 : ¬ w.heap.size = fb := by omega
          go_wp2
          refine bodyPost_ret (v := .agg #[.int .i64 8, .int .i64 8, .slice a9 64 c9]) (by simp [results, Tryd.results46, go_sem, r0, r1, r2, hfe, hfe2]) rfl ⟨8, 8, List.replicate ((8 : Int) * 8).toNat 3, a9, c9, by decide, by simpa using hc9, rfl, ?_, ?_, ?_⟩
          · exact (ownI_set (ownI_set (ownI_set (ownI_set (ownI_set (ownI_set HO9.out (by omega) _) (by omega) _) (by omega) _) (by omega) _) (by omega) _) (by omega) _).more (by omega)
          · exact ((((((HQ9.out.cur.setOther (by omega) _ _).setOther (by omega) _ _).setOther (by omega) _ _).setOther (by omega) _ _).setOther (by omega) _ _).setOther (by omega) _ _).more (by omega)
          · exact turn_setNew (turn_setNew (turn_setNew (turn_setNew (turn_setNew (turn_setNew HQ9.out.grown (by omega) _ _) (by omega) _ _) (by omega) _ _) (Nat.le_refl _) _ _) (Nat.le_refl _) _ _) (Nat.le_refl _) _ _
end Go.Proofs.YtgfgimpglaepaabDoor
