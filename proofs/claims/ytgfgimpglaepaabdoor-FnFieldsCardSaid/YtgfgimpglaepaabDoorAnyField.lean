/- The model's draw of a field that may be invalid. -/
import Derived.Test.YtgfgimpglaepaabDoorFieldDraw
namespace Go.Proofs.YtgfgimpglaepaabDoor
open Go.RowKit
set_option linter.unusedVariables false
set_option linter.unusedSimpArgs false
/-- the slice at a1 reads L, in a block not below B; of an empty list nothing is asked -/
def Own2 (w : World) (B : Nat) (a1 : Option Addr) (L : List Int) : Prop := L = [] ∨ ∃ gr o, a1 = some ⟨gr, o, none⟩ ∧ B ≤ gr ∧ gr < w.heap.size ∧ (∀ j (h : j < L.length), w.cell? ⟨gr, o + j, none⟩ = some (.int .i64 L[j])) ∧ ∃ cur, w.heap[gr]? = some (.cells cur 3 (0, 0))
section
variable {w w' : World} {B C g : Nat} {a1 : Option Addr} {L : List Int}
theorem Own2.of_own (h : OwnI w B a1 L) : Own2 w B a1 L := by
  obtain ⟨gr, h1, rfl | ⟨h2, h3⟩⟩ := h
  · exact .inl rfl
  · exact .inr ⟨gr, 0, h2, h1, h3.lt, fun j hj => by rw [Nat.zero_add, h3.cell (k := j) (by rw [iv_length]; exact hj), iv_get], by obtain ⟨cur, hc, _⟩ := h3; exact ⟨cur, hc⟩⟩
theorem Own2.ints (h : Own2 w B a1 L) : Ints .i64 w w.heap.size a1 L := by
  rcases h with rfl | ⟨gr, o, h1, h2, h3, h4, _⟩
  · exact .inl rfl
  · exact .inr ⟨gr, o, h1, h3, h4⟩
theorem Own2.keep (h : Own2 w B a1 L) (hz : w.heap.size ≤ w'.heap.size) (hk : ∀ b, B ≤ b → b < w.heap.size → w'.heap[b]? = w.heap[b]?) : Own2 w' B a1 L := by
  rcases h with rfl | ⟨gr, o, h1, h2, h3, h4, cur, h5⟩
  · exact .inl rfl
  · exact .inr ⟨gr, o, h1, h2, by omega, fun j hj => (World.cell?_of_block (hk gr h2 h3)).trans (h4 j hj), cur, (hk gr h2 h3).trans h5⟩
theorem Own2.below (h : Own2 w B a1 L) (hb : Below w.heap.size w w') : Own2 w' B a1 L := h.keep hb.size fun b _ hb' => hb.block b hb'
theorem Own2.turn (h : Own2 w B a1 L) (t : w.grownBy w' (some g)) (hg : g < B) : Own2 w' B a1 L := h.keep t.size fun b hb hb' => t.block b hb' (by intro e; injection e with e; omega)
theorem Own2.set (h : Own2 w B a1 L) {b i : Nat} (hb : b < B) (u : Value) : Own2 (w.setCell ⟨b, i, none⟩ u) B a1 L := h.keep (by simp [World.setCell]) fun b' hb' _ => Below.heap_setCell w ⟨b, i, none⟩ u b' (by show b' ≠ b; omega)
theorem Own2.more (h : Own2 w B a1 L) (hc : C ≤ B) : Own2 w C a1 L := by
  rcases h with rfl | ⟨gr, o, h1, h2, h3, h4⟩
  · exact .inl rfl
  · exact .inr ⟨gr, o, h1, by omega, h3, h4⟩
end
theorem own2_tail {w : World} {B gr : Nat} {L : List Int} (h : Row w gr 3 (iv L)) (hB : B ≤ gr) (o : Nat) (ho : o = 1 ∨ L.tail = []) : Own2 w B (some ⟨gr, o, none⟩) L.tail := by
  rcases ho with rfl | ho
  · refine .inr ⟨gr, 1, rfl, hB, h.lt, fun j hj => ?_, by obtain ⟨cur, hc, _⟩ := h; exact ⟨cur, hc⟩⟩
    rw [List.length_tail] at hj
    rw [Nat.add_comm 1 j, h.cell (k := j + 1) (by rw [iv_length]; omega), iv_get, List.getElem_tail]
  · exact .inl ho
theorem Box.set0 {w : World} {b : Nat} {t : TypeId} {v0 v1 v2 : Value} (h : Box w b t v0 v1 v2) (u : Value) : Box (w.setCell ⟨b, 0, none⟩ u) b t u v1 v2 := by
  unfold Box at *
  simp [World.setCell, Array.getElem?_modify, h]
/-- a field is drawn, its cursor further -/
def ADraw (g : Nat) (a : Option Addr) (l : List Int) (c K : Nat) (w : World) (e : Ending) (w' : World) : Prop :=
  ∃ (wd hg : Int) (L : List Int) (a1 : Addr) (c1 : Nat), (L.length ≤ 64 ∧ L.length ≤ c1 ∧ 0 ≤ wd ∧ wd ≤ 9 ∧ 1 ≤ hg ∧ hg ≤ 8) ∧ e = .returned (.agg #[.int .i64 wd, .int .i64 hg, .slice (some a1) L.length c1]) ∧ Own2 w' w.heap.size (some a1) L ∧ CurIs w' g a l c K ∧ w.grownBy w' (some g)

set_option maxRecDepth 100000 in
set_option maxHeartbeats 8000000 in
theorem anyField_any (w : World) (g : Nat) (a : Option Addr) (l : List Int) (c K : Nat) (hK : K ≤ 800000) (h : CurIs w g a l c K) :
    Calls Tryd.prog 26 #[.pointer (some ⟨g, 0, none⟩)] w (ADraw g a l c (K + 400) w) := by
  have hg := h.lt
  have C0 := Lib.hid (h.alloc (.cells #[.int .i64 0, .int .i64 0, .slice none 0 0] 26))
  have T0 := Lib.hid (turn_below (g := g) (below_all w (.cells #[.int .i64 0, .int .i64 0, .slice none 0 0] 26)))
  have R0 := Lib.hid (Box.new w 26 (.int .i64 0) (.int .i64 0) (.slice none 0 0))
  have hgr := Lib.hid (show ¬ w.heap.size = g by omega)
  clear h
  go_enter Tryd.func26, Tryd.ntmps26
  go_wp2_with fail
  refine (field_any _ g a l c K (by omega) C0.out).mono ?_
  rintro e w1 ⟨wd, hi, L, a1, cp, ⟨m1, m2, m3, m4, m5, m6, m7⟩, rfl, ⟨gr, hgr1, hat⟩, hc, ho⟩
  rcases hat with hnil | ⟨rfl, hrow⟩
  · rw [hnil] at m1; simp at m1
  · rw [World.size_alloc] at hgr1
    have hz1 := ho.size
    rw [World.size_alloc] at hz1
    obtain ⟨fb, hfb⟩ : ∃ q, w1.heap.size = q := ⟨_, rfl⟩
    have X1 := Box.new w1 26 (.int .i64 wd) (.int .i64 hi) (.slice (some ⟨gr, 0, none⟩) L.length cp)
    rw [hfb] at X1
    have HQ := Lib.hid (show Fq w g a l c (K + 300) w.heap.size fb wd hi gr cp L (w1.alloc (.cells #[.int .i64 wd, .int .i64 hi, .slice (some ⟨gr, 0, none⟩) L.length cp] 26)) from
      ⟨hc.alloc _, (R0.out.turn ho hgr.out).alloc _, X1, hrow.alloc _, turn_of_below (turn_trans T0.out ho) (below_all _ _)⟩)
    obtain ⟨WA, hWA⟩ : ∃ W, w1.alloc (.cells #[.int .i64 wd, .int .i64 hi, .slice (some ⟨gr, 0, none⟩) L.length cp] 26) = W := ⟨_, rfl⟩
    rw [hWA] at HQ
    have HM := Lib.hid (show 1 ≤ wd ∧ wd ≤ 8 ∧ 1 ≤ hi ∧ hi ≤ 8 ∧ L.length ≤ cp ∧ w.heap.size + 1 ≤ gr ∧ g < gr ∧ g < fb ∧ w.heap.size < fb from ⟨m4, m5, m6, m7, m3, hgr1, by omega, by omega, by omega⟩)
    clear X1 hrow hc ho C0 T0 R0 m3 m4 m5 m6 m7
    go_wp2_with fail
    clear hWA hfb hz1 hgr1
    refine (pick_any _ g a l c (K + 300) 24 (by omega) (by omega) (by omega) HQ.out.cur).mono ?_
    rintro e w7 ⟨v, ⟨r9, hr9, rfl⟩, rfl, hc, ho⟩
    have hm := HM.out
    have HQ7 := Lib.hid (HQ.out.step hc ho (by omega) (by omega) (by omega))
    clear hc ho HQ
    have hzb := HQ7.out.box.lt
    have hzr := HQ7.out.res.lt
    have hzg := HQ7.out.row.lt
    have hgw : g < w7.heap.size := HQ7.out.cur.lt
    have hap : fb ≠ gr := Ne.symm HQ7.out.apart.1
    have hap2 : w.heap.size ≠ gr := Ne.symm HQ7.out.apart.2
    have hfe : ¬ fb = w.heap.size := by omega
    have hfe2 : ¬ w.heap.size = fb := by omega
    obtain ⟨q0, q1, q2⟩ := HQ7.out.box.cells
    have h0 := HQ7.out.box.frozen 0
    have h1 := HQ7.out.box.frozen 1
    have h2 := HQ7.out.box.frozen 2
    obtain ⟨t0, t1, t2⟩ := HQ7.out.res.cells
    have g0 := HQ7.out.res.frozen 0
    have g1 := HQ7.out.res.frozen 1
    have g2 := HQ7.out.res.frozen 2
    by_cases r0 : r9 = 0
    · subst r0
      have HLIT := Lib.hid (fun (W : World) => lit_ints W [0, 9, 8, hi] 3)
      go_wp2_with fail
      refine (among_any _ g a l c _ w7.heap.size 4 [0, 9, 8, hi] (by omega) rfl (by omega) (by omega) (HQ7.out.alloc _).cur (by omega) (by rw [World.size_alloc]; omega) (HLIT.out w7) 4).mono ?_
      rintro e w8 ⟨v, ⟨z, hz, rfl⟩, rfl, hc, ho⟩
      have hzb2 : 0 ≤ z ∧ z ≤ 9 := by
        simp only [List.mem_cons, List.not_mem_nil, or_false] at hz
        omega
      have HQ8 := Lib.hid ((HQ7.out.alloc _).step hc ho (by omega) (by omega) (by omega))
      clear hc ho hz HLIT q0 q1 q2 h0 h1 h2 t0 t1 t2 g0 g1 g2 HQ7
      obtain ⟨q0, q1, q2⟩ := HQ8.out.box.cells
      have h0 := HQ8.out.box.frozen 0
      obtain ⟨t0, t1, t2⟩ := HQ8.out.res.cells
      have g0 := HQ8.out.res.frozen 0
      have g1 := HQ8.out.res.frozen 1
      have g2 := HQ8.out.res.frozen 2
      go_wp2
      refine bodyPost_ret (v := .agg #[.int .i64 z, .int .i64 hi, .slice (some ⟨gr, 0, none⟩) L.length cp]) (by simp [results, Tryd.results26, go_sem, t0, t1, t2, hfe, hfe2]) rfl ⟨z, hi, L, _, cp, ⟨by omega, by omega, by omega, by omega, by omega, by omega⟩, rfl, ?_, ?_, ?_⟩
      · exact Own2.of_own ⟨gr, by omega, .inr ⟨rfl, (((HQ8.out.row.other (show gr ≠ fb by omega) _).other (show gr ≠ w.heap.size by omega) _).other (show gr ≠ w.heap.size by omega) _).other (show gr ≠ w.heap.size by omega) _⟩⟩
      · exact ((((HQ8.out.cur.setOther (by omega) _ _).setOther (by omega) _ _).setOther (by omega) _ _).setOther (by omega) _ _).more (by omega)
      · exact turn_setNew (turn_setNew (turn_setNew (turn_setNew HQ8.out.grown (by omega) _ _) (Nat.le_refl _) _ _) (Nat.le_refl _) _ _) (Nat.le_refl _) _ _
    · have e0 : ((r9 : Int) == 0) = false := by rw [beq_eq_false_iff_ne]; omega
      by_cases r1 : r9 = 1
      · subst r1
        clear e0
        have hLl : 1 ≤ L.length ∧ L.length ≤ 1048576 := by omega
        have HPK := Lib.hid (fun (W : World) (h : CurIs W g a l c (K + 300 + 2)) => pick_any W g a l c (K + 300 + 2) L.length (by omega) hLl.1 hLl.2 h)
        have HAM := Lib.hid (fun (b : Nat) (W : World) (h : CurIs W g a l c (K + 300 + 2 + 2)) (hb : b ≠ g) (hbs : b < W.heap.size) (hL : ∀ k (h : k < [(9001 : Int), -9001, -9998, -9999].length), W.cell? ⟨b, k, none⟩ = some (.int .i64 [(9001 : Int), -9001, -9998, -9999][k])) => among_any W g a l c (K + 300 + 2 + 2) b 4 [9001, -9001, -9998, -9999] (by omega) rfl (by omega) (by omega) h hb hbs hL 4)
        have HLIT := Lib.hid (fun (W : World) => lit_ints W [9001, -9001, -9998, -9999] 3)
        go_wp2_with fail
        go_region_held3 (fun w' => w'.cell? ⟨fb, 2, none⟩ = some (.slice (some ⟨gr, 0, none⟩) L.length cp))
          (first | (exact (hQ102.out.box.other (p := ⟨gr, r, none⟩) hap _).cells.2.2) | (with_reducible exact hQ102.out.box.cells.2.2) | (with_reducible exact (hQ102.out.alloc _).box.cells.2.2) | (with_reducible exact hQ101.out.box.cells.2.2) | (with_reducible exact (hQ101.out.alloc _).box.cells.2.2) | (with_reducible exact HQ7.out.drew.box.cells.2.2) | (with_reducible exact (HQ7.out.alloc _).drew.box.cells.2.2) | go_keep)
          (first | (go_at_call 27; (with_reducible refine (HPK.out _ ?_).mono ?_); (first | ((with_reducible exact HQ7.out.drew.cur); rintro e w101 ⟨v, ⟨r, hr, rfl⟩, rfl, hc, ho⟩; have hQ101 := Lib.hid (HQ7.out.drew.step hc ho (by omega) (by omega) (by omega)); have hs101 : w101.heap.size = w7.heap.size := ho.2; have hr1 := hr; have hr2 : (r : Int) < (L.length : Int) := (by omega); clear hc ho hr) | ((with_reducible exact (HQ7.out.alloc _).drew.cur); rintro e w101 ⟨v, ⟨r, hr, rfl⟩, rfl, hc, ho⟩; have hQ101 := Lib.hid ((HQ7.out.alloc _).drew.step hc ho (by omega) (by omega) (by omega)); have hs101 : w101.heap.size = w7.heap.size + 1 := ho.2.trans (World.size_alloc _ _); have hlt101 := Lib.hid (fun k (hk : k < [(9001 : Int), -9001, -9998, -9999].length) => (World.cell?_of_block (ho.1.block w7.heap.size (by show w7.heap.size < (w7.alloc _).heap.size; rw [World.size_alloc]; omega) (by intro e; injection e with e; omega))).trans (HLIT.out w7 k hk)); have hr1 := hr; have hr2 : (r : Int) < (L.length : Int) := (by omega); clear hc ho hr))) | (go_at_call 28; (first | ((with_reducible refine (HAM.out _ _ hQ101.out.cur ?_ ?_ hlt101.out).mono ?_); (omega); (omega); rintro e w102 ⟨v, ⟨z, hz, rfl⟩, rfl, hc, ho⟩; have hQ102 := Lib.hid (hQ101.out.step hc ho (by omega) (by omega) (by omega)); obtain ⟨ov, hov⟩ : ∃ ov, w102.cell? ⟨gr, r, none⟩ = some ov := ⟨_, hQ102.out.row.cell (k := r) (by rw [iv_length]; exact hr1)⟩; have hfz := hQ102.out.row.frozen r; have hr0 : (0 : Int) ≤ (r : Int) := (by omega); clear hc ho hz) | ((with_reducible refine (HAM.out _ _ (hQ101.out.alloc _).cur ?_ ?_ ?_).mono ?_); (omega); (rw [World.size_alloc]; omega); (have h9 := HLIT.out w101; rw [hs101] at h9; exact h9); rintro e w102 ⟨v, ⟨z, hz, rfl⟩, rfl, hc, ho⟩; have hQ102 := Lib.hid ((hQ101.out.alloc _).step hc ho (by omega) (by omega) (by omega)); obtain ⟨ov, hov⟩ : ∃ ov, w102.cell? ⟨gr, r, none⟩ = some ov := ⟨_, hQ102.out.row.cell (k := r) (by rw [iv_length]; exact hr1)⟩; have hfz := hQ102.out.row.frozen r; have hr0 : (0 : Int) ≤ (r : Int) := (by omega); clear hc ho hz))))
        all_goals
          obtain ⟨hq2b, hq2r⟩ : fb < w102.heap.size ∧ w.heap.size < w102.heap.size := ⟨hQ102.out.box.lt, hQ102.out.res.lt⟩
          have HQ9 := Lib.hid (hQ102.out.set (by omega) (by omega) r z)
          obtain ⟨W9, hW9⟩ : ∃ W, w102.setCell ⟨gr, r, none⟩ (.int .i64 z) = W := ⟨_, rfl⟩
          rw [hW9] at HQ9 ⊢
          clear hW9 q0 q1 q2 h0 h1 h2 t0 t1 t2 g0 g1 g2
          obtain ⟨q0, q1, q2⟩ := HQ9.out.box.cells
          obtain ⟨t0, t1, t2⟩ := HQ9.out.res.cells
          have g0 := HQ9.out.res.frozen 0
          have g1 := HQ9.out.res.frozen 1
          have g2 := HQ9.out.res.frozen 2
          have hll : (L.set r z).length = L.length := List.length_set
          go_wp2
          refine bodyPost_ret (v := .agg #[.int .i64 wd, .int .i64 hi, .slice (some ⟨gr, 0, none⟩) (L.set r z).length cp]) (by simp [results, Tryd.results26, go_sem, t0, t1, t2, hfe, hfe2]) rfl ⟨wd, hi, L.set r z, _, cp, ⟨by omega, by omega, by omega, by omega, by omega, by omega⟩, rfl, ?_, ?_, ?_⟩
          · exact Own2.of_own ⟨gr, by omega, .inr ⟨rfl, ((HQ9.out.row.other (show gr ≠ w.heap.size by omega) _).other (show gr ≠ w.heap.size by omega) _).other (show gr ≠ w.heap.size by omega) _⟩⟩
          · exact (((HQ9.out.cur.setOther (by omega) _ _).setOther (by omega) _ _).setOther (by omega) _ _).more (by omega)
          · exact turn_setNew (turn_setNew (turn_setNew HQ9.out.grown (Nat.le_refl _) _ _) (Nat.le_refl _) _ _) (Nat.le_refl _) _ _
      · have e1 : ((r9 : Int) == 1) = false := by rw [beq_eq_false_iff_ne]; omega
        by_cases r2 : r9 = 2
        · subst r2
          clear e0 e1
          have hL1 : (1 : Int) ≤ (L.length : Int) := by omega
          have hL2 : (L.length : Int) ≤ (cp : Int) := by omega
          have hcp : 1 ≤ cp := by omega
          go_wp2_with fail
          case inl =>
            refine bodyPost_ret (v := .agg #[.int .i64 wd, .int .i64 hi, .slice (some ⟨gr, 0, none⟩) (L.length - 1) 0]) (by simp [results, Tryd.results26, go_sem, t0, t1, t2, hfe, hfe2]) rfl ⟨wd, hi, L.tail, ⟨gr, 0, none⟩, 0, ⟨by rw [List.length_tail]; omega, by rw [List.length_tail]; omega, by omega, by omega, by omega, by omega⟩, by rw [List.length_tail], ?_, ?_, ?_⟩
            · refine own2_tail ((((HQ7.out.row.other (show gr ≠ fb by omega) _).other (show gr ≠ w.heap.size by omega) _).other (show gr ≠ w.heap.size by omega) _).other (show gr ≠ w.heap.size by omega) _) (by omega) 0 (.inr (List.eq_nil_of_length_eq_zero (by rw [List.length_tail]; omega)))
            · exact ((((HQ7.out.cur.setOther (by omega) _ _).setOther (by omega) _ _).setOther (by omega) _ _).setOther (by omega) _ _).more (by omega)
            · exact turn_setNew (turn_setNew (turn_setNew (turn_setNew HQ7.out.grown (by omega) _ _) (Nat.le_refl _) _ _) (Nat.le_refl _) _ _) (Nat.le_refl _) _ _
          case inr =>
            refine bodyPost_ret (v := .agg #[.int .i64 wd, .int .i64 hi, .slice (some ⟨gr, 1, none⟩) (L.length - 1) (cp - 1)]) (by simp [results, Tryd.results26, go_sem, t0, t1, t2, hfe, hfe2]) rfl ⟨wd, hi, L.tail, ⟨gr, 1, none⟩, (cp - 1), ⟨by rw [List.length_tail]; omega, by rw [List.length_tail]; omega, by omega, by omega, by omega, by omega⟩, by rw [List.length_tail], ?_, ?_, ?_⟩
            · refine own2_tail ((((HQ7.out.row.other (show gr ≠ fb by omega) _).other (show gr ≠ w.heap.size by omega) _).other (show gr ≠ w.heap.size by omega) _).other (show gr ≠ w.heap.size by omega) _) (by omega) 1 (.inl rfl)
            · exact ((((HQ7.out.cur.setOther (by omega) _ _).setOther (by omega) _ _).setOther (by omega) _ _).setOther (by omega) _ _).more (by omega)
            · exact turn_setNew (turn_setNew (turn_setNew (turn_setNew HQ7.out.grown (by omega) _ _) (Nat.le_refl _) _ _) (Nat.le_refl _) _ _) (Nat.le_refl _) _ _
        · have e2 : ((r9 : Int) == 2) = false := by rw [beq_eq_false_iff_ne]; omega
          go_wp2
          refine bodyPost_ret (v := .agg #[.int .i64 wd, .int .i64 hi, .slice (some ⟨gr, 0, none⟩) L.length cp]) (by simp [results, Tryd.results26, go_sem, t0, t1, t2, hfe, hfe2]) rfl ⟨wd, hi, L, _, cp, ⟨by omega, by omega, by omega, by omega, by omega, by omega⟩, rfl, ?_, ?_, ?_⟩
          · exact Own2.of_own ⟨gr, by omega, .inr ⟨rfl, ((HQ7.out.row.other (show gr ≠ w.heap.size by omega) _).other (show gr ≠ w.heap.size by omega) _).other (show gr ≠ w.heap.size by omega) _⟩⟩
          · exact (((HQ7.out.cur.setOther (by omega) _ _).setOther (by omega) _ _).setOther (by omega) _ _).more (by omega)
          · exact turn_setNew (turn_setNew (turn_setNew HQ7.out.grown (Nat.le_refl _) _ _) (Nat.le_refl _) _ _) (Nat.le_refl _) _ _
end Go.Proofs.YtgfgimpglaepaabDoor
