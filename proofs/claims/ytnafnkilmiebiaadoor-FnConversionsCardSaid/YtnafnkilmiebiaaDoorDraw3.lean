/- The draws of chapter 3. -/
import Derived.Test.YtnafnkilmiebiaaDoorAmong
import Derived.Test.YtnafnkilmiebiaaDoorConv
namespace Go.Proofs.YtnafnkilmiebiaaDoor
open Go.RowKit
set_option linter.unusedVariables false
/-- what a draw leaves that lays lists of its own -/
def DrawnG (g : Nat) (a : Option Addr) (l : List Int) (c K : Nat) (P : Value → Prop) (w : World) (e : Ending) (w' : World) : Prop :=
  ∃ v, P v ∧ e = .returned v ∧ CurIs w' g a l c K ∧ w.grownBy w' (some g)
theorem grow_alloc {w w2 : World} {o : Obj} {g : Nat} (h : (w.alloc o).grownBy w2 (some g)) : w.grownBy w2 (some g) :=
  ⟨h.os, h.tape, h.output, by have := h.size; simp at this; omega, fun k hk hne => (h.block k (by simp; omega) hne).trans (Below.heap_alloc w o k hk)⟩
theorem grow_trans {a b c : World} {g : Nat} (h : a.grownBy b (some g)) (k : b.grownBy c (some g)) : a.grownBy c (some g) :=
  ⟨k.os.trans h.os, k.tape.trans h.tape, k.output.trans h.output, Nat.le_trans h.size k.size, fun i hi hne => (k.block i (by have := h.size; omega) hne).trans (h.block i hi hne)⟩
def IsUnit (v : Value) : Prop := ∃ u : Int, 0 ≤ u ∧ u ≤ 9 ∧ v = .int .i64 u
def IsTen (v : Value) : Prop := ∃ x : Int, -100000 ≤ x ∧ x ≤ 100000 ∧ v = .int .i64 x

set_option maxHeartbeats 1000000 in
theorem unit_any (w : World) (g : Nat) (a : Option Addr) (l : List Int) (c K : Nat) (hK : K ≤ 900000) (h : CurIs w g a l c K) :
    Calls Tryd.prog 40 #[.pointer (some ⟨g, 0, none⟩)] w (DrawnG g a l c (K + 4) IsUnit w) := by
  have H := Lib.hid h
  clear h
  go_enter Tryd.func40, Tryd.ntmps40
  go_wp2_with fail
  refine (one_any w g a l c K 20 (by omega) (by omega) (by omega) H.out).mono ?_
  rintro e w1 ⟨v, ⟨b, rfl⟩, rfl, hc, ho⟩
  have HC := Lib.hid hc
  have HO := Lib.hid ho.1
  clear hc ho
  cases b with
  | true =>
    go_wp2_with fail
    refine (among_any _ g a l c (K + 2) _ 2 [0, 9] (by omega) rfl (by omega) (by omega) (HC.out.alloc _) (by have := HC.out.lt; omega) (by simp) (by intro k hk; exact lit_ints w1 _ _ k hk) 2).mono ?_
    rintro e w2 ⟨v, ⟨z, hz, rfl⟩, rfl, hc, ho⟩
    have HC2 := Lib.hid hc
    have HO2 := Lib.hid (grow_trans HO.out (grow_alloc ho.1))
    have hz2 : 0 ≤ z ∧ z ≤ 9 := by simp only [List.mem_cons, List.not_mem_nil, or_false] at hz; omega
    clear hc ho hz
    go_wp2
    go_ret
    exact ⟨_, ⟨z, hz2.1, hz2.2, rfl⟩, rfl, HC2.out, HO2.out⟩
  | false =>
    go_wp2_with fail
    refine (pick_any _ g a l c (K + 2) 8 (by omega) (by omega) (by omega) HC.out).mono ?_
    rintro e w2 ⟨v, ⟨r, hr, rfl⟩, rfl, hc, ho⟩
    have HC2 := Lib.hid hc
    have HO2 := Lib.hid (grow_trans HO.out ho.1)
    clear hc ho
    go_wp2
    go_ret
    exact ⟨_, ⟨1 + (r : Int), by omega, by omega, rfl⟩, rfl, HC2.out, HO2.out⟩

def tenL : List Int := [0, 1, -1, 5, -5, 100, 212, -273, 327, 980, 2731, 99999, -99999, 100000, -100000]
theorem tenL_bd : ∀ z ∈ tenL, -100000 ≤ z ∧ z ≤ 100000 := by decide

/-- a list of the draw's own, behind a step of the cursor, cut short -/
theorem cut_cells {w w1 : World} {g n : Nat} {L : List Int} {t : TypeId} (hne : w.heap.size ≠ g) (hg : (w.alloc (.cells (L.map (Value.int .i64)).toArray t)).grownBy w1 (some g)) (k : Nat) (h : k < (L.take n).length) :
    w1.cell? ⟨w.heap.size, k, none⟩ = some (.int .i64 (L.take n)[k]) := by
  have hk : k < L.length := by rw [List.length_take] at h; omega
  have h1 := lit_ints w L t k hk
  have h2 := hg.block w.heap.size (by simp) (fun e => by injection e with e; exact hne e)
  rw [List.getElem_take, ← h1]
  exact World.cell?_of_block h2

set_option maxHeartbeats 2000000 in
theorem tenths_any (w : World) (g : Nat) (a : Option Addr) (l : List Int) (c K : Nat) (hK : K ≤ 900000) (h : CurIs w g a l c K) :
    Calls Tryd.prog 43 #[.pointer (some ⟨g, 0, none⟩)] w (DrawnG g a l c (K + 4) IsTen w) := by
  have H := Lib.hid h
  have hgl := h.lt
  clear h
  go_enter Tryd.func43, Tryd.ntmps43
  go_wp2_with fail
  refine (pick_any _ g a l c K 24 (by omega) (by omega) (by omega) (H.out.alloc _)).mono ?_
  rintro e w1 ⟨v, ⟨r, hr, rfl⟩, rfl, hc, ho⟩
  have HC := Lib.hid hc
  have HO := Lib.hid (grow_alloc ho.1)
  obtain ⟨q, hq⟩ : ∃ q, r / 11 = q := ⟨_, rfl⟩
  have CC := Lib.hid (fun k h => cut_cells (L := tenL) (n := 13 + q) (by omega) ho.1 k h)
  have hz1 : w.heap.size < w1.heap.size := by have := ho.1.size; simp at this; omega
  have a1 : IntKind.i64.wrap ((r : Int) / 11) = (q : Int) := by rw [IntWalk.i64_in _ (by omega)]; omega
  have hq2 : q ≤ 2 := by omega
  clear hc ho hq
  go_wp2_with fail
  refine (among_any _ g a l c (K + 2) w.heap.size (13 + q) (tenL.take (13 + q)) (by omega) (by rw [List.length_take]; simp [tenL]; omega) (by omega) (by omega) HC.out (by omega) hz1 CC.out _).mono ?_
  rintro e w2 ⟨v, ⟨z, hz, rfl⟩, rfl, hc, ho⟩
  have HC2 := Lib.hid hc
  have HO2 := Lib.hid (grow_trans HO.out ho.1)
  have hz2 := tenL_bd z (List.mem_of_mem_take hz)
  clear hc ho hz
  go_wp2
  go_ret
  exact ⟨_, ⟨z, hz2.1, hz2.2, rfl⟩, rfl, HC2.out, HO2.out⟩

/-- what DrawConvertTenths gives -/
def ThreeNums (w : World) (e : Ending) (w' : World) : Prop := ∃ x f t : Int, -200000 ≤ x ∧ x ≤ 200000 ∧ 0 ≤ f ∧ f ≤ 9 ∧ 0 ≤ t ∧ t ≤ 9 ∧ e = .returned (.tuple #[.int .i64 x, .int .i64 f, .int .i64 t]) ∧ Below w.heap.size w w'

set_option maxRecDepth 100000 in
set_option maxHeartbeats 4000000 in
theorem drawConv_is (w : World) (a : Option Addr) (l : List Int) (c : Nat) (hi : Ints .u8 w w.heap.size a l) (hb : ∀ z ∈ l, 0 ≤ z ∧ z ≤ 255) (hl : l.length ≤ 1048576) :
    Calls Tryd.prog 23 #[.slice a l.length c] w (ThreeNums w) := by
  have HC0 := Lib.hid (cur_new w a l c hi hb hl)
  clear hi hb
  go_enter Tryd.func23, Tryd.ntmps23
  go_wp2_with fail
  refine (unit_any _ _ a l c 0 (by omega) HC0.out).mono ?_
  rintro e w1 ⟨v, ⟨f, hf0, hf1, rfl⟩, rfl, hc, ho⟩
  have HC1 := Lib.hid hc
  have HB1 := Lib.hid (((Below.refl w.heap.size w).alloc (Nat.le_refl _) _).grown ho (by simp) (fun k e => by injection e with e; omega))
  clear hc ho
  go_wp2_with fail
  refine (unit_any _ _ a l c 4 (by omega) HC1.out).mono ?_
  rintro e w2 ⟨v, ⟨t, ht0, ht1, rfl⟩, rfl, hc, ho⟩
  have HC2 := Lib.hid hc
  have HB2 := Lib.hid (HB1.out.grown ho HB1.out.size (fun k e => by injection e with e; omega))
  clear hc ho HC1 HB1 HC0
  go_wp2_with fail
  go_loopw [7, 8] (fun tv i wr => ∃ (k : Nat) (t : Int), k ≤ 8 ∧ i = .int .i64 k ∧ tv = .int .i64 t ∧ 0 ≤ t ∧ t ≤ 9 ∧ CurIs wr w.heap.size a l c (8 + 4 * k) ∧ Below w.heap.size w wr) (fun _ i _ => 8 - (intOf i).toNat)
  case atStart => exact ⟨0, t, by omega, rfl, rfl, ht0, ht1, HC2.out, HB2.out⟩
  case round =>
    clear HC2 HB2
    obtain ⟨k, t1, hk, rfl, rfl, hs0, hs1, hcur, hB⟩ := hrel
    have HC := Lib.hid hcur
    have HB := Lib.hid hB
    clear hcur hB
    by_cases hlt : k < 8
    · have hi : (k : Int) < 8 := by omega
      have F1 := Lib.hid (fun W => specUnit_is f (unitB f) W rfl)
      have F2 := Lib.hid (fun W => specUnit_is t1 (unitB t1) W rfl)
      have K1 := Lib.hid (fun W => specKind_any f W)
      have K2 := Lib.hid (fun W => specKind_any t1 W)
      generalize unitB f = uf at *
      generalize unitB t1 = ut at *
      generalize kindZ f - 1 = kf at *
      generalize kindZ t1 - 1 = kt at *
      go_wp2_with fail
      refine (F1.out _).mono ?_
      rintro e w3 ⟨rfl, rfl⟩
      cases uf with
      | false =>
        go_wp2_with fail
        refine (tenths_any _ _ a l c (8 + 4 * k) (by omega) HC.out).mono ?_
        rintro e w8 ⟨v, ⟨x, hx0, hx1, rfl⟩, rfl, hc, ho⟩
        have HC8 := Lib.hid hc
        have HB8 := Lib.hid (HB.out.grown ho HB.out.size (fun k e => by injection e with e; omega))
        clear hc ho
        go_wp2_with fail
        refine (pick_any _ _ a l c (8 + 4 * k + 4) 20 (by omega) (by omega) (by omega) HC8.out).mono ?_
        rintro e w9 ⟨v, ⟨r, hr, rfl⟩, rfl, hc, ho⟩
        have HB9 := Lib.hid (HB8.out.trans (ho.below (Nat.le_refl _)))
        clear hc ho
        go_wp2
        go_ret3
        exact ⟨x + (r : Int) - 10, f, t1, by omega, by omega, hf0, hf1, hs0, hs1, rfl, HB9.out⟩
      | true =>
        go_wp2_with fail
        refine (F2.out _).mono ?_
        rintro e w3 ⟨rfl, rfl⟩
        cases ut with
        | false =>
          go_wp2_with fail
          refine (tenths_any _ _ a l c (8 + 4 * k) (by omega) HC.out).mono ?_
          rintro e w8 ⟨v, ⟨x, hx0, hx1, rfl⟩, rfl, hc, ho⟩
          have HC8 := Lib.hid hc
          have HB8 := Lib.hid (HB.out.grown ho HB.out.size (fun k e => by injection e with e; omega))
          clear hc ho
          go_wp2_with fail
          refine (pick_any _ _ a l c (8 + 4 * k + 4) 20 (by omega) (by omega) (by omega) HC8.out).mono ?_
          rintro e w9 ⟨v, ⟨r, hr, rfl⟩, rfl, hc, ho⟩
          have HB9 := Lib.hid (HB8.out.trans (ho.below (Nat.le_refl _)))
          clear hc ho
          go_wp2
          go_ret3
          exact ⟨x + (r : Int) - 10, f, t1, by omega, by omega, hf0, hf1, hs0, hs1, rfl, HB9.out⟩
        | true =>
          go_wp2_with fail
          refine (K1.out _).mono ?_
          rintro e w3 ⟨rfl, rfl⟩
          go_wp2_with fail
          refine (K2.out _).mono ?_
          rintro e w3 ⟨rfl, rfl⟩
          cases hne : (kf != kt) with
          | false =>
            go_wp2_with fail
            refine (tenths_any _ _ a l c (8 + 4 * k) (by omega) HC.out).mono ?_
            rintro e w8 ⟨v, ⟨x, hx0, hx1, rfl⟩, rfl, hc, ho⟩
            have HC8 := Lib.hid hc
            have HB8 := Lib.hid (HB.out.grown ho HB.out.size (fun k e => by injection e with e; omega))
            clear hc ho
            go_wp2_with fail
            refine (pick_any _ _ a l c (8 + 4 * k + 4) 20 (by omega) (by omega) (by omega) HC8.out).mono ?_
            rintro e w9 ⟨v, ⟨r, hr, rfl⟩, rfl, hc, ho⟩
            have HB9 := Lib.hid (HB8.out.trans (ho.below (Nat.le_refl _)))
            clear hc ho
            go_wp2
            go_ret3
            exact ⟨x + (r : Int) - 10, f, t1, by omega, by omega, hf0, hf1, hs0, hs1, rfl, HB9.out⟩
          | true =>
            go_wp2_with fail
            refine (one_any _ _ a l c (8 + 4 * k) 12 (by omega) (by omega) (by omega) HC.out).mono ?_
            rintro e w3 ⟨v, ⟨b, rfl⟩, rfl, hc, ho⟩
            have HC3 := Lib.hid hc
            have HB3 := Lib.hid (HB.out.trans (ho.below (Nat.le_refl _)))
            clear hc ho
            cases b with
            | true =>
              go_wp2_with fail
              refine (tenths_any _ _ a l c (8 + 4 * k + 2) (by omega) HC3.out).mono ?_
              rintro e w8 ⟨v, ⟨x, hx0, hx1, rfl⟩, rfl, hc, ho⟩
              have HC8 := Lib.hid hc
              have HB8 := Lib.hid (HB3.out.grown ho HB3.out.size (fun k e => by injection e with e; omega))
              clear hc ho
              go_wp2_with fail
              refine (pick_any _ _ a l c (8 + 4 * k + 2 + 4) 20 (by omega) (by omega) (by omega) HC8.out).mono ?_
              rintro e w9 ⟨v, ⟨r, hr, rfl⟩, rfl, hc, ho⟩
              have HB9 := Lib.hid (HB8.out.trans (ho.below (Nat.le_refl _)))
              clear hc ho
              go_wp2
              go_ret3
              exact ⟨x + (r : Int) - 10, f, t1, by omega, by omega, hf0, hf1, hs0, hs1, rfl, HB9.out⟩
            | false =>
              go_wp2_with fail
              refine (pick_any _ _ a l c (8 + 4 * k + 2) 8 (by omega) (by omega) (by omega) HC3.out).mono ?_
              rintro e w4 ⟨v, ⟨r, hr, rfl⟩, rfl, hc, ho⟩
              have HC4 := Lib.hid hc
              have HB4 := Lib.hid (HB3.out.trans (ho.below (Nat.le_refl _)))
              clear hc ho
              go_wp2
              exact ⟨⟨k + 1, 1 + (r : Int), by omega, by go_num, rfl, by omega, by omega, HC4.out.more (by omega), HB4.out⟩, by simp [intOf]; omega⟩
    · obtain rfl : k = 8 := by omega
      go_wp2_with fail
      refine (tenths_any _ _ a l c (8 + 4 * 8) (by omega) HC.out).mono ?_
      rintro e w8 ⟨v, ⟨x, hx0, hx1, rfl⟩, rfl, hc, ho⟩
      have HC8 := Lib.hid hc
      have HB8 := Lib.hid (HB.out.grown ho HB.out.size (fun k e => by injection e with e; omega))
      clear hc ho
      go_wp2_with fail
      refine (pick_any _ _ a l c (8 + 4 * 8 + 4) 20 (by omega) (by omega) (by omega) HC8.out).mono ?_
      rintro e w9 ⟨v, ⟨r, hr, rfl⟩, rfl, hc, ho⟩
      have HB9 := Lib.hid (HB8.out.trans (ho.below (Nat.le_refl _)))
      clear hc ho
      go_wp2
      go_ret3
      exact ⟨x + (r : Int) - 10, f, t1, by omega, by omega, hf0, hf1, hs0, hs1, rfl, HB9.out⟩
end Go.Proofs.YtnafnkilmiebiaaDoor
