/- The draws of chapter 7: full, DrawRegridTotal. The draw of CoarsenSum's arguments. The draw of SplitValue's arguments. Plain mathematics of FnRegrid: totals are kept; a regrid onto the shape of the blocks gives their sums; a weight of 0 gets nothing. The model's CoarsenSum and CoarsenMean. The program's sums of blocks. The program's CoarsenSum and CoarsenMean. SameTotal, the model's and the program's. The laws' vInts and vField on fields that read alike: true. The walk of FnRegrid. -/
import Derived.Test.YtccplndimdmjpaaDoorFieldDraws
import Derived.Deep.DeepCutAuto
import Derived.Deep.RegionHeld3
import Derived.Test.YtccplndimdmjpaaDoorLws
import Derived.Deep.RegionLaw
import Derived.Deep.AppendLies
import Derived.Test.YtccplndimdmjpaaDoorRtMath
import Derived.Test.YtccplndimdmjpaaDoorRgSpecB
import Derived.Test.YtccplndimdmjpaaDoorRgDiv
import Derived.Test.YtccplndimdmjpaaDoorRgBk
import Derived.Test.YtccplndimdmjpaaDoorRgFull
import Derived.Test.YtccplndimdmjpaaDoorVals
import Derived.Test.YtccplndimdmjpaaDoorFr
import Derived.Test.YtccplndimdmjpaaDoorFieldLaw
import Derived.Test.YtccplndimdmjpaaDoorRtSpec
import Derived.Test.YtccplndimdmjpaaDoorRtImpl
namespace Go.Proofs.YtccplndimdmjpaaDoor
open Go.RowKit
set_option linter.unusedVariables false
set_option linter.unusedSimpArgs false
theorem ownF_cell {w : World} {B gr o : Nat} {L : List Int} (h : Own2 w B (some ⟨gr, o, none⟩) L) {r : Nat} (hr : r < L.length) : w.cell? ⟨gr, o + r, none⟩ = some (.int .i64 L[r]) := by
  rcases h with h | ⟨g', o', h1, _, _, h2, _⟩
  · rw [h] at hr; simp at hr
  · injection h1 with h1
    injection h1 with h1 h3
    subst h1 h3
    exact h2 r hr
theorem ownF_frozen {w : World} {B gr o : Nat} {L : List Int} (h : Own2 w B (some ⟨gr, o, none⟩) L) (hl : 0 < L.length) (k : Nat) : w.frozen? ⟨gr, k, none⟩ = false := by
  rcases h with h | ⟨g', o', h1, _, _, _, cur, h2⟩
  · rw [h] at hl; simp at hl
  · injection h1 with h1
    injection h1 with h1 h3
    subst h1
    simp [World.frozen?, h2]
theorem ownF_put {w : World} {B gr o : Nat} {L : List Int} (h : Own2 w B (some ⟨gr, o, none⟩) L) {r : Nat} (hr : r < L.length) (z : Int) : Own2 (w.setCell ⟨gr, o + r, none⟩ (.int .i64 z)) B (some ⟨gr, o, none⟩) (L.set r z) := by
  rcases h with h | ⟨g', o', h1, h2, h3, h4, cur, h5⟩
  · rw [h] at hr; simp at hr
  · injection h1 with h1
    injection h1 with h1 h6
    subst h1 h6
    have e5 : (w.setCell ⟨gr, o + r, none⟩ (.int .i64 z)).heap[gr]? = some (.cells (cur.setIfInBounds (o + r) (.int .i64 z)) 3 (0, 0)) := by simp [World.setCell, Array.getElem?_modify, h5]
    refine .inr ⟨gr, o, rfl, h2, by simpa [World.setCell] using h3, fun j hj => ?_, _, e5⟩
    rw [List.length_set] at hj
    have h7 := h4 j hj
    have h8 : cur[o + j]? = some (.int .i64 L[j]) := by simpa [World.cell?, h5] using h7
    have h9 : (w.setCell ⟨gr, o + r, none⟩ (.int .i64 z)).cell? ⟨gr, o + j, none⟩ = (cur.setIfInBounds (o + r) (.int .i64 z))[o + j]? := by simp [World.cell?, e5]
    rw [h9, Array.getElem?_setIfInBounds, List.getElem_set]
    by_cases e : r = j
    · subst e
      have : o + r < cur.size := (Array.getElem?_eq_some_iff.1 h8).1
      simp [this]
    · rw [if_neg (by omega), if_neg e]
      exact h8
/-- what full knows of a later world: the cursor, the result's box, the field's box and its cells -/
structure Fu (w : World) (g : Nat) (a : Option Addr) (l : List Int) (c K fb : Nat) (wd hi : Int) (a1 : Addr) (L : List Int) (n c1 : Nat) (w1 : World) : Prop where
  cur : CurIs w1 g a l c K
  res : Box w1 w.heap.size 32 (.int .i64 0) (.int .i64 0) (.slice none 0 0)
  box : Box w1 fb 32 (.int .i64 wd) (.int .i64 hi) (.slice (some a1) n c1)
  own : Own2 w1 (w.heap.size + 1) (some a1) L
  grown : w.grownBy w1 (some g)
  len : L.length = n
  lt : g < w.heap.size
  fn : w.heap.size < fb
section
variable {w w1 w2 : World} {g : Nat} {a : Option Addr} {l : List Int} {c K K' fb : Nat} {wd hi : Int} {a1 : Addr} {L : List Int} {n c1 : Nat}
theorem Fu.step (h : Fu w g a l c K fb wd hi a1 L n c1 w1) (hb : Below w1.heap.size w1 w2) : Fu w g a l c K fb wd hi a1 L n c1 w2 :=
  ⟨h.cur.below hb, h.res.below hb, h.box.below hb, h.own.below hb, turn_of_below h.grown hb, h.len, h.lt, h.fn⟩
theorem Fu.more (h : Fu w g a l c K fb wd hi a1 L n c1 w1) (hk : K ≤ K') : Fu w g a l c K' fb wd hi a1 L n c1 w1 :=
  ⟨h.cur.more hk, h.res, h.box, h.own, h.grown, h.len, h.lt, h.fn⟩
theorem Fu.turn (h : Fu w g a l c K fb wd hi a1 L n c1 w1) (hc : CurIs w2 g a l c K') (ho : w1.grownBy w2 (some g)) : Fu w g a l c K' fb wd hi a1 L n c1 w2 :=
  ⟨hc, h.res.turn ho (by have := h.lt; omega), h.box.turn ho (by have := h.lt; have := h.fn; omega), h.own.turn ho (by have := h.lt; omega), turn_trans h.grown ho, h.len, h.lt, h.fn⟩
theorem Fu.cell {gr o : Nat} (h : Fu w g a l c K fb wd hi ⟨gr, o, none⟩ L n c1 w1) (h1 : w.heap.size + 1 ≤ gr) (h2 : gr ≠ fb) {r : Nat} (hr : r < L.length) (z : Int) :
    Fu w g a l c K fb wd hi ⟨gr, o, none⟩ (L.set r z) n c1 (w1.setCell ⟨gr, o + r, none⟩ (.int .i64 z)) :=
  ⟨h.cur.setOther (by have := h.lt; omega) _ _, h.res.other (by show w.heap.size ≠ gr; omega) _, h.box.other (by show fb ≠ gr; omega) _, ownF_put h.own hr z, turn_setNew h.grown (by omega) _ _, by rw [List.length_set]; exact h.len, h.lt, h.fn⟩
end
set_option maxRecDepth 100000 in
set_option maxHeartbeats 8000000 in
theorem full_any (w : World) (g : Nat) (a : Option Addr) (l : List Int) (c K : Nat) (hK : K ≤ 700000) (h : CurIs w g a l c K) :
    Calls Tryd.prog 46 #[.pointer (some ⟨g, 0, none⟩)] w (ADraw g a l c (K + 700) w) := by
  have hg := h.lt
  have C0 := Lib.hid (h.alloc (.cells #[.int .i64 0, .int .i64 0, .slice none 0 0] 32))
  have T0 := Lib.hid (turn_below (g := g) (below_all w (.cells #[.int .i64 0, .int .i64 0, .slice none 0 0] 32)))
  have R0 := Lib.hid (Box.new w 32 (.int .i64 0) (.int .i64 0) (.slice none 0 0))
  have hgr := Lib.hid (show ¬ w.heap.size = g by omega)
  clear h
  go_enter Tryd.func46, Tryd.ntmps46
  go_wp2_with fail
  refine (anyField_any _ g a l c K (by omega) C0.out).mono ?_
  rintro e w1 ⟨wd, hi, L, a1, c1, ⟨m1, m2, m3, m4, m5, m6⟩, rfl, o1, hc, ho⟩
  have hsz := ho.size
  rw [World.size_alloc] at o1 hsz
  have hap : L = [] ∨ ∃ gr o, a1 = ⟨gr, o, none⟩ ∧ w.heap.size + 1 ≤ gr ∧ gr < w1.heap.size := by
    rcases o1 with h | ⟨gr, o, h1, h2, h3, _⟩
    · exact .inl h
    · injection h1 with h1; exact .inr ⟨gr, o, h1, h2, h3⟩
  obtain ⟨n, hn⟩ : ∃ n, L.length = n := ⟨_, rfl⟩
  have F2 : Fu w g a l c (K + 400) w1.heap.size wd hi a1 L n c1 (w1.alloc (.cells #[.int .i64 wd, .int .i64 hi, .slice (some a1) n c1] 32)) :=
    ⟨hc.alloc _, (R0.out.turn ho hgr.out).alloc _, Box.new _ _ _ _ _, o1.below (below_all _ _), turn_of_below (turn_trans T0.out ho) (below_all _ _), hn, hg, by omega⟩
  have hap2 : n = 0 ∨ ∃ gr o, a1 = ⟨gr, o, none⟩ ∧ w.heap.size + 1 ≤ gr ∧ gr ≠ w1.heap.size := by
    rcases hap with h | ⟨gr, o, h1, h2, h3⟩
    · left; rw [← hn, h]; rfl
    · exact .inr ⟨gr, o, h1, h2, by omega⟩
  rw [hn] at m1 m2 ⊢
  obtain ⟨W2, hW2⟩ : ∃ W, w1.alloc (.cells #[.int .i64 wd, .int .i64 hi, .slice (some a1) n c1] 32) = W := ⟨_, rfl⟩
  obtain ⟨fb, hfb⟩ : ∃ q, w1.heap.size = q := ⟨_, rfl⟩
  rw [hW2, hfb] at F2
  rw [hfb] at hap2
  have HF2 := Lib.hid F2
  have HAP := Lib.hid hap2
  clear hc ho o1 R0 C0 T0 F2 hap hap2 hn hsz
  have hfn := HF2.out.fn
  go_wp2_with fail
  clear hW2 hfb
  go_loopw [4] (fun i wr => ∃ (k : Nat) (L' : List Int), k ≤ n ∧ i = .int .i64 k ∧ Fu w g a l c (K + 400 + 4 * k) fb wd hi a1 L' n c1 wr) (fun i _ => n - (intOf i).toNat)
  case atStart => exact ⟨0, L, Nat.zero_le _, rfl, HF2.out.more (by omega)⟩
  case round =>
    clear HF2
    obtain ⟨k, L', hk, rfl, hS⟩ := hrel
    have HS := Lib.hid hS
    obtain ⟨x0, x1, x2⟩ := hS.box.cells
    by_cases hlt : k < n
    · obtain ⟨gr, o, rfl, hgB, hgf⟩ : ∃ gr o, a1 = ⟨gr, o, none⟩ ∧ w.heap.size + 1 ≤ gr ∧ gr ≠ fb := by
        rcases HAP.out with h | h
        · omega
        · exact h
      have hkL : k < L'.length := by rw [hS.len]; exact hlt
      have hcell := ownF_cell hS.own hkL
      have p0 : (0 : Int) ≤ (k : Int) := by omega
      have p1 : (k : Int) < (n : Int) := by omega
      clear hS
      by_cases hz : L'[k] = -9999
      · rw [hz] at hcell
        clear hz
        go_wp2_with fail
        refine (one_any _ g a l c _ 30 (by omega) (by omega) (by omega) HS.out.cur).mono ?_
        rintro e w3 ⟨v, ⟨b, rfl⟩, rfl, hc, ho⟩
        have HS3 := Lib.hid (HS.out.turn hc ho.1)
        clear hc ho HS hcell x0 x1 x2
        obtain ⟨x0, x1, x2⟩ := HS3.out.box.cells
        cases b with
        | true =>
          go_wp2
          go_roundw
          case rel => exact ⟨k + 1, L', by omega, by go_num, HS3.out.more (by omega)⟩
          case measure => simp [intOf]; omega
        | false =>
          have HD := Lib.hid (HS3.out.step (w2 := w3.drew) ⟨rfl, rfl, rfl, Nat.le_refl _, fun _ _ => rfl⟩)
          go_wp2_with fail
          go_region_held3 (fun w' => w'.cell? ⟨fb, 2, none⟩ = some (.slice (some ⟨gr, o, none⟩) n c1))
            (first | exact HD9.out.box.cells.2.2 | exact (HD9.out.box.other (show fb ≠ gr by omega) _).cells.2.2 | exact HD.out.box.cells.2.2 | go_keep)
            (first | (go_at_call 47; refine (pick_any _ g a l c _ 90 (by omega) (by omega) (by omega) HD.out.cur).mono ?_; rintro e w9 ⟨v, ⟨r2, hr2, rfl⟩, rfl, hc9, ho9⟩; have HD9 := Lib.hid (HD.out.turn hc9 ho9.1); have hov := ownF_cell HD9.out.own hkL; have hfz := ownF_frozen HD9.out.own (by omega) (o + k); clear hc9 ho9))
          all_goals
            rename_i hHeld
            clear hHeld
            go_wp2_with fail
            go_roundw
            case rel => exact ⟨k + 1, _, by omega, by go_num, (HD9.out.cell hgB hgf hkL _).more (by omega)⟩
            case measure => simp [intOf]; omega
      · have e0 : (L'[k] == (-9999 : Int)) = false := by rw [beq_eq_false_iff_ne]; exact hz
        generalize L'[k] = z at *
        go_wp2
        go_roundw
        case rel => exact ⟨k + 1, L', by omega, by go_num, HS.out.more (by omega)⟩
        case measure => simp [intOf]; omega
    · obtain rfl : k = n := by omega
      obtain ⟨t0, t1, t2⟩ := hS.res.cells
      have g0 := hS.res.frozen 0
      have g1 := hS.res.frozen 1
      have g2 := hS.res.frozen 2
      have q1 : ¬ fb = w.heap.size := by omega
      have q2 : ¬ w.heap.size = fb := by omega
      clear hS
      go_wp2
      have hl9 := HS.out.len
      refine bodyPost_ret (v := .agg #[.int .i64 wd, .int .i64 hi, .slice (some a1) k c1]) (by simp [results, Tryd.results46, go_sem, t0, t1, t2, q1, q2]) rfl ⟨wd, hi, L', a1, c1, ⟨by omega, by omega, by omega, by omega, by omega, by omega⟩, by rw [hl9], ?_, ?_, ?_⟩
      · exact (((HS.out.own.set (by omega) _).set (by omega) _).set (by omega) _).more (by omega)
      · exact (((HS.out.cur.setOther (by omega) _ _).setOther (by omega) _ _).setOther (by omega) _ _).more (by omega)
      · exact turn_setNew (turn_setNew (turn_setNew HS.out.grown (Nat.le_refl _) _ _) (Nat.le_refl _) _ _) (Nat.le_refl _) _ _
set_option maxRecDepth 100000 in
set_option maxHeartbeats 4000000 in
theorem drawRT_any (w : World) (a : Option Addr) (l : List Int) (c : Nat) (hi : Ints .u8 w w.heap.size a l) (hb : ∀ z ∈ l, 0 ≤ z ∧ z ≤ 255) (hl : l.length ≤ 1048576) :
    Calls Tryd.prog 20 #[.slice a l.length c] w fun e w' => ∃ (wd hg : Int) (L : List Int) (a1 : Addr) (c1 : Nat) (x y : Int), L.length ≤ 64 ∧ e = .returned (.tuple #[.agg #[.int .i64 wd, .int .i64 hg, .slice (some a1) L.length c1], .int .i64 x, .int .i64 y]) ∧ Own2 w' w.heap.size (some a1) L ∧ Below w.heap.size w w' := by
  have i1 := ints_alloc hi (.cells #[.int .i64 0, .int .i64 0, .slice none 0 0] 32)
  have hcn := cur_new (w.alloc (.cells #[.int .i64 0, .int .i64 0, .slice none 0 0] 32)) a l c i1 hb hl
  rw [World.size_alloc] at hcn
  obtain ⟨W0, hW0⟩ : ∃ W, (w.alloc (.cells #[.int .i64 0, .int .i64 0, .slice none 0 0] 32)).alloc (.cells #[.slice a l.length c, .int .i64 0, .int .u64 0] 67) = W := ⟨_, rfl⟩
  rw [hW0] at hcn
  have C0 := Lib.hid hcn
  have R0 := Lib.hid (show Box W0 w.heap.size 32 (.int .i64 0) (.int .i64 0) (.slice none 0 0) by rw [← hW0]; exact (Box.new w _ _ _ _).alloc _)
  have B0 := Lib.hid (show Below w.heap.size w W0 by rw [← hW0]; exact ((below_all w _).alloc (by simp) _))
  clear hi hb hcn i1
  go_enter Tryd.func20, Tryd.ntmps20
  go_wp2_with fail
  refine (full_any W0 (w.heap.size + 1) a l c 0 (by omega) C0.out).mono ?_
  rintro e w1 ⟨wd, hg, L, a1, c1, ⟨m1, m2, m3, m4, m5, m6⟩, rfl, o1, hc, ho⟩
  have hz0 := C0.out.lt
  have R1 := Lib.hid (R0.out.turn ho (by omega))
  have B1 := Lib.hid (below_grown B0.out ho (by omega))
  have C1 := Lib.hid hc
  have O1 := Lib.hid o1
  clear hc ho o1 R0 B0 C0
  go_wp2_with fail
  refine (pick_any _ _ a l c _ 9 (by omega) (by omega) (by omega) C1.out).mono ?_
  rintro e w2 ⟨v, ⟨r1, h1, rfl⟩, rfl, hc, ho⟩
  have R2 := Lib.hid (R1.out.turn ho.1 (by omega))
  have B2 := Lib.hid (below_grown B1.out ho.1 (by omega))
  have C2 := Lib.hid hc
  have O2 := Lib.hid (O1.out.turn ho.1 (by omega))
  clear hc ho R1 B1 C1 O1
  go_wp2_with fail
  refine (pick_any _ _ a l c _ 8 (by omega) (by omega) (by omega) C2.out).mono ?_
  rintro e w3 ⟨v, ⟨r2, h2, rfl⟩, rfl, hc, ho⟩
  have R3 := Lib.hid (R2.out.turn ho.1 (by omega))
  have B3 := Lib.hid (below_grown B2.out ho.1 (by omega))
  have O3 := Lib.hid (O2.out.turn ho.1 (by omega))
  clear hc ho R2 B2 C2 O2
  obtain ⟨t0, t1, t2⟩ := R3.out.cells
  have g0 := R3.out.frozen 0
  have g1 := R3.out.frozen 1
  have g2 := R3.out.frozen 2
  go_wp2
  refine bodyPost_ret (v := .tuple #[.agg #[.int .i64 wd, .int .i64 hg, .slice (some a1) L.length c1], .int .i64 r1, .int .i64 (1 + (r2 : Int))]) (by simp [results, Tryd.results20, go_sem, t0, t1, t2]) rfl ⟨wd, hg, L, a1, c1, _, _, m1, rfl, ?_, ?_⟩
  · exact (((O3.out.set (by omega) _).set (by omega) _).set (by omega) _).more (by omega)
  · exact ((B3.out.setCell (Nat.le_refl _) _).setCell (Nat.le_refl _) _).setCell (Nat.le_refl _) _
end Go.Proofs.YtccplndimdmjpaaDoor
namespace Go.Proofs.YtccplndimdmjpaaDoor
open Go.RowKit
set_option linter.unusedVariables false
set_option linter.unusedSimpArgs false
theorem ownF_set3 {w : World} {B b : Nat} {a : Option Addr} {L : List Int} (h : Own2 w B a L) (hb : b < B) (u0 u1 u2 : Value) : Own2 (((w.setCell ⟨b, 0, none⟩ u0).setCell ⟨b, 1, none⟩ u1).setCell ⟨b, 2, none⟩ u2) b a L :=
  (((h.set hb u0).set hb u1).set hb u2).more (by omega)
theorem belowF_set3 {w w1 : World} {B b : Nat} (h : Below B w w1) (hb : B ≤ b) (u0 u1 u2 : Value) : Below B w (((w1.setCell ⟨b, 0, none⟩ u0).setCell ⟨b, 1, none⟩ u1).setCell ⟨b, 2, none⟩ u2) :=
  ((h.setCell (p := ⟨b, 0, none⟩) hb u0).setCell (p := ⟨b, 1, none⟩) hb u1).setCell (p := ⟨b, 2, none⟩) hb u2
theorem boxF_other3 {w : World} {b b' : Nat} {t : TypeId} {v0 v1 v2 : Value} (h : Box w b t v0 v1 v2) (hne : b ≠ b') (u0 u1 u2 : Value) : Box (((w.setCell ⟨b', 0, none⟩ u0).setCell ⟨b', 1, none⟩ u1).setCell ⟨b', 2, none⟩ u2) b t v0 v1 v2 :=
  ((h.other (p := ⟨b', 0, none⟩) hne u0).other (p := ⟨b', 1, none⟩) hne u1).other (p := ⟨b', 2, none⟩) hne u2
/-- what the draw knows of a later world: the cursor, the result's box, the field's box and its cells -/
structure Dc (w : World) (a : Option Addr) (l : List Int) (c K fb : Nat) (wd hg : Int) (a1 : Option Addr) (L : List Int) (c1 : Nat) (w1 : World) : Prop where
  cur : CurIs w1 (w.heap.size + 1) a l c K
  res : Box w1 w.heap.size 32 (.int .i64 0) (.int .i64 0) (.slice none 0 0)
  box : Box w1 fb 32 (.int .i64 wd) (.int .i64 hg) (.slice a1 L.length c1)
  own : Own2 w1 (w.heap.size + 2) a1 L
  b : Below w.heap.size w w1
  n : w.heap.size + 1 < fb
/-- .. while its cells are laid -/
structure De (w : World) (a : Option Addr) (l : List Int) (c K fb : Nat) (xs : List Int) (out : Value) (w1 : World) : Prop where
  cur : CurIs w1 (w.heap.size + 1) a l c K
  res : Box w1 w.heap.size 32 (.int .i64 0) (.int .i64 0) (.slice none 0 0)
  box : Box w1 fb 32 (.int .i64 4) (.int .i64 6) out
  o : w1.ownsRow (w.heap.size + 2) 3 1 out xs.length (iv xs)
  b : Below w.heap.size w w1
  n : w.heap.size + 1 < fb
section
variable {w w1 w2 : World} {a : Option Addr} {l : List Int} {c K K' fb : Nat} {wd hg : Int} {a1 : Option Addr} {L : List Int} {c1 : Nat} {xs ys : List Int} {out out' : Value}
theorem Dc.step (h : Dc w a l c K fb wd hg a1 L c1 w1) (hb : Below w1.heap.size w1 w2) : Dc w a l c K fb wd hg a1 L c1 w2 :=
  ⟨h.cur.below hb, h.res.below hb, h.box.below hb, h.own.below hb, below_then h.b hb, h.n⟩
theorem Dc.more (h : Dc w a l c K fb wd hg a1 L c1 w1) (hk : K ≤ K') : Dc w a l c K' fb wd hg a1 L c1 w1 := ⟨h.cur.more hk, h.res, h.box, h.own, h.b, h.n⟩
theorem Dc.turn (h : Dc w a l c K fb wd hg a1 L c1 w1) (hc : CurIs w2 (w.heap.size + 1) a l c K') (ho : w1.grownBy w2 (some (w.heap.size + 1))) : Dc w a l c K' fb wd hg a1 L c1 w2 :=
  ⟨hc, h.res.turn ho (by omega), h.box.turn ho (by have := h.n; omega), h.own.turn ho (by omega), below_grown h.b ho (by omega), h.n⟩
theorem De.step (h : De w a l c K fb xs out w1) (hb : Below w1.heap.size w1 w2) : De w a l c K fb xs out w2 :=
  ⟨h.cur.below hb, h.res.below hb, h.box.below hb, own_keeps h.o hb, below_then h.b hb, h.n⟩
theorem De.more (h : De w a l c K fb xs out w1) (hk : K ≤ K') : De w a l c K' fb xs out w1 := ⟨h.cur.more hk, h.res, h.box, h.o, h.b, h.n⟩
theorem De.turn (h : De w a l c K fb xs out w1) (hc : CurIs w2 (w.heap.size + 1) a l c K') (ho : w1.grownBy w2 (some (w.heap.size + 1))) : De w a l c K' fb xs out w2 :=
  ⟨hc, h.res.turn ho (by omega), h.box.turn ho (by have := h.n; omega), own_cur h.o ho (by omega), below_grown h.b ho (by omega), h.n⟩
theorem De.put {p : Obj} (h : De w a l c K fb xs out w1) (hg1 : (w1.alloc p).grownBy w2 out.ownBlock) (ho : w2.ownsRow (w.heap.size + 2) 3 1 out' ys.length (iv ys)) :
    Box w2 fb 32 (.int .i64 4) (.int .i64 6) out ∧ De w a l c K fb ys out' (w2.setCell ⟨fb, 2, none⟩ out') := by
  have hx := (h.box.alloc p).grown hg1 (Ne.symm (own_ne_box h.o h.box (by decide)))
  have hr := (h.res.alloc p).grown hg1 (Ne.symm (own_ne_box h.o h.res (by decide)))
  have hne := own_ne_box ho hx (by decide)
  have hn := h.n
  have hb : Below w.heap.size w w2 := (h.b.alloc h.b.size p).grown hg1 (by rw [World.size_alloc]; have := h.b.size; omega) (fun j hj => by have := (h.o.lt j hj).1; omega)
  exact ⟨hx, ⟨((h.cur.alloc p).past hg1 (fun j hj => (h.o.lt j hj).1)).setOther (by omega) _ _, hr.other (by show w.heap.size ≠ fb; omega) _, hx.set _, own_setBox ho hne 2 out', hb.setCell (p := ⟨fb, 2, none⟩) (by show w.heap.size ≤ fb; omega) _, hn⟩⟩
end
set_option maxRecDepth 100000 in
set_option maxHeartbeats 8000000 in
theorem drawCS_any (w : World) (a : Option Addr) (l : List Int) (c : Nat) (hi : Ints .u8 w w.heap.size a l) (hb : ∀ z ∈ l, 0 ≤ z ∧ z ≤ 255) (hl : l.length ≤ 1048576) :
    Calls Tryd.prog 23 #[.slice a l.length c] w fun e w' => ∃ (wd hg : Int) (L : List Int) (a1 : Option Addr) (c1 : Nat) (x y : Int), L.length ≤ 64 ∧ e = .returned (.tuple #[.agg #[.int .i64 wd, .int .i64 hg, .slice a1 L.length c1], .int .i64 x, .int .i64 y]) ∧ Own2 w' w.heap.size a1 L ∧ Below w.heap.size w w' := by
  obtain ⟨i0, hi0', hz0, hz1, hz2⟩ := info_parts infoInt
  have i1 := ints_alloc hi (.cells #[.int .i64 0, .int .i64 0, .slice none 0 0] 32)
  have hcn := cur_new (w.alloc (.cells #[.int .i64 0, .int .i64 0, .slice none 0 0] 32)) a l c i1 hb hl
  rw [World.size_alloc] at hcn
  obtain ⟨W0, hW0⟩ : ∃ W, (w.alloc (.cells #[.int .i64 0, .int .i64 0, .slice none 0 0] 32)).alloc (.cells #[.slice a l.length c, .int .i64 0, .int .u64 0] 67) = W := ⟨_, rfl⟩
  rw [hW0] at hcn
  have C0 := Lib.hid hcn
  have R0 := Lib.hid (show Box W0 w.heap.size 32 (.int .i64 0) (.int .i64 0) (.slice none 0 0) by rw [← hW0]; exact (Box.new w _ _ _ _).alloc _)
  have B0 := Lib.hid (show Below w.heap.size w W0 by rw [← hW0]; exact ((below_all w _).alloc (by simp) _))
  have HLIT := Lib.hid (fun (W : World) (L : List Int) => lit_ints W L 3)
  clear hi hb hcn i1
  have hz00 := C0.out.lt
  go_enter Tryd.func23, Tryd.ntmps23
  go_wp2_with fail
  refine (full_any W0 (w.heap.size + 1) a l c 0 (by omega) C0.out).mono ?_
  rintro e w2 ⟨wd, hg, L, a1, c1, ⟨m1, m2, m3, m4, m5, m6⟩, rfl, o1, hc, ho⟩
  have hsz := ho.size
  have D2 : Dc w a l c (0 + 700) w2.heap.size wd hg (some a1) L c1 (w2.alloc (.cells #[.int .i64 wd, .int .i64 hg, .slice (some a1) L.length c1] 32)) :=
    ⟨hc.alloc _, (R0.out.turn ho (by omega)).alloc _, Box.new _ _ _ _ _, (o1.below (below_all _ _)).more (by omega), (below_grown B0.out ho (by omega)).alloc (below_grown B0.out ho (by omega)).size _, by omega⟩
  obtain ⟨W2, hW2⟩ : ∃ W, w2.alloc (.cells #[.int .i64 wd, .int .i64 hg, .slice (some a1) L.length c1] 32) = W := ⟨_, rfl⟩
  obtain ⟨fb, hfb⟩ : ∃ q, w2.heap.size = q := ⟨_, rfl⟩
  rw [hW2, hfb] at D2
  have HD2 := Lib.hid D2
  clear hc ho o1 R0 B0 C0 D2
  go_wp2_with fail
  clear hW2 hfb
  refine (one_any _ _ a l c _ 2 (by omega) (by omega) (by omega) HD2.out.cur).mono ?_
  rintro e w3 ⟨v, ⟨b, rfl⟩, rfl, hc3, ho3⟩
  have HD3 := Lib.hid (HD2.out.turn hc3 ho3.1)
  clear hc3 ho3 HD2
  go_upto_if 14 with fail
  go_cut [] (fun wx => ∃ (wd' hg' : Int) (L' : List Int) (a1' : Option Addr) (c1' : Nat), L'.length ≤ 64 ∧ Dc w a l c 900 fb wd' hg' a1' L' c1' wx)
  case first =>
    as_aux_lemma =>
      cases b with
      | false =>
        go_wp2_with fail
        go_meet
        exact ⟨wd, hg, L, some a1, c1, m1, HD3.out.more (by omega)⟩
      | true =>
        obtain ⟨x0, x1, x2⟩ := HD3.out.box.cells
        have f0 := HD3.out.box.frozen 0
        have f1 := HD3.out.box.frozen 1
        have f2 := HD3.out.box.frozen 2
        have hn9 := HD3.out.n
        have HE0 : Hid (De w a l c (0 + 700 + 2) fb [] (.slice none 0 0) (((w3.setCell ⟨fb, 0, none⟩ (.int .i64 4)).setCell ⟨fb, 1, none⟩ (.int .i64 6)).setCell ⟨fb, 2, none⟩ (.slice none 0 0))) :=
          Lib.hid ⟨((HD3.out.cur.setOther (by omega) _ _).setOther (by omega) _ _).setOther (by omega) _ _, boxF_other3 HD3.out.res (by omega) _ _ _, HD3.out.box.set3 _ _ _, World.ownsRow_nil _ _ _ _, belowF_set3 HD3.out.b (by omega) _ _ _, hn9⟩
        clear HD3
        go_wp2_with fail
        clear x0 x1 x2 f0 f1 f2
        go_loopw [7] (fun i wr => ∃ (k : Nat) (out : Value) (xs : List Int), k ≤ 24 ∧ xs.length = k ∧ i = .int .i64 k ∧ De w a l c (0 + 700 + 2 + 2 * k) fb xs out wr) (fun i _ => 24 - (intOf i).toNat)
        case atStart => exact ⟨0, _, [], Nat.zero_le _, rfl, rfl, HE0.out⟩
        case round =>
          clear HE0
          obtain ⟨k, out, xs, hk, hxs, rfl, hE⟩ := hrel
          have HE := Lib.hid hE
          have HXS := Lib.hid hxs
          have hxl : xs.length ≤ 24 := by omega
          clear hxs
          by_cases hlt : k < 24
          · have hik : (k : Int) < 24 := by omega
            obtain ⟨x0, x1, x2⟩ := hE.box.cells
            have of := hE.box.frozen 2
            have HEd := Lib.hid (hE.step (w2 := wr.drew) ⟨rfl, rfl, rfl, Nat.le_refl _, fun _ _ => rfl⟩)
            clear hE HE
            go_wp2_with fail
            go_region_law (first
              | (refine step_append_lies _ (by rfl) _ _ _ (by rfl) (w.heap.size + 2) 3 i0 _ 1 8 Tryd.underlying22 hi0' hz0 hz1 hz2 rfl (by omega) out xs.length (iv xs) (by rfl) (HE6.out.o.alloc _) ⟨w6.heap.size, 0, none⟩ 1 1 [.int .i64 ((r : Int) - 20)] (by rfl) (by rfl) (cell_one_new _ _ _) (by simp [Value.oneCell']) (by omega) (by unfold maxLen; omega) (by omega) (by simp; omega) (w6.heap.size + 1) (by simp) ?_; intro gg cap8 w8 hown8 hgrow8 hat8 hlt8; have hput := HE6.out.put (ys := xs ++ [(r : Int) - 20]) hgrow8 (by rw [iv_snoc, List.length_append]; exact hown8); have f8 := hput.1.frozen 2; obtain ⟨d0, d1, d2⟩ := hput.1.cells; have HP8 := Lib.hid hput.2; clear hput hown8 hgrow8 hat8)
              | (go_simp; go_at_call 47; refine (pick_any _ _ a l c _ 60 (by omega) (by omega) (by omega) HEd.out.cur).mono ?_; rintro e w6 ⟨v, ⟨r, hr, rfl⟩, rfl, hc6, ho6⟩; have HE6 := Lib.hid (HEd.out.turn hc6 ho6.1); obtain ⟨o0, o1, o2⟩ := HE6.out.box.cells; have zx := HE6.out.box.lt; have zc := HE6.out.cur.lt; have zq2 : ¬ fb = w6.heap.size := (by omega); have ew : IntKind.i64.wrap ((r : Int) - 20) = (r : Int) - 20 := (IntWalk.i64_in _ (by omega)); clear hc6 ho6))
            all_goals
              go_wp2
              go_roundw
              case rel => exact ⟨k + 1, _, xs ++ [(r : Int) - 20], by omega, by rw [List.length_append, HXS.out]; rfl, by go_num, HP8.out.more (by omega)⟩
              case measure => simp [intOf] <;> omega
          · obtain rfl : k = 24 := by omega
            clear HE
            obtain ⟨cp, gr, hout, hgr9, hrow, hcp⟩ := Row.of_own hE.o (by have := HXS.out; omega)
            subst hout
            rw [HXS.out] at hE
            have hn := hE.n
            have hne : gr ≠ fb := fun e => by
              have h9 := own_ne_box hE.o hE.box (by decide)
              apply h9; rw [e]; rfl
            have HR := Lib.hid hrow
            have HE := Lib.hid hE
            clear hE hrow hcp
            go_wp2_with fail
            refine (one_any _ _ a l c _ 8 (by omega) (by omega) (by omega) HE.out.cur).mono ?_
            rintro e w4 ⟨v, ⟨b, rfl⟩, rfl, hc4, ho4⟩
            have c4 := hc4
            have r4 := HE.out.res.turn ho4.1 (by omega)
            have x4 := HE.out.box.turn ho4.1 (by omega)
            have b4 := below_grown HE.out.b ho4.1 (by omega)
            have R4 := HR.out.of_block (ho4.1.block gr HR.out.lt (by intro e; injection e with e; omega))
            clear hc4 ho4 HE HR
            cases b with
            | false =>
              have HX := Lib.hid (show Dc w a l c 900 fb 4 6 (some ⟨gr, 0, none⟩) xs cp w4 from ⟨c4.more (by omega), r4, by rw [HXS.out]; exact x4, Own2.of_own ⟨gr, hgr9, .inr ⟨rfl, R4⟩⟩, b4, hn⟩)
              clear c4 r4 x4 b4 R4
              go_wp2_with fail
              go_meet
              exact ⟨4, 6, xs, _, cp, by omega, HX.out⟩
            | true =>
              have hov : ∃ ov, w4.cell? ⟨gr, 0, none⟩ = some ov := ⟨_, R4.cell (k := 0) (by rw [iv_length, HXS.out]; omega)⟩
              obtain ⟨ov, hov⟩ := hov
              have hfz := R4.frozen 0
              obtain ⟨x0, x1, x2⟩ := x4.cells
              have R5 := R4.set 0 (.int .i64 9000)
              rw [iv_set] at R5
              have HX := Lib.hid (show Dc w a l c 900 fb 4 6 (some ⟨gr, 0, none⟩) (xs.set 0 9000) cp (w4.setCell ⟨gr, 0, none⟩ (.int .i64 9000)) from
                ⟨(c4.setOther (by omega) _ _).more (by omega), r4.other (by show w.heap.size ≠ gr; omega) _, by rw [List.length_set, HXS.out]; exact x4.other (by show fb ≠ gr; omega) _, Own2.of_own ⟨gr, hgr9, .inr ⟨rfl, R5⟩⟩, b4.setCell (p := ⟨gr, 0, none⟩) (by show w.heap.size ≤ gr; omega) _, hn⟩)
              clear c4 r4 x4 b4 R4 R5
              go_wp2_with fail
              go_meet
              exact ⟨4, 6, xs.set 0 9000, _, cp, by rw [List.length_set]; omega, HX.out⟩
  case rest =>
  obtain ⟨wd', hg', L', a1', c1', m1', hD⟩ := hcut
  clear HD3 m1 m2
  have HL : Hid (L'.length ≤ 64) := Lib.hid m1'
  have hn9 := hD.n
  have hcw := hD.cur.lt
  have hbw := hD.box.lt
  have hfne : ¬ fb = w.heap.size := by omega
  have hfne2 : ¬ w.heap.size = fb := by omega
  have HDB := Lib.hid (hD.step (w2 := wc.drew) ⟨rfl, rfl, rfl, Nat.le_refl _, fun _ _ => rfl⟩)
  have HD1 := Lib.hid ((hD.step (below_all _ (.cells #[.int .i64 1, .int .i64 2, .int .i64 4, .int .i64 3, .int .i64 0] 3))).step (w2 := (wc.alloc (.cells #[.int .i64 1, .int .i64 2, .int .i64 4, .int .i64 3, .int .i64 0] 3)).drew) ⟨rfl, rfl, rfl, Nat.le_refl _, fun _ _ => rfl⟩)
  have HD6 := Lib.hid ((hD.step (below_all _ (.cells #[.int .i64 1, .int .i64 2, .int .i64 3, .int .i64 6, .int .i64 5, .int .i64 (-1)] 3))).step (w2 := (wc.alloc (.cells #[.int .i64 1, .int .i64 2, .int .i64 3, .int .i64 6, .int .i64 5, .int .i64 (-1)] 3)).drew) ⟨rfl, rfl, rfl, Nat.le_refl _, fun _ _ => rfl⟩)
  have HD2 := Lib.hid (((hD.step (below_all _ (.cells #[.int .i64 1, .int .i64 2, .int .i64 4, .int .i64 3, .int .i64 0] 3))).step (below_all _ (.cells #[.int .i64 1, .int .i64 2, .int .i64 3, .int .i64 6, .int .i64 5, .int .i64 (-1)] 3))).step (w2 := ((wc.alloc (.cells #[.int .i64 1, .int .i64 2, .int .i64 4, .int .i64 3, .int .i64 0] 3)).alloc (.cells #[.int .i64 1, .int .i64 2, .int .i64 3, .int .i64 6, .int .i64 5, .int .i64 (-1)] 3)).drew) ⟨rfl, rfl, rfl, Nat.le_refl _, fun _ _ => rfl⟩)
  have HD3 := Lib.hid (((hD.step (below_all _ (.cells #[.int .i64 1, .int .i64 2, .int .i64 3, .int .i64 6, .int .i64 5, .int .i64 (-1)] 3))).step (below_all _ (.cells #[.int .i64 1, .int .i64 2, .int .i64 4, .int .i64 3, .int .i64 0] 3))).step (w2 := ((wc.alloc (.cells #[.int .i64 1, .int .i64 2, .int .i64 3, .int .i64 6, .int .i64 5, .int .i64 (-1)] 3)).alloc (.cells #[.int .i64 1, .int .i64 2, .int .i64 4, .int .i64 3, .int .i64 0] 3)).drew) ⟨rfl, rfl, rfl, Nat.le_refl _, fun _ _ => rfl⟩)
  have L15 := HLIT.out wc [1, 2, 4, 3, 0]
  have L16 := HLIT.out wc [1, 2, 3, 6, 5, -1]
  have L25 := HLIT.out (wc.alloc (.cells #[.int .i64 1, .int .i64 2, .int .i64 3, .int .i64 6, .int .i64 5, .int .i64 (-1)] 3)) [1, 2, 4, 3, 0]
  have L26 := HLIT.out (wc.alloc (.cells #[.int .i64 1, .int .i64 2, .int .i64 4, .int .i64 3, .int .i64 0] 3)) [1, 2, 3, 6, 5, -1]
  rw [World.size_alloc] at L25 L26
  have H15 : Hid (∀ k (h : k < ([1, 2, 4, 3, 0] : List Int).length), (wc.alloc (.cells #[.int .i64 1, .int .i64 2, .int .i64 4, .int .i64 3, .int .i64 0] 3)).drew.cell? ⟨wc.heap.size, k, none⟩ = some (.int .i64 ([1, 2, 4, 3, 0] : List Int)[k])) := Lib.hid fun k h => L15 k h
  have H25 : Hid (∀ k (h : k < ([1, 2, 4, 3, 0] : List Int).length), ((wc.alloc (.cells #[.int .i64 1, .int .i64 2, .int .i64 4, .int .i64 3, .int .i64 0] 3)).alloc (.cells #[.int .i64 1, .int .i64 2, .int .i64 3, .int .i64 6, .int .i64 5, .int .i64 (-1)] 3)).drew.cell? ⟨wc.heap.size, k, none⟩ = some (.int .i64 ([1, 2, 4, 3, 0] : List Int)[k])) := Lib.hid fun k h => (World.cell?_of_block (Below.heap_alloc (wc.alloc (.cells #[.int .i64 1, .int .i64 2, .int .i64 4, .int .i64 3, .int .i64 0] 3)) _ wc.heap.size (by simp))).trans (L15 k h)
  have H26 : Hid (∀ k (h : k < ([1, 2, 3, 6, 5, -1] : List Int).length), ((wc.alloc (.cells #[.int .i64 1, .int .i64 2, .int .i64 4, .int .i64 3, .int .i64 0] 3)).alloc (.cells #[.int .i64 1, .int .i64 2, .int .i64 3, .int .i64 6, .int .i64 5, .int .i64 (-1)] 3)).drew.cell? ⟨wc.heap.size + 1, k, none⟩ = some (.int .i64 ([1, 2, 3, 6, 5, -1] : List Int)[k])) := Lib.hid fun k h => L26 k h
  have H35 : Hid (∀ k (h : k < ([1, 2, 4, 3, 0] : List Int).length), ((wc.alloc (.cells #[.int .i64 1, .int .i64 2, .int .i64 3, .int .i64 6, .int .i64 5, .int .i64 (-1)] 3)).alloc (.cells #[.int .i64 1, .int .i64 2, .int .i64 4, .int .i64 3, .int .i64 0] 3)).drew.cell? ⟨wc.heap.size + 1, k, none⟩ = some (.int .i64 ([1, 2, 4, 3, 0] : List Int)[k])) := Lib.hid fun k h => L25 k h
  have H36 : Hid (∀ k (h : k < ([1, 2, 3, 6, 5, -1] : List Int).length), ((wc.alloc (.cells #[.int .i64 1, .int .i64 2, .int .i64 3, .int .i64 6, .int .i64 5, .int .i64 (-1)] 3)).alloc (.cells #[.int .i64 1, .int .i64 2, .int .i64 4, .int .i64 3, .int .i64 0] 3)).drew.cell? ⟨wc.heap.size, k, none⟩ = some (.int .i64 ([1, 2, 3, 6, 5, -1] : List Int)[k])) := Lib.hid fun k h => (World.cell?_of_block (Below.heap_alloc (wc.alloc (.cells #[.int .i64 1, .int .i64 2, .int .i64 3, .int .i64 6, .int .i64 5, .int .i64 (-1)] 3)) _ wc.heap.size (by simp))).trans (L16 k h)
  have z1 : wc.heap.size < (wc.alloc (.cells #[.int .i64 1, .int .i64 2, .int .i64 4, .int .i64 3, .int .i64 0] 3)).drew.heap.size := by show wc.heap.size < (wc.alloc (.cells #[.int .i64 1, .int .i64 2, .int .i64 4, .int .i64 3, .int .i64 0] 3)).heap.size; rw [World.size_alloc]; omega
  have z2 : wc.heap.size < ((wc.alloc (.cells #[.int .i64 1, .int .i64 2, .int .i64 4, .int .i64 3, .int .i64 0] 3)).alloc (.cells #[.int .i64 1, .int .i64 2, .int .i64 3, .int .i64 6, .int .i64 5, .int .i64 (-1)] 3)).drew.heap.size := by show wc.heap.size < ((wc.alloc (.cells #[.int .i64 1, .int .i64 2, .int .i64 4, .int .i64 3, .int .i64 0] 3)).alloc (.cells #[.int .i64 1, .int .i64 2, .int .i64 3, .int .i64 6, .int .i64 5, .int .i64 (-1)] 3)).heap.size; rw [World.size_alloc, World.size_alloc]; omega
  have z3 : wc.heap.size + 1 < ((wc.alloc (.cells #[.int .i64 1, .int .i64 2, .int .i64 3, .int .i64 6, .int .i64 5, .int .i64 (-1)] 3)).alloc (.cells #[.int .i64 1, .int .i64 2, .int .i64 4, .int .i64 3, .int .i64 0] 3)).drew.heap.size := by show wc.heap.size + 1 < ((wc.alloc (.cells #[.int .i64 1, .int .i64 2, .int .i64 3, .int .i64 6, .int .i64 5, .int .i64 (-1)] 3)).alloc (.cells #[.int .i64 1, .int .i64 2, .int .i64 4, .int .i64 3, .int .i64 0] 3)).heap.size; rw [World.size_alloc, World.size_alloc]; omega
  have z4 : ((wc.alloc (.cells #[.int .i64 1, .int .i64 2, .int .i64 4, .int .i64 3, .int .i64 0] 3)).alloc (.cells #[.int .i64 1, .int .i64 2, .int .i64 3, .int .i64 6, .int .i64 5, .int .i64 (-1)] 3)).heap.size = wc.heap.size + 2 := by rw [World.size_alloc, World.size_alloc]
  have z5 : ((wc.alloc (.cells #[.int .i64 1, .int .i64 2, .int .i64 3, .int .i64 6, .int .i64 5, .int .i64 (-1)] 3)).alloc (.cells #[.int .i64 1, .int .i64 2, .int .i64 4, .int .i64 3, .int .i64 0] 3)).heap.size = wc.heap.size + 2 := by rw [World.size_alloc, World.size_alloc]
  have ne0 : wc.heap.size ≠ w.heap.size + 1 := by omega
  have ne1 : wc.heap.size + 1 ≠ w.heap.size + 1 := by omega
  clear hD m1' L15 L16 L25 L26
  go_wp2_with fail
  go_region_held3 (fun w' => w'.cell? ⟨fb, 0, none⟩ = some (.int .i64 wd') ∧ w'.cell? ⟨fb, 1, none⟩ = some (.int .i64 hg') ∧ w'.cell? ⟨fb, 2, none⟩ = some (.slice a1' L'.length c1'))
    (first | exact HD10.out.box.cells | exact (boxF_other3 HD10.out.box (show fb ≠ w.heap.size by omega) _ _ _).cells | exact HD9L.out.box.cells | exact HD9.out.box.cells | exact HDB.out.box.cells | exact HD1.out.box.cells | exact HD6.out.box.cells | exact HD2.out.box.cells | exact HD3.out.box.cells | go_keep)
    (first
      | (go_at_call 50; (first
        | ((with_reducible refine (among_any _ _ a l c _ wc.heap.size 5 [1, 2, 4, 3, 0] (by omega) rfl (by omega) (by omega) HD1.out.cur ne0 z1 H15.out 5).mono ?_); rintro e w9 ⟨v, ⟨x, hx, rfl⟩, rfl, hc9, ho9⟩; have HD9 := Lib.hid (HD1.out.turn hc9 ho9.1); have HD9L := Lib.hid (HD9.out.step (below_all _ (.cells #[.int .i64 1, .int .i64 2, .int .i64 3, .int .i64 6, .int .i64 5, .int .i64 (-1)] 3))); have hcw9 := HD9.out.cur.lt; have ne9 : w9.heap.size ≠ w.heap.size + 1 := (by omega); have H9L : Hid (∀ k (h : k < ([1, 2, 3, 6, 5, -1] : List Int).length), (w9.alloc (.cells #[.int .i64 1, .int .i64 2, .int .i64 3, .int .i64 6, .int .i64 5, .int .i64 (-1)] 3)).cell? ⟨w9.heap.size, k, none⟩ = some (.int .i64 ([1, 2, 3, 6, 5, -1] : List Int)[k])) := Lib.hid (fun k h => HLIT.out w9 [1, 2, 3, 6, 5, -1] k h); have z9 : w9.heap.size < (w9.alloc (.cells #[.int .i64 1, .int .i64 2, .int .i64 3, .int .i64 6, .int .i64 5, .int .i64 (-1)] 3)).heap.size := (by rw [World.size_alloc]; omega); clear hc9 ho9)
        | ((with_reducible refine (among_any _ _ a l c _ wc.heap.size 5 [1, 2, 4, 3, 0] (by omega) rfl (by omega) (by omega) HD2.out.cur ne0 z2 H25.out 5).mono ?_); rintro e w9 ⟨v, ⟨x, hx, rfl⟩, rfl, hc9, ho9⟩; have HD9 := Lib.hid (HD2.out.turn hc9 ho9.1); have hcw9 := HD9.out.cur.lt; have H9 : Hid (∀ k (h : k < ([1, 2, 3, 6, 5, -1] : List Int).length), w9.cell? ⟨wc.heap.size + 1, k, none⟩ = some (.int .i64 ([1, 2, 3, 6, 5, -1] : List Int)[k])) := Lib.hid (fun k h => (World.cell?_of_block (ho9.1.block (wc.heap.size + 1) (by show wc.heap.size + 1 < ((wc.alloc (.cells #[.int .i64 1, .int .i64 2, .int .i64 4, .int .i64 3, .int .i64 0] 3)).alloc (.cells #[.int .i64 1, .int .i64 2, .int .i64 3, .int .i64 6, .int .i64 5, .int .i64 (-1)] 3)).heap.size; rw [z4]; omega) (by intro e; injection e with e; omega))).trans (H26.out k h)); have hs9 : w9.heap.size = wc.heap.size + 2 := ho9.2.trans z4; have h9a : wc.heap.size + 1 < w9.heap.size := (by rw [hs9]; omega); clear hc9 ho9)
        | ((with_reducible refine (among_any _ _ a l c _ (wc.heap.size + 1) 5 [1, 2, 4, 3, 0] (by omega) rfl (by omega) (by omega) HD3.out.cur ne1 z3 H35.out 5).mono ?_); rintro e w9 ⟨v, ⟨x, hx, rfl⟩, rfl, hc9, ho9⟩; have HD9 := Lib.hid (HD3.out.turn hc9 ho9.1); have hcw9 := HD9.out.cur.lt; have H9 : Hid (∀ k (h : k < ([1, 2, 3, 6, 5, -1] : List Int).length), w9.cell? ⟨wc.heap.size, k, none⟩ = some (.int .i64 ([1, 2, 3, 6, 5, -1] : List Int)[k])) := Lib.hid (fun k h => (World.cell?_of_block (ho9.1.block wc.heap.size (by show wc.heap.size < ((wc.alloc (.cells #[.int .i64 1, .int .i64 2, .int .i64 3, .int .i64 6, .int .i64 5, .int .i64 (-1)] 3)).alloc (.cells #[.int .i64 1, .int .i64 2, .int .i64 4, .int .i64 3, .int .i64 0] 3)).heap.size; rw [z5]; omega) (by intro e; injection e with e; omega))).trans (H36.out k h)); have hs9 : w9.heap.size = wc.heap.size + 2 := ho9.2.trans z5; have h9a : wc.heap.size < w9.heap.size := (by rw [hs9]; omega); clear hc9 ho9)
        | ((with_reducible refine (among_any _ _ a l c _ w9.heap.size 6 [1, 2, 3, 6, 5, -1] (by omega) rfl (by omega) (by omega) HD9L.out.cur ne9 z9 H9L.out 6).mono ?_); rintro e w10 ⟨v, ⟨y, hy, rfl⟩, rfl, hc10, ho10⟩; have HD10 := Lib.hid (HD9L.out.turn hc10 ho10.1); obtain ⟨t0, t1, t2⟩ := HD10.out.res.cells; have g0 := HD10.out.res.frozen 0; have g1 := HD10.out.res.frozen 1; have g2 := HD10.out.res.frozen 2; clear hc10 ho10)
        | ((with_reducible refine (among_any _ _ a l c _ (wc.heap.size + 1) 6 [1, 2, 3, 6, 5, -1] (by omega) rfl (by omega) (by omega) HD9.out.cur ne1 h9a H9.out 6).mono ?_); rintro e w10 ⟨v, ⟨y, hy, rfl⟩, rfl, hc10, ho10⟩; have HD10 := Lib.hid (HD9.out.turn hc10 ho10.1); obtain ⟨t0, t1, t2⟩ := HD10.out.res.cells; have g0 := HD10.out.res.frozen 0; have g1 := HD10.out.res.frozen 1; have g2 := HD10.out.res.frozen 2; clear hc10 ho10)
        | ((with_reducible refine (among_any _ _ a l c _ wc.heap.size 6 [1, 2, 3, 6, 5, -1] (by omega) rfl (by omega) (by omega) HD9.out.cur ne0 h9a H9.out 6).mono ?_); rintro e w10 ⟨v, ⟨y, hy, rfl⟩, rfl, hc10, ho10⟩; have HD10 := Lib.hid (HD9.out.turn hc10 ho10.1); obtain ⟨t0, t1, t2⟩ := HD10.out.res.cells; have g0 := HD10.out.res.frozen 0; have g1 := HD10.out.res.frozen 1; have g2 := HD10.out.res.frozen 2; clear hc10 ho10))))
  all_goals
    rename_i hHeld
    clear hHeld
    go_wp2
    have K1 := ownF_set3 (HD10.out.own.more (Nat.le_succ _)) (show w.heap.size < w.heap.size + 1 by omega) (.int .i64 wd') (.int .i64 hg') (.slice a1' L'.length c1')
    have K3 := belowF_set3 HD10.out.b (Nat.le_refl w.heap.size) (.int .i64 wd') (.int .i64 hg') (.slice a1' L'.length c1')
    refine bodyPost_ret (v := .tuple #[.agg #[.int .i64 wd', .int .i64 hg', .slice a1' L'.length c1'], .int .i64 x, .int .i64 y]) (by simp [results, Tryd.results23, go_sem, t0, t1, t2]) rfl ⟨wd', hg', L', a1', c1', x, y, HL.out, rfl, K1, K3⟩
end Go.Proofs.YtccplndimdmjpaaDoor
namespace Go.Proofs.YtccplndimdmjpaaDoor
open Go.RowKit
set_option linter.unusedVariables false
set_option linter.unusedSimpArgs false
set_option maxRecDepth 100000 in
set_option maxHeartbeats 8000000 in
theorem drawSV_any (w : World) (a : Option Addr) (l : List Int) (c : Nat) (hi : Ints .u8 w w.heap.size a l) (hb : ∀ z ∈ l, 0 ≤ z ∧ z ≤ 255) (hl : l.length ≤ 1048576) :
    Calls Tryd.prog 28 #[.slice a l.length c] w fun e w' => ∃ (v : Int) (L : List Int) (a1 : Option Addr) (c1 : Nat), L.length ≤ 64 ∧ e = .returned (.tuple #[.int .i64 v, .slice a1 L.length c1]) ∧ OwnI w' w.heap.size a1 L ∧ Below w.heap.size w w' := by
  obtain ⟨i0, hi0', hz0, hz1, hz2⟩ := info_parts infoInt
  have hcn := cur_new w a l c hi hb hl
  obtain ⟨W0, hW0⟩ : ∃ W, (w.alloc (.cells #[.slice a l.length c, .int .i64 0, .int .u64 0] 67)).alloc (.cells #[] 3) = W := ⟨_, rfl⟩
  have C0 : Hid (CurIs W0 w.heap.size a l c 0) := Lib.hid (by rw [← hW0]; exact hcn.alloc _)
  have B0 := Lib.hid (show Below w.heap.size w W0 by rw [← hW0]; exact (below_all w _).alloc (by simp) _)
  have O0 := Lib.hid (show W0.ownsRow (w.heap.size + 1) 3 1 (.slice (some ⟨w.heap.size + 1, 0, none⟩) 0 0) 0 (iv []) by
    have h9 := World.ownsRow_made (base := w.heap.size + 1) (e := 3) (size := 1) (w.alloc (.cells #[.slice a l.length c, .int .i64 0, .int .u64 0] 67)) #[] 0 (by simp) (by simp) rfl
    rw [World.size_alloc] at h9
    rw [← hW0]; exact h9)
  have HLIT := Lib.hid (fun (W : World) (L : List Int) => lit_ints W L 3)
  clear hi hb hcn
  go_enter Tryd.func28, Tryd.ntmps28
  go_wp2_with fail
  refine (pick_any _ _ a l c _ 6 (by omega) (by omega) (by omega) C0.out).mono ?_
  rintro e w1 ⟨v, ⟨r1, h1, rfl⟩, rfl, hc, ho⟩
  have C1 := Lib.hid hc
  have B1 := Lib.hid (below_grown B0.out ho.1 (Nat.le_refl _))
  have O1 := Lib.hid (own_cur O0.out ho.1 (by omega))
  clear hc ho C0 B0 O0
  go_wp2_with fail
  clear hW0
  go_loopw [5, 6] (fun out i wr => ∃ (j : Nat) (t : Int) (L : List Int), t = (j : Int) - 1 ∧ L.length + j = r1 + 1 ∧ i = .int .i64 t ∧ wr.ownsRow (w.heap.size + 1) 3 1 out L.length (iv L) ∧ CurIs wr w.heap.size a l c (0 + 2 + 2 * L.length) ∧ Below w.heap.size w wr) (fun _ i _ => ((intOf i) + 1).toNat)
  case atStart => exact ⟨r1 + 1, _, [], by omega, by simp, rfl, O1.out, C1.out.more (by omega), B1.out⟩
  case round =>
    clear C1 B1 O1
    obtain ⟨j, t, L, ht, hj, rfl, hO, hC, hB⟩ := hrel
    have HO := Lib.hid hO
    have HC := Lib.hid hC
    have HB := Lib.hid hB
    have HJ := Lib.hid hj
    have hL6 : L.length ≤ 6 := by omega
    have hsz := hB.size
    have hcl := hC.lt
    clear hO hC hB
    rcases Nat.eq_zero_or_pos j with hj0 | hj0
    · subst hj0
      obtain rfl : t = -1 := by omega
      have hn0 : 0 < L.length := by omega
      obtain ⟨cp, gr, hout, hgr9, hrow, hcp⟩ := Row.of_own HO.out hn0
      obtain ⟨n, hn⟩ : ∃ n, L.length = n := ⟨_, rfl⟩
      have HN := Lib.hid hn
      rw [hn] at hout hL6 hn0 HC
      subst hout
      have R := Lib.hid hrow
      clear hn hrow HO hj HJ ht hcp
      go_wp2_with fail
      refine (one_any _ _ a l c _ 12 (by omega) (by omega) (by omega) HC.out).mono ?_
      rintro e w2 ⟨v, ⟨b, rfl⟩, rfl, hc, ho⟩
      have C2 := Lib.hid hc
      have B2 := Lib.hid (below_grown HB.out ho.1 (Nat.le_refl _))
      have R2 := Lib.hid (R.out.of_block (ho.1.block gr R.out.lt (by intro e; injection e with e; omega)))
      clear hc ho HC HB R
      cases b with
      | false =>
        go_wp2_with fail
        refine (one_any _ _ a l c _ 24 (by omega) (by omega) (by omega) C2.out).mono ?_
        rintro e w7 ⟨v, ⟨b, rfl⟩, rfl, hc, ho⟩
        have C7 := Lib.hid hc
        have B7 := Lib.hid (below_grown B2.out ho.1 (Nat.le_refl _))
        have R7 := Lib.hid (R2.out.of_block (ho.1.block gr R2.out.lt (by intro e; injection e with e; omega)))
        have hc7 := C7.out.lt
        clear hc ho C2 B2 R2
        cases b with
        | true =>
          have h9 := HLIT.out (w7.alloc (.cells #[] 3)) [10, 7, -7, 100, 1, 0, 9000, -9000, 9001, -1]
          rw [World.size_alloc] at h9
          have HL9 := Lib.hid h9
          clear h9
          go_wp2_with fail
          refine (among_any _ _ a l c _ (w7.heap.size + 1) 10 [10, 7, -7, 100, 1, 0, 9000, -9000, 9001, -1] (by omega) rfl (by omega) (by omega) ((C7.out.alloc _).alloc _) (by omega) (by simp) HL9.out 10).mono ?_
          rintro e w8 ⟨v, ⟨z8, hz8, rfl⟩, rfl, hc, ho⟩
          have B8 := Lib.hid (below_grown ((B7.out.alloc B7.out.size _).alloc (by rw [World.size_alloc]; have := B7.out.size; omega) _) ho.1 (Nat.le_refl _))
          clear hc ho hz8
          go_wp2
          go_ret2
          exact ⟨z8, [], _, _, by simp, rfl, OwnI.none_, B8.out⟩
        | false =>
          go_wp2_with fail
          refine (among_any _ _ a l c _ w7.heap.size 10 [10, 7, -7, 100, 1, 0, 9000, -9000, 9001, -1] (by omega) rfl (by omega) (by omega) (C7.out.alloc _) (by omega) (by rw [World.size_alloc]; omega) (HLIT.out w7 [10, 7, -7, 100, 1, 0, 9000, -9000, 9001, -1]) 10).mono ?_
          rintro e w8 ⟨v, ⟨z8, hz8, rfl⟩, rfl, hc, ho⟩
          have B8 := Lib.hid (below_grown (B7.out.alloc B7.out.size _) ho.1 (Nat.le_refl _))
          have R8 := Lib.hid ((R7.out.alloc _).of_block (ho.1.block gr (R7.out.alloc _).lt (by intro e; injection e with e; omega)))
          clear hc ho hz8
          go_wp2
          go_ret2
          exact ⟨z8, L, _, _, by have := HN.out; omega, by rw [HN.out]; rfl, ⟨gr, by omega, .inr ⟨rfl, R8.out⟩⟩, B8.out⟩
      | true =>
        go_wp2_with fail
        refine (pick_any _ _ a l c _ n (by omega) (by omega) (by omega) C2.out).mono ?_
        rintro e w3 ⟨v, ⟨r, hr, rfl⟩, rfl, hc, ho⟩
        have C3 := Lib.hid hc
        have B3 := Lib.hid (below_grown B2.out ho.1 (Nat.le_refl _))
        have R3 := Lib.hid (R2.out.of_block (ho.1.block gr R2.out.lt (by intro e; injection e with e; omega)))
        have hc3 := C3.out.lt
        clear hc ho C2 B2 R2
        go_wp2_with fail
        refine (among_any _ _ a l c _ w3.heap.size 3 [65, -1, 0] (by omega) rfl (by omega) (by omega) (C3.out.alloc _) (by omega) (by rw [World.size_alloc]; omega) (HLIT.out w3 [65, -1, 0]) 3).mono ?_
        rintro e w4 ⟨v, ⟨z, hz, rfl⟩, rfl, hc, ho⟩
        have R4 := (R3.out.alloc (.cells #[.int .i64 65, .int .i64 (-1), .int .i64 0] 3)).of_block (ho.1.block gr (R3.out.alloc _).lt (by intro e; injection e with e; omega))
        have B4 := below_grown (B3.out.alloc B3.out.size _) ho.1 (Nat.le_refl _)
        have hrL : r < (iv L).length := by rw [iv_length, HN.out]; exact hr
        obtain ⟨ov, hov⟩ : ∃ ov, w4.cell? ⟨gr, r, none⟩ = some ov := ⟨_, R4.cell hrL⟩
        have hfz := R4.frozen r
        have R5 := R4.set r (.int .i64 z)
        rw [iv_set] at R5
        have HR5 := Lib.hid R5
        have HC5 := Lib.hid (hc.setOther (b := gr) (by omega) r (.int .i64 z))
        have HB5 := Lib.hid (B4.setCell (p := ⟨gr, r, none⟩) (by show w.heap.size ≤ gr; omega) (.int .i64 z))
        have hr0 : (0 : Int) ≤ (r : Int) := by omega
        have hr1 : (r : Int) < (n : Int) := by omega
        clear hc ho hz R4 B4 R5 C3 B3 R3 hrL
        go_wp2_with fail
        refine (one_any _ _ a l c _ 24 (by omega) (by omega) (by omega) HC5.out).mono ?_
        rintro e w7 ⟨v, ⟨b, rfl⟩, rfl, hc, ho⟩
        have C7 := Lib.hid hc
        have B7 := Lib.hid (below_grown HB5.out ho.1 (Nat.le_refl _))
        have R7 := Lib.hid (HR5.out.of_block (ho.1.block gr HR5.out.lt (by intro e; injection e with e; omega)))
        have hc7 := C7.out.lt
        clear hc ho HC5 HB5 HR5
        cases b with
        | true =>
          have h9 := HLIT.out (w7.alloc (.cells #[] 3)) [10, 7, -7, 100, 1, 0, 9000, -9000, 9001, -1]
          rw [World.size_alloc] at h9
          have HL9 := Lib.hid h9
          clear h9
          go_wp2_with fail
          refine (among_any _ _ a l c _ (w7.heap.size + 1) 10 [10, 7, -7, 100, 1, 0, 9000, -9000, 9001, -1] (by omega) rfl (by omega) (by omega) ((C7.out.alloc _).alloc _) (by omega) (by simp) HL9.out 10).mono ?_
          rintro e w8 ⟨v, ⟨z8, hz8, rfl⟩, rfl, hc, ho⟩
          have B8 := Lib.hid (below_grown ((B7.out.alloc B7.out.size _).alloc (by rw [World.size_alloc]; have := B7.out.size; omega) _) ho.1 (Nat.le_refl _))
          clear hc ho hz8
          go_wp2
          go_ret2
          exact ⟨z8, [], _, _, by simp, rfl, OwnI.none_, B8.out⟩
        | false =>
          go_wp2_with fail
          refine (among_any _ _ a l c _ w7.heap.size 10 [10, 7, -7, 100, 1, 0, 9000, -9000, 9001, -1] (by omega) rfl (by omega) (by omega) (C7.out.alloc _) (by omega) (by rw [World.size_alloc]; omega) (HLIT.out w7 [10, 7, -7, 100, 1, 0, 9000, -9000, 9001, -1]) 10).mono ?_
          rintro e w8 ⟨v, ⟨z8, hz8, rfl⟩, rfl, hc, ho⟩
          have B8 := Lib.hid (below_grown (B7.out.alloc B7.out.size _) ho.1 (Nat.le_refl _))
          have R8 := Lib.hid ((R7.out.alloc _).of_block (ho.1.block gr (R7.out.alloc _).lt (by intro e; injection e with e; omega)))
          clear hc ho hz8
          go_wp2
          go_ret2
          exact ⟨z8, (L.set r z), _, _, by rw [List.length_set]; have := HN.out; omega, by rw [List.length_set, HN.out]; rfl, ⟨gr, by omega, .inr ⟨rfl, R8.out⟩⟩, B8.out⟩
    · obtain ⟨i, rfl⟩ : ∃ i, j = i + 1 := ⟨j - 1, by omega⟩
      obtain rfl : t = (i : Int) := by omega
      have hi6 : i ≤ 6 := by omega
      clear hj ht
      go_wp2_with fail
      refine (among_any _ _ a l c _ wr.heap.size 7 [0, 1, 1, 2, 3, 7, 64] (by omega) rfl (by omega) (by omega) (HC.out.alloc _) (by omega) (by rw [World.size_alloc]; omega) (HLIT.out wr [0, 1, 1, 2, 3, 7, 64]) 7).mono ?_
      rintro e w4 ⟨v, ⟨z, hz, rfl⟩, rfl, hc, ho⟩
      have C4 := Lib.hid hc
      have B4 := Lib.hid (below_grown (HB.out.alloc HB.out.size _) ho.1 (Nat.le_refl _))
      have O4 := Lib.hid (own_cur (own_keeps HO.out (below_all wr (.cells #[.int .i64 0, .int .i64 1, .int .i64 1, .int .i64 2, .int .i64 3, .int .i64 7, .int .i64 64] 3))) ho.1 (by omega))
      have hz4 := C4.out.lt
      clear hc ho HC HB HO hz
      have key : ∀ (v' : Value) (w6 : World), w6.ownsRow (w.heap.size + 1) 3 1 v' (L.length + 1) (iv L ++ [.int .i64 z]) → (w4.alloc (.cells #[.int .i64 z] 3)).grownBy w6 (u5).ownBlock →
          w6.ownsRow (w.heap.size + 1) 3 1 v' (L ++ [z]).length (iv (L ++ [z])) ∧ CurIs w6 w.heap.size a l c (0 + 2 + 2 * (L ++ [z]).length) ∧ Below w.heap.size w w6 := by
        intro v' w6 hown' hgrow
        refine ⟨by rw [iv_snoc, List.length_append]; exact hown', ((C4.out.alloc _).past hgrow (fun j hj => by have := (O4.out.lt j hj).1; omega)).more (by simp; omega), (B4.out.alloc B4.out.size _).grown hgrow (by rw [World.size_alloc]; have := B4.out.size; omega) (fun j hj => by have := (O4.out.lt j hj).1; omega)⟩
      have KEY := Lib.hid key
      clear key
      go_wp2_with (at_builtin; refine wpList_append_own _ rfl _ _ 22 rfl (w.heap.size + 1) 3 i0 (.int .i64 0) 1 8 Tryd.underlying22 hi0' hz0 hz1 hz2 rfl (by decide) _ L.length (iv L) rfl (O4.out.alloc _) ⟨w4.heap.size, 0, none⟩ 1 1 [.int .i64 z] rfl rfl (cell_one_new _ _ _) (by simp [Value.oneCell']) (by unfold maxLen; omega) (by omega) (by simp; omega) ?_; intro v' w6 hown' hgrow _; have HK := Lib.hid (KEY.out v' w6 hown' hgrow); clear hown' hgrow)
      go_roundw
      case rel => exact ⟨i, _, L ++ [z], rfl, by have := HJ.out; simp; omega, by go_num, HK.out.1, HK.out.2.1, HK.out.2.2⟩
      case measure => simp [intOf] <;> omega
end Go.Proofs.YtccplndimdmjpaaDoor
namespace Go.Proofs.YtccplndimdmjpaaDoor
set_option linter.unusedVariables false
theorem tot_addL : ∀ {S T : List Int}, S.length = T.length → tot (addL S T) = tot S + tot T
  | [], [], _ => rfl
  | [], _ :: _, h => by simp at h
  | _ :: _, [], h => by simp at h
  | x :: s, y :: t, h => by
    have ih := tot_addL (S := s) (T := t) (by simpa using h)
    show (x + y) + tot (addL s t) = (x + tot s) + (y + tot t)
    rw [ih]; omega
theorem tot_zeros : ∀ n : Nat, tot (List.replicate n 0) = 0
  | 0 => rfl
  | n + 1 => by show 0 + tot (List.replicate n 0) = 0; rw [tot_zeros n]; rfl
theorem regK_tot {W H P Q : Nat} {l : List Int} (w1 : 1 ≤ W) (w8 : W ≤ 8) (h8 : H ≤ 8) (p1 : 1 ≤ P) (p8 : P ≤ 8) (q1 : 1 ≤ Q) (q8 : Q ≤ 8) (hl : ∀ z ∈ l, -9000 ≤ z ∧ z ≤ 9000) (hn : l.length = W * H) : ∀ k, k ≤ l.length → tot (regK W H P Q l k) = tot (l.take k)
  | 0, _ => by rw [regK, tot_zeros]; rfl
  | k + 1, hk => by
    have ih := regK_tot w1 w8 h8 p1 p8 q1 q8 hl hn k (by omega)
    have hv := hl _ (List.getElem_mem (show k < l.length by omega))
    have hok := spB_iff.1 (ovW_ok w1 w8 h8 p1 p8 q1 q8 (show k < W * H by omega) hv.1 hv.2)
    rw [regK, tot_addL (by rw [regK_len, partsOf_len]), ih, snoc_takeI _ _ (show k < l.length by omega), tot_snocI]
    unfold partsOf
    rw [split_tot hok.2.2.2 rfl, gd_at (show k < l.length by omega)]
theorem vals_full {wd hg : Int} {l : List Int} (h : fullB wd hg l = true) : vals l = l := List.filter_eq_self.2 (List.all_eq_true.1 (full_all h))
theorem reg_keeps {wd hg : Int} {l : List Int} {p q : Int} {r : Int × Int × List Int} (h : regR wd hg l p q = some r) : fullB wd hg l = true ∧ r.1 = p ∧ r.2.1 = q ∧ fullB p q r.2.2 = true ∧ tot (vals l) = tot (vals r.2.2) := by
  cases hb : regB wd hg l p q with
  | false => rw [regR_no hb] at h; cases h
  | true =>
    rw [regR_yes hb] at h
    have hf : fullB wd hg l = true := by unfold regB at hb; simp only [Bool.and_eq_true] at hb; exact hb.1
    obtain ⟨W, H, P, Q, rfl, rfl, rfl, rfl, n1, n2, n3, n4, p1, p8, q1, q8, hln⟩ := reg_nat hb
    simp only [Int.toNat_natCast] at h
    cases hw : fullB (P : Int) (Q : Int) (regK W H P Q l (W * H)) with
    | false => rw [wholeR_no hw] at h; cases h
    | true =>
      rw [wholeR_yes hw] at h
      injection h with h
      subst h
      refine ⟨hf, rfl, rfl, hw, ?_⟩
      have h9 := regK_tot n1 n2 n4 p1 p8 q1 q8 (full_cell hf) hln (W * H) (by omega)
      rw [vals_full hf, vals_full hw, h9, ← hln, List.take_length]
theorem accK_tot {f : Nat → Nat} {l s : List Int} : ∀ k, k ≤ l.length → (∀ i, i < k → f i < s.length) → tot (accK f l s k) = tot s + tot (l.take k)
  | 0, _, _ => by rw [accK]; simp [tot]
  | k + 1, hk, hf => by
    have ih := accK_tot (f := f) (l := l) (s := s) k (by omega) (fun i hi => hf i (by omega))
    have h1 : f k < (accK f l s k).length := by rw [accK_len]; exact hf k (by omega)
    rw [accK_step h1 (show k < l.length by omega), tot_set h1, ih, snoc_takeI _ _ (show k < l.length by omega), tot_snocI]
    omega
theorem sum_keeps {wd hg : Int} {l : List Int} {p q : Int} {r : Int × Int × List Int} (h : sumR wd hg l p q = some r) : fullB wd hg l = true ∧ fullB r.1 r.2.1 r.2.2 = true ∧ tot (vals l) = tot (vals r.2.2) := by
  cases hb : divB wd hg l p q with
  | false => rw [sumR_no hb] at h; cases h
  | true =>
    rw [sumR_yes hb] at h
    have hf := (divB_iff.1 hb).1
    cases hw : fullB (wd / p) (hg / q) (blkL wd.toNat hg.toNat p.toNat q.toNat l) with
    | false => rw [wholeR_no hw] at h; cases h
    | true =>
      rw [wholeR_yes hw] at h
      injection h with h
      subst h
      refine ⟨hf, hw, ?_⟩
      show tot (vals l) = tot (vals (blkL wd.toNat hg.toNat p.toNat q.toNat l))
      rw [vals_full hf, vals_full hw]
      obtain ⟨W, H, P, Q, rfl, rfl, rfl, rfl, n1, n2, n3, n4, p1, p2, q1, q2, dP, dQ, hln⟩ := div_nat hb
      simp only [Int.toNat_natCast]
      unfold blkL
      rw [accK_tot _ (by omega) (fun i hi => by rw [List.length_replicate]; exact blkI_lt (by omega) dP dQ hi), tot_zeros, ← hln, List.take_length]
      omega
/-- a column that lies in one wider column has its units there alone -/
theorem ovl_block {c P x u : Nat} (hP : 1 ≤ P) : ovl ((c * P : Nat) : Int) (c : Int) (x : Int) (u : Int) = if u = x / P then (c : Int) else 0 := by
  have e1 : ((x : Int) + 1) * (c : Int) = (x : Int) * c + c := by rw [Int.add_mul, Int.one_mul]
  have e2 : ((u : Int) + 1) * ((c * P : Nat) : Int) = (u : Int) * ((c * P : Nat) : Int) + ((c * P : Nat) : Int) := by rw [Int.add_mul, Int.one_mul]
  have hd := Nat.div_add_mod x P
  have hm := Nat.mod_lt x (show P > 0 by omega)
  unfold ovl
  split
  · rename_i h
    subst h
    have h1 : (x / P) * (c * P) ≤ x * c := by
      rw [Nat.mul_comm c P, ← Nat.mul_assoc]; exact Nat.mul_le_mul_right c (Nat.div_mul_le_self x P)
    have h2 : (x + 1) * c ≤ (x / P + 1) * (c * P) := by
      rw [Nat.mul_comm c P, ← Nat.mul_assoc]
      refine Nat.mul_le_mul_right c ?_
      rw [Nat.add_mul, Nat.one_mul, Nat.mul_comm (x / P) P]; omega
    have i1 : ((x / P : Nat) : Int) * ((c * P : Nat) : Int) ≤ (x : Int) * (c : Int) := by rw [← Int.natCast_mul, ← Int.natCast_mul]; omega
    have i2 : ((x : Int) + 1) * (c : Int) ≤ (((x / P : Nat) : Int) + 1) * ((c * P : Nat) : Int) := by
      have e3 : ((x : Int) + 1) * (c : Int) = (((x + 1) * c : Nat) : Int) := by rw [Int.natCast_mul]; rfl
      have e4 : (((x / P : Nat) : Int) + 1) * ((c * P : Nat) : Int) = (((x / P + 1) * (c * P) : Nat) : Int) := by rw [Int.natCast_mul]; rfl
      rw [e3, e4]; omega
    generalize ((x : Int) + 1) * (c : Int) = a1 at *
    generalize (x : Int) * (c : Int) = a0 at *
    generalize (((x / P : Nat) : Int) + 1) * ((c * P : Nat) : Int) = b1 at *
    generalize ((x / P : Nat) : Int) * ((c * P : Nat) : Int) = b0 at *
    omega
  · rename_i h
    rcases Nat.lt_or_gt_of_ne h with h | h
    · have h1 : (u + 1) * (c * P) ≤ x * c := by
        rw [Nat.mul_comm c P, ← Nat.mul_assoc]
        refine Nat.mul_le_mul_right c (Nat.le_trans (Nat.mul_le_mul_right P (show u + 1 ≤ x / P by omega)) (Nat.div_mul_le_self x P))
      have i1 : ((u : Int) + 1) * ((c * P : Nat) : Int) ≤ (x : Int) * (c : Int) := by
        have e4 : ((u : Int) + 1) * ((c * P : Nat) : Int) = (((u + 1) * (c * P) : Nat) : Int) := by rw [Int.natCast_mul]; rfl
        rw [e4, ← Int.natCast_mul]; omega
      generalize ((x : Int) + 1) * (c : Int) = a1 at *
      generalize (x : Int) * (c : Int) = a0 at *
      generalize ((u : Int) + 1) * ((c * P : Nat) : Int) = b1 at *
      generalize (u : Int) * ((c * P : Nat) : Int) = b0 at *
      omega
    · have h1 : (x + 1) * c ≤ u * (c * P) := by
        rw [Nat.mul_comm c P, ← Nat.mul_assoc]
        refine Nat.mul_le_mul_right c (Nat.le_trans ?_ (Nat.mul_le_mul_right P (show x / P + 1 ≤ u by omega)))
        rw [Nat.add_mul, Nat.one_mul, Nat.mul_comm (x / P) P]; omega
      have i1 : ((x : Int) + 1) * (c : Int) ≤ (u : Int) * ((c * P : Nat) : Int) := by
        have e3 : ((x : Int) + 1) * (c : Int) = (((x + 1) * c : Nat) : Int) := by rw [Int.natCast_mul]; rfl
        rw [e3, ← Int.natCast_mul]; omega
      generalize ((x : Int) + 1) * (c : Int) = a1 at *
      generalize (x : Int) * (c : Int) = a0 at *
      generalize ((u : Int) + 1) * ((c * P : Nat) : Int) = b1 at *
      generalize (u : Int) * ((c * P : Nat) : Int) = b0 at *
      omega
theorem set_zero_get (n j i : Nat) (z : Int) (h : i < ((List.replicate n (0 : Int)).set j z).length) : ((List.replicate n (0 : Int)).set j z)[i] = if j = i then z else 0 := by
  rw [List.getElem_set]
  split
  · rfl
  · rw [List.getElem_replicate]
theorem ovW_block {c d P Q k : Nat} (c1 : 1 ≤ c) (d1 : 1 ≤ d) (hP : 1 ≤ P) (hQ : 1 ≤ Q) (hk : k < c * P * (d * Q)) : ovW (c * P) (d * Q) c d k = (List.replicate (c * d) (0 : Int)).set (blkI (c * P) P Q k) ((c * d : Nat) : Int) := by
  have hW : c * P / P = c := Nat.mul_div_cancel _ (by omega)
  have hx : k % (c * P) / P < c := by
    rw [Nat.div_lt_iff_lt_mul (by omega)]; exact Nat.mod_lt _ (Nat.mul_pos (by omega) (by omega))
  refine List.ext_getElem (by rw [ovW_len, List.length_set, List.length_replicate]) fun m h1 h2 => ?_
  rw [ovW_get, set_zero_get, ovl_block hP, ovl_block hQ]
  have hj : blkI (c * P) P Q k = k / (c * P) / Q * c + k % (c * P) / P := by unfold blkI; rw [hW]
  rw [hj]
  generalize k % (c * P) / P = x at *
  generalize k / (c * P) / Q = y at *
  have hd := Nat.div_add_mod m c
  by_cases e : y * c + x = m
  · subst e
    have a1 : (y * c + x) % c = x := by rw [Nat.add_comm, Nat.add_mul_mod_self_right, Nat.mod_eq_of_lt hx]
    have a2 : (y * c + x) / c = y := by rw [Nat.add_comm, Nat.add_mul_div_right _ _ (by omega), Nat.div_eq_of_lt hx, Nat.zero_add]
    rw [a1, a2, if_pos rfl, if_pos rfl, if_pos rfl, Int.natCast_mul]
  · rw [if_neg e]
    by_cases e1 : m % c = x
    · have e2 : ¬ m / c = y := by
        intro e2; apply e; rw [← e1, ← e2, Nat.mul_comm]; exact hd
      rw [if_neg e2, Int.mul_zero]
    · rw [if_neg e1, Int.zero_mul]
theorem split_one {n j : Nat} {v S : Int} (hS : 0 < S) (hj : j < n) : splitD v S ((List.replicate n (0 : Int)).set j S) = (List.replicate n (0 : Int)).set j v := by
  have e1 : partsD v S ((List.replicate n (0 : Int)).set j S) = (List.replicate n (0 : Int)).set j v := by
    unfold partsD
    rw [List.map_set, List.map_replicate, Int.mul_zero, Int.zero_ediv, Int.mul_ediv_cancel _ (by omega)]
  have e2 : leftD v S ((List.replicate n (0 : Int)).set j S) = 0 := by
    unfold leftD
    rw [e1, tot_set (by rw [List.length_replicate]; exact hj), tot_zeros, List.getElem_replicate]
    omega
  unfold splitD
  rw [e1, e2]
  rfl
theorem addL_one {S : List Int} {n j : Nat} (hS : S.length = n) (hj : j < n) (v : Int) : addL S ((List.replicate n (0 : Int)).set j v) = S.set j (S.getD j 0 + v) := by
  refine List.ext_getElem (by rw [addL_len (by simp [hS]), List.length_set]) fun i h1 h2 => ?_
  have h3 : i < S.length := by rw [List.length_set] at h2; exact h2
  have h4 : i < ((List.replicate n (0 : Int)).set j v).length := by rw [List.length_set, List.length_replicate, ← hS]; exact h3
  have h5 : (addL S ((List.replicate n (0 : Int)).set j v))[i] = S[i] + ((List.replicate n (0 : Int)).set j v)[i] := List.getElem_zipWith ..
  rw [h5, set_zero_get, List.getElem_set]
  split
  · rename_i e; subst e; rw [gd_at h3]
  · rw [Int.add_zero]
theorem reg_block {c d P Q : Nat} {l : List Int} (c1 : 1 ≤ c) (d1 : 1 ≤ d) (hP : 1 ≤ P) (hQ : 1 ≤ Q) : ∀ k, k ≤ c * P * (d * Q) → regK (c * P) (d * Q) c d l k = accK (blkI (c * P) P Q) l (List.replicate (c * d) 0) k
  | 0, _ => rfl
  | k + 1, hk => by
    have ih := reg_block (l := l) c1 d1 hP hQ k (by omega)
    have hcd : 1 ≤ c * d := Nat.mul_le_mul c1 d1
    have hj : blkI (c * P) P Q k < c * d := by
      have := blkI_lt (W := c * P) (H := d * Q) (A := P) (D := Q) (k := k) (Nat.mul_pos (by omega) (by omega)) ⟨c, Nat.mul_comm _ _⟩ ⟨d, Nat.mul_comm _ _⟩ (by omega)
      rw [Nat.mul_div_cancel _ (by omega), Nat.mul_div_cancel _ (by omega)] at this
      exact this
    rw [regK, accK, ih]
    unfold partsOf
    rw [ovW_block c1 d1 hP hQ (by omega), tot_set (by rw [List.length_replicate]; exact hj), tot_zeros, List.getElem_replicate,
      show (0 : Int) - 0 + ((c * d : Nat) : Int) = ((c * d : Nat) : Int) by omega, split_one (by omega) hj, addL_one (by rw [accK_len, List.length_replicate]) hj]
/-- a regrid onto the shape of the blocks gives the sums of the blocks -/
theorem reg_sum {wd hg : Int} {l : List Int} {p q : Int} {r : Int × Int × List Int} (h : sumR wd hg l p q = some r) : regR wd hg l r.1 r.2.1 = some r := by
  obtain ⟨hf, hw, _⟩ := sum_keeps h
  cases hb : divB wd hg l p q with
  | false => rw [sumR_no hb] at h; cases h
  | true =>
    rw [sumR_yes hb] at h
    obtain ⟨W, H, P, Q, rfl, rfl, rfl, rfl, n1, n2, n3, n4, p1, p2, q1, q2, ⟨c, rfl⟩, ⟨d, rfl⟩, hln⟩ := div_nat hb
    have c1 : 1 ≤ c := Nat.pos_of_ne_zero (by rintro rfl; simp at n1)
    have d1 : 1 ≤ d := Nat.pos_of_ne_zero (by rintro rfl; simp at n3)
    simp only [Int.toNat_natCast] at h
    have e1 : ((P * c : Nat) : Int) / (P : Int) = (c : Int) := by rw [Int.natCast_mul, Int.mul_ediv_cancel_left _ (by omega)]
    have e2 : ((Q * d : Nat) : Int) / (Q : Int) = (d : Int) := by rw [Int.natCast_mul, Int.mul_ediv_cancel_left _ (by omega)]
    rw [e1, e2] at h
    have hL : blkL (P * c) (Q * d) P Q l = regK (P * c) (Q * d) c d l (P * c * (Q * d)) := by
      unfold blkL
      rw [Nat.mul_div_cancel_left _ (by omega), Nat.mul_div_cancel_left _ (by omega), Nat.mul_comm P c, Nat.mul_comm Q d]
      exact (reg_block c1 d1 p1 q1 _ (Nat.le_refl _)).symm
    cases hv : fullB (c : Int) (d : Int) (blkL (P * c) (Q * d) P Q l) with
    | false => rw [wholeR_no hv] at h; cases h
    | true =>
      rw [wholeR_yes hv] at h
      injection h with h
      subst h
      have hB : regB ((P * c : Nat) : Int) ((Q * d : Nat) : Int) l (c : Int) (d : Int) = true := by
        unfold regB; rw [hf, good_shape (full_good hv)]; rfl
      show regR _ _ l (c : Int) (d : Int) = _
      rw [regR_yes hB]
      simp only [Int.toNat_natCast]
      rw [← hL, wholeR_yes hv]
/-- a weight of 0 gets nothing -/
theorem adds_none {P R : List Int} (hl : P.length = R.length) (hR : ∀ z ∈ R, 0 ≤ z) {i : Nat} (hi : i < R.length) (hz : R.getD i 0 = 0) : ∀ k, k ≤ cntP R → (addsD P R k).1.getD i 0 = P.getD i 0
  | 0, _ => rfl
  | k + 1, h => by
    have ih := adds_none hl hR hi hz k (by omega)
    obtain ⟨hb, hp⟩ := adds_pos (P := P) hR (k := k) (by omega)
    have hv := (adds_inv (P := P) hR k (by omega)).2 i hi
    have h1 := (addsD_len P R k).1
    have hne : bestN (addsD P R k).2 (addsD P R k).2.length ≠ i := by
      intro e
      rw [e] at hp
      rcases hv with h9 | h9 <;> omega
    show ((addsD P R k).1.set (bestN (addsD P R k).2 (addsD P R k).2.length) _).getD i 0 = _
    rw [gd_at (by rw [List.length_set]; omega), List.getElem_set, if_neg hne, ← gd_at (show i < (addsD P R k).1.length by omega), ih]
theorem split_none {v S : Int} {ws : List Int} (hS : 0 < S) (h : tot ws = S) {i : Nat} (hi : i < ws.length) (hz : ws[i] = 0) (h2 : i < (splitD v S ws).length) : (splitD v S ws)[i] = 0 := by
  have hb := left_bd (v := v) hS h
  have hrl : (restsD v S ws).length = ws.length := by simp [restsD]
  have hpl : (partsD v S ws).length = ws.length := by simp [partsD]
  have e0 : (restsD v S ws).getD i 0 = 0 := by
    rw [gd_at (by omega)]; simp [restsD, hz]
  rw [← gd_at h2]
  unfold splitD
  rw [adds_none (by omega) (fun z hz => (restsD_bd hS ws z hz).1) (by omega) e0 _ (by omega), gd_at (by omega)]
  simp [partsD, hz]
end Go.Proofs.YtccplndimdmjpaaDoor
namespace Go.Proofs.YtccplndimdmjpaaDoor
open Go.RowKit
set_option linter.unusedVariables false
set_option linter.unusedSimpArgs false
/-- a function of one field without a result's box -/
structure Fb1 (w : World) (wd0 hg0 : Int) (a0 : Option Addr) (l0 : List Int) (c0 : Nat) (w' : World) : Prop where
  b : Below w.heap.size w w'
  i0 : Ints .i64 w' w'.heap.size a0 l0
  k0 : Box w' (w.heap.size) 32 (.int .i64 wd0) (.int .i64 hg0) (.slice a0 l0.length c0)
theorem Fb1.new {w : World} {wd0 hg0 : Int} {a0 : Option Addr} {l0 : List Int} {c0 : Nat} (h0 : Ints .i64 w w.heap.size a0 l0) : Fb1 w wd0 hg0 a0 l0 c0 (w.alloc (.cells #[.int .i64 wd0, .int .i64 hg0, .slice a0 l0.length c0] 32)) := ⟨below_all _ _, ints_alloc h0 _, Box.new _ _ _ _ _⟩
theorem Fb1.step {w w1 w2 : World} {wd0 hg0 : Int} {a0 : Option Addr} {l0 : List Int} {c0 : Nat} (h : Fb1 w wd0 hg0 a0 l0 c0 w1) (b : Below w1.heap.size w1 w2) : Fb1 w wd0 hg0 a0 l0 c0 w2 := ⟨below_then h.b b, ints_below h.i0 b, h.k0.below b⟩
set_option maxHeartbeats 2000000 in
theorem specDiv_is (wd hg : Int) (a : Option Addr) (l : List Int) (c : Nat) (p q : Int) (v : Bool) (w : World) (hl : Ints .i64 w w.heap.size a l) (hn : l.length ≤ 1048576) (h : divB wd hg l p q = v) :
    Calls Tryd.prog 52 #[.agg #[.int .i64 wd, .int .i64 hg, .slice a l.length c], .int .i64 p, .int .i64 q] w fun e w' => e = .returned (.bool v) ∧ Below w.heap.size w w' := by
  have F0 := Lib.hid (Fb1.new (wd0 := wd) (hg0 := hg) (c0 := c) hl)
  clear hl
  cases hf : fullB wd hg l with
  | false =>
    obtain rfl : v = false := by rw [← h]; exact divB_not (fun h9 => by rw [hf] at h9; exact absurd h9.1 (by simp))
    have C1 := Lib.hid (fun W h => specFull_is wd hg a l c false W h hn hf)
    clear h hf
    go_enter Tryd.func52, Tryd.ntmps52
    obtain ⟨k0, k1, k2⟩ := F0.out.k0.cells
    go_wp2_with fail
    refine (C1.out _ F0.out.i0).mono ?_
    rintro e w1 ⟨rfl, b⟩
    have F1 := Lib.hid (F0.out.step b)
    clear b k0 k1 k2 F0
    obtain ⟨k0, k1, k2⟩ := F1.out.k0.cells
    go_wp2
    go_ret
    exact ⟨rfl, F1.out.b⟩
  | true =>
    have C1 := Lib.hid (fun W h => specFull_is wd hg a l c true W h hn hf)
    obtain ⟨⟨w1, w2⟩, g1, g2⟩ := shapeB_iff.1 (good_shape (full_good hf))
    cases h1 : (decide (1 ≤ p) && decide (p ≤ wd)) with
    | false =>
      obtain rfl : v = false := by rw [← h]; exact divB_not (fun h9 => by have := le_of_mod w1 h9.2.1.1 h9.2.1.2; have := h9.2.1.1; simp at h1; omega)
      have C2 := Lib.hid (fun W => l1In_is p 1 wd false W h1)
      clear h hf h1
      go_enter Tryd.func52, Tryd.ntmps52
      obtain ⟨k0, k1, k2⟩ := F0.out.k0.cells
      go_wp2_with fail
      refine (C1.out _ F0.out.i0).mono ?_
      rintro e w1 ⟨rfl, b⟩
      have F1 := Lib.hid (F0.out.step b)
      clear b k0 k1 k2 F0
      obtain ⟨k0, k1, k2⟩ := F1.out.k0.cells
      go_wp2_with fail
      refine (C2.out _).mono ?_
      rintro e w9 ⟨rfl, rfl⟩
      clear k0 k1 k2
      obtain ⟨k0, k1, k2⟩ := F1.out.k0.cells
      go_wp2
      go_ret
      exact ⟨rfl, F1.out.b⟩
    | true =>
      have C2 := Lib.hid (fun W => l1In_is p 1 wd true W h1)
      cases h2 : (decide (1 ≤ q) && decide (q ≤ hg)) with
      | false =>
        obtain rfl : v = false := by rw [← h]; exact divB_not (fun h9 => by have := le_of_mod g1 h9.2.2.1 h9.2.2.2; have := h9.2.2.1; simp at h2; omega)
        have C3 := Lib.hid (fun W => l1In_is q 1 hg false W h2)
        clear h hf h1 h2
        go_enter Tryd.func52, Tryd.ntmps52
        obtain ⟨k0, k1, k2⟩ := F0.out.k0.cells
        go_wp2_with fail
        refine (C1.out _ F0.out.i0).mono ?_
        rintro e w1 ⟨rfl, b⟩
        have F1 := Lib.hid (F0.out.step b)
        clear b k0 k1 k2 F0
        obtain ⟨k0, k1, k2⟩ := F1.out.k0.cells
        go_wp2_with fail
        refine (C2.out _).mono ?_
        rintro e w9 ⟨rfl, rfl⟩
        clear k0 k1 k2
        obtain ⟨k0, k1, k2⟩ := F1.out.k0.cells
        go_wp2_with fail
        refine (C3.out _).mono ?_
        rintro e w9 ⟨rfl, rfl⟩
        clear k0 k1 k2
        obtain ⟨k0, k1, k2⟩ := F1.out.k0.cells
        go_wp2
        go_ret
        exact ⟨rfl, F1.out.b⟩
      | true =>
        have C3 := Lib.hid (fun W => l1In_is q 1 hg true W h2)
        simp only [Bool.and_eq_true, decide_eq_true_eq] at h1 h2
        obtain ⟨p1, p2⟩ := h1
        obtain ⟨q1, q2⟩ := h2
        have t1 : wd.tmod p = wd % p := Int.tmod_eq_emod_of_nonneg (by omega)
        have t2 : hg.tmod q = hg % q := Int.tmod_eq_emod_of_nonneg (by omega)
        by_cases m1 : wd % p = 0
        · by_cases m2 : hg % q = 0
          · obtain rfl : v = true := by rw [← h]; exact divB_iff.2 ⟨hf, ⟨p1, m1⟩, q1, m2⟩
            have x1 : (wd % p == 0) = true := by simp [m1]
            have x2 : (hg % q == 0) = true := by simp [m2]
            clear m1 m2
            clear h hf
            go_enter Tryd.func52, Tryd.ntmps52
            obtain ⟨k0, k1, k2⟩ := F0.out.k0.cells
            go_wp2_with fail
            refine (C1.out _ F0.out.i0).mono ?_
            rintro e w1 ⟨rfl, b⟩
            have F1 := Lib.hid (F0.out.step b)
            clear b k0 k1 k2 F0
            obtain ⟨k0, k1, k2⟩ := F1.out.k0.cells
            go_wp2_with fail
            refine (C2.out _).mono ?_
            rintro e w9 ⟨rfl, rfl⟩
            clear k0 k1 k2
            obtain ⟨k0, k1, k2⟩ := F1.out.k0.cells
            go_wp2_with fail
            refine (C3.out _).mono ?_
            rintro e w9 ⟨rfl, rfl⟩
            clear k0 k1 k2
            obtain ⟨k0, k1, k2⟩ := F1.out.k0.cells
            go_wp2
            go_ret
            exact ⟨rfl, F1.out.b⟩
          · obtain rfl : v = false := by rw [← h]; exact divB_not (fun h9 => m2 h9.2.2.2)
            have x1 : (wd % p == 0) = true := by simp [m1]
            have x2 : (hg % q == 0) = false := by simp [m2]
            clear m1 m2
            clear h hf
            go_enter Tryd.func52, Tryd.ntmps52
            obtain ⟨k0, k1, k2⟩ := F0.out.k0.cells
            go_wp2_with fail
            refine (C1.out _ F0.out.i0).mono ?_
            rintro e w1 ⟨rfl, b⟩
            have F1 := Lib.hid (F0.out.step b)
            clear b k0 k1 k2 F0
            obtain ⟨k0, k1, k2⟩ := F1.out.k0.cells
            go_wp2_with fail
            refine (C2.out _).mono ?_
            rintro e w9 ⟨rfl, rfl⟩
            clear k0 k1 k2
            obtain ⟨k0, k1, k2⟩ := F1.out.k0.cells
            go_wp2_with fail
            refine (C3.out _).mono ?_
            rintro e w9 ⟨rfl, rfl⟩
            clear k0 k1 k2
            obtain ⟨k0, k1, k2⟩ := F1.out.k0.cells
            go_wp2
            go_ret
            exact ⟨rfl, F1.out.b⟩
        · obtain rfl : v = false := by rw [← h]; exact divB_not (fun h9 => m1 h9.2.1.2)
          have x1 : (wd % p == 0) = false := by simp [m1]
          clear m1
          clear h hf
          go_enter Tryd.func52, Tryd.ntmps52
          obtain ⟨k0, k1, k2⟩ := F0.out.k0.cells
          go_wp2_with fail
          refine (C1.out _ F0.out.i0).mono ?_
          rintro e w1 ⟨rfl, b⟩
          have F1 := Lib.hid (F0.out.step b)
          clear b k0 k1 k2 F0
          obtain ⟨k0, k1, k2⟩ := F1.out.k0.cells
          go_wp2_with fail
          refine (C2.out _).mono ?_
          rintro e w9 ⟨rfl, rfl⟩
          clear k0 k1 k2
          obtain ⟨k0, k1, k2⟩ := F1.out.k0.cells
          go_wp2_with fail
          refine (C3.out _).mono ?_
          rintro e w9 ⟨rfl, rfl⟩
          clear k0 k1 k2
          obtain ⟨k0, k1, k2⟩ := F1.out.k0.cells
          go_wp2
          go_ret
          exact ⟨rfl, F1.out.b⟩
set_option maxRecDepth 100000 in
set_option maxHeartbeats 2000000 in
theorem specSum_any (wd hg : Int) (a : Option Addr) (l : List Int) (c : Nat) (p q : Int) (w : World) (hl : Ints .i64 w w.heap.size a l) (hn : l.length ≤ 1048576) :
    Calls Tryd.prog 25 #[.agg #[.int .i64 wd, .int .i64 hg, .slice a l.length c], .int .i64 p, .int .i64 q] w (FRet (sumR wd hg l p q) w) := by
  have F0 := Lib.hid (Fr1.new (wd0 := wd) (hg0 := hg) (c0 := c) hl)
  cases hd : divB wd hg l p q with
  | false =>
    rw [sumR_no hd]
    have C1 := Lib.hid (fun W h => specDiv_is wd hg a l c p q false W h hn hd)
    clear hd hl
    go_enter Tryd.func25, Tryd.ntmps25
    obtain ⟨k0, k1, k2⟩ := F0.out.k0.cells
    go_wp2_with fail
    refine (C1.out _ F0.out.i0).mono ?_
    rintro e w1 ⟨rfl, b⟩
    have F1 := Lib.hid (F0.out.step b)
    clear b k0 k1 k2 F0
    obtain ⟨r0, r1, r2⟩ := F1.out.r.cells
    have g0 := F1.out.r.frozen 0
    have g1 := F1.out.r.frozen 1
    have g2 := F1.out.r.frozen 2
    go_wp2
    refine bodyPost_ret (v := .tuple #[.agg #[.int .i64 0, .int .i64 0, .slice none 0 0], .bool false]) (by simp [results, Tryd.results25, go_sem, r0, r1, r2]) rfl ⟨none, 0, rfl, OwnI.none_, ?_⟩
    first | exact F1.out.b | exact ((F1.out.b.setCell (by show w.heap.size ≤ w.heap.size + 1; omega) _).setCell (by show w.heap.size ≤ w.heap.size + 1; omega) _).setCell (by show w.heap.size ≤ w.heap.size + 1; omega) _
  | true =>
    rw [sumR_yes hd]
    have C1 := Lib.hid (fun W h => specDiv_is wd hg a l c p q true W h hn hd)
    obtain ⟨W, H, P, Q, rfl, rfl, rfl, rfl, n1, n2, n3, n4, p1, p2, q1, q2, dP, dQ, hln⟩ := div_nat hd
    obtain ⟨Wa, hWa⟩ : ∃ x, W / P = x := ⟨_, rfl⟩
    obtain ⟨Hd, hHd⟩ : ∃ x, H / Q = x := ⟨_, rfl⟩
    have hB := full_cell (divB_iff.1 hd).1
    have C2 := Lib.hid (fun W' h => specBlocks_any W H P Q Wa Hd a l c W' h n1 n2 n3 n4 p1 p2 q1 q2 dP dQ hln hB hWa hHd)
    have wa1 : 1 ≤ Wa := by rw [← hWa]; exact Nat.div_pos p2 (by omega)
    have hd1 : 1 ≤ Hd := by rw [← hHd]; exact Nat.div_pos q2 (by omega)
    have hP1 : 1 ≤ Wa * Hd := Nat.mul_le_mul wa1 hd1
    have hSL : (blkL W H P Q l).length = Wa * Hd := by rw [blkL_len, hWa, hHd]
    have hS64 : (blkL W H P Q l).length ≤ 64 := by rw [blkL_len]; exact blk_le n2 n4
    have hSB : ∀ z ∈ blkL W H P Q l, -576000 ≤ z ∧ z ≤ 576000 := fun z hz => by
      have h1 := accK_bd (blkI W P Q) (W / P * (H / Q)) hB (W * H) z hz
      have h2 : W * H ≤ 64 := Nat.mul_le_mul n2 n4
      omega
    have e1 : (W : Int) / (P : Int) = (Wa : Int) := by rw [nat_ediv, hWa]
    have e2 : (H : Int) / (Q : Int) = (Hd : Int) := by rw [nat_ediv, hHd]
    rw [e1, e2]
    simp only [Int.toNat_natCast]
    generalize blkL W H P Q l = S at *
    have hS0 : 0 < S.length := by omega
    clear hSL hd hl e1 e2 hB dP dQ hln hWa hHd

    cases hf : fullB Wa Hd S with
    | false =>
      rw [wholeR_no hf]
      have C3 := Lib.hid (fun W' a c h => specFull_is (Wa : Int) (Hd : Int) a S c false W' h (by omega) hf)
      clear hf
      go_enter Tryd.func25, Tryd.ntmps25
      obtain ⟨k0, k1, k2⟩ := F0.out.k0.cells
      go_wp2_with fail
      refine (C1.out _ F0.out.i0).mono ?_
      rintro e w1 ⟨rfl, b⟩
      have F1 := Lib.hid (F0.out.step b)
      clear b k0 k1 k2 F0
      obtain ⟨k0, k1, k2⟩ := F1.out.k0.cells
      go_wp2_with fail
      refine (C2.out _ F1.out.i0).mono ?_
      rintro e w2 ⟨a2, c2, rfl, o2, b2⟩
      have F2 := Lib.hid (F1.out.step b2)
      obtain ⟨g, rfl, hB⟩ := Bk.new (P := Wa) (Q := Hd) (cap := c2) F2.out (o2.more (by have := F1.out.r.lt; omega)) hS0
      have HB := Lib.hid hB
      have zq := F2.out.r.lt
      clear o2 b2 k0 k1 k2 F1 hB
      obtain ⟨x0, x1, x2⟩ := HB.out.x.cells
      go_wp2_with fail
      refine (C3.out _ _ _ (HB.out.own.ints)).mono ?_
      rintro e w3 ⟨rfl, b3⟩
      have HB3 := Lib.hid (HB.out.step b3)
      clear b3 HB F2 x0 x1 x2
      have F3 := Lib.hid HB3.out.f
      obtain ⟨r0, r1, r2⟩ := F3.out.r.cells
      have g0 := F3.out.r.frozen 0
      have g1 := F3.out.r.frozen 1
      have g2 := F3.out.r.frozen 2
      go_wp2
      refine bodyPost_ret (v := .tuple #[.agg #[.int .i64 0, .int .i64 0, .slice none 0 0], .bool false]) (by simp [results, Tryd.results25, go_sem, r0, r1, r2]) rfl ⟨none, 0, rfl, OwnI.none_, ?_⟩
      first | exact F3.out.b | exact ((F3.out.b.setCell (by show w.heap.size ≤ w.heap.size + 1; omega) _).setCell (by show w.heap.size ≤ w.heap.size + 1; omega) _).setCell (by show w.heap.size ≤ w.heap.size + 1; omega) _
    | true =>
      rw [wholeR_yes hf]
      have C3 := Lib.hid (fun W' a c h => specFull_is (Wa : Int) (Hd : Int) a S c true W' h (by omega) hf)
      clear hf
      go_enter Tryd.func25, Tryd.ntmps25
      obtain ⟨k0, k1, k2⟩ := F0.out.k0.cells
      go_wp2_with fail
      refine (C1.out _ F0.out.i0).mono ?_
      rintro e w1 ⟨rfl, b⟩
      have F1 := Lib.hid (F0.out.step b)
      clear b k0 k1 k2 F0
      obtain ⟨k0, k1, k2⟩ := F1.out.k0.cells
      go_wp2_with fail
      refine (C2.out _ F1.out.i0).mono ?_
      rintro e w2 ⟨a2, c2, rfl, o2, b2⟩
      have F2 := Lib.hid (F1.out.step b2)
      obtain ⟨g, rfl, hB⟩ := Bk.new (P := Wa) (Q := Hd) (cap := c2) F2.out (o2.more (by have := F1.out.r.lt; omega)) hS0
      have HB := Lib.hid hB
      have zq := F2.out.r.lt
      clear o2 b2 k0 k1 k2 F1 hB
      obtain ⟨x0, x1, x2⟩ := HB.out.x.cells
      go_wp2_with fail
      refine (C3.out _ _ _ (HB.out.own.ints)).mono ?_
      rintro e w3 ⟨rfl, b3⟩
      have HB3 := Lib.hid (HB.out.step b3)
      clear b3 HB F2 x0 x1 x2
      obtain ⟨x0, x1, x2⟩ := HB3.out.x.cells
      have F3 := Lib.hid HB3.out.f
      obtain ⟨r0, r1, r2⟩ := F3.out.r.cells
      have g0 := F3.out.r.frozen 0
      have g1 := F3.out.r.frozen 1
      have g2 := F3.out.r.frozen 2
      go_wp2
      refine bodyPost_ret (v := .tuple #[.agg #[.int .i64 Wa, .int .i64 Hd, .slice (some ⟨g, 0, none⟩) S.length c2], .bool true]) (by simp [results, Tryd.results25, go_sem, r0, r1, r2]) rfl ?_
      exact HB3.out.ret2 rfl (.inr rfl) _ _ _

set_option maxRecDepth 100000 in
set_option maxHeartbeats 2000000 in
theorem specMeans_any (wd hg : Int) (a : Option Addr) (l : List Int) (c : Nat) (p q : Int) (w : World) (hl : Ints .i64 w w.heap.size a l) (hn : l.length ≤ 1048576) :
    Calls Tryd.prog 27 #[.agg #[.int .i64 wd, .int .i64 hg, .slice a l.length c], .int .i64 p, .int .i64 q] w (FRet (meansR wd hg l p q) w) := by
  have F0 := Lib.hid (Fr1.new (wd0 := wd) (hg0 := hg) (c0 := c) hl)
  cases hd : divB wd hg l p q with
  | false =>
    rw [meansR_no hd]
    have C1 := Lib.hid (fun W h => specDiv_is wd hg a l c p q false W h hn hd)
    clear hd hl
    go_enter Tryd.func27, Tryd.ntmps27
    obtain ⟨k0, k1, k2⟩ := F0.out.k0.cells
    go_wp2_with fail
    refine (C1.out _ F0.out.i0).mono ?_
    rintro e w1 ⟨rfl, b⟩
    have F1 := Lib.hid (F0.out.step b)
    clear b k0 k1 k2 F0
    obtain ⟨r0, r1, r2⟩ := F1.out.r.cells
    have g0 := F1.out.r.frozen 0
    have g1 := F1.out.r.frozen 1
    have g2 := F1.out.r.frozen 2
    go_wp2
    refine bodyPost_ret (v := .tuple #[.agg #[.int .i64 0, .int .i64 0, .slice none 0 0], .bool false]) (by simp [results, Tryd.results27, go_sem, r0, r1, r2]) rfl ⟨none, 0, rfl, OwnI.none_, ?_⟩
    first | exact F1.out.b | exact ((F1.out.b.setCell (by show w.heap.size ≤ w.heap.size + 1; omega) _).setCell (by show w.heap.size ≤ w.heap.size + 1; omega) _).setCell (by show w.heap.size ≤ w.heap.size + 1; omega) _
  | true =>
    rw [meansR_yes hd]
    have C1 := Lib.hid (fun W h => specDiv_is wd hg a l c p q true W h hn hd)
    obtain ⟨W, H, P, Q, rfl, rfl, rfl, rfl, n1, n2, n3, n4, p1, p2, q1, q2, dP, dQ, hln⟩ := div_nat hd
    obtain ⟨Wa, hWa⟩ : ∃ x, W / P = x := ⟨_, rfl⟩
    obtain ⟨Hd, hHd⟩ : ∃ x, H / Q = x := ⟨_, rfl⟩
    have hB := full_cell (divB_iff.1 hd).1
    have C2 := Lib.hid (fun W' h => specBlocks_any W H P Q Wa Hd a l c W' h n1 n2 n3 n4 p1 p2 q1 q2 dP dQ hln hB hWa hHd)
    have wa1 : 1 ≤ Wa := by rw [← hWa]; exact Nat.div_pos p2 (by omega)
    have hd1 : 1 ≤ Hd := by rw [← hHd]; exact Nat.div_pos q2 (by omega)
    have hP1 : 1 ≤ Wa * Hd := Nat.mul_le_mul wa1 hd1
    have hSL : (blkL W H P Q l).length = Wa * Hd := by rw [blkL_len, hWa, hHd]
    have hS64 : (blkL W H P Q l).length ≤ 64 := by rw [blkL_len]; exact blk_le n2 n4
    have hSB : ∀ z ∈ blkL W H P Q l, -576000 ≤ z ∧ z ≤ 576000 := fun z hz => by
      have h1 := accK_bd (blkI W P Q) (W / P * (H / Q)) hB (W * H) z hz
      have h2 : W * H ≤ 64 := Nat.mul_le_mul n2 n4
      omega
    have e1 : (W : Int) / (P : Int) = (Wa : Int) := by rw [nat_ediv, hWa]
    have e2 : (H : Int) / (Q : Int) = (Hd : Int) := by rw [nat_ediv, hHd]
    rw [e1, e2]
    simp only [Int.toNat_natCast]
    generalize blkL W H P Q l = S at *
    have hS0 : 0 < S.length := by omega
    clear hSL hd hl e1 e2 hB dP dQ hln hWa hHd

    have C3 := Lib.hid (fun (k : Nat) (hk : k < S.length) W' => floorW_is S[k] ((P : Int) * (Q : Int)) W' (by have := hSB _ (List.getElem_mem hk); omega) (by have := hSB _ (List.getElem_mem hk); omega) (by have : 1 * 1 ≤ P * Q := Nat.mul_le_mul p1 q1; rw [← Int.natCast_mul]; omega) (by have : P * Q ≤ 8 * 8 := Nat.mul_le_mul (by omega) (by omega); rw [← Int.natCast_mul]; omega))
    obtain ⟨pq, hpq⟩ : ∃ x : Nat, P * Q = x := ⟨_, rfl⟩
    have pq1 : 1 ≤ pq := by rw [← hpq]; exact Nat.mul_le_mul p1 q1
    have pq2 : pq ≤ 64 := by rw [← hpq]; exact Nat.mul_le_mul (by omega : P ≤ 8) (by omega : Q ≤ 8)
    have E9 := Lib.hid (show (P : Int) * (Q : Int) = (pq : Int) by rw [← hpq]; push_cast; rfl)
    rw [E9.out] at C3 ⊢
    clear hpq
    go_enter Tryd.func27, Tryd.ntmps27
    obtain ⟨k0, k1, k2⟩ := F0.out.k0.cells
    go_wp2_with fail
    refine (C1.out _ F0.out.i0).mono ?_
    rintro e w1 ⟨rfl, b⟩
    have F1 := Lib.hid (F0.out.step b)
    clear b k0 k1 k2 F0
    obtain ⟨k0, k1, k2⟩ := F1.out.k0.cells
    go_wp2_with fail
    refine (C2.out _ F1.out.i0).mono ?_
    rintro e w2 ⟨a2, c2, rfl, o2, b2⟩
    have F2 := Lib.hid (F1.out.step b2)
    obtain ⟨g, rfl, hB⟩ := Bk.new (P := Wa) (Q := Hd) (cap := c2) F2.out (o2.more (by have := F1.out.r.lt; omega)) hS0
    have HB := Lib.hid hB
    have zq := F2.out.r.lt
    obtain ⟨ob, hob⟩ : ∃ x, w2.heap.size = x := ⟨_, rfl⟩
    clear o2 b2 k0 k1 k2 F1 hB
    go_wp2
    rw [hob] at HB
    clear hob
    go_loopw [9] (fun i wr => ∃ k : Nat, k ≤ S.length ∧ i = .int .i64 k ∧ Bk w ob g W H a l c Wa Hd (divK pq S k) c2 wr) (fun i _ => S.length - (intOf i).toNat)
    case atStart => exact ⟨0, Nat.zero_le _, rfl, by rw [divK_zero]; exact HB.out⟩
    case round =>
      obtain ⟨k, hk, rfl, hS⟩ := hrel
      clear HB
      have HS := Lib.hid hS
      have hdl := divK_len (pq : Int) S k hk
      obtain ⟨x0, x1, x2⟩ := hS.x.cells
      rw [hdl] at x2
      by_cases hlt : k < S.length
      · have hi : (k : Int) < (S.length : Int) := by omega
        have hi0 : (0 : Int) ≤ (k : Int) := by omega
        have hgt := hS.get (j := k) (by omega)
        rw [divK_get _ _ _ hlt] at hgt
        have hfz := hS.o.frozen k
        have HQ := Lib.hid (C3.out k hlt)
        have HPUT := Lib.hid (fun (W' : World) (h : Bk w ob g W H a l c Wa Hd (divK pq S k) c2 W') => h.put k (S[k] / (pq : Int)))
        rw [divK_step _ _ _ hlt] at HPUT
        generalize S[k] = z at *
        have HSd := Lib.hid hS.drew
        have e9 := E9.out
        have e10 : IntKind.i64.wrap (pq : Int) = (pq : Int) := IntWalk.i64_in _ (by omega)
        clear hS hdl
        go_wp2_with fail
        go_region_law (first
          | (go_simp; go_at_call 54; (with_reducible refine (HQ.out _).mono ?_); rintro e w9 ⟨rfl, rfl⟩))
        all_goals
          go_wp2
          go_roundw
          case rel => exact ⟨k + 1, by omega, by go_num, HPUT.out _ HSd.out⟩
          case measure => simp [intOf]; omega
      · obtain rfl : k = S.length := by omega
        have hal := divK_all (pq : Int) S
        rw [hal] at hS
        obtain ⟨r0, r1, r2⟩ := hS.f.r.cells
        have g0 := hS.f.r.frozen 0
        have g1 := hS.f.r.frozen 1
        have g2 := hS.f.r.frozen 2
        have q7 : ¬ w.heap.size + 1 = ob := by have := hS.n; omega
        have q8 : ¬ ob = w.heap.size + 1 := by omega
        have HSe := Lib.hid hS
        have hml : (S.map (· / (pq : Int))).length = S.length := List.length_map _
        have HML := Lib.hid hml
        clear hS HS hal hdl hml
        go_wp2
        refine bodyPost_ret (v := .tuple #[.agg #[.int .i64 Wa, .int .i64 Hd, .slice (some ⟨g, 0, none⟩) (S.map (· / (pq : Int))).length c2], .bool true]) (by simp [results, Tryd.results27, go_sem, r0, r1, r2]) rfl ?_
        exact HSe.out.ret2 rfl (.inr rfl) _ _ _

end Go.Proofs.YtccplndimdmjpaaDoor
namespace Go.Proofs.YtccplndimdmjpaaDoor
open Go.RowKit
set_option linter.unusedVariables false
set_option linter.unusedSimpArgs false
theorem nat_ediv' (m n : Nat) : ((m : Int)) / (n : Int) = ((m / n : Nat) : Int) := (Int.natCast_ediv m n).symm
theorem nat_emod' (m n : Nat) : ((m : Int)) % (n : Int) = ((m % n : Nat) : Int) := (Int.natCast_emod m n).symm
def blkR (wd hg : Int) (l : List Int) (p q : Int) : Option (Int × Int × List Int) := if divB wd hg l p q = true then some (wd / p, hg / q, blkL wd.toNat hg.toNat p.toNat q.toNat l) else none
theorem blkR_yes {wd hg : Int} {l : List Int} {p q : Int} (h : divB wd hg l p q = true) : blkR wd hg l p q = some (wd / p, hg / q, blkL wd.toNat hg.toNat p.toNat q.toNat l) := if_pos h
theorem blkR_no {wd hg : Int} {l : List Int} {p q : Int} (h : divB wd hg l p q = false) : blkR wd hg l p q = none := if_neg (by rw [h]; simp)
set_option maxRecDepth 100000 in
set_option maxHeartbeats 4000000 in
theorem implBlk_no (wd hg : Int) (a : Option Addr) (l : List Int) (c : Nat) (p q : Int) (w : World) (hl : Ints .i64 w w.heap.size a l) (hn : l.length ≤ 1048576) (hd : divB wd hg l p q = false) :
    Calls Tryd.prog 51 #[.agg #[.int .i64 wd, .int .i64 hg, .slice a l.length c], .int .i64 p, .int .i64 q] w (FRet none w) := by
  have F0 := Lib.hid (Fr1.new (wd0 := wd) (hg0 := hg) (c0 := c) hl)
  clear hl
  rw [divB_dvd] at hd
  cases hf : fullB wd hg l with
  | false =>
    have C1 := Lib.hid (fun W h => implFull_is wd hg a l c false W h hn hf)
    clear hd hf
    go_enter Tryd.func51, Tryd.ntmps51
    obtain ⟨k0, k1, k2⟩ := F0.out.k0.cells
    go_wp2_with fail
    refine (C1.out _ F0.out.i0).mono ?_
    rintro e w1 ⟨rfl, b⟩
    have F1 := Lib.hid (F0.out.step b)
    clear b k0 k1 k2 F0
    obtain ⟨r0, r1, r2⟩ := F1.out.r.cells
    have g0 := F1.out.r.frozen 0
    have g1 := F1.out.r.frozen 1
    have g2 := F1.out.r.frozen 2
    go_wp2
    refine bodyPost_ret (v := .tuple #[.agg #[.int .i64 0, .int .i64 0, .slice none 0 0], .bool false]) (by simp [results, Tryd.results51, go_sem, r0, r1, r2]) rfl ⟨none, 0, rfl, OwnI.none_, ?_⟩
    first | exact F1.out.b | exact ((F1.out.b.setCell (by show w.heap.size ≤ w.heap.size + 1; omega) _).setCell (by show w.heap.size ≤ w.heap.size + 1; omega) _).setCell (by show w.heap.size ≤ w.heap.size + 1; omega) _
  | true =>
    have C1 := Lib.hid (fun W h => implFull_is wd hg a l c true W h hn hf)
    obtain ⟨⟨w1', w2'⟩, g1', g2'⟩ := shapeB_iff.1 (good_shape (full_good hf))
    rw [hf, Bool.true_and] at hd
    cases h1 : dvdB p wd with
    | false =>
      have C2 := Lib.hid (fun W => implDvd_is p wd false W (by omega) w2' h1)
      clear hd hf h1
      go_enter Tryd.func51, Tryd.ntmps51
      obtain ⟨k0, k1, k2⟩ := F0.out.k0.cells
      go_wp2_with fail
      refine (C1.out _ F0.out.i0).mono ?_
      rintro e w1 ⟨rfl, b⟩
      have F1 := Lib.hid (F0.out.step b)
      clear b k0 k1 k2 F0
      obtain ⟨k0, k1, k2⟩ := F1.out.k0.cells
      go_wp2_with fail
      refine (C2.out _).mono ?_
      rintro e w9 ⟨rfl, rfl⟩
      clear k0 k1 k2
      obtain ⟨r0, r1, r2⟩ := F1.out.r.cells
      have g0 := F1.out.r.frozen 0
      have g1 := F1.out.r.frozen 1
      have g2 := F1.out.r.frozen 2
      go_wp2
      refine bodyPost_ret (v := .tuple #[.agg #[.int .i64 0, .int .i64 0, .slice none 0 0], .bool false]) (by simp [results, Tryd.results51, go_sem, r0, r1, r2]) rfl ⟨none, 0, rfl, OwnI.none_, ?_⟩
      first | exact F1.out.b | exact ((F1.out.b.setCell (by show w.heap.size ≤ w.heap.size + 1; omega) _).setCell (by show w.heap.size ≤ w.heap.size + 1; omega) _).setCell (by show w.heap.size ≤ w.heap.size + 1; omega) _
    | true =>
      have C2 := Lib.hid (fun W => implDvd_is p wd true W (by omega) w2' h1)
      rw [h1, Bool.true_and] at hd
      have C3 := Lib.hid (fun W => implDvd_is q hg false W (by omega) g2' hd)
      clear hd hf h1
      go_enter Tryd.func51, Tryd.ntmps51
      obtain ⟨k0, k1, k2⟩ := F0.out.k0.cells
      go_wp2_with fail
      refine (C1.out _ F0.out.i0).mono ?_
      rintro e w1 ⟨rfl, b⟩
      have F1 := Lib.hid (F0.out.step b)
      clear b k0 k1 k2 F0
      obtain ⟨k0, k1, k2⟩ := F1.out.k0.cells
      go_wp2_with fail
      refine (C2.out _).mono ?_
      rintro e w9 ⟨rfl, rfl⟩
      go_wp2_with fail
      refine (C3.out _).mono ?_
      rintro e w9 ⟨rfl, rfl⟩
      clear k0 k1 k2
      obtain ⟨r0, r1, r2⟩ := F1.out.r.cells
      have g0 := F1.out.r.frozen 0
      have g1 := F1.out.r.frozen 1
      have g2 := F1.out.r.frozen 2
      go_wp2
      refine bodyPost_ret (v := .tuple #[.agg #[.int .i64 0, .int .i64 0, .slice none 0 0], .bool false]) (by simp [results, Tryd.results51, go_sem, r0, r1, r2]) rfl ⟨none, 0, rfl, OwnI.none_, ?_⟩
      first | exact F1.out.b | exact ((F1.out.b.setCell (by show w.heap.size ≤ w.heap.size + 1; omega) _).setCell (by show w.heap.size ≤ w.heap.size + 1; omega) _).setCell (by show w.heap.size ≤ w.heap.size + 1; omega) _
theorem dvdB_yes {p s : Int} (h1 : 1 ≤ p) (h2 : s % p = 0) : dvdB p s = true := by unfold dvdB; simp [h1, h2]
set_option maxRecDepth 100000 in
set_option maxHeartbeats 4000000 in
theorem implBlk_yes (W H A D Wa Hd : Nat) (a : Option Addr) (l : List Int) (c : Nat) (w : World) (hl : Ints .i64 w w.heap.size a l) (hf : fullB W H l = true) (n1 : 1 ≤ W) (n2 : W ≤ 8) (n3 : 1 ≤ H) (n4 : H ≤ 8) (a1 : 1 ≤ A) (a2 : A ≤ W) (d1 : 1 ≤ D) (d2 : D ≤ H) (hA : A ∣ W) (hD : D ∣ H) (hn : l.length = W * H) (hWa : W / A = Wa) (hHd : H / D = Hd) :
    Calls Tryd.prog 51 #[.agg #[.int .i64 W, .int .i64 H, .slice a l.length c], .int .i64 A, .int .i64 D] w (FRet (some ((Wa : Int), (Hd : Int), blkL W H A D l)) w) := by
  have F0 := Lib.hid (Fr1.new (wd0 := W) (hg0 := H) (c0 := c) hl)
  have hl64 : l.length ≤ 64 := by rw [hn]; exact Nat.mul_le_mul n2 n4
  have C1 := Lib.hid (fun W' h => implFull_is W H a l c true W' h (by omega) hf)
  have C2 := Lib.hid (fun W' => implDvd_is (A : Int) (W : Int) true W' (by omega) (by omega) (dvdB_yes (by omega) (Int.emod_eq_zero_of_dvd (Int.natCast_dvd_natCast.2 hA))))
  have C3 := Lib.hid (fun W' => implDvd_is (D : Int) (H : Int) true W' (by omega) (by omega) (dvdB_yes (by omega) (Int.emod_eq_zero_of_dvd (Int.natCast_dvd_natCast.2 hD))))
  have wa1 : 1 ≤ Wa := by rw [← hWa]; exact Nat.div_pos a2 (by omega)
  have wa2 : Wa ≤ 8 := by rw [← hWa]; exact Nat.le_trans (Nat.div_le_self _ _) n2
  have hd1 : 1 ≤ Hd := by rw [← hHd]; exact Nat.div_pos d2 (by omega)
  have hd2 : Hd ≤ 8 := by rw [← hHd]; exact Nat.le_trans (Nat.div_le_self _ _) n4
  have hP : 1 ≤ Wa * Hd := Nat.mul_le_mul wa1 hd1
  have HNEW := Lib.hid (fun W' => implNew_any (Wa : Int) (Hd : Int) 0 W')
  have e9 : ((Wa : Int) * (Hd : Int)).toNat = Wa * Hd := by rw [← Int.natCast_mul]; exact Int.toNat_natCast _
  rw [newR_yes (by rw [shapeB_iff.2 (by omega)]; rfl), e9] at HNEW
  obtain ⟨S0, hS0⟩ : ∃ S, List.replicate (Wa * Hd) (0 : Int) = S := ⟨_, rfl⟩
  have HS0 := Lib.hid hS0
  rw [hS0] at HNEW
  have hl0 : 0 < S0.length := by rw [← hS0, List.length_replicate]; omega
  have E1 := Lib.hid (show (W : Int) / (A : Int) = (Wa : Int) by rw [nat_ediv', hWa])
  have E2 := Lib.hid (show (H : Int) / (D : Int) = (Hd : Int) by rw [nat_ediv', hHd])
  have HN := Lib.hid hn
  have HWA := Lib.hid hWa
  have HHD := Lib.hid hHd
  have HV := Lib.hid (full_cell hf)
  clear e9 hn hWa hHd hS0 hf
  unfold FRet at HNEW
  simp only [rW, rH, rL, rB] at HNEW
  go_enter Tryd.func51, Tryd.ntmps51
  obtain ⟨k0, k1, k2⟩ := F0.out.k0.cells
  go_wp2_with fail
  refine (C1.out _ F0.out.i0).mono ?_
  rintro e w1 ⟨rfl, b⟩
  have F1 := Lib.hid (F0.out.step b)
  clear b k0 k1 k2 F0
  obtain ⟨k0, k1, k2⟩ := F1.out.k0.cells
  go_wp2_with fail
  refine (C2.out _).mono ?_
  rintro e w9 ⟨rfl, rfl⟩
  go_wp2_with fail
  refine (C3.out _).mono ?_
  rintro e w9 ⟨rfl, rfl⟩
  go_upto_region 3 with fail
  go_cut [8, 9] (fun s t wx => t = .bool true ∧ ∃ ob g c1, s = .pointer (some ⟨ob, 0, none⟩) ∧ Bk w ob g W H a l c (Wa : Int) (Hd : Int) S0 c1 wx)
  case first =>
    have z0 := F1.out.r.lt
    have F2 := Lib.hid F1.out.drew
    have F3 := Lib.hid (F1.out.step (below_all _ (.cells #[.int .i64 0, .int .i64 0, .slice none 0 0] 32))).drew
    have e3 : ¬ A = 0 := by omega
    have e4 : ¬ D = 0 := by omega
    have e5 : IntKind.i64.wrap (Wa : Int) = (Wa : Int) := IntWalk.i64_in _ (by omega)
    have e6 : IntKind.i64.wrap (Hd : Int) = (Hd : Int) := IntWalk.i64_in _ (by omega)
    have e1 := E1.out
    have e2 := E2.out
    go_region_held3 (fun w' => w'.cell? ⟨w.heap.size, 0, none⟩ = some (.int .i64 W) ∧ w'.cell? ⟨w.heap.size, 1, none⟩ = some (.int .i64 H))
      (first | (with_reducible exact ⟨F5.out.k0.cells.1, F5.out.k0.cells.2.1⟩) | (with_reducible exact ⟨(F5.out.k0.alloc _).cells.1, (F5.out.k0.alloc _).cells.2.1⟩) | (with_reducible exact ⟨F2.out.k0.cells.1, F2.out.k0.cells.2.1⟩) | (with_reducible exact ⟨F3.out.k0.cells.1, F3.out.k0.cells.2.1⟩) | ((with_reducible refine ⟨(F5.out.k0.set_other3 ?_).cells.1, (F5.out.k0.set_other3 ?_).cells.2.1⟩) <;> omega) | go_keep)
      (first | (go_at_call 42; (with_reducible refine (HNEW.out _).mono ?_); rintro e w5 ⟨a5, c5, rfl, o5, b5⟩; (first
        | (have F5 := Lib.hid (F2.out.step b5); have O5 := Lib.hid (o5.more (C := w.heap.size + 2) (by simp; omega)); have hz : Hid (MayBox w5 none) := Lib.hid trivial)
        | (have F5 := Lib.hid (F3.out.step b5); have O5 := Lib.hid (o5.more (C := w.heap.size + 2) (by simp; omega)); have hz : Hid (MayBox w5 (some w1.heap.size)) := Lib.hid (by have h := MayBox.made0 b5; exact h))); obtain ⟨y0, y1, y2, f0, f1, f2⟩ := hz.out.facts; simp only [cellAt, softAt] at y0 y1 y2 f0 f1 f2; clear o5 b5))
    all_goals (go_wp2_with fail)
    all_goals go_meet
    all_goals first
      | (obtain ⟨g, rfl, hb⟩ := Bk.new (P := Wa) (Q := Hd) (cap := c5) F5.out O5.out hl0
         exact ⟨rfl, _, g, c5, rfl, hb⟩)
      | (obtain ⟨g, rfl, hb⟩ := Bk.newB (P := Wa) (Q := Hd) (cap := c5) F5.out hz.out (by omega) O5.out hl0
         exact ⟨rfl, _, g, c5, rfl, hb⟩)
  case rest =>
    obtain ⟨rfl, ob, g, cap, rfl, hB⟩ := hcut
    have HB := Lib.hid hB
    clear k0 k1 k2
    obtain ⟨k0, k1, k2⟩ := hB.f.k0.cells
    clear hB F1
    go_wp2
    clear k0 k1 k2
    go_loopw [47] (fun i wr => ∃ k : Nat, k ≤ l.length ∧ i = .int .i64 k ∧ Bk w ob g W H a l c Wa Hd (accK (blkI W A D) l S0 k) cap wr) (fun i _ => l.length - (intOf i).toNat)
    case atStart => exact ⟨0, Nat.zero_le _, rfl, HB.out⟩
    case round =>
      obtain ⟨k, hk, rfl, hS⟩ := hrel
      clear HB
      have HS := Lib.hid hS
      by_cases hlt : k < l.length
      · have hi : (k : Int) < (l.length : Int) := by omega
        have hi0 : (0 : Int) ≤ (k : Int) := by omega
        have hkH : k < W * H := by rw [← HN.out]; exact hlt
        have hjlt : blkI W A D k < (accK (blkI W A D) l S0 k).length := by
          rw [accK_len, ← HS0.out, List.length_replicate, ← HWA.out, ← HHD.out]; exact blkI_lt (by omega) hA hD hkH
        have HSTEP := Lib.hid (accK_step (f := blkI W A D) (l := l) (s := S0) hjlt hlt)
        have hsb := accK_bd (blkI W A D) (l := l) (Wa * Hd) HV.out k
        rw [HS0.out] at hsb
        have hs := hsb _ (List.getElem_mem hjlt)
        have hz := HV.out _ (List.getElem_mem hlt)
        have hyq : k / W ≤ 64 := Nat.le_trans (Nat.div_le_self _ _) (by omega)
        have hxm : k % W ≤ 8 := by have := Nat.mod_lt k (show 0 < W by omega); omega
        have hy8 : k / W < H := by rw [Nat.div_lt_iff_lt_mul (by omega), Nat.mul_comm]; exact hkH
        have hyd : k / W / D ≤ 8 := Nat.le_trans (Nat.div_le_self _ _) (by omega)
        have hxa : k % W / A ≤ 8 := Nat.le_trans (Nat.div_le_self _ _) hxm
        have hpp : k / W / D * Wa ≤ 64 := Nat.mul_le_mul hyd wa2
        have e1 : (k : Int) / (W : Int) = ((k / W : Nat) : Int) := nat_ediv' k W
        have e2 : (k : Int) % (W : Int) = ((k % W : Nat) : Int) := nat_emod' k W
        have e3 : ((k / W : Nat) : Int) / (D : Int) = ((k / W / D : Nat) : Int) := nat_ediv' _ _
        have e4 : ((k % W : Nat) : Int) / (A : Int) = ((k % W / A : Nat) : Int) := nat_ediv' _ _
        have e5 : ((k / W / D : Nat) : Int) * (Wa : Int) = ((k / W / D * Wa : Nat) : Int) := by push_cast; rfl
        have hrowj : blkI W A D k = k / W / D * Wa + k % W / A := by unfold blkI; rw [HWA.out]
        obtain ⟨j, hj⟩ : ∃ j, blkI W A D k = j := ⟨_, rfl⟩
        obtain ⟨z, hzz⟩ : ∃ z, l[k] = z := ⟨_, rfl⟩
        obtain ⟨sv, hsv⟩ : ∃ z, (accK (blkI W A D) l S0 k)[blkI W A D k] = z := ⟨_, rfl⟩
        have HG : Hid (∀ W', Bk w ob g W H a l c Wa Hd (accK (blkI W A D) l S0 k) cap W' → W'.cell? ⟨g, j, none⟩ = some (.int .i64 sv)) := Lib.hid (fun W' h => by have h9 := h.get hjlt; rw [hsv, hj] at h9; exact h9)
        obtain ⟨bl, ol, hal, hbl, hcl⟩ := (hS.f.s0.below hS.f.b (Nat.le_refl _)).at_ hlt
        rw [hzz] at hcl
        rw [hsv, hzz, hj] at HSTEP
        rw [hzz] at hz
        rw [hsv] at hs
        rw [hj] at hjlt hrowj
        generalize k / W / D * Wa = pp at *
        generalize k / W / D = yd at *
        generalize k % W / A = xa at *
        generalize k / W = yq at *
        generalize k % W = xm at *
        have e6 : (pp : Int) + (xa : Int) = (j : Int) := by omega
        have hjI : (j : Int) < ((accK (blkI W A D) l S0 k).length : Int) := by omega
        have hj0 : (0 : Int) ≤ (j : Int) := by omega
        clear hsb hsv hzz hj hrowj
        subst hal
        generalize accK (blkI W A D) l S0 k = S at *
        obtain ⟨x0, x1, x2⟩ := hS.x.cells
        obtain ⟨k0, k1, k2⟩ := hS.f.k0.cells
        have of := hS.o.frozen j
        have hc0 := HG.out _ hS
        have HPUT := Lib.hid (fun (W' : World) (h : Bk w ob g W H (some ⟨bl, ol, none⟩) l c Wa Hd S cap W') => h.put j (sv + z))
        rw [← HSTEP.out] at HPUT
        clear hS
        go_wp2
        go_roundw
        case rel => exact ⟨k + 1, by omega, by go_num, HPUT.out _ HS.out⟩
        case measure => simp [intOf]; omega
      · obtain rfl : k = l.length := by omega
        have HL := Lib.hid (show accK (blkI W A D) l S0 l.length = blkL W H A D l by unfold blkL; rw [HWA.out, HHD.out, HS0.out, ← HN.out])
        rw [HL.out] at hS
        obtain ⟨x0, x1, x2⟩ := hS.x.cells
        obtain ⟨r0, r1, r2⟩ := hS.f.r.cells
        have g0 := hS.f.r.frozen 0
        have g1 := hS.f.r.frozen 1
        have g2 := hS.f.r.frozen 2
        have q7 : ¬ w.heap.size + 1 = ob := by have := hS.n; omega
        have q8 : ¬ ob = w.heap.size + 1 := by omega
        have HSe := Lib.hid hS
        clear hS HS
        go_wp2
        refine bodyPost_ret (v := .tuple #[.agg #[.int .i64 Wa, .int .i64 Hd, .slice (some ⟨g, 0, none⟩) (blkL W H A D l).length cap], .bool true]) (by simp [results, Tryd.results51, go_sem, r0, r1, r2]) rfl ?_
        exact HSe.out.ret2 rfl (.inr rfl) _ _ _
end Go.Proofs.YtccplndimdmjpaaDoor
namespace Go.Proofs.YtccplndimdmjpaaDoor
open Go.RowKit
set_option linter.unusedVariables false
set_option linter.unusedSimpArgs false
set_option maxRecDepth 100000 in
set_option maxHeartbeats 2000000 in
theorem implSum_any (wd hg : Int) (a : Option Addr) (l : List Int) (c : Nat) (p q : Int) (w : World) (hl : Ints .i64 w w.heap.size a l) (hn : l.length ≤ 1048576) :
    Calls Tryd.prog 24 #[.agg #[.int .i64 wd, .int .i64 hg, .slice a l.length c], .int .i64 p, .int .i64 q] w (FRet (sumR wd hg l p q) w) := by
  have F0 := Lib.hid (Fr1.new (wd0 := wd) (hg0 := hg) (c0 := c) hl)
  cases hd : divB wd hg l p q with
  | false =>
    rw [sumR_no hd]
    have C1 := Lib.hid (fun W h => implBlk_no wd hg a l c p q W h hn hd)
    unfold FRet at C1
    simp only [rW, rH, rL, rB, List.length_nil] at C1
    clear hd hl
    go_enter Tryd.func24, Tryd.ntmps24
    obtain ⟨k0, k1, k2⟩ := F0.out.k0.cells
    go_wp2_with fail
    refine (C1.out _ F0.out.i0).mono ?_
    rintro e w1 ⟨a1, c1, rfl, o1, b⟩
    have F1 := Lib.hid (F0.out.step b)
    clear b k0 k1 k2 F0 o1
    have zr := F1.out.r.lt
    have q5 : w.heap.size + 1 < w1.heap.size := by omega
    have q6 : ¬ w.heap.size + 1 = w1.heap.size := by omega
    obtain ⟨s0, s1, s2⟩ := F1.out.r.cells
    have t0 := F1.out.r.frozen 0
    have t1 := F1.out.r.frozen 1
    have t2 := F1.out.r.frozen 2
    have F2 := Lib.hid (F1.out.step (below_all w1 (.cells #[.int .i64 0, .int .i64 0, .slice a1 0 c1] 32)))
    obtain ⟨r0, r1, r2⟩ := F2.out.r.cells
    have g0 := F2.out.r.frozen 0
    have g1 := F2.out.r.frozen 1
    have g2 := F2.out.r.frozen 2
    go_wp2
    refine bodyPost_ret (v := .tuple #[.agg #[.int .i64 0, .int .i64 0, .slice none 0 0], .bool false]) (by simp [results, Tryd.results24, go_sem, r0, r1, r2, *]) rfl ⟨none, 0, rfl, OwnI.none_, ?_⟩
    first | exact F2.out.b | exact ((F2.out.b.setCell (p := ⟨w.heap.size + 1, 0, none⟩) (by show w.heap.size ≤ w.heap.size + 1; omega) _).setCell (p := ⟨w.heap.size + 1, 1, none⟩) (by show w.heap.size ≤ w.heap.size + 1; omega) _).setCell (p := ⟨w.heap.size + 1, 2, none⟩) (by show w.heap.size ≤ w.heap.size + 1; omega) _ | exact (((F1.out.b.setCell (p := ⟨w.heap.size + 1, 0, none⟩) (by show w.heap.size ≤ w.heap.size + 1; omega) _).setCell (p := ⟨w.heap.size + 1, 1, none⟩) (by show w.heap.size ≤ w.heap.size + 1; omega) _).setCell (p := ⟨w.heap.size + 1, 2, none⟩) (by show w.heap.size ≤ w.heap.size + 1; omega) _).alloc (by simp [World.setCell]; omega) _
  | true =>
    rw [sumR_yes hd]
    obtain ⟨W, H, P, Q, rfl, rfl, rfl, rfl, n1, n2, n3, n4, p1, p2, q1, q2, dP, dQ, hln⟩ := div_nat hd
    obtain ⟨Wa, hWa⟩ : ∃ x, W / P = x := ⟨_, rfl⟩
    obtain ⟨Hd, hHd⟩ : ∃ x, H / Q = x := ⟨_, rfl⟩
    have hF := (divB_iff.1 hd).1
    have hB := full_cell hF
    have C1 := Lib.hid (fun W' h => implBlk_yes W H P Q Wa Hd a l c W' h hF n1 n2 n3 n4 p1 p2 q1 q2 dP dQ hln hWa hHd)
    have wa1 : 1 ≤ Wa := by rw [← hWa]; exact Nat.div_pos p2 (by omega)
    have hd1 : 1 ≤ Hd := by rw [← hHd]; exact Nat.div_pos q2 (by omega)
    have hP1 : 1 ≤ Wa * Hd := Nat.mul_le_mul wa1 hd1
    have hSL : (blkL W H P Q l).length = Wa * Hd := by rw [blkL_len, hWa, hHd]
    have hS64 : (blkL W H P Q l).length ≤ 64 := by rw [blkL_len]; exact blk_le n2 n4
    have hSB : ∀ z ∈ blkL W H P Q l, -576000 ≤ z ∧ z ≤ 576000 := fun z hz => by
      have h1 := accK_bd (blkI W P Q) (W / P * (H / Q)) hB (W * H) z hz
      have h2 : W * H ≤ 64 := Nat.mul_le_mul n2 n4
      omega
    have e1 : (W : Int) / (P : Int) = (Wa : Int) := by rw [nat_ediv', hWa]
    have e2 : (H : Int) / (Q : Int) = (Hd : Int) := by rw [nat_ediv', hHd]
    rw [e1, e2]
    simp only [Int.toNat_natCast]
    generalize blkL W H P Q l = S at *
    have hS0 : 0 < S.length := by omega
    clear hSL hd hl e1 e2 hB hF dP dQ hln hWa hHd
    unfold FRet at C1
    simp only [rW, rH, rL, rB] at C1
    cases hf : fullB Wa Hd S with
    | false =>
      rw [wholeR_no hf]
      have C3 := Lib.hid (fun W' a c h => implWhole_no (Wa : Int) (Hd : Int) a S c W' h (by omega) hf)
      clear hf
      go_enter Tryd.func24, Tryd.ntmps24
      obtain ⟨k0, k1, k2⟩ := F0.out.k0.cells
      go_wp2_with fail
      refine (C1.out _ F0.out.i0).mono ?_
      rintro e w1 ⟨a1, c1, rfl, o1, b⟩
      have F1 := Lib.hid (F0.out.step b)
      obtain ⟨g, rfl, hB⟩ := Bk.new (P := Wa) (Q := Hd) (cap := c1) F1.out (o1.more (by have := F0.out.r.lt; omega)) hS0
      have HB := Lib.hid hB
      have zq := F1.out.r.lt
      have q5 : w.heap.size + 1 < w1.heap.size := by omega
      have q6 : ¬ w.heap.size + 1 = w1.heap.size := by omega
      obtain ⟨x0, x1, x2⟩ := HB.out.x.cells
      clear o1 b k0 k1 k2 F0 hB
      go_wp2_with fail
      refine (C3.out _ _ _ (HB.out.own.ints)).mono ?_
      rintro e w3 ⟨rfl, b3⟩
      have HB3 := Lib.hid (HB.out.step b3)
      clear b3 HB x0 x1 x2
      obtain ⟨r0, r1, r2⟩ := HB3.out.f.r.cells
      have g0 := HB3.out.f.r.frozen 0
      have g1 := HB3.out.f.r.frozen 1
      have g2 := HB3.out.f.r.frozen 2
      go_wp2
      refine bodyPost_ret (v := .tuple #[.agg #[.int .i64 0, .int .i64 0, .slice none 0 0], .bool false]) (by simp [results, Tryd.results24, go_sem, r0, r1, r2, *]) rfl ⟨none, 0, rfl, OwnI.none_, ?_⟩
      first | exact HB3.out.f.b | exact ((HB3.out.f.b.setCell (p := ⟨w.heap.size + 1, 0, none⟩) (by show w.heap.size ≤ w.heap.size + 1; omega) _).setCell (p := ⟨w.heap.size + 1, 1, none⟩) (by show w.heap.size ≤ w.heap.size + 1; omega) _).setCell (p := ⟨w.heap.size + 1, 2, none⟩) (by show w.heap.size ≤ w.heap.size + 1; omega) _
    | true =>
      rw [wholeR_yes hf]
      have C3 := Lib.hid (fun W' a c h => implWhole_yes (Wa : Int) (Hd : Int) a S c W' h (by omega) hf)
      clear hf
      go_enter Tryd.func24, Tryd.ntmps24
      obtain ⟨k0, k1, k2⟩ := F0.out.k0.cells
      go_wp2_with fail
      refine (C1.out _ F0.out.i0).mono ?_
      rintro e w1 ⟨a1, c1, rfl, o1, b⟩
      have F1 := Lib.hid (F0.out.step b)
      obtain ⟨g, rfl, hB⟩ := Bk.new (P := Wa) (Q := Hd) (cap := c1) F1.out (o1.more (by have := F0.out.r.lt; omega)) hS0
      have HB := Lib.hid hB
      have zq := F1.out.r.lt
      have q5 : w.heap.size + 1 < w1.heap.size := by omega
      have q6 : ¬ w.heap.size + 1 = w1.heap.size := by omega
      obtain ⟨x0, x1, x2⟩ := HB.out.x.cells
      clear o1 b k0 k1 k2 F0 hB
      go_wp2_with fail
      refine (C3.out _ _ _ (HB.out.own.ints)).mono ?_
      rintro e w3 ⟨rfl, b3⟩
      have HB3 := Lib.hid (HB.out.step b3)
      clear b3 HB x0 x1 x2
      obtain ⟨r0, r1, r2⟩ := HB3.out.f.r.cells
      have g0 := HB3.out.f.r.frozen 0
      have g1 := HB3.out.f.r.frozen 1
      have g2 := HB3.out.f.r.frozen 2
      go_wp2
      refine bodyPost_ret (v := .tuple #[.agg #[.int .i64 Wa, .int .i64 Hd, .slice (some ⟨g, 0, none⟩) S.length c1], .bool true]) (by simp [results, Tryd.results24, go_sem, r0, r1, r2]) rfl ?_
      exact HB3.out.ret2 rfl (.inr rfl) _ _ _
set_option maxRecDepth 100000 in
set_option maxHeartbeats 2000000 in
theorem implMeans_any (wd hg : Int) (a : Option Addr) (l : List Int) (c : Nat) (p q : Int) (w : World) (hl : Ints .i64 w w.heap.size a l) (hn : l.length ≤ 1048576) :
    Calls Tryd.prog 26 #[.agg #[.int .i64 wd, .int .i64 hg, .slice a l.length c], .int .i64 p, .int .i64 q] w (FRet (meansR wd hg l p q) w) := by
  have F0 := Lib.hid (Fr1.new (wd0 := wd) (hg0 := hg) (c0 := c) hl)
  cases hd : divB wd hg l p q with
  | false =>
    rw [meansR_no hd]
    have C1 := Lib.hid (fun W h => implBlk_no wd hg a l c p q W h hn hd)
    unfold FRet at C1
    simp only [rW, rH, rL, rB, List.length_nil] at C1
    clear hd hl
    go_enter Tryd.func26, Tryd.ntmps26
    obtain ⟨k0, k1, k2⟩ := F0.out.k0.cells
    go_wp2_with fail
    refine (C1.out _ F0.out.i0).mono ?_
    rintro e w1 ⟨a1, c1, rfl, o1, b⟩
    have F1 := Lib.hid (F0.out.step b)
    clear b k0 k1 k2 F0 o1
    have zr := F1.out.r.lt
    have q5 : w.heap.size + 1 < w1.heap.size := by omega
    have q6 : ¬ w.heap.size + 1 = w1.heap.size := by omega
    obtain ⟨s0, s1, s2⟩ := F1.out.r.cells
    have t0 := F1.out.r.frozen 0
    have t1 := F1.out.r.frozen 1
    have t2 := F1.out.r.frozen 2
    have F2 := Lib.hid (F1.out.step (below_all w1 (.cells #[.int .i64 0, .int .i64 0, .slice a1 0 c1] 32)))
    obtain ⟨r0, r1, r2⟩ := F2.out.r.cells
    have g0 := F2.out.r.frozen 0
    have g1 := F2.out.r.frozen 1
    have g2 := F2.out.r.frozen 2
    obtain ⟨y0, y1, y2⟩ := (Box.new w1 32 (.int .i64 0) (.int .i64 0) (.slice a1 0 c1)).cells
    go_wp2
    go_loopw [22] (fun i wr => i = .int .i64 0 ∧ wr = w1.alloc (.cells #[.int .i64 0, .int .i64 0, .slice a1 0 c1] 32)) (fun i _ => 0)
    case atStart => exact ⟨rfl, rfl⟩
    case round =>
      obtain ⟨rfl, rfl⟩ := hrel
      go_wp2
      refine bodyPost_ret (v := .tuple #[.agg #[.int .i64 0, .int .i64 0, .slice a1 0 c1], .bool false]) (by simp [results, Tryd.results26, go_sem, r0, r1, r2, *]) rfl ⟨a1, c1, rfl, OwnI.none_, ?_⟩
      first | exact F2.out.b | exact ((F2.out.b.setCell (p := ⟨w.heap.size + 1, 0, none⟩) (by show w.heap.size ≤ w.heap.size + 1; omega) _).setCell (p := ⟨w.heap.size + 1, 1, none⟩) (by show w.heap.size ≤ w.heap.size + 1; omega) _).setCell (p := ⟨w.heap.size + 1, 2, none⟩) (by show w.heap.size ≤ w.heap.size + 1; omega) _ | exact (((F1.out.b.setCell (p := ⟨w.heap.size + 1, 0, none⟩) (by show w.heap.size ≤ w.heap.size + 1; omega) _).setCell (p := ⟨w.heap.size + 1, 1, none⟩) (by show w.heap.size ≤ w.heap.size + 1; omega) _).setCell (p := ⟨w.heap.size + 1, 2, none⟩) (by show w.heap.size ≤ w.heap.size + 1; omega) _).alloc (by simp [World.setCell]; omega) _
  | true =>
    rw [meansR_yes hd]
    obtain ⟨W, H, P, Q, rfl, rfl, rfl, rfl, n1, n2, n3, n4, p1, p2, q1, q2, dP, dQ, hln⟩ := div_nat hd
    obtain ⟨Wa, hWa⟩ : ∃ x, W / P = x := ⟨_, rfl⟩
    obtain ⟨Hd, hHd⟩ : ∃ x, H / Q = x := ⟨_, rfl⟩
    have hF := (divB_iff.1 hd).1
    have hB := full_cell hF
    have C1 := Lib.hid (fun W' h => implBlk_yes W H P Q Wa Hd a l c W' h hF n1 n2 n3 n4 p1 p2 q1 q2 dP dQ hln hWa hHd)
    have wa1 : 1 ≤ Wa := by rw [← hWa]; exact Nat.div_pos p2 (by omega)
    have hd1 : 1 ≤ Hd := by rw [← hHd]; exact Nat.div_pos q2 (by omega)
    have hP1 : 1 ≤ Wa * Hd := Nat.mul_le_mul wa1 hd1
    have hSL : (blkL W H P Q l).length = Wa * Hd := by rw [blkL_len, hWa, hHd]
    have hS64 : (blkL W H P Q l).length ≤ 64 := by rw [blkL_len]; exact blk_le n2 n4
    have hSB : ∀ z ∈ blkL W H P Q l, -576000 ≤ z ∧ z ≤ 576000 := fun z hz => by
      have h1 := accK_bd (blkI W P Q) (W / P * (H / Q)) hB (W * H) z hz
      have h2 : W * H ≤ 64 := Nat.mul_le_mul n2 n4
      omega
    have e1 : (W : Int) / (P : Int) = (Wa : Int) := by rw [nat_ediv', hWa]
    have e2 : (H : Int) / (Q : Int) = (Hd : Int) := by rw [nat_ediv', hHd]
    rw [e1, e2]
    simp only [Int.toNat_natCast]
    generalize blkL W H P Q l = S at *
    have hS0 : 0 < S.length := by omega
    clear hSL hd hl e1 e2 hB hF dP dQ hln hWa hHd
    unfold FRet at C1
    simp only [rW, rH, rL, rB] at C1
    have C3 := Lib.hid (fun (k : Nat) (hk : k < S.length) W' => quotW_is S[k] ((P : Int) * (Q : Int)) W' (by have := hSB _ (List.getElem_mem hk); omega) (by have := hSB _ (List.getElem_mem hk); omega) (by have : 1 * 1 ≤ P * Q := Nat.mul_le_mul p1 q1; rw [← Int.natCast_mul]; omega) (by have : P * Q ≤ 8 * 8 := Nat.mul_le_mul (by omega) (by omega); rw [← Int.natCast_mul]; omega))
    obtain ⟨pq, hpq⟩ : ∃ x : Nat, P * Q = x := ⟨_, rfl⟩
    have pq1 : 1 ≤ pq := by rw [← hpq]; exact Nat.mul_le_mul p1 q1
    have pq2 : pq ≤ 64 := by rw [← hpq]; exact Nat.mul_le_mul (by omega : P ≤ 8) (by omega : Q ≤ 8)
    have E9 := Lib.hid (show (P : Int) * (Q : Int) = (pq : Int) by rw [← hpq]; push_cast; rfl)
    rw [E9.out] at C3 ⊢
    clear hpq
    go_enter Tryd.func26, Tryd.ntmps26
    obtain ⟨k0, k1, k2⟩ := F0.out.k0.cells
    go_wp2_with fail
    refine (C1.out _ F0.out.i0).mono ?_
    rintro e w1 ⟨a1, c1, rfl, o1, b⟩
    have F1 := Lib.hid (F0.out.step b)
    obtain ⟨g, rfl, hB⟩ := Bk.new (P := Wa) (Q := Hd) (cap := c1) F1.out (o1.more (by have := F0.out.r.lt; omega)) hS0
    have HB := Lib.hid hB
    have zq := F1.out.r.lt
    have q5 : w.heap.size + 1 < w1.heap.size := by omega
    have q6 : ¬ w.heap.size + 1 = w1.heap.size := by omega
    obtain ⟨x0, x1, x2⟩ := HB.out.x.cells
    clear o1 b k0 k1 k2 F0 hB
    obtain ⟨ob, hob⟩ : ∃ x, w1.heap.size = x := ⟨_, rfl⟩
    go_wp2
    rw [hob] at HB
    clear hob x0 x1 x2
    go_loopw [22] (fun i wr => ∃ k : Nat, k ≤ S.length ∧ i = .int .i64 k ∧ Bk w ob g W H a l c Wa Hd (divK pq S k) c1 wr) (fun i _ => S.length - (intOf i).toNat)
    case atStart => exact ⟨0, Nat.zero_le _, rfl, by rw [divK_zero]; exact HB.out⟩
    case round =>
      obtain ⟨k, hk, rfl, hS⟩ := hrel
      clear HB
      have HS := Lib.hid hS
      have hdl := divK_len (pq : Int) S k hk
      obtain ⟨x0, x1, x2⟩ := hS.x.cells
      rw [hdl] at x2
      by_cases hlt : k < S.length
      · have hi : (k : Int) < (S.length : Int) := by omega
        have hi0 : (0 : Int) ≤ (k : Int) := by omega
        have hgt := hS.get (j := k) (by omega)
        rw [divK_get _ _ _ hlt] at hgt
        have hfz := hS.o.frozen k
        have HQ := Lib.hid (C3.out k hlt)
        have HPUT := Lib.hid (fun (W' : World) (h : Bk w ob g W H a l c Wa Hd (divK pq S k) c1 W') => h.put k (S[k] / (pq : Int)))
        rw [divK_step _ _ _ hlt] at HPUT
        generalize S[k] = z at *
        have HSd := Lib.hid hS.drew
        have e9 := E9.out
        have e10 : IntKind.i64.wrap (pq : Int) = (pq : Int) := IntWalk.i64_in _ (by omega)
        clear hS hdl
        go_wp2_with fail
        go_region_law (first
          | (go_simp; go_at_call 34; (with_reducible refine (HQ.out _).mono ?_); rintro e w9 ⟨rfl, rfl⟩))
        all_goals
          go_wp2
          go_roundw
          case rel => exact ⟨k + 1, by omega, by go_num, HPUT.out _ HSd.out⟩
          case measure => simp [intOf]; omega
      · obtain rfl : k = S.length := by omega
        have hal := divK_all (pq : Int) S
        rw [hal] at hS
        obtain ⟨r0, r1, r2⟩ := hS.f.r.cells
        have g0 := hS.f.r.frozen 0
        have g1 := hS.f.r.frozen 1
        have g2 := hS.f.r.frozen 2
        have q7 : ¬ w.heap.size + 1 = ob := by have := hS.n; omega
        have q8 : ¬ ob = w.heap.size + 1 := by omega
        have HSe := Lib.hid hS
        clear hS HS hal hdl
        go_wp2
        refine bodyPost_ret (v := .tuple #[.agg #[.int .i64 Wa, .int .i64 Hd, .slice (some ⟨g, 0, none⟩) (S.map (· / (pq : Int))).length c1], .bool true]) (by simp [results, Tryd.results26, go_sem, r0, r1, r2]) rfl ?_
        exact HSe.out.ret2 rfl (.inr rfl) _ _ _
end Go.Proofs.YtccplndimdmjpaaDoor
namespace Go.Proofs.YtccplndimdmjpaaDoor
open Go.RowKit
set_option linter.unusedVariables false
set_option linter.unusedSimpArgs false
/-- what a function of two fields, without a result's box, knows of a later world -/
structure Fb2 (w : World) (wd0 hg0 : Int) (a0 : Option Addr) (l0 : List Int) (c0 : Nat) (wd1 hg1 : Int) (a1 : Option Addr) (l1 : List Int) (c1 : Nat) (w' : World) : Prop where
  b : Below w.heap.size w w'
  s0 : Ints .i64 w w.heap.size a0 l0
  s1 : Ints .i64 w w.heap.size a1 l1
  i0 : Ints .i64 w' w'.heap.size a0 l0
  i1 : Ints .i64 w' w'.heap.size a1 l1
  k0 : Box w' (w.heap.size) 32 (.int .i64 wd0) (.int .i64 hg0) (.slice a0 l0.length c0)
  k1 : Box w' (w.heap.size + 1) 32 (.int .i64 wd1) (.int .i64 hg1) (.slice a1 l1.length c1)
theorem Fb2.new {w : World} {wd0 hg0 wd1 hg1 : Int} {a0 a1 : Option Addr} {l0 l1 : List Int} {c0 c1 : Nat} (h0 : Ints .i64 w w.heap.size a0 l0) (h1 : Ints .i64 w w.heap.size a1 l1) : Fb2 w wd0 hg0 a0 l0 c0 wd1 hg1 a1 l1 c1 ((w.alloc (.cells #[.int .i64 wd0, .int .i64 hg0, .slice a0 l0.length c0] 32)).alloc (.cells #[.int .i64 wd1, .int .i64 hg1, .slice a1 l1.length c1] 32)) := by
  constructor
  · exact (((Below.refl w.heap.size w).alloc (by simp <;> omega) _).alloc (by simp <;> omega) _)
  · exact h0
  · exact h1
  · exact (ints_alloc (ints_alloc h0 _) _)
  · exact (ints_alloc (ints_alloc h1 _) _)
  · have h := ((Box.new w 32 (.int .i64 wd0) (.int .i64 hg0) (.slice a0 l0.length c0)).alloc (.cells #[.int .i64 wd1, .int .i64 hg1, .slice a1 l1.length c1] 32))
    try simp only [World.size_alloc] at h
    exact h
  · have h := (Box.new (w.alloc (.cells #[.int .i64 wd0, .int .i64 hg0, .slice a0 l0.length c0] 32)) 32 (.int .i64 wd1) (.int .i64 hg1) (.slice a1 l1.length c1))
    try simp only [World.size_alloc] at h
    exact h
section
variable {w w1 w2 : World} {wd0 hg0 wd1 hg1 : Int} {a0 a1 : Option Addr} {l0 l1 : List Int} {c0 c1 : Nat}
theorem Fb2.step (h : Fb2 w wd0 hg0 a0 l0 c0 wd1 hg1 a1 l1 c1 w1) (b : Below w1.heap.size w1 w2) : Fb2 w wd0 hg0 a0 l0 c0 wd1 hg1 a1 l1 c1 w2 :=
  ⟨below_then h.b b, h.s0, h.s1, ints_below h.i0 b, ints_below h.i1 b, h.k0.below b, h.k1.below b⟩
theorem Fb2.turn {g : Nat} (h : Fb2 w wd0 hg0 a0 l0 c0 wd1 hg1 a1 l1 c1 w1) (t : w1.grownBy w2 (some g)) (hg : w.heap.size + 2 ≤ g) : Fb2 w wd0 hg0 a0 l0 c0 wd1 hg1 a1 l1 c1 w2 :=
  ⟨below_turn h.b t h.b.size (by omega), h.s0, h.s1, ints_turn h.s0 h.b t (by omega), ints_turn h.s1 h.b t (by omega), h.k0.turn t (by omega), h.k1.turn t (by omega)⟩
end
def stB (wd0 hg0 : Int) (l0 : List Int) (wd1 hg1 : Int) (l1 : List Int) : Bool := goodB wd0 hg0 l0 && goodB wd1 hg1 l1
def stR (wd0 hg0 : Int) (l0 : List Int) (wd1 hg1 : Int) (l1 : List Int) : Bool := stB wd0 hg0 l0 wd1 hg1 l1 && (tot (vals l0) == tot (vals l1))
set_option maxHeartbeats 2000000 in
theorem implSameT_any (wd0 hg0 : Int) (a0 : Option Addr) (l0 : List Int) (c0 : Nat) (wd1 hg1 : Int) (a1 : Option Addr) (l1 : List Int) (c1 : Nat) (w : World) (h0 : Ints .i64 w w.heap.size a0 l0) (h1 : Ints .i64 w w.heap.size a1 l1) (hn0 : l0.length ≤ 1048576) (hn1 : l1.length ≤ 1048576) :
    Calls Tryd.prog 22 #[.agg #[.int .i64 wd0, .int .i64 hg0, .slice a0 l0.length c0], .agg #[.int .i64 wd1, .int .i64 hg1, .slice a1 l1.length c1]] w fun e w' => e = .returned (.tuple #[.bool (stR wd0 hg0 l0 wd1 hg1 l1), .bool (stB wd0 hg0 l0 wd1 hg1 l1)]) ∧ Below w.heap.size w w' := by
  have F0 := Lib.hid (Fb2.new (wd0 := wd0) (hg0 := hg0) (c0 := c0) (wd1 := wd1) (hg1 := hg1) (c1 := c1) h0 h1)
  have T0 := Lib.hid (fun W h => implTotal_any wd0 hg0 a0 l0 c0 W h hn0)
  have T1 := Lib.hid (fun W h => implTotal_any wd1 hg1 a1 l1 c1 W h hn1)
  have HR : Hid (stR wd0 hg0 l0 wd1 hg1 l1 = (stB wd0 hg0 l0 wd1 hg1 l1 && (totN wd0 hg0 l0 == totN wd1 hg1 l1))) := Lib.hid (by
    unfold stR stB totN
    cases goodB wd0 hg0 l0 <;> cases goodB wd1 hg1 l1 <;> rfl)
  unfold stB at *
  generalize stR wd0 hg0 l0 wd1 hg1 l1 = r at *
  generalize totN wd0 hg0 l0 = t0 at *
  generalize totN wd1 hg1 l1 = t1 at *
  clear h0 h1
  cases hg0' : goodB wd0 hg0 l0 with
  | false =>
    rw [hg0'] at HR T0
    obtain rfl := HR.out
    generalize goodB wd1 hg1 l1 = g1 at *
    clear hg0' HR
    go_enter Tryd.func22, Tryd.ntmps22
    obtain ⟨k0, k1, k2⟩ := F0.out.k0.cells
    go_wp2_with fail
    refine (T0.out _ F0.out.i0).mono ?_
    rintro e w1 ⟨rfl, b⟩
    have F1 := Lib.hid (F0.out.step b)
    clear b F0 k0 k1 k2
    obtain ⟨k0, k1, k2⟩ := F1.out.k1.cells
    go_wp2_with fail
    refine (T1.out _ F1.out.i1).mono ?_
    rintro e w2 ⟨rfl, b⟩
    have F2 := Lib.hid (F1.out.step b)
    clear b F1 k0 k1 k2
    go_wp2
    go_ret2
    exact ⟨rfl, F2.out.b⟩
  | true =>
    rw [hg0'] at HR T0
    cases hg1' : goodB wd1 hg1 l1 with
    | false =>
      rw [hg1'] at HR T1
      obtain rfl := HR.out
      clear hg0' hg1' HR
      go_enter Tryd.func22, Tryd.ntmps22
      obtain ⟨k0, k1, k2⟩ := F0.out.k0.cells
      go_wp2_with fail
      refine (T0.out _ F0.out.i0).mono ?_
      rintro e w1 ⟨rfl, b⟩
      have F1 := Lib.hid (F0.out.step b)
      clear b F0 k0 k1 k2
      obtain ⟨k0, k1, k2⟩ := F1.out.k1.cells
      go_wp2_with fail
      refine (T1.out _ F1.out.i1).mono ?_
      rintro e w2 ⟨rfl, b⟩
      have F2 := Lib.hid (F1.out.step b)
      clear b F1 k0 k1 k2
      go_wp2
      go_ret2
      exact ⟨rfl, F2.out.b⟩
    | true =>
      rw [hg1'] at HR T1
      clear hg0' hg1'
      go_enter Tryd.func22, Tryd.ntmps22
      obtain ⟨k0, k1, k2⟩ := F0.out.k0.cells
      go_wp2_with fail
      refine (T0.out _ F0.out.i0).mono ?_
      rintro e w1 ⟨rfl, b⟩
      have F1 := Lib.hid (F0.out.step b)
      clear b F0 k0 k1 k2
      obtain ⟨k0, k1, k2⟩ := F1.out.k1.cells
      go_wp2_with fail
      refine (T1.out _ F1.out.i1).mono ?_
      rintro e w2 ⟨rfl, b⟩
      have F2 := Lib.hid (F1.out.step b)
      clear b F1 k0 k1 k2
      go_wp2
      go_ret2
      exact ⟨by rw [HR.out]; rfl, F2.out.b⟩
end Go.Proofs.YtccplndimdmjpaaDoor
namespace Go.Proofs.YtccplndimdmjpaaDoor
open Go.RowKit
set_option linter.unusedVariables false
set_option linter.unusedSimpArgs false
set_option maxHeartbeats 400000 in
theorem vInts_yes (a a' : Option Addr) (l : List Int) (c c' B B' : Nat) (w : World) (hl : Ints .i64 w B a l) (hl' : Ints .i64 w B' a' l) (hn : l.length ≤ 1048576) :
    Calls Tryd.prog 29 #[.slice a l.length c, .slice a' l.length c'] w (Quiet (.bool true) w) := by
  have HL := Lib.hid hl
  have HL' := Lib.hid hl'
  clear hl hl'
  go_enter Tryd.func29, Tryd.ntmps29
  go_wp2
  go_loopw [5] (fun i wr => ∃ k : Nat, k ≤ l.length ∧ i = .int .i64 k ∧ Drew w wr) (fun i _ => l.length - (intOf i).toNat)
  case atStart => exact ⟨0, Nat.zero_le _, rfl, Drew.refl w⟩
  case round =>
    obtain ⟨k, hk, rfl, hw⟩ := hrel
    by_cases hlt : k < l.length
    · obtain ⟨b, o, rfl, hb, hc⟩ := (HL.out.drew hw).at_ hlt
      obtain ⟨b', o', rfl, hb', hc'⟩ := (HL'.out.drew hw).at_ hlt
      generalize l[k] = x at *
      have hi : (k : Int) < (l.length : Int) := by omega
      have hi0 : (0 : Int) ≤ (k : Int) := by omega
      go_wp2
      go_quiet (fail)
      go_wp2
      go_roundw
      case rel => exact ⟨k + 1, by omega, by go_num, hw.more _⟩
      case measure => simp [intOf]; omega
    · go_wp2
      go_ret
      exact ⟨rfl, hw⟩

set_option maxHeartbeats 400000 in
theorem vField_yes (wd hg : Int) (a a' : Option Addr) (l : List Int) (c c' : Nat) (w : World) (hl : Ints .i64 w w.heap.size a l) (hl' : Ints .i64 w w.heap.size a' l) (hn : l.length ≤ 1048576) :
    Calls Tryd.prog 21 #[.agg #[.int .i64 wd, .int .i64 hg, .slice a l.length c], .agg #[.int .i64 wd, .int .i64 hg, .slice a' l.length c']] w fun e w' => e = .returned (.bool true) ∧ Below w.heap.size w w' := by
  have HL := Lib.hid hl
  have HL' := Lib.hid hl'
  clear hl hl'
  have b2 : ∀ o1 o2, Below w.heap.size w ((w.alloc o1).alloc o2) := fun o1 o2 => ((Below.refl _ _).alloc (Nat.le_refl _) _).alloc (by simp) _
  have HE := Lib.hid (fun o1 o2 => vInts_yes a a' l c c' w.heap.size w.heap.size ((w.alloc o1).alloc o2) (HL.out.below (b2 o1 o2) (Nat.le_refl _)) (HL'.out.below (b2 o1 o2) (Nat.le_refl _)) hn)
  go_enter Tryd.func21, Tryd.ntmps21
  go_wp2_with (go_at_call 29; refine (HE.out _ _).mono ?_; rintro e w1 ⟨rfl, d⟩; have HD := Lib.hid d; clear d)
  go_ret
  exact ⟨rfl, (b2 _ _).trans (HD.out.below _)⟩
end Go.Proofs.YtccplndimdmjpaaDoor
namespace Go.Proofs.YtccplndimdmjpaaDoor
open Go.RowKit
set_option linter.unusedVariables false
set_option linter.unusedSimpArgs false
/-- what the law knows of a later world -/
def Gcr (w : World) (a : Option Addr) (l : List Int) (w' : World) : Prop := Below w.heap.size w w' ∧ Ints .u8 w' w'.heap.size a l
theorem Gcr.step {w w1 w2 : World} {a : Option Addr} {l : List Int} (h : Gcr w a l w1) (hb : Below w1.heap.size w1 w2) : Gcr w a l w2 :=
  ⟨below_then h.1 hb, ints_below h.2 hb⟩
/-- a field in a box of the law's own -/
structure Fdr (w : World) (b : Nat) (wd hg : Int) (a : Option Addr) (L : List Int) (c : Nat) : Prop where
  k : Box w b 32 (.int .i64 wd) (.int .i64 hg) (.slice a L.length c)
  i : Ints .i64 w w.heap.size a L
theorem Fdr.new {w : World} {wd hg : Int} {a : Option Addr} {L : List Int} {c : Nat} (h : Ints .i64 w w.heap.size a L) : Fdr (w.alloc (.cells #[.int .i64 wd, .int .i64 hg, .slice a L.length c] 32)) w.heap.size wd hg a L c := ⟨Box.new _ _ _ _ _, ints_alloc h _⟩
theorem Fdr.step {w w' : World} {b : Nat} {wd hg : Int} {a : Option Addr} {L : List Int} {c : Nat} (h : Fdr w b wd hg a L c) (hb : Below w.heap.size w w') : Fdr w' b wd hg a L c := ⟨h.k.below hb, ints_below h.i hb⟩
theorem st_of {wd hg p q : Int} {L N : List Int} (h1 : fullB wd hg L = true) (h2 : fullB p q N = true) (h3 : tot (vals L) = tot (vals N)) : stB wd hg L p q N = true ∧ stR wd hg L p q N = true := by
  have h4 : stB wd hg L p q N = true := by unfold stB; rw [full_good h1, full_good h2]; rfl
  refine ⟨h4, ?_⟩
  unfold stR
  rw [h4, h3]
  simp
theorem reg_facts {wd hg u v : Int} {L : List Int} (h : rB (regR wd hg L u v) = true) : (stB wd hg L (rW (regR wd hg L u v)) (rH (regR wd hg L u v)) (rL (regR wd hg L u v)) = true ∧ stR wd hg L (rW (regR wd hg L u v)) (rH (regR wd hg L u v)) (rL (regR wd hg L u v)) = true) ∧ rW (regR wd hg L u v) = u ∧ rH (regR wd hg L u v) = v := by
  cases e : regR wd hg L u v with
  | none => rw [e] at h; simp [rB] at h
  | some r =>
    obtain ⟨x, y, z⟩ := r
    obtain ⟨h1, h2, h3, h4, h5⟩ := reg_keeps e
    simp only at h2 h3 h4 h5
    subst h2 h3
    exact ⟨st_of h1 h4 h5, rfl, rfl⟩
theorem sum_facts {wd hg u v : Int} {L : List Int} (h : rB (sumR wd hg L u v) = true) : (stB wd hg L (rW (sumR wd hg L u v)) (rH (sumR wd hg L u v)) (rL (sumR wd hg L u v)) = true ∧ stR wd hg L (rW (sumR wd hg L u v)) (rH (sumR wd hg L u v)) (rL (sumR wd hg L u v)) = true) ∧ regR wd hg L (rW (sumR wd hg L u v)) (rH (sumR wd hg L u v)) = sumR wd hg L u v ∧ rB (meansR wd hg L u v) = true := by
  cases e : sumR wd hg L u v with
  | none => rw [e] at h; simp [rB] at h
  | some r =>
    obtain ⟨x, y, z⟩ := r
    obtain ⟨h1, h4, h5⟩ := sum_keeps e
    refine ⟨st_of h1 h4 h5, reg_sum e, ?_⟩
    cases hd : divB wd hg L u v with
    | false => rw [sumR_no hd] at e; cases e
    | true => rw [meansR_yes hd]; rfl
theorem split_facts (v : Int) (ws : List Int) : (∀ z ∈ spR v ws, -576100 ≤ z ∧ z ≤ 576100) ∧ (∀ k (h : k < (spR v ws).length), ∃ h2 : k < ws.length, (ws[k] = 0 → (spR v ws)[k] = 0)) ∧ (spB v ws = true → tot (spR v ws) = v) := by
  cases h : spB v ws with
  | false =>
    rw [spR_no h]
    exact ⟨fun z hz => by simp at hz, fun k hk => by simp at hk, fun h9 => by simp at h9⟩
  | true =>
    obtain ⟨v1, n1, hw, hS⟩ := spB_iff.1 h
    rw [spR_yes h]
    exact ⟨splitD_bd v1.1 v1.2 hS hw n1.2 rfl, fun k hk => ⟨by rw [splitD_len] at hk; exact hk, fun hz => split_none hS rfl (by rw [splitD_len] at hk; exact hk) hz hk⟩, fun _ => split_tot hS rfl⟩
set_option maxRecDepth 100000 in
set_option maxHeartbeats 16000000 in
theorem walk_Regrid (a : Option Addr) (l : List Int) (c : Nat) (w : World) (hi : Ints .u8 w w.heap.size a l) (hb : ∀ z ∈ l, 0 ≤ z ∧ z ≤ 255) (hlm : l.length ≤ maxLen) (ht : BlockIs w 0 deBruijn64tabCells.toArray) :
    Calls Tryd.prog 5 #[.slice a l.length c] w fun e w' => e = .returned (.bool true) ∧ Below w.heap.size w w' := by
  unfold maxLen at hlm
  by_cases hbig : (65536 : Int) < (l.length : Int)
  · clear hi hb
    go_enter Tryd.func5, Tryd.ntmps5
    go_wp2
    go_ret
    exact ⟨rfl, Below.refl _ _⟩
  · have G0 := Lib.hid (show Gcr w a l w from ⟨Below.refl _ _, hi⟩)
    have HBY := Lib.hid hb
    have HT := Lib.hid ht
    have hl : l.length ≤ 65536 := by omega
    clear hi hb hlm ht
    go_enter Tryd.func5, Tryd.ntmps5
    go_wp2_with (first | (go_at_call 19; go_in) | fail)
    refine (drawRT_any _ a l c G0.out.2 HBY.out (by omega)).mono ?_
    rintro e w3 ⟨wd, hg, L, a1, c1, u, v, hL, rfl, o1, b3⟩
    obtain ⟨f3, hf3⟩ : ∃ q, w3.heap.size = q := ⟨_, rfl⟩
    have T_F := Fdr.new (wd := wd) (hg := hg) (c := c1) (L := L) (a := some a1) o1.ints
    have T_G := (G0.out.step b3).step (below_all w3 (.cells #[.int .i64 wd, .int .i64 hg, .slice (some a1) L.length c1] 32))
    obtain ⟨W3, hW3⟩ : ∃ W, w3.alloc (.cells #[.int .i64 wd, .int .i64 hg, .slice (some a1) L.length c1] 32) = W := ⟨_, rfl⟩
    rw [hW3] at T_F T_G
    rw [hf3] at T_F
    have F3 := Lib.hid T_F
    have G3 := Lib.hid T_G
    have nL : L.length ≤ 1048576 := by omega
    clear T_F T_G o1 b3 G0
    have HC1 := Lib.hid (fun W h h9 => implReg_any wd hg (some a1) L c1 u v W h nL h9)
    have HC2 := Lib.hid (fun W h => specReg_any wd hg (some a1) L c1 u v W h nL)
    have hNl := regR_len wd hg L u v
    have HFA := Lib.hid (fun h => reg_facts (wd := wd) (hg := hg) (L := L) (u := u) (v := v) h)
    unfold FRet at HC1 HC2
    generalize rW (regR wd hg L u v) = x at *
    generalize rH (regR wd hg L u v) = y at *
    generalize rL (regR wd hg L u v) = N at *
    generalize rB (regR wd hg L u v) = rb at *
    have en : (rb != rb) = false := by simp
    obtain ⟨F0_, F1_, F2_⟩ := F3.out.k.cells
    go_wp2_with fail
    refine (HC1.out _ F3.out.i (HT.out.below G3.out.1)).mono ?_
    rintro e w4 ⟨a4, c4, rfl, o4, b4⟩
    have T_C := Fdr.new (wd := x) (hg := y) (c := c4) (L := N) (a := a4) o4.ints
    have T_G := (G3.out.step b4).step (below_all w4 (.cells #[.int .i64 x, .int .i64 y, .slice a4 (N : List Int).length c4] 32))
    have T_F := (F3.out.step b4).step (below_all w4 (.cells #[.int .i64 x, .int .i64 y, .slice a4 (N : List Int).length c4] 32))
    obtain ⟨f4, hf4⟩ : ∃ q, w4.heap.size = q := ⟨_, rfl⟩
    obtain ⟨W4, hW4⟩ : ∃ Wz, w4.alloc (.cells #[.int .i64 x, .int .i64 y, .slice a4 (N : List Int).length c4] 32) = Wz := ⟨_, rfl⟩
    rw [hW4] at T_G T_F T_C
    rw [hf4] at T_C
    have G4 := Lib.hid T_G
    have F4 := Lib.hid T_F
    have C4 := Lib.hid T_C
    clear o4 b4 T_G T_F T_C G3 F3
    clear F0_ F1_ F2_
    clear hf3 hW3
    obtain ⟨F0_, F1_, F2_⟩ := F4.out.k.cells
    go_wp2_with fail
    refine (HC2.out _ F4.out.i).mono ?_
    rintro e w5 ⟨a5, c5, rfl, o5, b5⟩
    have T_V := Fdr.new (wd := x) (hg := y) (c := c5) (L := N) (a := a5) o5.ints
    have T_G := (G4.out.step b5).step (below_all w5 (.cells #[.int .i64 x, .int .i64 y, .slice a5 (N : List Int).length c5] 32))
    have T_F := (F4.out.step b5).step (below_all w5 (.cells #[.int .i64 x, .int .i64 y, .slice a5 (N : List Int).length c5] 32))
    have T_C := (C4.out.step b5).step (below_all w5 (.cells #[.int .i64 x, .int .i64 y, .slice a5 (N : List Int).length c5] 32))
    obtain ⟨f5, hf5⟩ : ∃ q, w5.heap.size = q := ⟨_, rfl⟩
    obtain ⟨W5, hW5⟩ : ∃ Wz, w5.alloc (.cells #[.int .i64 x, .int .i64 y, .slice a5 (N : List Int).length c5] 32) = Wz := ⟨_, rfl⟩
    rw [hW5] at T_G T_F T_C T_V
    rw [hf5] at T_V
    have G5 := Lib.hid T_G
    have F5 := Lib.hid T_F
    have C5 := Lib.hid T_C
    have V5 := Lib.hid T_V
    clear o5 b5 T_G T_F T_C T_V G4 F4 C4
    clear F0_ F1_ F2_
    clear hf4 hW4
    obtain ⟨C0_, C1_, C2_⟩ := C5.out.k.cells
    obtain ⟨V0_, V1_, V2_⟩ := V5.out.k.cells
    go_wp2_with fail
    refine (vField_yes x y _ _ N _ _ _ C5.out.i V5.out.i (by omega)).mono ?_
    rintro e w6 ⟨rfl, b6⟩
    have G6 := Lib.hid (G5.out.step b6)
    have F6 := Lib.hid (F5.out.step b6)
    have C6 := Lib.hid (C5.out.step b6)
    have V6 := Lib.hid (V5.out.step b6)
    clear b6 G5 F5 C5 V5
    clear C0_ C1_ C2_ V0_ V1_ V2_
    clear hf5 hW5
    clear V6 HC1 HC2
    go_upto_if 66 with fail
    go_cut [] (fun wx => Gcr w a l wx)
    case first =>
      as_aux_lemma =>
        cases rb with
        | false =>
          go_wp2_with fail
          go_meet
          exact G6.out
        | true =>
          obtain ⟨⟨s1, s2⟩, rfl, rfl⟩ := HFA.out rfl
          have HS := Lib.hid (fun W h0 h1 => implSameT_any wd hg (some a1) L c1 x y a4 N c4 W h0 h1 nL (by omega))
          rw [s1, s2] at HS
          clear s1 s2 HFA
          have e1 : (x != x) = false := by simp
          have e2 : (y != y) = false := by simp
          obtain ⟨F0_, F1_, F2_⟩ := F6.out.k.cells
          obtain ⟨C0_, C1_, C2_⟩ := C6.out.k.cells
          go_wp2_with fail
          refine (HS.out _ F6.out.i C6.out.i).mono ?_
          rintro e w7 ⟨rfl, b7⟩
          have G7 := Lib.hid (G6.out.step b7)
          have F7 := Lib.hid (F6.out.step b7)
          have C7 := Lib.hid (C6.out.step b7)
          clear b7 G6 F6 C6
          clear F0_ F1_ F2_ C0_ C1_ C2_
          obtain ⟨C0_, C1_, C2_⟩ := C7.out.k.cells
          go_wp2_with fail
          go_meet
          exact G7.out
    case rest =>
    have G20 := Lib.hid hcut
    clear hcut HFA G6 F6 C6 en
    go_wp2_with fail
    refine (drawCS_any _ a l c G20.out.2 HBY.out (by omega)).mono ?_
    rintro e w21 ⟨wd2, hg2, L2, b1, d1, p, q, hL2, rfl, o1, b3⟩
    obtain ⟨f21, hf21⟩ : ∃ q, w21.heap.size = q := ⟨_, rfl⟩
    have T_F := Fdr.new (wd := wd2) (hg := hg2) (c := d1) (L := L2) (a := b1) o1.ints
    have T_G := (G20.out.step b3).step (below_all w21 (.cells #[.int .i64 wd2, .int .i64 hg2, .slice b1 L2.length d1] 32))
    obtain ⟨W21, hW21⟩ : ∃ W, w21.alloc (.cells #[.int .i64 wd2, .int .i64 hg2, .slice b1 L2.length d1] 32) = W := ⟨_, rfl⟩
    rw [hW21] at T_F T_G
    rw [hf21] at T_F
    have F21 := Lib.hid T_F
    have G21 := Lib.hid T_G
    have nL2 : L2.length ≤ 1048576 := by omega
    clear T_F T_G o1 b3 G20
    have HC1 := Lib.hid (fun W h => implSum_any wd2 hg2 b1 L2 d1 p q W h nL2)
    have HC2 := Lib.hid (fun W h => specSum_any wd2 hg2 b1 L2 d1 p q W h nL2)
    have HC3 := Lib.hid (fun W h => implMeans_any wd2 hg2 b1 L2 d1 p q W h nL2)
    have HC4 := Lib.hid (fun W h => specMeans_any wd2 hg2 b1 L2 d1 p q W h nL2)
    have hMl := sumR_len wd2 hg2 L2 p q
    have hKl := meansR_len wd2 hg2 L2 p q
    have HFA := Lib.hid (fun h => sum_facts (wd := wd2) (hg := hg2) (L := L2) (u := p) (v := q) h)
    have HC5 := Lib.hid (fun W h h9 => implReg_any wd2 hg2 b1 L2 d1 (rW (sumR wd2 hg2 L2 p q)) (rH (sumR wd2 hg2 L2 p q)) W h nL2 h9)
    unfold FRet at HC1 HC2 HC3 HC4 HC5
    generalize meansR wd2 hg2 L2 p q = mr at *
    obtain ⟨sr, hsr⟩ : ∃ s, sumR wd2 hg2 L2 p q = s := ⟨_, rfl⟩
    rw [hsr] at HC1 HC2 HC5 hMl
    simp only [hsr] at HFA
    clear hsr
    have HC5 : Hid (rB sr = true → ∀ W (h : Ints .i64 W W.heap.size b1 L2) (h9 : BlockIs W 0 deBruijn64tabCells.toArray), Calls Tryd.prog 15 #[.agg #[.int .i64 wd2, .int .i64 hg2, .slice b1 L2.length d1], .int .i64 (rW sr), .int .i64 (rH sr)] W (fun e w' => ∃ a c, e = .returned (.tuple #[.agg #[.int .i64 (rW sr), .int .i64 (rH sr), .slice a (rL sr).length c], .bool (rB sr)]) ∧ OwnI w' W.heap.size a (rL sr) ∧ Below W.heap.size W w')) := Lib.hid (fun hb W h h9 => by have h8 := HC5.out W h h9; rw [(HFA.out hb).2.1] at h8; exact h8)
    have HFB : Hid (rB sr = true → (stB wd2 hg2 L2 (rW sr) (rH sr) (rL sr) = true ∧ stR wd2 hg2 L2 (rW sr) (rH sr) (rL sr) = true) ∧ rB mr = true) := Lib.hid (fun h => ⟨(HFA.out h).1, (HFA.out h).2.2⟩)
    clear HFA
    generalize rW sr = x2 at *
    generalize rH sr = y2 at *
    generalize rL sr = N2 at *
    generalize rB sr = rb2 at *
    generalize rW mr = x3 at *
    generalize rH mr = y3 at *
    generalize rL mr = N3 at *
    generalize rB mr = rb3 at *
    have en : (rb2 != rb2) = false := by simp
    obtain ⟨F0_, F1_, F2_⟩ := F21.out.k.cells
    go_wp2_with fail
    refine (HC1.out _ F21.out.i).mono ?_
    rintro e w22 ⟨a22, c22, rfl, o22, b22⟩
    have T_C := Fdr.new (wd := x2) (hg := y2) (c := c22) (L := N2) (a := a22) o22.ints
    have T_G := (G21.out.step b22).step (below_all w22 (.cells #[.int .i64 x2, .int .i64 y2, .slice a22 (N2 : List Int).length c22] 32))
    have T_F := (F21.out.step b22).step (below_all w22 (.cells #[.int .i64 x2, .int .i64 y2, .slice a22 (N2 : List Int).length c22] 32))
    obtain ⟨f22, hf22⟩ : ∃ q, w22.heap.size = q := ⟨_, rfl⟩
    obtain ⟨W22, hW22⟩ : ∃ Wz, w22.alloc (.cells #[.int .i64 x2, .int .i64 y2, .slice a22 (N2 : List Int).length c22] 32) = Wz := ⟨_, rfl⟩
    rw [hW22] at T_G T_F T_C
    rw [hf22] at T_C
    have G22 := Lib.hid T_G
    have F22 := Lib.hid T_F
    have C22 := Lib.hid T_C
    clear o22 b22 T_G T_F T_C G21 F21
    clear F0_ F1_ F2_
    clear hf21 hW21
    obtain ⟨F0_, F1_, F2_⟩ := F22.out.k.cells
    go_wp2_with fail
    refine (HC2.out _ F22.out.i).mono ?_
    rintro e w23 ⟨a23, c23, rfl, o23, b23⟩
    have T_V := Fdr.new (wd := x2) (hg := y2) (c := c23) (L := N2) (a := a23) o23.ints
    have T_G := (G22.out.step b23).step (below_all w23 (.cells #[.int .i64 x2, .int .i64 y2, .slice a23 (N2 : List Int).length c23] 32))
    have T_F := (F22.out.step b23).step (below_all w23 (.cells #[.int .i64 x2, .int .i64 y2, .slice a23 (N2 : List Int).length c23] 32))
    have T_C := (C22.out.step b23).step (below_all w23 (.cells #[.int .i64 x2, .int .i64 y2, .slice a23 (N2 : List Int).length c23] 32))
    obtain ⟨f23, hf23⟩ : ∃ q, w23.heap.size = q := ⟨_, rfl⟩
    obtain ⟨W23, hW23⟩ : ∃ Wz, w23.alloc (.cells #[.int .i64 x2, .int .i64 y2, .slice a23 (N2 : List Int).length c23] 32) = Wz := ⟨_, rfl⟩
    rw [hW23] at T_G T_F T_C T_V
    rw [hf23] at T_V
    have G23 := Lib.hid T_G
    have F23 := Lib.hid T_F
    have C23 := Lib.hid T_C
    have V23 := Lib.hid T_V
    clear o23 b23 T_G T_F T_C T_V G22 F22 C22
    clear F0_ F1_ F2_
    clear hf22 hW22
    obtain ⟨C0_, C1_, C2_⟩ := C23.out.k.cells
    obtain ⟨V0_, V1_, V2_⟩ := V23.out.k.cells
    go_wp2_with fail
    refine (vField_yes x2 y2 _ _ N2 _ _ _ C23.out.i V23.out.i (by omega)).mono ?_
    rintro e w24 ⟨rfl, b24⟩
    have G24 := Lib.hid (G23.out.step b24)
    have F24 := Lib.hid (F23.out.step b24)
    have C24 := Lib.hid (C23.out.step b24)
    have V24 := Lib.hid (V23.out.step b24)
    clear b24 G23 F23 C23 V23
    clear C0_ C1_ C2_ V0_ V1_ V2_
    clear hf23 hW23
    clear V24 HC1 HC2
    go_upto_if 120 with fail
    go_cut [] (fun wx => Gcr w a l wx)
    case first =>
      as_aux_lemma =>
        cases rb2 with
        | false =>
          go_wp2_with fail
          go_meet
          exact G24.out
        | true =>
          obtain ⟨⟨s1, s2⟩, rfl⟩ := HFB.out rfl
          have HC6 := Lib.hid (HC5.out rfl)
          have HS := Lib.hid (fun W h0 h1 => implSameT_any wd2 hg2 b1 L2 d1 x2 y2 a22 N2 c22 W h0 h1 nL2 (by omega))
          rw [s1, s2] at HS
          clear s1 s2 HFB HC5
          obtain ⟨F0_, F1_, F2_⟩ := F24.out.k.cells
          obtain ⟨C0_, C1_, C2_⟩ := C24.out.k.cells
          go_wp2_with fail
          refine (HS.out _ F24.out.i C24.out.i).mono ?_
          rintro e w25 ⟨rfl, b25⟩
          have G25 := Lib.hid (G24.out.step b25)
          have F25 := Lib.hid (F24.out.step b25)
          have C25 := Lib.hid (C24.out.step b25)
          clear b25 G24 F24 C24
          clear F0_ F1_ F2_ C0_ C1_ C2_
          obtain ⟨F0_, F1_, F2_⟩ := F25.out.k.cells
          obtain ⟨C0_, C1_, C2_⟩ := C25.out.k.cells
          go_wp2_with fail
          refine (HC6.out _ F25.out.i (HT.out.below G25.out.1)).mono ?_
          rintro e w26 ⟨a26, c26, rfl, o26, b26⟩
          have T_D := Fdr.new (wd := x2) (hg := y2) (c := c26) (L := N2) (a := a26) o26.ints
          have T_G := (G25.out.step b26).step (below_all w26 (.cells #[.int .i64 x2, .int .i64 y2, .slice a26 (N2 : List Int).length c26] 32))
          have T_F := (F25.out.step b26).step (below_all w26 (.cells #[.int .i64 x2, .int .i64 y2, .slice a26 (N2 : List Int).length c26] 32))
          have T_C := (C25.out.step b26).step (below_all w26 (.cells #[.int .i64 x2, .int .i64 y2, .slice a26 (N2 : List Int).length c26] 32))
          obtain ⟨f26, hf26⟩ : ∃ q, w26.heap.size = q := ⟨_, rfl⟩
          obtain ⟨W26, hW26⟩ : ∃ Wz, w26.alloc (.cells #[.int .i64 x2, .int .i64 y2, .slice a26 (N2 : List Int).length c26] 32) = Wz := ⟨_, rfl⟩
          rw [hW26] at T_G T_F T_C T_D
          rw [hf26] at T_D
          have G26 := Lib.hid T_G
          have F26 := Lib.hid T_F
          have C26 := Lib.hid T_C
          have D26 := Lib.hid T_D
          clear o26 b26 T_G T_F T_C T_D G25 F25 C25
          clear F0_ F1_ F2_ C0_ C1_ C2_
          obtain ⟨F0_, F1_, F2_⟩ := F26.out.k.cells
          go_wp2_with fail
          refine (HC3.out _ F26.out.i).mono ?_
          rintro e w27 ⟨a27, c27, rfl, o27, b27⟩
          have T_M := Fdr.new (wd := x3) (hg := y3) (c := c27) (L := N3) (a := a27) o27.ints
          have T_G := (G26.out.step b27).step (below_all w27 (.cells #[.int .i64 x3, .int .i64 y3, .slice a27 (N3 : List Int).length c27] 32))
          have T_F := (F26.out.step b27).step (below_all w27 (.cells #[.int .i64 x3, .int .i64 y3, .slice a27 (N3 : List Int).length c27] 32))
          have T_C := (C26.out.step b27).step (below_all w27 (.cells #[.int .i64 x3, .int .i64 y3, .slice a27 (N3 : List Int).length c27] 32))
          have T_D := (D26.out.step b27).step (below_all w27 (.cells #[.int .i64 x3, .int .i64 y3, .slice a27 (N3 : List Int).length c27] 32))
          obtain ⟨f27, hf27⟩ : ∃ q, w27.heap.size = q := ⟨_, rfl⟩
          obtain ⟨W27, hW27⟩ : ∃ Wz, w27.alloc (.cells #[.int .i64 x3, .int .i64 y3, .slice a27 (N3 : List Int).length c27] 32) = Wz := ⟨_, rfl⟩
          rw [hW27] at T_G T_F T_C T_D T_M
          rw [hf27] at T_M
          have G27 := Lib.hid T_G
          have F27 := Lib.hid T_F
          have C27 := Lib.hid T_C
          have D27 := Lib.hid T_D
          have M27 := Lib.hid T_M
          clear o27 b27 T_G T_F T_C T_D T_M G26 F26 C26 D26
          clear F0_ F1_ F2_
          clear hf26 hW26
          obtain ⟨F0_, F1_, F2_⟩ := F27.out.k.cells
          go_wp2_with fail
          refine (HC4.out _ F27.out.i).mono ?_
          rintro e w28 ⟨a28, c28, rfl, o28, b28⟩
          have T_Z := Fdr.new (wd := x3) (hg := y3) (c := c28) (L := N3) (a := a28) o28.ints
          have T_G := (G27.out.step b28).step (below_all w28 (.cells #[.int .i64 x3, .int .i64 y3, .slice a28 (N3 : List Int).length c28] 32))
          have T_F := (F27.out.step b28).step (below_all w28 (.cells #[.int .i64 x3, .int .i64 y3, .slice a28 (N3 : List Int).length c28] 32))
          have T_C := (C27.out.step b28).step (below_all w28 (.cells #[.int .i64 x3, .int .i64 y3, .slice a28 (N3 : List Int).length c28] 32))
          have T_D := (D27.out.step b28).step (below_all w28 (.cells #[.int .i64 x3, .int .i64 y3, .slice a28 (N3 : List Int).length c28] 32))
          have T_M := (M27.out.step b28).step (below_all w28 (.cells #[.int .i64 x3, .int .i64 y3, .slice a28 (N3 : List Int).length c28] 32))
          obtain ⟨f28, hf28⟩ : ∃ q, w28.heap.size = q := ⟨_, rfl⟩
          obtain ⟨W28, hW28⟩ : ∃ Wz, w28.alloc (.cells #[.int .i64 x3, .int .i64 y3, .slice a28 (N3 : List Int).length c28] 32) = Wz := ⟨_, rfl⟩
          rw [hW28] at T_G T_F T_C T_D T_M T_Z
          rw [hf28] at T_Z
          have G28 := Lib.hid T_G
          have F28 := Lib.hid T_F
          have C28 := Lib.hid T_C
          have D28 := Lib.hid T_D
          have M28 := Lib.hid T_M
          have Z28 := Lib.hid T_Z
          clear o28 b28 T_G T_F T_C T_D T_M T_Z G27 F27 C27 D27 M27
          clear F0_ F1_ F2_
          clear hf27 hW27
          obtain ⟨D0_, D1_, D2_⟩ := D28.out.k.cells
          obtain ⟨C0_, C1_, C2_⟩ := C28.out.k.cells
          go_wp2_with fail
          refine (vField_yes x2 y2 _ _ N2 _ _ _ D28.out.i C28.out.i (by omega)).mono ?_
          rintro e w29 ⟨rfl, b29⟩
          have G29 := Lib.hid (G28.out.step b29)
          have F29 := Lib.hid (F28.out.step b29)
          have C29 := Lib.hid (C28.out.step b29)
          have D29 := Lib.hid (D28.out.step b29)
          have M29 := Lib.hid (M28.out.step b29)
          have Z29 := Lib.hid (Z28.out.step b29)
          clear b29 G28 F28 C28 D28 M28 Z28
          clear D0_ D1_ D2_ C0_ C1_ C2_
          clear hf28 hW28
          obtain ⟨M0_, M1_, M2_⟩ := M29.out.k.cells
          obtain ⟨Z0_, Z1_, Z2_⟩ := Z29.out.k.cells
          go_wp2_with fail
          refine (vField_yes x3 y3 _ _ N3 _ _ _ M29.out.i Z29.out.i (by omega)).mono ?_
          rintro e w30 ⟨rfl, b30⟩
          have G30 := Lib.hid (G29.out.step b30)
          have F30 := Lib.hid (F29.out.step b30)
          have C30 := Lib.hid (C29.out.step b30)
          have D30 := Lib.hid (D29.out.step b30)
          have M30 := Lib.hid (M29.out.step b30)
          have Z30 := Lib.hid (Z29.out.step b30)
          clear b30 G29 F29 C29 D29 M29 Z29
          clear M0_ M1_ M2_ Z0_ Z1_ Z2_
          go_wp2_with fail
          go_meet
          exact G30.out
    case rest =>
    have G40 := Lib.hid hcut
    clear hcut HFB HC3 HC4 HC5 G24 F24 C24 en
    go_wp2_with fail
    refine (drawSV_any _ a l c G40.out.2 HBY.out (by omega)).mono ?_
    rintro e w41 ⟨z, ws, e1, g1, hws, rfl, o1, b3⟩
    have G41 := Lib.hid (G40.out.step b3)
    have O41 := Lib.hid o1.ints
    clear o1 b3 G40
    have HC1 := Lib.hid (fun W h h9 => implSplit_any z e1 ws g1 W h (by omega) h9)
    have HC2 := Lib.hid (fun W h => specSplit_any z e1 ws g1 W h (by omega))
    have hrl := spR_len z ws
    obtain ⟨h1, h2, h3⟩ := split_facts z ws
    unfold SvRet at HC1 HC2
    generalize spR z ws = r at *
    generalize spB z ws = sb at *
    have HP := Lib.hid h1
    have HZ := Lib.hid h2
    have HTOT := Lib.hid h3
    have en : (sb != sb) = false := by simp
    clear h1 h2 h3
    go_wp2_with fail
    refine (HC1.out _ O41.out (HT.out.below G41.out.1)).mono ?_
    rintro e w42 ⟨a42, c42, rfl, o42, b42⟩
    have G42 := Lib.hid (G41.out.step b42)
    have O42 := Lib.hid (ints_below O41.out b42)
    have R42 := Lib.hid o42.ints
    clear G41 O41 o42 b42
    go_wp2_with fail
    refine (HC2.out _ O42.out).mono ?_
    rintro e w43 ⟨a43, c43, rfl, o43, b43⟩
    have G43 := Lib.hid (G42.out.step b43)
    have O43 := Lib.hid (ints_below O42.out b43)
    have R43 := Lib.hid (ints_below R42.out b43)
    have V43 := Lib.hid o43.ints
    clear G42 O42 R42 o43 b43 HC1 HC2
    go_wp2_with fail
    refine (vInts_yes _ _ r _ _ _ _ _ R43.out V43.out (by omega)).mono ?_
    rintro e w44 ⟨rfl, d44⟩
    have b44 := d44.below w43.heap.size
    have G44 := Lib.hid (G43.out.step b44)
    have O44 := Lib.hid (ints_below O43.out b44)
    have R44 := Lib.hid (ints_below R43.out b44)
    clear G43 O43 R43 V43 d44 b44
    go_wp2_with fail
    go_loop [33, 34] (fun s i => ∃ k : Nat, k ≤ r.length ∧ i = .int .i64 k ∧ s = .int .i64 (tot (r.take k))) (fun _ i => r.length - (intOf i).toNat)
    case atStart => exact ⟨0, Nat.zero_le _, rfl, by simp [tot]⟩
    case round =>
      obtain ⟨k, hk, rfl, rfl⟩ := hrel
      have hlo := tot_ge (l := r.take k) (m := -576100) (fun z hz => (HP.out z (List.mem_of_mem_take hz)).1)
      have hhi := tot_le (l := r.take k) (m := 576100) (fun z hz => (HP.out z (List.mem_of_mem_take hz)).2)
      rw [List.length_take] at hlo hhi
      by_cases hlt : k < r.length
      · obtain ⟨hkw, hz0⟩ := HZ.out k hlt
        obtain ⟨br, or', rfl, hbr, hcr⟩ := R44.out.at_ hlt
        obtain ⟨bw, ow, rfl, hbw, hcw⟩ := O44.out.at_ hkw
        have hi : (k : Int) < (r.length : Int) := by omega
        have hi0 : (0 : Int) ≤ (k : Int) := by omega
        have hiw : (k : Int) < (ws.length : Int) := by omega
        have hx := HP.out _ (List.getElem_mem hlt)
        have HTT := Lib.hid (show tot (r.take (k + 1)) = tot (r.take k) + r[k] by rw [snoc_takeI r k hlt, tot_snocI])
        have HZ0 := Lib.hid hz0
        clear hz0
        generalize r[k] = rk at *
        generalize ws[k] = wk at *
        generalize tot (r.take k) = t at *
        by_cases hw0 : wk = 0
        · obtain rfl := HZ0.out hw0
          subst hw0
          go_wp2
          go_round
          case rel => exact ⟨k + 1, by omega, by go_num, by rw [HTT.out, Int.add_zero]⟩
          case measure => simp [intOf]; omega
        · have e0 : (wk == (0 : Int)) = false := by rw [beq_eq_false_iff_ne]; exact hw0
          go_wp2
          go_round
          case rel => exact ⟨k + 1, by omega, by go_num, by rw [HTT.out]⟩
          case measure => simp [intOf]; omega
      · obtain rfl : k = r.length := by omega
        rw [List.take_length] at *
        cases sb with
        | false =>
          go_wp2
          go_ret
          exact ⟨rfl, G44.out.1⟩
        | true =>
          have ht := HTOT.out rfl
          have e0 : (tot r == z) = true := by rw [ht]; simp
          generalize tot r = t at *
          clear ht HTOT
          go_wp2
          go_ret
          exact ⟨rfl, G44.out.1⟩
end Go.Proofs.YtccplndimdmjpaaDoor
