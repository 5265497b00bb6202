/- The draws of chapter 3. -/
import Derived.Test.YtnomcnlmlignbaaDoorAmong
import Derived.Test.YtnomcnlmlignbaaDoorConv
namespace Go.Proofs.YtnomcnlmlignbaaDoor
open Go.RowKit
set_option linter.unusedVariables false
/-- what a draw leaves that lays lists of its own -/
def DrawnG (g : Nat) (a : Option Addr) (l : List Int) (c K : Nat) (P : Value → Prop) (w : World) (e : Ending) (w' : World) : Prop :=
  ∃ v, P v ∧ e = .returned v ∧ CurIs w' g a l c K ∧ w.grownBy w' (some g)
theorem grow_alloc {w w2 : World} {o : Obj} {g : Nat} (h : (w.alloc o).grownBy w2 (some g)) : w.grownBy w2 (some g) :=
  ⟨h.os, h.tape, h.output, by have := h.size; simp at this; omega, fun k hk hne => (h.block k (by simp; omega) hne).trans (Below.heap_alloc w o k hk)⟩
theorem grow_trans {a b c : World} {g : Nat} (h : a.grownBy b (some g)) (k : b.grownBy c (some g)) : a.grownBy c (some g) :=
  ⟨k.os.trans h.os, k.tape.trans h.tape, k.output.trans h.output, Nat.le_trans h.size k.size, fun i hi hne => (k.block i (by have := h.size; omega) hne).trans (h.block i hi hne)⟩
def IsUnit (v : Value) : Prop := ∃ u : Int, 0 ≤ u ∧ u ≤ 9 ∧ v = .int .i64 u
def IsTen (v : Value) : Prop := ∃ x : Int, -100000 ≤ x ∧ x ≤ 100000 ∧ v = .int .i64 x

set_option maxHeartbeats 1000000 in
theorem unit_any (w : World) (g : Nat) (a : Option Addr) (l : List Int) (c K : Nat) (hK : K ≤ 900000) (h : CurIs w g a l c K) :
    Calls Tryd.prog 69 #[.pointer (some ⟨g, 0, none⟩)] w (DrawnG g a l c (K + 4) IsUnit w) := by
  have H := Lib.hid h
  clear h
  go_enter Tryd.func69, Tryd.ntmps69
  go_wp2_with fail
  refine (one_any w g a l c K 20 (by omega) (by omega) (by omega) H.out).mono ?_
  rintro e w1 ⟨v, ⟨b, rfl⟩, rfl, hc, ho⟩
  have HC := Lib.hid hc
  have HO := Lib.hid ho.1
  clear hc ho
  cases b with
  | true =>
    go_wp2_with fail
    refine (among_any _ g a l c (K + 2) _ 2 [0, 9] (by omega) rfl (by omega) (by omega) (HC.out.alloc _) (by have := HC.out.lt; omega) (by simp) (by intro k hk; exact lit_ints w1 _ _ k hk) 2).mono ?_
    rintro e w2 ⟨v, ⟨z, hz, rfl⟩, rfl, hc, ho⟩
    have HC2 := Lib.hid hc
    have HO2 := Lib.hid (grow_trans HO.out (grow_alloc ho.1))
    have hz2 : 0 ≤ z ∧ z ≤ 9 := by simp only [List.mem_cons, List.not_mem_nil, or_false] at hz; omega
    clear hc ho hz
    go_wp2
    go_ret
    exact ⟨_, ⟨z, hz2.1, hz2.2, rfl⟩, rfl, HC2.out, HO2.out⟩
  | false =>
    go_wp2_with fail
    refine (pick_any _ g a l c (K + 2) 8 (by omega) (by omega) (by omega) HC.out).mono ?_
    rintro e w2 ⟨v, ⟨r, hr, rfl⟩, rfl, hc, ho⟩
    have HC2 := Lib.hid hc
    have HO2 := Lib.hid (grow_trans HO.out ho.1)
    clear hc ho
    go_wp2
    go_ret
    exact ⟨_, ⟨1 + (r : Int), by omega, by omega, rfl⟩, rfl, HC2.out, HO2.out⟩

def tenL : List Int := [0, 1, -1, 5, -5, 100, 212, -273, 327, 980, 2731, 99999, -99999, 100000, -100000]
theorem tenL_bd : ∀ z ∈ tenL, -100000 ≤ z ∧ z ≤ 100000 := by decide

/-- a list of the draw's own, behind a step of the cursor, cut short -/
theorem cut_cells {w w1 : World} {g n : Nat} {L : List Int} {t : TypeId} (hne : w.heap.size ≠ g) (hg : (w.alloc (.cells (L.map (Value.int .i64)).toArray t)).grownBy w1 (some g)) (k : Nat) (h : k < (L.take n).length) :
    w1.cell? ⟨w.heap.size, k, none⟩ = some (.int .i64 (L.take n)[k]) := by
  have hk : k < L.length := by rw [List.length_take] at h; omega
  have h1 := lit_ints w L t k hk
  have h2 := hg.block w.heap.size (by simp) (fun e => by injection e with e; exact hne e)
  rw [List.getElem_take, ← h1]
  exact World.cell?_of_block h2

set_option maxHeartbeats 2000000 in
theorem tenths_any (w : World) (g : Nat) (a : Option Addr) (l : List Int) (c K : Nat) (hK : K ≤ 900000) (h : CurIs w g a l c K) :
    Calls Tryd.prog 68 #[.pointer (some ⟨g, 0, none⟩)] w (DrawnG g a l c (K + 4) IsTen w) := by
  have H := Lib.hid h
  have hgl := h.lt
  clear h
  go_enter Tryd.func68, Tryd.ntmps68
  go_wp2_with fail
  refine (pick_any _ g a l c K 24 (by omega) (by omega) (by omega) (H.out.alloc _)).mono ?_
  rintro e w1 ⟨v, ⟨r, hr, rfl⟩, rfl, hc, ho⟩
  have HC := Lib.hid hc
  have HO := Lib.hid (grow_alloc ho.1)
  obtain ⟨q, hq⟩ : ∃ q, r / 11 = q := ⟨_, rfl⟩
  have CC := Lib.hid (fun k h => cut_cells (L := tenL) (n := 13 + q) (by omega) ho.1 k h)
  have hz1 : w.heap.size < w1.heap.size := by have := ho.1.size; simp at this; omega
  have a1 : IntKind.i64.wrap ((r : Int) / 11) = (q : Int) := by rw [IntWalk.i64_in _ (by omega)]; omega
  have hq2 : q ≤ 2 := by omega
  clear hc ho hq
  go_wp2_with fail
  refine (among_any _ g a l c (K + 2) w.heap.size (13 + q) (tenL.take (13 + q)) (by omega) (by rw [List.length_take]; simp [tenL]; omega) (by omega) (by omega) HC.out (by omega) hz1 CC.out _).mono ?_
  rintro e w2 ⟨v, ⟨z, hz, rfl⟩, rfl, hc, ho⟩
  have HC2 := Lib.hid hc
  have HO2 := Lib.hid (grow_trans HO.out ho.1)
  have hz2 := tenL_bd z (List.mem_of_mem_take hz)
  clear hc ho hz
  go_wp2
  go_ret
  exact ⟨_, ⟨z, hz2.1, hz2.2, rfl⟩, rfl, HC2.out, HO2.out⟩

/-- what DrawConvertTenths gives -/
def ThreeNums (w : World) (e : Ending) (w' : World) : Prop := ∃ x f t : Int, -200000 ≤ x ∧ x ≤ 200000 ∧ 0 ≤ f ∧ f ≤ 9 ∧ 0 ≤ t ∧ t ≤ 9 ∧ e = .returned (.tuple #[.int .i64 x, .int .i64 f, .int .i64 t]) ∧ Below w.heap.size w w'

end Go.Proofs.YtnomcnlmlignbaaDoor
