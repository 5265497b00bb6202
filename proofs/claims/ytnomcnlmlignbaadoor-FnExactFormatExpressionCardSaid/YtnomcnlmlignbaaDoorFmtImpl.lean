/- The program's text of a tree: what it writes into a builder. -/
import Derived.Test.YtnomcnlmlignbaaDoorFmtMath
import Derived.Test.YtnomcnlmlignbaaDoorBuilderB
import Derived.Test.YtnomcnlmlignbaaDoorFormat
import Derived.Test.YtnomcnlmlignbaaDoorTab
import Derived.Test.YtnomcnlmlignbaaDoorTree
import Derived.Lib.OthersKept
namespace Go.Proofs.YtnomcnlmlignbaaDoor
open Go.RowKit
set_option linter.unusedVariables false
set_option linter.unusedSimpArgs false
theorem itoa_call (n : Nat) (hn : n ≤ 9000) (w : World) (ht : Tab w) : Calls Tryd.prog 110 #[.int .i64 (n : Int)] w fun e w' => e = .returned (.string (digS n)) ∧ Below w.heap.size w w' := by
  refine (Tryd.strconv_Itoa (n : Int) (by omega) (by omega) w ht).mono ?_
  rintro e w' ⟨rfl, k, os, rfl⟩
  refine ⟨by rw [Lib.itoa_nonneg]; rfl, ?_⟩
  exact Lib.below_grow _ _ (Nat.le_refl _) k os
/-- the builder at bb holds J; what lies below bb stands as in w0 -/
structure Bd (w0 : World) (bb : Nat) (J : List UInt8) (w : World) : Prop where
  b : Below bb w0 w
  k : Lib.IsBuilderF 78 5 bb bb (Lib.byteCells J) w
  n : bb ≤ w.heap.size
/-- a call writes s into the builder -/
def Wr (w0 : World) (bb f : Nat) (args : Array Value) (s : ByteArray) : Prop :=
  ∀ (J : List UInt8) (W : World), Bd w0 bb J W → J.length + s.size ≤ 1000000 → Calls Tryd.prog f args W fun e w' => e = .returned (.tuple #[]) ∧ Bd w0 bb (J ++ s.data.toList) w'
theorem bd_write {w0 : World} {bb : Nat} {J : List UInt8} {W : World} (h : Bd w0 bb J W) (s : ByteArray) (hl : J.length + s.size ≤ 1000000) :
    Calls Tryd.prog 58 #[.pointer (some ⟨bb, 0, none⟩), .string s] W fun e w' => e = .returned (.tuple #[.int .i64 s.size, .nilIface]) ∧ Bd w0 bb (J ++ s.data.toList) w' := by
  refine (bld_write_k bb bb J s W h.k (by omega) h.n).mono ?_
  rintro e w' ⟨rfl, h1, h2, _⟩
  exact ⟨rfl, h.b.trans h2, h1, Nat.le_trans h.n h2.size⟩
theorem bd_byte {w0 : World} {bb : Nat} {J : List UInt8} {W : World} (h : Bd w0 bb J W) (c : UInt8) (hl : J.length + 1 ≤ 1000000) :
    Calls Tryd.prog 120 #[.pointer (some ⟨bb, 0, none⟩), .int .u8 (c.toNat : Int)] W fun e w' => e = .returned .nilIface ∧ Bd w0 bb (J ++ [c]) w' := by
  refine (bld_byte_k bb bb J c W h.k (by omega) h.n).mono ?_
  rintro e w' ⟨rfl, h1, h2⟩
  exact ⟨rfl, h.b.trans h2, h1, Nat.le_trans h.n h2.size⟩
theorem bd_below {w0 w1 w2 : World} {bb : Nat} {J : List UInt8} (h : Bd w0 bb J w1) (hb : Below w1.heap.size w1 w2) : Bd w0 bb J w2 := by
  refine ⟨h.b.trans (hb.mono h.n), ?_, Nat.le_trans h.n hb.size⟩
  have key : ∀ p, Lib.BuilderAtF 78 5 bb bb p (Lib.byteCells J) w1 → Lib.BuilderAtF 78 5 bb bb p (Lib.byteCells J) w2 := by
    rintro p ⟨h1, v, h2, h3, h4⟩
    refine ⟨h1, v, (hb.block bb (Array.getElem?_eq_some_iff.1 h2).1).trans h2, ?_, h4⟩
    exact h3.kept (row := none) ⟨hb.os, hb.tape, hb.output, hb.size, fun i hi _ => hb.block i hi⟩ (by cases h5 : v.ownBlock with | none => exact .inl rfl | some k => exact .inr (by simp))
  exact h.k.elim (fun x => .inl (key _ x)) (fun x => .inr (key _ x))
theorem bd_box {w0 w1 : World} {bb b : Nat} {J : List UInt8} {t : TypeId} {vs : Array Value} (h : Bd w0 bb J w1) (hx : BoxC w0 b t vs) (hb : b < bb) : BoxC w1 b t vs := (h.b.block b hb).trans hx
theorem bd_cell {w0 w1 : World} {bb b o : Nat} {J : List UInt8} {v : Value} (h : Bd w0 bb J w1) (hx : w0.cell? ⟨b, o, none⟩ = some v) (hb : b < bb) : w1.cell? ⟨b, o, none⟩ = some v := (h.b.cell (p := ⟨b, o, none⟩) hb).trans hx
set_option maxRecDepth 100000 in
set_option maxHeartbeats 1000000 in
theorem infix_is (k : Int) (hk : k = 1 ∨ k = 2 ∨ k = 3 ∨ k = 4 ∨ k = 5 ∨ k = 6 ∨ k = 7) (w : World) : Calls Tryd.prog 134 #[formV k] w fun e w' => e = .returned (.bool (sumK k)) ∧ Below w.heap.size w w' := by
  rcases hk with rfl | rfl | rfl | rfl | rfl | rfl | rfl
  all_goals
    have HB := Lib.hid (fun vs => below_all w (.cells vs 137))
    go_enter Tryd.func134, Tryd.ntmps134
    unfold formV fmK fmT fmM fmO fmA fmB fmC
    go_wp2
    go_ret
    exact ⟨rfl, HB.out _⟩
end Go.Proofs.YtnomcnlmlignbaaDoor
