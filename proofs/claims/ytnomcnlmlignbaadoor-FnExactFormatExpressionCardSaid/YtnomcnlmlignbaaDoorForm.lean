/- impl.formOf: the form of a node's kind, out of the program's table. -/
import Derived.Test.YtnomcnlmlignbaaDoorFlat
import Derived.Test.YtnomcnlmlignbaaDoorNodeMath
import Derived.Test.YtnomcnlmlignbaaDoorNodes
import Derived.Laws.Rows
import Derived.Deep.WholeRow
import Derived.StillTailTactics
namespace Go.Proofs.YtnomcnlmlignbaaDoor
open Go.RowKit
set_option linter.unusedVariables false
set_option linter.unusedSimpArgs false
def nodeFormsCells : List Value :=
  [.int .i64 1, .int .i64 0, .int .i64 3, .int .i64 0, .string ⟨#[]⟩, .string ⟨#[]⟩, .string ⟨#[]⟩,
   .int .i64 2, .int .i64 0, .int .i64 9000, .int .i64 0, .string ⟨#[]⟩, .string ⟨#[]⟩, .string ⟨#[]⟩,
   .int .i64 3, .int .i64 2, .int .i64 0, .int .i64 1, .string ⟨#[]⟩, .string ⟨#[43]⟩, .string ⟨#[]⟩,
   .int .i64 4, .int .i64 2, .int .i64 0, .int .i64 2, .string ⟨#[]⟩, .string ⟨#[45]⟩, .string ⟨#[]⟩,
   .int .i64 5, .int .i64 2, .int .i64 0, .int .i64 3, .string ⟨#[109, 105, 110, 40]⟩, .string ⟨#[44]⟩, .string ⟨#[41]⟩,
   .int .i64 6, .int .i64 2, .int .i64 0, .int .i64 4, .string ⟨#[109, 97, 120, 40]⟩, .string ⟨#[44]⟩, .string ⟨#[41]⟩,
   .int .i64 7, .int .i64 1, .int .i64 9000, .int .i64 0, .string ⟨#[97, 98, 111, 118, 101, 40]⟩, .string ⟨#[44]⟩, .string ⟨#[41]⟩]
def fmT (k : Int) : Int := if k = 1 then 0 else if k = 2 then 0 else if k = 3 then 2 else if k = 4 then 2 else if k = 5 then 2 else if k = 6 then 2 else if k = 7 then 1 else 0
def fmM (k : Int) : Int := if k = 1 then 3 else if k = 2 then 9000 else if k = 3 then 0 else if k = 4 then 0 else if k = 5 then 0 else if k = 6 then 0 else if k = 7 then 9000 else 0
def fmO (k : Int) : Int := if k = 1 then 0 else if k = 2 then 0 else if k = 3 then 1 else if k = 4 then 2 else if k = 5 then 3 else if k = 6 then 4 else if k = 7 then 0 else 0
def fmA (k : Int) : ByteArray := if k = 1 then ⟨#[]⟩ else if k = 2 then ⟨#[]⟩ else if k = 3 then ⟨#[]⟩ else if k = 4 then ⟨#[]⟩ else if k = 5 then ⟨#[109, 105, 110, 40]⟩ else if k = 6 then ⟨#[109, 97, 120, 40]⟩ else if k = 7 then ⟨#[97, 98, 111, 118, 101, 40]⟩ else ⟨#[]⟩
def fmB (k : Int) : ByteArray := if k = 1 then ⟨#[]⟩ else if k = 2 then ⟨#[]⟩ else if k = 3 then ⟨#[43]⟩ else if k = 4 then ⟨#[45]⟩ else if k = 5 then ⟨#[44]⟩ else if k = 6 then ⟨#[44]⟩ else if k = 7 then ⟨#[44]⟩ else ⟨#[]⟩
def fmC (k : Int) : ByteArray := if k = 1 then ⟨#[]⟩ else if k = 2 then ⟨#[]⟩ else if k = 3 then ⟨#[]⟩ else if k = 4 then ⟨#[]⟩ else if k = 5 then ⟨#[41]⟩ else if k = 6 then ⟨#[41]⟩ else if k = 7 then ⟨#[41]⟩ else ⟨#[]⟩
def fmK (k : Int) : Int := if 1 ≤ k ∧ k ≤ 7 then k else 0
def fmOk (k v : Int) : Bool := (arity k v).isSome
/-- a form as a value -/
def formV (k : Int) : Value := .agg #[.int .i64 (fmK k), .int .i64 (fmT k), .int .i64 (fmM k), .int .i64 (fmO k), .string (fmA k), .string (fmB k), .string (fmC k)]
theorem fm_out {k : Int} (h : ¬ (1 ≤ k ∧ k ≤ 7)) : fmK k = 0 ∧ fmT k = 0 ∧ fmM k = 0 ∧ fmO k = 0 ∧ fmA k = ⟨#[]⟩ ∧ fmB k = ⟨#[]⟩ ∧ fmC k = ⟨#[]⟩ := by
  unfold fmK fmT fmM fmO fmA fmB fmC
  have h1 : ¬ k = 1 := by omega
  have h2 : ¬ k = 2 := by omega
  have h3 : ¬ k = 3 := by omega
  have h4 : ¬ k = 4 := by omega
  have h5 : ¬ k = 5 := by omega
  have h6 : ¬ k = 6 := by omega
  have h7 : ¬ k = 7 := by omega
  refine ⟨if_neg h, ?_, ?_, ?_, ?_, ?_, ?_⟩ <;> simp only [if_neg h1, if_neg h2, if_neg h3, if_neg h4, if_neg h5, if_neg h6, if_neg h7]
theorem arity_takes {k v : Int} {a : Nat} (h : arity k v = some a) : fmT k = (a : Int) ∧ fmK k = k ∧ 1 ≤ k ∧ k ≤ 7 := by
  have hk : 1 ≤ k ∧ k ≤ 7 := by
    unfold arity at h
    (repeat' split at h) <;> first | omega | cases h
  have h9 : k = 1 ∨ k = 2 ∨ k = 3 ∨ k = 4 ∨ k = 5 ∨ k = 6 ∨ k = 7 := by omega
  rcases h9 with rfl | rfl | rfl | rfl | rfl | rfl | rfl
  all_goals
    simp [arity] at h
    obtain ⟨_, h⟩ := h
    subst h
    exact ⟨rfl, rfl, by decide, by decide⟩
theorem ok_out {k v : Int} (h : ¬ (1 ≤ k ∧ k ≤ 7)) : fmOk k v = false := by
  unfold fmOk
  cases ha : arity k v with
  | none => rfl
  | some a => have := arity_takes ha; omega
theorem ok_in {k v : Int} (h : 1 ≤ k ∧ k ≤ 7) : fmOk k v = (decide (0 ≤ v) && decide (v ≤ fmM k)) := by
  have h9 : k = 1 ∨ k = 2 ∨ k = 3 ∨ k = 4 ∨ k = 5 ∨ k = 6 ∨ k = 7 := by omega
  have key : ∀ (p q : Prop) [Decidable p] [Decidable q] (a : Nat), (if p ∧ q then some a else none).isSome = (decide p && decide q) := by
    intro p q _ _ a
    by_cases hp : p <;> by_cases hq : q <;> simp [hp, hq]
  rcases h9 with rfl | rfl | rfl | rfl | rfl | rfl | rfl
  all_goals unfold fmOk
  · exact key (0 ≤ v) (v ≤ 3) 0
  · exact key (0 ≤ v) (v ≤ 9000) 0
  · show (if v = 0 then some 2 else none : Option Nat).isSome = (decide (0 ≤ v) && decide (v ≤ 0))
    by_cases hv : v = 0
    · subst hv; rfl
    · rw [if_neg hv, ← Bool.decide_and, decide_eq_false (by omega)]; rfl
  · show (if v = 0 then some 2 else none : Option Nat).isSome = (decide (0 ≤ v) && decide (v ≤ 0))
    by_cases hv : v = 0
    · subst hv; rfl
    · rw [if_neg hv, ← Bool.decide_and, decide_eq_false (by omega)]; rfl
  · show (if v = 0 then some 2 else none : Option Nat).isSome = (decide (0 ≤ v) && decide (v ≤ 0))
    by_cases hv : v = 0
    · subst hv; rfl
    · rw [if_neg hv, ← Bool.decide_and, decide_eq_false (by omega)]; rfl
  · show (if v = 0 then some 2 else none : Option Nat).isSome = (decide (0 ≤ v) && decide (v ≤ 0))
    by_cases hv : v = 0
    · subst hv; rfl
    · rw [if_neg hv, ← Bool.decide_and, decide_eq_false (by omega)]; rfl
  · exact key (0 ≤ v) (v ≤ 9000) 1
theorem below_allN (w : World) (o : Obj) : Below w.heap.size w (w.alloc o) := (Below.refl _ _).alloc (Nat.le_refl _) o
theorem below_thenN {a b c : World} (h : Below a.heap.size a b) (k : Below b.heap.size b c) : Below a.heap.size a c := h.trans (k.mono h.size)
/-- block b holds these cells, none frozen -/
def BoxC (w : World) (b : Nat) (t : TypeId) (vs : Array Value) : Prop := w.heap[b]? = some (.cells vs t (0, 0))
section
variable {w w' : World} {b : Nat} {t : TypeId} {vs : Array Value}
theorem BoxC.lt (h : BoxC w b t vs) : b < w.heap.size := (Array.getElem?_eq_some_iff.1 h).1
theorem BoxC.cell (h : BoxC w b t vs) (j : Nat) : w.cell? ⟨b, j, none⟩ = vs[j]? := by
  unfold BoxC at h
  simp [World.cell?, h]
theorem BoxC.frozen (h : BoxC w b t vs) (j : Nat) : w.frozen? ⟨b, j, none⟩ = false := by
  unfold BoxC at h
  simp [World.frozen?, h]
theorem BoxC.new (w : World) (t : TypeId) (vs : Array Value) : BoxC (w.alloc (.cells vs t)) w.heap.size t vs := heap_alloc_new w _
theorem BoxC.below (h : BoxC w b t vs) (hb : Below w.heap.size w w') : BoxC w' b t vs := (hb.block b h.lt).trans h
theorem BoxC.alloc (h : BoxC w b t vs) (o : Obj) : BoxC (w.alloc o) b t vs := (Below.heap_alloc w o b h.lt).trans h
end
/-- the table of forms lies in its variable -/
def NTab (w : World) : Prop := BlockIs w 1 nodeFormsCells.toArray
theorem NTab.below {w w' : World} (h : NTab w) (hb : Below w.heap.size w w') : NTab w' := BlockIs.below h hb
set_option maxRecDepth 100000 in
set_option maxHeartbeats 8000000 in
theorem formOf_any (k v : Int) (w : World) (ht : NTab w) :
    Calls Tryd.prog 118 #[.agg #[.int .i64 k, .int .i64 v]] w fun e w' => e = .returned (.tuple #[formV k, .bool (fmOk k v)]) ∧ Below w.heap.size w w' := by
  obtain ⟨t0, hb0⟩ := (ht.below (below_allN w (.cells #[.int .i64 k, .int .i64 v] 112))).below (below_allN _ (.cells #[.int .i64 0, .int .i64 0, .int .i64 0, .int .i64 0, .string ⟨#[]⟩, .string ⟨#[]⟩, .string ⟨#[]⟩] 137))
  have HN0 := Lib.hid ((BoxC.new w 112 #[.int .i64 k, .int .i64 v]).alloc (.cells #[.int .i64 0, .int .i64 0, .int .i64 0, .int .i64 0, .string ⟨#[]⟩, .string ⟨#[]⟩, .string ⟨#[]⟩] 137))
  have HR0 := Lib.hid (show BoxC ((w.alloc (.cells #[.int .i64 k, .int .i64 v] 112)).alloc (.cells #[.int .i64 0, .int .i64 0, .int .i64 0, .int .i64 0, .string ⟨#[]⟩, .string ⟨#[]⟩, .string ⟨#[]⟩] 137)) (w.heap.size + 1) 137 #[.int .i64 0, .int .i64 0, .int .i64 0, .int .i64 0, .string ⟨#[]⟩, .string ⟨#[]⟩, .string ⟨#[]⟩] from by
    have h := BoxC.new (w.alloc (.cells #[.int .i64 k, .int .i64 v] 112)) 137 #[.int .i64 0, .int .i64 0, .int .i64 0, .int .i64 0, .string ⟨#[]⟩, .string ⟨#[]⟩, .string ⟨#[]⟩]
    rw [World.size_alloc] at h
    exact h)
  have HB0 := Lib.hid ((below_allN w (.cells #[.int .i64 k, .int .i64 v] 112)).alloc (by simp) (.cells #[.int .i64 0, .int .i64 0, .int .i64 0, .int .i64 0, .string ⟨#[]⟩, .string ⟨#[]⟩, .string ⟨#[]⟩] 137))
  go_enter Tryd.func118, Tryd.ntmps118
  go_wp2_with (refine wpList_load_row rfl 155 (.global 1) rfl 1 rfl t0 nodeFormsCells.toArray (0, 0) _ hb0 Tryd.underlying155 rfl (by kernel_rfl) ?_)
  go_loopw [5, 7] (fun p i wr => ∃ j : Nat, j ≤ 7 ∧ i = .int .i64 j ∧ ¬ (1 ≤ k ∧ k ≤ (j : Int)) ∧ BoxC wr w.heap.size 112 #[.int .i64 k, .int .i64 v] ∧ BoxC wr (w.heap.size + 1) 137 #[.int .i64 0, .int .i64 0, .int .i64 0, .int .i64 0, .string ⟨#[]⟩, .string ⟨#[]⟩, .string ⟨#[]⟩] ∧ Below w.heap.size w wr) (fun _ i _ => 7 - (intOf i).toNat)
  case atStart => exact ⟨0, Nat.zero_le _, rfl, by omega, HN0.out, HR0.out, HB0.out⟩
  case round =>
    obtain ⟨j, hj, rfl, hno, hn, hr, hB⟩ := hrel
    have HN := Lib.hid hn
    have HR := Lib.hid hr
    have HB := Lib.hid hB
    have hlt := hr.lt
    have hlt0 : w.heap.size < wr.heap.size := by omega
    have hne1 : ¬ w.heap.size = wr.heap.size := by omega
    have hne2 : ¬ w.heap.size + 1 = wr.heap.size := by omega
    have n0 := hn.cell 0
    have n1 := hn.cell 1
    have r0 := hr.cell 0
    have r1 := hr.cell 1
    have r2 := hr.cell 2
    have r3 := hr.cell 3
    have r4 := hr.cell 4
    have r5 := hr.cell 5
    have r6 := hr.cell 6
    have f0 := hr.frozen 0
    have f1 := hr.frozen 1
    have f2 := hr.frozen 2
    have f3 := hr.frozen 3
    have f4 := hr.frozen 4
    have f5 := hr.frozen 5
    have f6 := hr.frozen 6
    simp at n0 n1 r0 r1 r2 r3 r4 r5 r6
    clear hn hr hB HN0 HR0 HB0
    have h9 : j = 0 ∨ j = 1 ∨ j = 2 ∨ j = 3 ∨ j = 4 ∨ j = 5 ∨ j = 6 ∨ j = 7 := by omega
    rcases h9 with rfl | rfl | rfl | rfl | rfl | rfl | rfl | rfl
    · have HI : ∀ W : World, (Instr.index 155 (.agg nodeFormsCells.toArray) (.int .i64 0)).run Tryd.prog W = .ok (.agg #[.int .i64 1, .int .i64 0, .int .i64 3, .int .i64 0, .string ⟨#[]⟩, .string ⟨#[]⟩, .string ⟨#[]⟩]) W := fun _ => by kernel_rfl
      by_cases hu : k = 1
      · subst hu
        have HOK := Lib.hid (ok_in (k := 1) (v := v) ⟨by omega, by omega⟩)
        by_cases hv0 : 0 ≤ v
        · by_cases hv1 : v ≤ 3
          · have R := Lib.hid (show fmOk 1 v = true by rw [HOK.out, decide_eq_true hv0, decide_eq_true (show v ≤ fmM 1 from hv1)]; rfl)
            clear HOK
            go_wp2
            have HB9 := Lib.hid (show Below w.heap.size w (wr.alloc (.cells #[.int .i64 1, .int .i64 0, .int .i64 3, .int .i64 0, .string ⟨#[]⟩, .string ⟨#[]⟩, .string ⟨#[]⟩] 137)).drew from (HB.out.alloc HB.out.size _).drew)
            go_region
            go_wp2
            refine bodyPost_ret (v := .tuple #[.agg #[.int .i64 1, .int .i64 0, .int .i64 3, .int .i64 0, .string ⟨#[]⟩, .string ⟨#[]⟩, .string ⟨#[]⟩], .bool true]) (by simp [results, Tryd.results118, go_sem, r0, r1, r2, r3, r4, r5, r6, hlt, hne2]) rfl ⟨?_, ?_⟩
            · rw [R.out]; rfl
            · exact ((((((((HB.out.setCell (show w.heap.size ≤ w.heap.size + 1 by omega) _).setCell (show w.heap.size ≤ w.heap.size + 1 by omega) _).setCell (show w.heap.size ≤ w.heap.size + 1 by omega) _).setCell (show w.heap.size ≤ w.heap.size + 1 by omega) _).setCell (show w.heap.size ≤ w.heap.size + 1 by omega) _).setCell (show w.heap.size ≤ w.heap.size + 1 by omega) _).setCell (show w.heap.size ≤ w.heap.size + 1 by omega) _).alloc (by simpa using HB.out.size) _).drew
          · have R := Lib.hid (show fmOk 1 v = false by rw [HOK.out, decide_eq_true hv0, decide_eq_false (show ¬ v ≤ fmM 1 from hv1)]; rfl)
            have d1 : decide (v ≤ 3) = false := decide_eq_false hv1
            clear hv1
            clear HOK
            go_wp2
            have HB9 := Lib.hid (show Below w.heap.size w (wr.alloc (.cells #[.int .i64 1, .int .i64 0, .int .i64 3, .int .i64 0, .string ⟨#[]⟩, .string ⟨#[]⟩, .string ⟨#[]⟩] 137)).drew from (HB.out.alloc HB.out.size _).drew)
            go_region
            go_wp2
            refine bodyPost_ret (v := .tuple #[.agg #[.int .i64 1, .int .i64 0, .int .i64 3, .int .i64 0, .string ⟨#[]⟩, .string ⟨#[]⟩, .string ⟨#[]⟩], .bool false]) (by simp [results, Tryd.results118, go_sem, r0, r1, r2, r3, r4, r5, r6, hlt, hne2]) rfl ⟨?_, ?_⟩
            · rw [R.out]; rfl
            · exact ((((((((HB.out.setCell (show w.heap.size ≤ w.heap.size + 1 by omega) _).setCell (show w.heap.size ≤ w.heap.size + 1 by omega) _).setCell (show w.heap.size ≤ w.heap.size + 1 by omega) _).setCell (show w.heap.size ≤ w.heap.size + 1 by omega) _).setCell (show w.heap.size ≤ w.heap.size + 1 by omega) _).setCell (show w.heap.size ≤ w.heap.size + 1 by omega) _).setCell (show w.heap.size ≤ w.heap.size + 1 by omega) _).alloc (by simpa using HB.out.size) _).drew
        · have R := Lib.hid (show fmOk 1 v = false by rw [HOK.out, decide_eq_false hv0]; rfl)
          have d0 : decide (0 ≤ v) = false := decide_eq_false hv0
          clear hv0
          clear HOK
          go_wp2
          have HB9 := Lib.hid (show Below w.heap.size w (wr.alloc (.cells #[.int .i64 1, .int .i64 0, .int .i64 3, .int .i64 0, .string ⟨#[]⟩, .string ⟨#[]⟩, .string ⟨#[]⟩] 137)).drew from (HB.out.alloc HB.out.size _).drew)
          go_region
          go_wp2
          refine bodyPost_ret (v := .tuple #[.agg #[.int .i64 1, .int .i64 0, .int .i64 3, .int .i64 0, .string ⟨#[]⟩, .string ⟨#[]⟩, .string ⟨#[]⟩], .bool false]) (by simp [results, Tryd.results118, go_sem, r0, r1, r2, r3, r4, r5, r6, hlt, hne2]) rfl ⟨?_, ?_⟩
          · rw [R.out]; rfl
          · exact ((((((((HB.out.setCell (show w.heap.size ≤ w.heap.size + 1 by omega) _).setCell (show w.heap.size ≤ w.heap.size + 1 by omega) _).setCell (show w.heap.size ≤ w.heap.size + 1 by omega) _).setCell (show w.heap.size ≤ w.heap.size + 1 by omega) _).setCell (show w.heap.size ≤ w.heap.size + 1 by omega) _).setCell (show w.heap.size ≤ w.heap.size + 1 by omega) _).setCell (show w.heap.size ≤ w.heap.size + 1 by omega) _).alloc (by simpa using HB.out.size) _).drew
      · have hne : ((1 : Int) == k) = false := by simp; omega
        go_wp2
        go_roundw
        case rel => exact ⟨1, by omega, rfl, by omega, HN.out.alloc _, HR.out.alloc _, HB.out.alloc HB.out.size _⟩
        case measure => decide
    · have HI : ∀ W : World, (Instr.index 155 (.agg nodeFormsCells.toArray) (.int .i64 1)).run Tryd.prog W = .ok (.agg #[.int .i64 2, .int .i64 0, .int .i64 9000, .int .i64 0, .string ⟨#[]⟩, .string ⟨#[]⟩, .string ⟨#[]⟩]) W := fun _ => by kernel_rfl
      by_cases hu : k = 2
      · subst hu
        have HOK := Lib.hid (ok_in (k := 2) (v := v) ⟨by omega, by omega⟩)
        by_cases hv0 : 0 ≤ v
        · by_cases hv1 : v ≤ 9000
          · have R := Lib.hid (show fmOk 2 v = true by rw [HOK.out, decide_eq_true hv0, decide_eq_true (show v ≤ fmM 2 from hv1)]; rfl)
            clear HOK
            go_wp2
            have HB9 := Lib.hid (show Below w.heap.size w (wr.alloc (.cells #[.int .i64 2, .int .i64 0, .int .i64 9000, .int .i64 0, .string ⟨#[]⟩, .string ⟨#[]⟩, .string ⟨#[]⟩] 137)).drew from (HB.out.alloc HB.out.size _).drew)
            go_region
            go_wp2
            refine bodyPost_ret (v := .tuple #[.agg #[.int .i64 2, .int .i64 0, .int .i64 9000, .int .i64 0, .string ⟨#[]⟩, .string ⟨#[]⟩, .string ⟨#[]⟩], .bool true]) (by simp [results, Tryd.results118, go_sem, r0, r1, r2, r3, r4, r5, r6, hlt, hne2]) rfl ⟨?_, ?_⟩
            · rw [R.out]; rfl
            · exact ((((((((HB.out.setCell (show w.heap.size ≤ w.heap.size + 1 by omega) _).setCell (show w.heap.size ≤ w.heap.size + 1 by omega) _).setCell (show w.heap.size ≤ w.heap.size + 1 by omega) _).setCell (show w.heap.size ≤ w.heap.size + 1 by omega) _).setCell (show w.heap.size ≤ w.heap.size + 1 by omega) _).setCell (show w.heap.size ≤ w.heap.size + 1 by omega) _).setCell (show w.heap.size ≤ w.heap.size + 1 by omega) _).alloc (by simpa using HB.out.size) _).drew
          · have R := Lib.hid (show fmOk 2 v = false by rw [HOK.out, decide_eq_true hv0, decide_eq_false (show ¬ v ≤ fmM 2 from hv1)]; rfl)
            have d1 : decide (v ≤ 9000) = false := decide_eq_false hv1
            clear hv1
            clear HOK
            go_wp2
            have HB9 := Lib.hid (show Below w.heap.size w (wr.alloc (.cells #[.int .i64 2, .int .i64 0, .int .i64 9000, .int .i64 0, .string ⟨#[]⟩, .string ⟨#[]⟩, .string ⟨#[]⟩] 137)).drew from (HB.out.alloc HB.out.size _).drew)
            go_region
            go_wp2
            refine bodyPost_ret (v := .tuple #[.agg #[.int .i64 2, .int .i64 0, .int .i64 9000, .int .i64 0, .string ⟨#[]⟩, .string ⟨#[]⟩, .string ⟨#[]⟩], .bool false]) (by simp [results, Tryd.results118, go_sem, r0, r1, r2, r3, r4, r5, r6, hlt, hne2]) rfl ⟨?_, ?_⟩
            · rw [R.out]; rfl
            · exact ((((((((HB.out.setCell (show w.heap.size ≤ w.heap.size + 1 by omega) _).setCell (show w.heap.size ≤ w.heap.size + 1 by omega) _).setCell (show w.heap.size ≤ w.heap.size + 1 by omega) _).setCell (show w.heap.size ≤ w.heap.size + 1 by omega) _).setCell (show w.heap.size ≤ w.heap.size + 1 by omega) _).setCell (show w.heap.size ≤ w.heap.size + 1 by omega) _).setCell (show w.heap.size ≤ w.heap.size + 1 by omega) _).alloc (by simpa using HB.out.size) _).drew
        · have R := Lib.hid (show fmOk 2 v = false by rw [HOK.out, decide_eq_false hv0]; rfl)
          have d0 : decide (0 ≤ v) = false := decide_eq_false hv0
          clear hv0
          clear HOK
          go_wp2
          have HB9 := Lib.hid (show Below w.heap.size w (wr.alloc (.cells #[.int .i64 2, .int .i64 0, .int .i64 9000, .int .i64 0, .string ⟨#[]⟩, .string ⟨#[]⟩, .string ⟨#[]⟩] 137)).drew from (HB.out.alloc HB.out.size _).drew)
          go_region
          go_wp2
          refine bodyPost_ret (v := .tuple #[.agg #[.int .i64 2, .int .i64 0, .int .i64 9000, .int .i64 0, .string ⟨#[]⟩, .string ⟨#[]⟩, .string ⟨#[]⟩], .bool false]) (by simp [results, Tryd.results118, go_sem, r0, r1, r2, r3, r4, r5, r6, hlt, hne2]) rfl ⟨?_, ?_⟩
          · rw [R.out]; rfl
          · exact ((((((((HB.out.setCell (show w.heap.size ≤ w.heap.size + 1 by omega) _).setCell (show w.heap.size ≤ w.heap.size + 1 by omega) _).setCell (show w.heap.size ≤ w.heap.size + 1 by omega) _).setCell (show w.heap.size ≤ w.heap.size + 1 by omega) _).setCell (show w.heap.size ≤ w.heap.size + 1 by omega) _).setCell (show w.heap.size ≤ w.heap.size + 1 by omega) _).setCell (show w.heap.size ≤ w.heap.size + 1 by omega) _).alloc (by simpa using HB.out.size) _).drew
      · have hne : ((2 : Int) == k) = false := by simp; omega
        go_wp2
        go_roundw
        case rel => exact ⟨2, by omega, rfl, by omega, HN.out.alloc _, HR.out.alloc _, HB.out.alloc HB.out.size _⟩
        case measure => decide
    · have HI : ∀ W : World, (Instr.index 155 (.agg nodeFormsCells.toArray) (.int .i64 2)).run Tryd.prog W = .ok (.agg #[.int .i64 3, .int .i64 2, .int .i64 0, .int .i64 1, .string ⟨#[]⟩, .string ⟨#[43]⟩, .string ⟨#[]⟩]) W := fun _ => by kernel_rfl
      by_cases hu : k = 3
      · subst hu
        have HOK := Lib.hid (ok_in (k := 3) (v := v) ⟨by omega, by omega⟩)
        by_cases hv0 : 0 ≤ v
        · by_cases hv1 : v ≤ 0
          · have R := Lib.hid (show fmOk 3 v = true by rw [HOK.out, decide_eq_true hv0, decide_eq_true (show v ≤ fmM 3 from hv1)]; rfl)
            clear HOK
            go_wp2
            have HB9 := Lib.hid (show Below w.heap.size w (wr.alloc (.cells #[.int .i64 3, .int .i64 2, .int .i64 0, .int .i64 1, .string ⟨#[]⟩, .string ⟨#[43]⟩, .string ⟨#[]⟩] 137)).drew from (HB.out.alloc HB.out.size _).drew)
            go_region
            go_wp2
            refine bodyPost_ret (v := .tuple #[.agg #[.int .i64 3, .int .i64 2, .int .i64 0, .int .i64 1, .string ⟨#[]⟩, .string ⟨#[43]⟩, .string ⟨#[]⟩], .bool true]) (by simp [results, Tryd.results118, go_sem, r0, r1, r2, r3, r4, r5, r6, hlt, hne2]) rfl ⟨?_, ?_⟩
            · rw [R.out]; rfl
            · exact ((((((((HB.out.setCell (show w.heap.size ≤ w.heap.size + 1 by omega) _).setCell (show w.heap.size ≤ w.heap.size + 1 by omega) _).setCell (show w.heap.size ≤ w.heap.size + 1 by omega) _).setCell (show w.heap.size ≤ w.heap.size + 1 by omega) _).setCell (show w.heap.size ≤ w.heap.size + 1 by omega) _).setCell (show w.heap.size ≤ w.heap.size + 1 by omega) _).setCell (show w.heap.size ≤ w.heap.size + 1 by omega) _).alloc (by simpa using HB.out.size) _).drew
          · have R := Lib.hid (show fmOk 3 v = false by rw [HOK.out, decide_eq_true hv0, decide_eq_false (show ¬ v ≤ fmM 3 from hv1)]; rfl)
            have d1 : decide (v ≤ 0) = false := decide_eq_false hv1
            clear hv1
            clear HOK
            go_wp2
            have HB9 := Lib.hid (show Below w.heap.size w (wr.alloc (.cells #[.int .i64 3, .int .i64 2, .int .i64 0, .int .i64 1, .string ⟨#[]⟩, .string ⟨#[43]⟩, .string ⟨#[]⟩] 137)).drew from (HB.out.alloc HB.out.size _).drew)
            go_region
            go_wp2
            refine bodyPost_ret (v := .tuple #[.agg #[.int .i64 3, .int .i64 2, .int .i64 0, .int .i64 1, .string ⟨#[]⟩, .string ⟨#[43]⟩, .string ⟨#[]⟩], .bool false]) (by simp [results, Tryd.results118, go_sem, r0, r1, r2, r3, r4, r5, r6, hlt, hne2]) rfl ⟨?_, ?_⟩
            · rw [R.out]; rfl
            · exact ((((((((HB.out.setCell (show w.heap.size ≤ w.heap.size + 1 by omega) _).setCell (show w.heap.size ≤ w.heap.size + 1 by omega) _).setCell (show w.heap.size ≤ w.heap.size + 1 by omega) _).setCell (show w.heap.size ≤ w.heap.size + 1 by omega) _).setCell (show w.heap.size ≤ w.heap.size + 1 by omega) _).setCell (show w.heap.size ≤ w.heap.size + 1 by omega) _).setCell (show w.heap.size ≤ w.heap.size + 1 by omega) _).alloc (by simpa using HB.out.size) _).drew
        · have R := Lib.hid (show fmOk 3 v = false by rw [HOK.out, decide_eq_false hv0]; rfl)
          have d0 : decide (0 ≤ v) = false := decide_eq_false hv0
          clear hv0
          clear HOK
          go_wp2
          have HB9 := Lib.hid (show Below w.heap.size w (wr.alloc (.cells #[.int .i64 3, .int .i64 2, .int .i64 0, .int .i64 1, .string ⟨#[]⟩, .string ⟨#[43]⟩, .string ⟨#[]⟩] 137)).drew from (HB.out.alloc HB.out.size _).drew)
          go_region
          go_wp2
          refine bodyPost_ret (v := .tuple #[.agg #[.int .i64 3, .int .i64 2, .int .i64 0, .int .i64 1, .string ⟨#[]⟩, .string ⟨#[43]⟩, .string ⟨#[]⟩], .bool false]) (by simp [results, Tryd.results118, go_sem, r0, r1, r2, r3, r4, r5, r6, hlt, hne2]) rfl ⟨?_, ?_⟩
          · rw [R.out]; rfl
          · exact ((((((((HB.out.setCell (show w.heap.size ≤ w.heap.size + 1 by omega) _).setCell (show w.heap.size ≤ w.heap.size + 1 by omega) _).setCell (show w.heap.size ≤ w.heap.size + 1 by omega) _).setCell (show w.heap.size ≤ w.heap.size + 1 by omega) _).setCell (show w.heap.size ≤ w.heap.size + 1 by omega) _).setCell (show w.heap.size ≤ w.heap.size + 1 by omega) _).setCell (show w.heap.size ≤ w.heap.size + 1 by omega) _).alloc (by simpa using HB.out.size) _).drew
      · have hne : ((3 : Int) == k) = false := by simp; omega
        go_wp2
        go_roundw
        case rel => exact ⟨3, by omega, rfl, by omega, HN.out.alloc _, HR.out.alloc _, HB.out.alloc HB.out.size _⟩
        case measure => decide
    · have HI : ∀ W : World, (Instr.index 155 (.agg nodeFormsCells.toArray) (.int .i64 3)).run Tryd.prog W = .ok (.agg #[.int .i64 4, .int .i64 2, .int .i64 0, .int .i64 2, .string ⟨#[]⟩, .string ⟨#[45]⟩, .string ⟨#[]⟩]) W := fun _ => by kernel_rfl
      by_cases hu : k = 4
      · subst hu
        have HOK := Lib.hid (ok_in (k := 4) (v := v) ⟨by omega, by omega⟩)
        by_cases hv0 : 0 ≤ v
        · by_cases hv1 : v ≤ 0
          · have R := Lib.hid (show fmOk 4 v = true by rw [HOK.out, decide_eq_true hv0, decide_eq_true (show v ≤ fmM 4 from hv1)]; rfl)
            clear HOK
            go_wp2
            have HB9 := Lib.hid (show Below w.heap.size w (wr.alloc (.cells #[.int .i64 4, .int .i64 2, .int .i64 0, .int .i64 2, .string ⟨#[]⟩, .string ⟨#[45]⟩, .string ⟨#[]⟩] 137)).drew from (HB.out.alloc HB.out.size _).drew)
            go_region
            go_wp2
            refine bodyPost_ret (v := .tuple #[.agg #[.int .i64 4, .int .i64 2, .int .i64 0, .int .i64 2, .string ⟨#[]⟩, .string ⟨#[45]⟩, .string ⟨#[]⟩], .bool true]) (by simp [results, Tryd.results118, go_sem, r0, r1, r2, r3, r4, r5, r6, hlt, hne2]) rfl ⟨?_, ?_⟩
            · rw [R.out]; rfl
            · exact ((((((((HB.out.setCell (show w.heap.size ≤ w.heap.size + 1 by omega) _).setCell (show w.heap.size ≤ w.heap.size + 1 by omega) _).setCell (show w.heap.size ≤ w.heap.size + 1 by omega) _).setCell (show w.heap.size ≤ w.heap.size + 1 by omega) _).setCell (show w.heap.size ≤ w.heap.size + 1 by omega) _).setCell (show w.heap.size ≤ w.heap.size + 1 by omega) _).setCell (show w.heap.size ≤ w.heap.size + 1 by omega) _).alloc (by simpa using HB.out.size) _).drew
          · have R := Lib.hid (show fmOk 4 v = false by rw [HOK.out, decide_eq_true hv0, decide_eq_false (show ¬ v ≤ fmM 4 from hv1)]; rfl)
            have d1 : decide (v ≤ 0) = false := decide_eq_false hv1
            clear hv1
            clear HOK
            go_wp2
            have HB9 := Lib.hid (show Below w.heap.size w (wr.alloc (.cells #[.int .i64 4, .int .i64 2, .int .i64 0, .int .i64 2, .string ⟨#[]⟩, .string ⟨#[45]⟩, .string ⟨#[]⟩] 137)).drew from (HB.out.alloc HB.out.size _).drew)
            go_region
            go_wp2
            refine bodyPost_ret (v := .tuple #[.agg #[.int .i64 4, .int .i64 2, .int .i64 0, .int .i64 2, .string ⟨#[]⟩, .string ⟨#[45]⟩, .string ⟨#[]⟩], .bool false]) (by simp [results, Tryd.results118, go_sem, r0, r1, r2, r3, r4, r5, r6, hlt, hne2]) rfl ⟨?_, ?_⟩
            · rw [R.out]; rfl
            · exact ((((((((HB.out.setCell (show w.heap.size ≤ w.heap.size + 1 by omega) _).setCell (show w.heap.size ≤ w.heap.size + 1 by omega) _).setCell (show w.heap.size ≤ w.heap.size + 1 by omega) _).setCell (show w.heap.size ≤ w.heap.size + 1 by omega) _).setCell (show w.heap.size ≤ w.heap.size + 1 by omega) _).setCell (show w.heap.size ≤ w.heap.size + 1 by omega) _).setCell (show w.heap.size ≤ w.heap.size + 1 by omega) _).alloc (by simpa using HB.out.size) _).drew
        · have R := Lib.hid (show fmOk 4 v = false by rw [HOK.out, decide_eq_false hv0]; rfl)
          have d0 : decide (0 ≤ v) = false := decide_eq_false hv0
          clear hv0
          clear HOK
          go_wp2
          have HB9 := Lib.hid (show Below w.heap.size w (wr.alloc (.cells #[.int .i64 4, .int .i64 2, .int .i64 0, .int .i64 2, .string ⟨#[]⟩, .string ⟨#[45]⟩, .string ⟨#[]⟩] 137)).drew from (HB.out.alloc HB.out.size _).drew)
          go_region
          go_wp2
          refine bodyPost_ret (v := .tuple #[.agg #[.int .i64 4, .int .i64 2, .int .i64 0, .int .i64 2, .string ⟨#[]⟩, .string ⟨#[45]⟩, .string ⟨#[]⟩], .bool false]) (by simp [results, Tryd.results118, go_sem, r0, r1, r2, r3, r4, r5, r6, hlt, hne2]) rfl ⟨?_, ?_⟩
          · rw [R.out]; rfl
          · exact ((((((((HB.out.setCell (show w.heap.size ≤ w.heap.size + 1 by omega) _).setCell (show w.heap.size ≤ w.heap.size + 1 by omega) _).setCell (show w.heap.size ≤ w.heap.size + 1 by omega) _).setCell (show w.heap.size ≤ w.heap.size + 1 by omega) _).setCell (show w.heap.size ≤ w.heap.size + 1 by omega) _).setCell (show w.heap.size ≤ w.heap.size + 1 by omega) _).setCell (show w.heap.size ≤ w.heap.size + 1 by omega) _).alloc (by simpa using HB.out.size) _).drew
      · have hne : ((4 : Int) == k) = false := by simp; omega
        go_wp2
        go_roundw
        case rel => exact ⟨4, by omega, rfl, by omega, HN.out.alloc _, HR.out.alloc _, HB.out.alloc HB.out.size _⟩
        case measure => decide
    · have HI : ∀ W : World, (Instr.index 155 (.agg nodeFormsCells.toArray) (.int .i64 4)).run Tryd.prog W = .ok (.agg #[.int .i64 5, .int .i64 2, .int .i64 0, .int .i64 3, .string ⟨#[109, 105, 110, 40]⟩, .string ⟨#[44]⟩, .string ⟨#[41]⟩]) W := fun _ => by kernel_rfl
      by_cases hu : k = 5
      · subst hu
        have HOK := Lib.hid (ok_in (k := 5) (v := v) ⟨by omega, by omega⟩)
        by_cases hv0 : 0 ≤ v
        · by_cases hv1 : v ≤ 0
          · have R := Lib.hid (show fmOk 5 v = true by rw [HOK.out, decide_eq_true hv0, decide_eq_true (show v ≤ fmM 5 from hv1)]; rfl)
            clear HOK
            go_wp2
            have HB9 := Lib.hid (show Below w.heap.size w (wr.alloc (.cells #[.int .i64 5, .int .i64 2, .int .i64 0, .int .i64 3, .string ⟨#[109, 105, 110, 40]⟩, .string ⟨#[44]⟩, .string ⟨#[41]⟩] 137)).drew from (HB.out.alloc HB.out.size _).drew)
            go_region
            go_wp2
            refine bodyPost_ret (v := .tuple #[.agg #[.int .i64 5, .int .i64 2, .int .i64 0, .int .i64 3, .string ⟨#[109, 105, 110, 40]⟩, .string ⟨#[44]⟩, .string ⟨#[41]⟩], .bool true]) (by simp [results, Tryd.results118, go_sem, r0, r1, r2, r3, r4, r5, r6, hlt, hne2]) rfl ⟨?_, ?_⟩
            · rw [R.out]; rfl
            · exact ((((((((HB.out.setCell (show w.heap.size ≤ w.heap.size + 1 by omega) _).setCell (show w.heap.size ≤ w.heap.size + 1 by omega) _).setCell (show w.heap.size ≤ w.heap.size + 1 by omega) _).setCell (show w.heap.size ≤ w.heap.size + 1 by omega) _).setCell (show w.heap.size ≤ w.heap.size + 1 by omega) _).setCell (show w.heap.size ≤ w.heap.size + 1 by omega) _).setCell (show w.heap.size ≤ w.heap.size + 1 by omega) _).alloc (by simpa using HB.out.size) _).drew
          · have R := Lib.hid (show fmOk 5 v = false by rw [HOK.out, decide_eq_true hv0, decide_eq_false (show ¬ v ≤ fmM 5 from hv1)]; rfl)
            have d1 : decide (v ≤ 0) = false := decide_eq_false hv1
            clear hv1
            clear HOK
            go_wp2
            have HB9 := Lib.hid (show Below w.heap.size w (wr.alloc (.cells #[.int .i64 5, .int .i64 2, .int .i64 0, .int .i64 3, .string ⟨#[109, 105, 110, 40]⟩, .string ⟨#[44]⟩, .string ⟨#[41]⟩] 137)).drew from (HB.out.alloc HB.out.size _).drew)
            go_region
            go_wp2
            refine bodyPost_ret (v := .tuple #[.agg #[.int .i64 5, .int .i64 2, .int .i64 0, .int .i64 3, .string ⟨#[109, 105, 110, 40]⟩, .string ⟨#[44]⟩, .string ⟨#[41]⟩], .bool false]) (by simp [results, Tryd.results118, go_sem, r0, r1, r2, r3, r4, r5, r6, hlt, hne2]) rfl ⟨?_, ?_⟩
            · rw [R.out]; rfl
            · exact ((((((((HB.out.setCell (show w.heap.size ≤ w.heap.size + 1 by omega) _).setCell (show w.heap.size ≤ w.heap.size + 1 by omega) _).setCell (show w.heap.size ≤ w.heap.size + 1 by omega) _).setCell (show w.heap.size ≤ w.heap.size + 1 by omega) _).setCell (show w.heap.size ≤ w.heap.size + 1 by omega) _).setCell (show w.heap.size ≤ w.heap.size + 1 by omega) _).setCell (show w.heap.size ≤ w.heap.size + 1 by omega) _).alloc (by simpa using HB.out.size) _).drew
        · have R := Lib.hid (show fmOk 5 v = false by rw [HOK.out, decide_eq_false hv0]; rfl)
          have d0 : decide (0 ≤ v) = false := decide_eq_false hv0
          clear hv0
          clear HOK
          go_wp2
          have HB9 := Lib.hid (show Below w.heap.size w (wr.alloc (.cells #[.int .i64 5, .int .i64 2, .int .i64 0, .int .i64 3, .string ⟨#[109, 105, 110, 40]⟩, .string ⟨#[44]⟩, .string ⟨#[41]⟩] 137)).drew from (HB.out.alloc HB.out.size _).drew)
          go_region
          go_wp2
          refine bodyPost_ret (v := .tuple #[.agg #[.int .i64 5, .int .i64 2, .int .i64 0, .int .i64 3, .string ⟨#[109, 105, 110, 40]⟩, .string ⟨#[44]⟩, .string ⟨#[41]⟩], .bool false]) (by simp [results, Tryd.results118, go_sem, r0, r1, r2, r3, r4, r5, r6, hlt, hne2]) rfl ⟨?_, ?_⟩
          · rw [R.out]; rfl
          · exact ((((((((HB.out.setCell (show w.heap.size ≤ w.heap.size + 1 by omega) _).setCell (show w.heap.size ≤ w.heap.size + 1 by omega) _).setCell (show w.heap.size ≤ w.heap.size + 1 by omega) _).setCell (show w.heap.size ≤ w.heap.size + 1 by omega) _).setCell (show w.heap.size ≤ w.heap.size + 1 by omega) _).setCell (show w.heap.size ≤ w.heap.size + 1 by omega) _).setCell (show w.heap.size ≤ w.heap.size + 1 by omega) _).alloc (by simpa using HB.out.size) _).drew
      · have hne : ((5 : Int) == k) = false := by simp; omega
        go_wp2
        go_roundw
        case rel => exact ⟨5, by omega, rfl, by omega, HN.out.alloc _, HR.out.alloc _, HB.out.alloc HB.out.size _⟩
        case measure => decide
    · have HI : ∀ W : World, (Instr.index 155 (.agg nodeFormsCells.toArray) (.int .i64 5)).run Tryd.prog W = .ok (.agg #[.int .i64 6, .int .i64 2, .int .i64 0, .int .i64 4, .string ⟨#[109, 97, 120, 40]⟩, .string ⟨#[44]⟩, .string ⟨#[41]⟩]) W := fun _ => by kernel_rfl
      by_cases hu : k = 6
      · subst hu
        have HOK := Lib.hid (ok_in (k := 6) (v := v) ⟨by omega, by omega⟩)
        by_cases hv0 : 0 ≤ v
        · by_cases hv1 : v ≤ 0
          · have R := Lib.hid (show fmOk 6 v = true by rw [HOK.out, decide_eq_true hv0, decide_eq_true (show v ≤ fmM 6 from hv1)]; rfl)
            clear HOK
            go_wp2
            have HB9 := Lib.hid (show Below w.heap.size w (wr.alloc (.cells #[.int .i64 6, .int .i64 2, .int .i64 0, .int .i64 4, .string ⟨#[109, 97, 120, 40]⟩, .string ⟨#[44]⟩, .string ⟨#[41]⟩] 137)).drew from (HB.out.alloc HB.out.size _).drew)
            go_region
            go_wp2
            refine bodyPost_ret (v := .tuple #[.agg #[.int .i64 6, .int .i64 2, .int .i64 0, .int .i64 4, .string ⟨#[109, 97, 120, 40]⟩, .string ⟨#[44]⟩, .string ⟨#[41]⟩], .bool true]) (by simp [results, Tryd.results118, go_sem, r0, r1, r2, r3, r4, r5, r6, hlt, hne2]) rfl ⟨?_, ?_⟩
            · rw [R.out]; rfl
            · exact ((((((((HB.out.setCell (show w.heap.size ≤ w.heap.size + 1 by omega) _).setCell (show w.heap.size ≤ w.heap.size + 1 by omega) _).setCell (show w.heap.size ≤ w.heap.size + 1 by omega) _).setCell (show w.heap.size ≤ w.heap.size + 1 by omega) _).setCell (show w.heap.size ≤ w.heap.size + 1 by omega) _).setCell (show w.heap.size ≤ w.heap.size + 1 by omega) _).setCell (show w.heap.size ≤ w.heap.size + 1 by omega) _).alloc (by simpa using HB.out.size) _).drew
          · have R := Lib.hid (show fmOk 6 v = false by rw [HOK.out, decide_eq_true hv0, decide_eq_false (show ¬ v ≤ fmM 6 from hv1)]; rfl)
            have d1 : decide (v ≤ 0) = false := decide_eq_false hv1
            clear hv1
            clear HOK
            go_wp2
            have HB9 := Lib.hid (show Below w.heap.size w (wr.alloc (.cells #[.int .i64 6, .int .i64 2, .int .i64 0, .int .i64 4, .string ⟨#[109, 97, 120, 40]⟩, .string ⟨#[44]⟩, .string ⟨#[41]⟩] 137)).drew from (HB.out.alloc HB.out.size _).drew)
            go_region
            go_wp2
            refine bodyPost_ret (v := .tuple #[.agg #[.int .i64 6, .int .i64 2, .int .i64 0, .int .i64 4, .string ⟨#[109, 97, 120, 40]⟩, .string ⟨#[44]⟩, .string ⟨#[41]⟩], .bool false]) (by simp [results, Tryd.results118, go_sem, r0, r1, r2, r3, r4, r5, r6, hlt, hne2]) rfl ⟨?_, ?_⟩
            · rw [R.out]; rfl
            · exact ((((((((HB.out.setCell (show w.heap.size ≤ w.heap.size + 1 by omega) _).setCell (show w.heap.size ≤ w.heap.size + 1 by omega) _).setCell (show w.heap.size ≤ w.heap.size + 1 by omega) _).setCell (show w.heap.size ≤ w.heap.size + 1 by omega) _).setCell (show w.heap.size ≤ w.heap.size + 1 by omega) _).setCell (show w.heap.size ≤ w.heap.size + 1 by omega) _).setCell (show w.heap.size ≤ w.heap.size + 1 by omega) _).alloc (by simpa using HB.out.size) _).drew
        · have R := Lib.hid (show fmOk 6 v = false by rw [HOK.out, decide_eq_false hv0]; rfl)
          have d0 : decide (0 ≤ v) = false := decide_eq_false hv0
          clear hv0
          clear HOK
          go_wp2
          have HB9 := Lib.hid (show Below w.heap.size w (wr.alloc (.cells #[.int .i64 6, .int .i64 2, .int .i64 0, .int .i64 4, .string ⟨#[109, 97, 120, 40]⟩, .string ⟨#[44]⟩, .string ⟨#[41]⟩] 137)).drew from (HB.out.alloc HB.out.size _).drew)
          go_region
          go_wp2
          refine bodyPost_ret (v := .tuple #[.agg #[.int .i64 6, .int .i64 2, .int .i64 0, .int .i64 4, .string ⟨#[109, 97, 120, 40]⟩, .string ⟨#[44]⟩, .string ⟨#[41]⟩], .bool false]) (by simp [results, Tryd.results118, go_sem, r0, r1, r2, r3, r4, r5, r6, hlt, hne2]) rfl ⟨?_, ?_⟩
          · rw [R.out]; rfl
          · exact ((((((((HB.out.setCell (show w.heap.size ≤ w.heap.size + 1 by omega) _).setCell (show w.heap.size ≤ w.heap.size + 1 by omega) _).setCell (show w.heap.size ≤ w.heap.size + 1 by omega) _).setCell (show w.heap.size ≤ w.heap.size + 1 by omega) _).setCell (show w.heap.size ≤ w.heap.size + 1 by omega) _).setCell (show w.heap.size ≤ w.heap.size + 1 by omega) _).setCell (show w.heap.size ≤ w.heap.size + 1 by omega) _).alloc (by simpa using HB.out.size) _).drew
      · have hne : ((6 : Int) == k) = false := by simp; omega
        go_wp2
        go_roundw
        case rel => exact ⟨6, by omega, rfl, by omega, HN.out.alloc _, HR.out.alloc _, HB.out.alloc HB.out.size _⟩
        case measure => decide
    · have HI : ∀ W : World, (Instr.index 155 (.agg nodeFormsCells.toArray) (.int .i64 6)).run Tryd.prog W = .ok (.agg #[.int .i64 7, .int .i64 1, .int .i64 9000, .int .i64 0, .string ⟨#[97, 98, 111, 118, 101, 40]⟩, .string ⟨#[44]⟩, .string ⟨#[41]⟩]) W := fun _ => by kernel_rfl
      by_cases hu : k = 7
      · subst hu
        have HOK := Lib.hid (ok_in (k := 7) (v := v) ⟨by omega, by omega⟩)
        by_cases hv0 : 0 ≤ v
        · by_cases hv1 : v ≤ 9000
          · have R := Lib.hid (show fmOk 7 v = true by rw [HOK.out, decide_eq_true hv0, decide_eq_true (show v ≤ fmM 7 from hv1)]; rfl)
            clear HOK
            go_wp2
            have HB9 := Lib.hid (show Below w.heap.size w (wr.alloc (.cells #[.int .i64 7, .int .i64 1, .int .i64 9000, .int .i64 0, .string ⟨#[97, 98, 111, 118, 101, 40]⟩, .string ⟨#[44]⟩, .string ⟨#[41]⟩] 137)).drew from (HB.out.alloc HB.out.size _).drew)
            go_region
            go_wp2
            refine bodyPost_ret (v := .tuple #[.agg #[.int .i64 7, .int .i64 1, .int .i64 9000, .int .i64 0, .string ⟨#[97, 98, 111, 118, 101, 40]⟩, .string ⟨#[44]⟩, .string ⟨#[41]⟩], .bool true]) (by simp [results, Tryd.results118, go_sem, r0, r1, r2, r3, r4, r5, r6, hlt, hne2]) rfl ⟨?_, ?_⟩
            · rw [R.out]; rfl
            · exact ((((((((HB.out.setCell (show w.heap.size ≤ w.heap.size + 1 by omega) _).setCell (show w.heap.size ≤ w.heap.size + 1 by omega) _).setCell (show w.heap.size ≤ w.heap.size + 1 by omega) _).setCell (show w.heap.size ≤ w.heap.size + 1 by omega) _).setCell (show w.heap.size ≤ w.heap.size + 1 by omega) _).setCell (show w.heap.size ≤ w.heap.size + 1 by omega) _).setCell (show w.heap.size ≤ w.heap.size + 1 by omega) _).alloc (by simpa using HB.out.size) _).drew
          · have R := Lib.hid (show fmOk 7 v = false by rw [HOK.out, decide_eq_true hv0, decide_eq_false (show ¬ v ≤ fmM 7 from hv1)]; rfl)
            have d1 : decide (v ≤ 9000) = false := decide_eq_false hv1
            clear hv1
            clear HOK
            go_wp2
            have HB9 := Lib.hid (show Below w.heap.size w (wr.alloc (.cells #[.int .i64 7, .int .i64 1, .int .i64 9000, .int .i64 0, .string ⟨#[97, 98, 111, 118, 101, 40]⟩, .string ⟨#[44]⟩, .string ⟨#[41]⟩] 137)).drew from (HB.out.alloc HB.out.size _).drew)
            go_region
            go_wp2
            refine bodyPost_ret (v := .tuple #[.agg #[.int .i64 7, .int .i64 1, .int .i64 9000, .int .i64 0, .string ⟨#[97, 98, 111, 118, 101, 40]⟩, .string ⟨#[44]⟩, .string ⟨#[41]⟩], .bool false]) (by simp [results, Tryd.results118, go_sem, r0, r1, r2, r3, r4, r5, r6, hlt, hne2]) rfl ⟨?_, ?_⟩
            · rw [R.out]; rfl
            · exact ((((((((HB.out.setCell (show w.heap.size ≤ w.heap.size + 1 by omega) _).setCell (show w.heap.size ≤ w.heap.size + 1 by omega) _).setCell (show w.heap.size ≤ w.heap.size + 1 by omega) _).setCell (show w.heap.size ≤ w.heap.size + 1 by omega) _).setCell (show w.heap.size ≤ w.heap.size + 1 by omega) _).setCell (show w.heap.size ≤ w.heap.size + 1 by omega) _).setCell (show w.heap.size ≤ w.heap.size + 1 by omega) _).alloc (by simpa using HB.out.size) _).drew
        · have R := Lib.hid (show fmOk 7 v = false by rw [HOK.out, decide_eq_false hv0]; rfl)
          have d0 : decide (0 ≤ v) = false := decide_eq_false hv0
          clear hv0
          clear HOK
          go_wp2
          have HB9 := Lib.hid (show Below w.heap.size w (wr.alloc (.cells #[.int .i64 7, .int .i64 1, .int .i64 9000, .int .i64 0, .string ⟨#[97, 98, 111, 118, 101, 40]⟩, .string ⟨#[44]⟩, .string ⟨#[41]⟩] 137)).drew from (HB.out.alloc HB.out.size _).drew)
          go_region
          go_wp2
          refine bodyPost_ret (v := .tuple #[.agg #[.int .i64 7, .int .i64 1, .int .i64 9000, .int .i64 0, .string ⟨#[97, 98, 111, 118, 101, 40]⟩, .string ⟨#[44]⟩, .string ⟨#[41]⟩], .bool false]) (by simp [results, Tryd.results118, go_sem, r0, r1, r2, r3, r4, r5, r6, hlt, hne2]) rfl ⟨?_, ?_⟩
          · rw [R.out]; rfl
          · exact ((((((((HB.out.setCell (show w.heap.size ≤ w.heap.size + 1 by omega) _).setCell (show w.heap.size ≤ w.heap.size + 1 by omega) _).setCell (show w.heap.size ≤ w.heap.size + 1 by omega) _).setCell (show w.heap.size ≤ w.heap.size + 1 by omega) _).setCell (show w.heap.size ≤ w.heap.size + 1 by omega) _).setCell (show w.heap.size ≤ w.heap.size + 1 by omega) _).setCell (show w.heap.size ≤ w.heap.size + 1 by omega) _).alloc (by simpa using HB.out.size) _).drew
      · have hne : ((7 : Int) == k) = false := by simp; omega
        go_wp2
        go_roundw
        case rel => exact ⟨7, by omega, rfl, by omega, HN.out.alloc _, HR.out.alloc _, HB.out.alloc HB.out.size _⟩
        case measure => decide
    · go_wp2
      obtain ⟨q0, q1, q2, q3, q4, q5, q6⟩ := fm_out (k := k) (by omega)
      refine bodyPost_ret (v := .tuple #[.agg #[.int .i64 0, .int .i64 0, .int .i64 0, .int .i64 0, .string ⟨#[]⟩, .string ⟨#[]⟩, .string ⟨#[]⟩], .bool false]) (by simp [results, Tryd.results118, go_sem, r0, r1, r2, r3, r4, r5, r6]) rfl ⟨?_, ?_⟩
      · unfold formV; rw [q0, q1, q2, q3, q4, q5, q6, ok_out (by omega)]
      · exact (((((((HB.out.setCell (show w.heap.size ≤ w.heap.size + 1 by omega) _).setCell (show w.heap.size ≤ w.heap.size + 1 by omega) _).setCell (show w.heap.size ≤ w.heap.size + 1 by omega) _).setCell (show w.heap.size ≤ w.heap.size + 1 by omega) _).setCell (show w.heap.size ≤ w.heap.size + 1 by omega) _).setCell (show w.heap.size ≤ w.heap.size + 1 by omega) _).setCell (show w.heap.size ≤ w.heap.size + 1 by omega) _)
end Go.Proofs.YtnomcnlmlignbaaDoor
