/- A row of numbers of the call's own; the laws' helpers on slices of numbers: szIntS, toIntS, eqIntS, markIntS, heldIntS. -/
import Derived.Test.YthceffkkokgpnaaChecked
import Derived.Test.YthceffkkokgpnaaInts
import Derived.Test.YthceffkkokgpnaaMemRow
import Derived.Test.YthceffkkokgpnaaOnly
import Derived.WalkKit
import Derived.WalkLawsBesides
import Derived.WalkSpells
import Derived.Below
import Derived.Lib.Hide
import Derived.Deep.OwnRows
import Derived.Deep.QuietTactic
import Derived.BigQuiet
namespace Go.Proofs.Ythceffkkokgpnaa
open Go.RowKit
set_option linter.unusedVariables false
def iv (l : List Int) : List Value := l.map (Value.int .i64)
theorem iv_length (l : List Int) : (iv l).length = l.length := by simp [iv]
theorem iv_get (l : List Int) (k : Nat) (h : k < (iv l).length) : (iv l)[k] = .int .i64 (l[k]'(by simpa [iv] using h)) := by simp [iv]
theorem iv_set (l : List Int) (k : Nat) (z : Int) : (iv l).set k (.int .i64 z) = iv (l.set k z) := by simp [iv, List.map_set]
/-- the slice at a is the row of block g, from its beginning, and holds l; of an empty list nothing is asked -/
def At (w : World) (a : Option Addr) (g : Nat) (l : List Int) : Prop := l = [] ∨ (a = some ⟨g, 0, none⟩ ∧ Row w g 3 (iv l))
/-- .. and the block is not below B -/
def OwnI (w : World) (B : Nat) (a : Option Addr) (l : List Int) : Prop := ∃ g, B ≤ g ∧ At w a g l
section
variable {w w' : World} {a : Option Addr} {g B : Nat} {l : List Int}
theorem At.keep (h : At w a g l) (e : g < w.heap.size → w'.heap[g]? = w.heap[g]?) : At w' a g l := by
  rcases h with rfl | ⟨h1, h2⟩
  · exact .inl rfl
  · exact .inr ⟨h1, h2.of_block (e h2.lt)⟩
theorem At.below (h : At w a g l) (hb : Below w.heap.size w w') : At w' a g l := h.keep fun hg => hb.block g hg
theorem At.drew (h : At w a g l) (d : Drew w w') : At w' a g l := h.below (d.below _)
theorem At.only {g' : Nat} (h : At w a g l) (o : Only g' w w') (hne : g ≠ g') : At w' a g l := h.keep fun hg => o.1.block g hg (by intro e; injection e with e; exact hne e)
theorem At.other (h : At w a g l) {p : Addr} (hp : g ≠ p.block) (u : Value) : At (w.setCell p u) a g l := h.keep fun _ => Below.heap_setCell w p u g hp
theorem At.alloc (h : At w a g l) (o : Obj) : At (w.alloc o) a g l := h.keep fun hg => Below.heap_alloc w o g hg
theorem At.ints (h : At w a g l) : Ints .i64 w w.heap.size a l := by
  rcases h with rfl | ⟨rfl, h2⟩
  · exact .inl rfl
  · exact .inr ⟨g, 0, rfl, h2.lt, fun j hj => by rw [Nat.zero_add, h2.cell (k := j) (by rw [iv_length]; exact hj), iv_get]⟩
theorem At.intsB (h : At w a g l) (hB : g < B) : Ints .i64 w B a l := by
  rcases h with rfl | ⟨rfl, h2⟩
  · exact .inl rfl
  · exact .inr ⟨g, 0, rfl, hB, fun j hj => by rw [Nat.zero_add, h2.cell (k := j) (by rw [iv_length]; exact hj), iv_get]⟩
theorem OwnI.below (h : OwnI w B a l) (hb : Below w.heap.size w w') : OwnI w' B a l := by obtain ⟨g, h1, h2⟩ := h; exact ⟨g, h1, h2.below hb⟩
theorem OwnI.more {C : Nat} (h : OwnI w B a l) (hc : C ≤ B) : OwnI w C a l := by obtain ⟨g, h1, h2⟩ := h; exact ⟨g, by omega, h2⟩
theorem OwnI.only {g' : Nat} (h : OwnI w B a l) (o : Only g' w w') (hne : g' < B) : OwnI w' B a l := by obtain ⟨g, h1, h2⟩ := h; exact ⟨g, h1, h2.only o (by omega)⟩
theorem OwnI.ints (h : OwnI w B a l) : Ints .i64 w w.heap.size a l := by obtain ⟨g, h1, h2⟩ := h; exact h2.ints
theorem OwnI.none_ : OwnI w B a [] := ⟨B, Nat.le_refl _, .inl rfl⟩
theorem OwnI.of_row {n : Nat} {f : Nat → Value} (h : w.rowIs g 3 n f) (hn : l.length = n) (hf : ∀ k (h : k < l.length), f k = .int .i64 l[k]) (hB : B ≤ g) : OwnI w B (some ⟨g, 0, none⟩) l := by
  obtain ⟨c, h1, h2, h3⟩ := h
  refine ⟨g, hB, .inr ⟨rfl, c, h1, fun k hk => ?_⟩⟩
  rw [iv_get]
  rw [iv_length] at hk
  rw [h3 k (by omega), hf k hk]
theorem OwnI.of_own {n cap : Nat} (h : w.ownsRow B 3 1 (.slice a n cap) n (iv l)) : OwnI w B a l := by
  rcases Nat.eq_zero_or_pos n with h0 | h0
  · have := h.1
    have : l = [] := by rw [iv_length] at this; exact List.eq_nil_of_length_eq_zero (by omega)
    subst this
    exact OwnI.none_
  · obtain ⟨c, g, e, h1, h2, h3⟩ := Row.of_own h h0
    injection e with e1 e2 e3
    exact ⟨g, h1, .inr ⟨e1, h2⟩⟩
end
/-- n numbers from k on -/
def marks (k : Int) (n : Nat) : List Int := (List.range n).map fun (i : Nat) => k + (i : Int)
theorem marks_length (k : Int) (n : Nat) : (marks k n).length = n := by simp [marks]
theorem marks_get (k : Int) (n i : Nat) (h : i < (marks k n).length) : (marks k n)[i] = k + (i : Int) := by simp [marks]
/-- the first i numbers marked, the others as they were -/
def part (k : Int) (l : List Int) (i : Nat) : List Int := marks k i ++ l.drop i
theorem part_zero (k : Int) (l : List Int) : part k l 0 = l := by simp [part, marks]
theorem part_length (k : Int) (l : List Int) (i : Nat) (h : i ≤ l.length) : (part k l i).length = l.length := by simp [part, marks_length]; omega
theorem part_all (k : Int) (l : List Int) : part k l l.length = marks k l.length := by simp [part]
theorem part_step (k : Int) (l : List Int) (i : Nat) (h : i < l.length) : (part k l i).set i (k + (i : Int)) = part k l (i + 1) := by
  unfold part
  rw [List.set_append_right _ _ (by rw [marks_length]; omega), marks_length, Nat.sub_self, List.drop_eq_getElem_cons h, List.set_cons_zero]
  unfold marks
  rw [List.range_succ, List.map_append, List.append_assoc]
  rfl

theorem szInts_any (a : Option Addr) (n c : Nat) (left : Int) (w : World) (hn : n ≤ maxLen) (h0 : 0 ≤ left) (h1 : left ≤ 1048576) :
    Calls Try.prog 84 #[.slice a n c, .int .i64 left] w fun e w' => e = .returned (.int .i64 (if (n : Int) ≤ left then left - n else -1)) ∧ w = w' := by
  unfold maxLen at hn
  by_cases h : (n : Int) ≤ left
  · rw [if_pos h]
    go_enter Try.func84, Try.ntmps84
    go_wp2
    go_ret
    exact ⟨rfl, rfl⟩
  · rw [if_neg h]
    go_enter Try.func84, Try.ntmps84
    go_wp2
    go_ret
    exact ⟨rfl, rfl⟩

theorem infoInt : (Try.prog.info? 3).map (fun i => (i.zero, i.size, i.bytes)) = some (some (.int .i64 0), 1, 8) := by kernel_rfl
/-- the row of numbers that toIntS lays, k of them copied -/
def copiedI (l : List Int) (k : Nat) (j : Nat) : Value := .int .i64 (if j < k then l.getD j 0 else 0)
theorem copiedI_step (l : List Int) (k : Nat) (h : k < l.length) (j : Nat) : (if j = k then Value.int .i64 l[k] else copiedI l k j) = copiedI l (k + 1) j := by
  unfold copiedI
  by_cases e : j = k
  · subst e; simp [h]
  · rw [if_neg e]
    by_cases e2 : j < k
    · rw [if_pos e2, if_pos (by omega)]
    · rw [if_neg e2, if_neg (by omega)]
theorem copiedI_all (l : List Int) (n : Nat) (hn : l.length ≤ n) (k : Nat) (h : k < l.length) : copiedI l n k = .int .i64 l[k] := by
  unfold copiedI
  rw [if_pos (by omega)]
  simp [h]

set_option maxHeartbeats 400000 in
theorem toInts_any (a : Option Addr) (l : List Int) (c : Nat) (w : World) (hl : Ints .i64 w w.heap.size a l) (hn : l.length ≤ 1048576) :
    Calls Try.prog 20 #[.slice a l.length c] w fun e w' => e = .returned (.slice (some ⟨w.heap.size, 0, none⟩) l.length l.length) ∧ At w' (some ⟨w.heap.size, 0, none⟩) w.heap.size l ∧ Below w.heap.size w w' ∧ w.heap.size < w'.heap.size := by
  have HL := Lib.hid hl
  clear hl
  have hmk := fun W => run_make_row' (P := Try.prog) 30 3 (.int .i64 0) 8 Try.underlying30 infoInt rfl .i64 .i64 l.length (by omega) (by omega) W
  go_enter Try.func20, Try.ntmps20
  go_wp2
  clear hmk
  go_loopw [4] (fun i wr => ∃ k : Nat, k ≤ l.length ∧ i = .int .i64 k ∧ wr.rowIs w.heap.size 3 l.length (copiedI l k) ∧ Below w.heap.size w wr) (fun i _ => l.length - (intOf i).toNat)
  case atStart => exact ⟨0, Nat.zero_le _, rfl, (World.rowIs_made w (.int .i64 0) l.length 3).congr (fun i _ => by simp [copiedI]), (Below.refl _ _).alloc (Nat.le_refl _) _⟩
  case round =>
    obtain ⟨k, hk, rfl, hrow, hB⟩ := hrel
    by_cases hlt : k < l.length
    · obtain ⟨b, o, rfl, hb, hc0⟩ := HL.out.at_ hlt
      have hc : wr.cell? ⟨b, o + k, none⟩ = some (.int .i64 l[k]) := (hB.cell (p := ⟨b, o + k, none⟩) hb).trans hc0
      clear hc0
      have hg := hrow.cell hlt
      have hf := hrow.frozen k
      have HR := Lib.hid hrow
      clear hrow
      have HBB := Lib.hid hB
      clear hB
      go_wp2
      go_roundw
      case rel => exact ⟨k + 1, by omega, by go_num, (HR.out.set k (.int .i64 l[k])).congr (fun j _ => copiedI_step l k hlt j), HBB.out.setCell (p := ⟨w.heap.size, k, none⟩) (Nat.le_refl _) _⟩
      case measure => simp [intOf]; omega
    · obtain rfl : k = l.length := by omega
      go_wp2
      go_ret
      have := OwnI.of_row (B := w.heap.size) (l := l) hrow rfl (fun j hj => copiedI_all l _ (Nat.le_refl _) j hj) (Nat.le_refl _)
      refine ⟨rfl, ?_, hB, hrow.lt⟩
      obtain ⟨g, h1, h2⟩ := this
      rcases h2 with h2 | ⟨h3, h4⟩
      · exact .inl h2
      · have h5 := Option.some.inj h3
        injection h5 with h5
        subst h5
        exact .inr ⟨rfl, h4⟩

theorem Ints.drew {k : IntKind} {w w' : World} {B : Nat} {a : Option Addr} {l : List Int} (h : Ints k w B a l) (d : Drew w w') : Ints k w' B a l := h.keep fun p _ => d.cell p

set_option maxHeartbeats 400000 in
theorem eqInts_yes (a a' : Option Addr) (l : List Int) (c c' B B' : Nat) (w : World) (hl : Ints .i64 w B a l) (hl' : Ints .i64 w B' a' l) (hn : l.length ≤ 1048576) :
    Calls Try.prog 23 #[.slice a l.length c, .slice a' l.length c'] w (Quiet (.bool true) w) := by
  have HL := Lib.hid hl
  clear hl
  have HL' := Lib.hid hl'
  clear hl'
  go_enter Try.func23, Try.ntmps23
  go_wp2
  go_loopw [5] (fun i wr => ∃ k : Nat, k ≤ l.length ∧ i = .int .i64 k ∧ Drew w wr) (fun i _ => l.length - (intOf i).toNat)
  case atStart => exact ⟨0, Nat.zero_le _, rfl, Drew.refl w⟩
  case round =>
    obtain ⟨k, hk, rfl, hw⟩ := hrel
    by_cases hlt : k < l.length
    · obtain ⟨b, o, rfl, hb, hc⟩ := (HL.out.drew hw).at_ hlt
      obtain ⟨b', o', rfl, hb', hc'⟩ := (HL'.out.drew hw).at_ hlt
      generalize l[k] = x at *
      have hi : (k : Int) < (l.length : Int) := by omega
      have hi0 : (0 : Int) ≤ (k : Int) := by omega
      go_wp2
      go_quiet (fail)
      go_wp2
      go_roundw
      case rel => exact ⟨k + 1, by omega, by go_num, hw.more _⟩
      case measure => simp [intOf]; omega
    · go_wp2
      go_ret
      exact ⟨rfl, hw⟩

set_option maxHeartbeats 400000 in
theorem markIntsW_any (a : Option Addr) (l : List Int) (c g : Nat) (k0 : Int) (w : World) (hl : At w a g l) (hn : l.length ≤ 1048576) (h0 : 0 ≤ k0) (h1 : k0 ≤ 16777216) :
    Calls Try.prog 27 #[.slice a l.length c, .int .i64 k0] w fun e w' => e = .returned (.int .i64 (k0 + (l.length : Int))) ∧ At w' a g (marks k0 l.length) ∧ Only g w w' := by
  have HL := Lib.hid hl
  clear hl
  go_enter Try.func27, Try.ntmps27
  go_wp2
  go_loopw [1, 5] (fun q i wr => ∃ k : Nat, k ≤ l.length ∧ i = .int .i64 k ∧ q = .int .i64 (k0 + (k : Int)) ∧ At wr a g (part k0 l k) ∧ Only g w wr) (fun _ i _ => l.length - (intOf i).toNat)
  case atStart => exact ⟨0, Nat.zero_le _, rfl, by simp, by rw [part_zero]; exact HL.out, Only.refl g w⟩
  case round =>
    obtain ⟨k, hk, rfl, rfl, hat, ho⟩ := hrel
    have hpl := part_length k0 l k hk
    by_cases hlt : k < l.length
    · rcases hat with hat | ⟨rfl, hrow⟩
      · rw [hat] at hpl; simp at hpl; omega
      · obtain ⟨z, hc⟩ : ∃ z, wr.cell? ⟨g, k, none⟩ = some (.int .i64 z) := ⟨_, by rw [hrow.cell (k := k) (by rw [iv_length]; omega), iv_get]⟩
        have hf := hrow.frozen k
        have HR := Lib.hid (hrow.set k (.int .i64 (k0 + (k : Int))))
        have HO := Lib.hid ho
        have HS := Lib.hid (part_step k0 l k hlt)
        clear hpl hrow ho HL
        go_wp2
        go_roundw
        case rel => exact ⟨k + 1, by omega, by go_num, by go_num, .inr ⟨rfl, by have := HR.out; rw [iv_set, HS.out] at this; exact this⟩, HO.out.setCell k _⟩
        case measure => simp [intOf]; omega
    · obtain rfl : k = l.length := by omega
      have HP := Lib.hid (part_all k0 l)
      clear hpl HL
      go_wp2
      go_ret
      exact ⟨rfl, by rw [← HP.out]; exact hat, ho⟩

theorem markInts_any (a : Option Addr) (l : List Int) (c g : Nat) (k0 : Int) (w : World) (hl : At w a g l) (hn : l.length ≤ 1048576) (h0 : 0 ≤ k0) (h1 : k0 ≤ 1048576) :
    Calls Try.prog 27 #[.slice a l.length c, .int .i64 k0] w fun e w' => e = .returned (.int .i64 (k0 + (l.length : Int))) ∧ At w' a g (marks k0 l.length) ∧ Only g w w' := markIntsW_any a l c g k0 w hl hn h0 (by omega)
set_option maxHeartbeats 400000 in
theorem heldIntsW_any (a : Option Addr) (n c B : Nat) (k0 : Int) (w : World) (hl : Ints .i64 w B a (marks k0 n)) (hn : n ≤ 1048576) (h0 : 0 ≤ k0) (h1 : k0 ≤ 16777216) :
    Calls Try.prog 28 #[.slice a n c, .int .i64 k0] w fun e w' => e = .returned (.int .i64 (k0 + (n : Int))) ∧ w = w' := by
  have HL := Lib.hid hl
  clear hl
  go_enter Try.func28, Try.ntmps28
  go_wp2
  go_loop [1, 5] (fun q i => ∃ k : Nat, k ≤ n ∧ i = .int .i64 k ∧ q = .int .i64 (k0 + (k : Int))) (fun _ i => n - (intOf i).toNat)
  case atStart => exact ⟨0, Nat.zero_le _, rfl, by simp⟩
  case round =>
    obtain ⟨k, hk, rfl, rfl⟩ := hrel
    by_cases hlt : k < n
    · obtain ⟨b, o, rfl, hb, hc⟩ := HL.out.at_ (j := k) (by rw [marks_length]; exact hlt)
      rw [marks_get] at hc
      go_wp2
      go_round
      case rel => exact ⟨k + 1, by omega, by go_num, by go_num⟩
      case measure => simp [intOf]; omega
    · obtain rfl : k = n := by omega
      go_wp2
      go_ret
      exact ⟨rfl, rfl⟩
theorem heldInts_any (a : Option Addr) (n c B : Nat) (k0 : Int) (w : World) (hl : Ints .i64 w B a (marks k0 n)) (hn : n ≤ 1048576) (h0 : 0 ≤ k0) (h1 : k0 ≤ 1048576) :
    Calls Try.prog 28 #[.slice a n c, .int .i64 k0] w fun e w' => e = .returned (.int .i64 (k0 + (n : Int))) ∧ w = w' := heldIntsW_any a n c B k0 w hl hn h0 (by omega)
end Go.Proofs.Ythceffkkokgpnaa
