/- Rows of nodes that are marked, and held against the marks. -/
import Derived.Test.YtikglddifoalfaaDoorNodeLaw
namespace Go.Proofs.YtikglddifoalfaaDoor
open Go.RowKit
set_option linter.unusedVariables false
set_option linter.unusedSimpArgs false
/-- the slice at a is the row of block g, from its beginning, and holds l -/
def AtN (w : World) (a : Option Addr) (g : Nat) (l : List Nd) : Prop := l = [] ∨ (a = some ⟨g, 0, none⟩ ∧ Row w g 49 (nv l))
/-- .. and the block is not below B -/
def OwnN (w : World) (B : Nat) (a : Option Addr) (l : List Nd) : Prop := ∃ g, B ≤ g ∧ AtN w a g l
section
variable {w w' : World} {a : Option Addr} {g B : Nat} {l : List Nd}
theorem AtN.keep (h : AtN w a g l) (e : g < w.heap.size → w'.heap[g]? = w.heap[g]?) : AtN w' a g l := by
  rcases h with rfl | ⟨h1, h2⟩
  · exact .inl rfl
  · exact .inr ⟨h1, h2.of_block (e h2.lt)⟩
theorem AtN.below (h : AtN w a g l) (hb : Below w.heap.size w w') : AtN w' a g l := h.keep fun hg => hb.block g hg
theorem AtN.drew (h : AtN w a g l) (d : Drew w w') : AtN w' a g l := h.below (d.below _)
theorem AtN.only {g' : Nat} (h : AtN w a g l) (o : Only g' w w') (hne : g ≠ g') : AtN w' a g l := h.keep fun hg => o.1.block g hg (by intro e; injection e with e; exact hne e)
theorem AtN.nds (h : AtN w a g l) : Nds w w.heap.size a l := by
  rcases h with rfl | ⟨rfl, h2⟩
  · exact .inl rfl
  · exact Nds.of_row h2
theorem OwnN.below (h : OwnN w B a l) (hb : Below w.heap.size w w') : OwnN w' B a l := by obtain ⟨g, h1, h2⟩ := h; exact ⟨g, h1, h2.below hb⟩
theorem OwnN.more {C : Nat} (h : OwnN w B a l) (hc : C ≤ B) : OwnN w C a l := by obtain ⟨g, h1, h2⟩ := h; exact ⟨g, by omega, h2⟩
theorem OwnN.only {g' : Nat} (h : OwnN w B a l) (o : Only g' w w') (hne : g' < B) : OwnN w' B a l := by obtain ⟨g, h1, h2⟩ := h; exact ⟨g, h1, h2.only o (by omega)⟩
theorem OwnN.nds (h : OwnN w B a l) : Nds w w.heap.size a l := by obtain ⟨g, h1, h2⟩ := h; exact h2.nds
theorem OwnN.none_ : OwnN w B a [] := ⟨B, Nat.le_refl _, .inl rfl⟩
end
/-- n nodes of numbers from k on, two a node -/
def marksN (k : Int) (n : Nat) : List Nd := (List.range n).map fun (i : Nat) => (k + 2 * (i : Int), k + 2 * (i : Int) + 1)
theorem marksN_length (k : Int) (n : Nat) : (marksN k n).length = n := by simp [marksN]
theorem marksN_get (k : Int) (n i : Nat) (h : i < (marksN k n).length) : (marksN k n)[i] = (k + 2 * (i : Int), k + 2 * (i : Int) + 1) := by simp [marksN]
def partN (k : Int) (l : List Nd) (i : Nat) : List Nd := marksN k i ++ l.drop i
theorem partN_zero (k : Int) (l : List Nd) : partN k l 0 = l := by simp [partN, marksN]
theorem partN_length (k : Int) (l : List Nd) (i : Nat) (h : i ≤ l.length) : (partN k l i).length = l.length := by simp [partN, marksN_length]; omega
theorem partN_all (k : Int) (l : List Nd) : partN k l l.length = marksN k l.length := by simp [partN]
theorem partN_step (k : Int) (l : List Nd) (i : Nat) (h : i < l.length) : (partN k l i).set i (k + 2 * (i : Int), k + 2 * (i : Int) + 1) = partN k l (i + 1) := by
  unfold partN
  rw [List.set_append_right _ _ (by rw [marksN_length]; omega), marksN_length, Nat.sub_self, List.drop_eq_getElem_cons h, List.set_cons_zero]
  unfold marksN
  rw [List.range_succ, List.map_append, List.append_assoc]
  rfl
set_option maxHeartbeats 1000000 in
theorem markNodes_any (a : Option Addr) (l : List Nd) (c g : Nat) (k0 : Int) (w : World) (hl : AtN w a g l) (hn : l.length ≤ 1048576) (h0 : 0 ≤ k0) (h1 : k0 ≤ 4194304) :
    Calls Tryd.prog 19 #[.slice a l.length c, .int .i64 k0] w fun e w' => e = .returned (.int .i64 (k0 + 2 * (l.length : Int))) ∧ AtN w' a g (marksN k0 l.length) ∧ Only g w w' := by
  have HL := Lib.hid hl
  clear hl
  go_enter Tryd.func19, Tryd.ntmps19
  go_wp2
  go_loopw [1, 5] (fun q i wr => ∃ k : Nat, k ≤ l.length ∧ i = .int .i64 k ∧ q = .int .i64 (k0 + 2 * (k : Int)) ∧ AtN wr a g (partN k0 l k) ∧ Only g w wr) (fun _ i _ => l.length - (intOf i).toNat)
  case atStart => exact ⟨0, Nat.zero_le _, rfl, by simp, by rw [partN_zero]; exact HL.out, Only.refl g w⟩
  case round =>
    obtain ⟨k, hk, rfl, rfl, hat, ho⟩ := hrel
    have hpl := partN_length k0 l k hk
    by_cases hlt : k < l.length
    · rcases hat with hat | ⟨rfl, hrow⟩
      · rw [hat] at hpl; simp at hpl; omega
      · have hnl := nv_length (partN k0 l k)
        obtain ⟨z0, hc0⟩ : ∃ z, wr.cell? ⟨g, k * 2, none⟩ = some z := ⟨_, hrow.cell (k := k * 2) (by omega)⟩
        obtain ⟨z1, hc1⟩ : ∃ z, wr.cell? ⟨g, k * 2 + 1, none⟩ = some z := ⟨_, hrow.cell (k := k * 2 + 1) (by omega)⟩
        have hf0 := hrow.frozen (k * 2)
        have hf1 := hrow.frozen (k * 2 + 1)
        have HR := Lib.hid ((hrow.set (k * 2) (.int .i64 (k0 + 2 * (k : Int)))).set (k * 2 + 1) (.int .i64 (k0 + 2 * (k : Int) + 1)))
        have HNS := Lib.hid (nv_set (partN k0 l k) k (k0 + 2 * (k : Int)) (k0 + 2 * (k : Int) + 1) (by omega))
        have HO := Lib.hid ho
        have HS := Lib.hid (partN_step k0 l k hlt)
        have hi : (k : Int) < (l.length : Int) := by omega
        have hi0 : (0 : Int) ≤ (k : Int) := by omega
        obtain ⟨m, hm⟩ : ∃ m, k0 + 2 * (k : Int) = m := ⟨_, rfl⟩
        have hmb : 0 ≤ m ∧ m ≤ 8388608 := by omega
        rw [hm] at HR HNS HS
        have s1 : wrap64 (m + 1) = m + 1 := IntWalk.wrap64_in _ (by omega)
        have HM := Lib.hid hm
        clear hpl hrow ho HL hnl
        rw [hm]
        obtain ⟨m1, hm1⟩ : ∃ q, m + 1 = q := ⟨_, rfl⟩
        rw [hm1] at s1 HR HNS HS
        have s2 : wrap64 (m1 + 1) = m1 + 1 := IntWalk.wrap64_in _ (by omega)
        have HM1 := Lib.hid hm1
        clear hm hm1
        go_wp2
        go_roundw
        case rel => exact ⟨k + 1, by omega, by go_num, by have := HM.out; have := HM1.out; rw [Value.int.injEq]; exact ⟨rfl, by omega⟩, .inr ⟨rfl, by have := HR.out; rw [HNS.out, HS.out, ← HM1.out] at this; exact this⟩, (HO.out.setCell (k * 2) _).setCell (k * 2 + 1) _⟩
        case measure => simp [intOf]; omega
    · obtain rfl : k = l.length := by omega
      have HP := Lib.hid (partN_all k0 l)
      clear hpl HL
      go_wp2
      go_ret
      exact ⟨rfl, by rw [← HP.out]; exact hat, ho⟩
set_option maxHeartbeats 1000000 in
theorem heldNodes_any (a : Option Addr) (n c : Nat) (k0 : Int) (w : World) (hl : Nds w w.heap.size a (marksN k0 n)) (hn : n ≤ 1048576) (h0 : 0 ≤ k0) (h1 : k0 ≤ 4194304) :
    Calls Tryd.prog 20 #[.slice a n c, .int .i64 k0] w fun e w' => e = .returned (.int .i64 (k0 + 2 * (n : Int))) ∧ w = w' := by
  have HL := Lib.hid hl
  clear hl
  go_enter Tryd.func20, Tryd.ntmps20
  go_wp2
  go_loop [1, 5] (fun q i => ∃ k : Nat, k ≤ n ∧ i = .int .i64 k ∧ q = .int .i64 (k0 + 2 * (k : Int))) (fun _ i => n - (intOf i).toNat)
  case atStart => exact ⟨0, Nat.zero_le _, rfl, by simp⟩
  case round =>
    obtain ⟨k, hk, rfl, rfl⟩ := hrel
    by_cases hlt : k < n
    · obtain ⟨b, o, rfl, hb, c0, c1⟩ := HL.out.at_ (j := k) (by rw [marksN_length]; exact hlt)
      rw [marksN_get] at c0 c1
      simp only at c0 c1
      obtain ⟨m, hm⟩ : ∃ m, k0 + 2 * (k : Int) = m := ⟨_, rfl⟩
      have hmb : 0 ≤ m ∧ m ≤ 8388608 := by omega
      have s1 : wrap64 (m + 1) = m + 1 := IntWalk.wrap64_in _ (by omega)
      have s2 : wrap64 (m + 1 + 1) = m + 1 + 1 := IntWalk.wrap64_in _ (by omega)
      have hi : (k : Int) < (n : Int) := by omega
      have hi0 : (0 : Int) ≤ (k : Int) := by omega
      rw [hm] at c0 c1
      rw [hm]
      have HM := Lib.hid hm
      clear hm
      go_wp2
      go_round
      case rel => exact ⟨k + 1, by omega, by go_num, by have := HM.out; rw [Value.int.injEq]; exact ⟨rfl, by omega⟩⟩
      case measure => simp [intOf]; omega
    · obtain rfl : k = n := by omega
      go_wp2
      go_ret
      exact ⟨rfl, rfl⟩
end Go.Proofs.YtikglddifoalfaaDoor
