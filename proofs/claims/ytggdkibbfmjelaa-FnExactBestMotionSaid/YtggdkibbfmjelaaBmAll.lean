/- Rows of structs of 4 numbers (match) in memory. The program's everyMotion. Moving a field: what is written after k cells; mathematics. What a law of one, two or three fields knows of a later world; the box of an answer that a drawn region lays. NewField and l2Fill: a field of one value, in memory of the call's own. What a loop that writes into the cells of a field of its own knows of a world. Whether a list is a region: the model's and the program's answers are regB. Sets of points: a map from points to bools that the call itself has made. Points of cells: pointAt, neighborsOf, cornersOf. The program's MoveField. The program's MatchOf. The program's qualifyingMatches. Putting a motion into a list of the call's own; the appends of the model's ranking. Comparing two matches: cmp.Or and the program's compareMatches. slices.SortFunc with compareMatches. The program's RankMotions. The model's l11Qualifies and l11Better. The model's l11Rank. The model's RankMotions. BestMotion: the program's and the model's. A drawn answer that is a motion in a box. The walk of the law FnExactBestMotion. -/
import Derived.Test.YtggdkibbfmjelaaIntRow
import Derived.Test.YtggdkibbfmjelaaRkMath
import Derived.Test.YtggdkibbfmjelaaMoLaw
import Derived.Test.YtggdkibbfmjelaaMake
import Derived.Deep.AppendLies
import Derived.Test.YtggdkibbfmjelaaMvMath
import Derived.Test.YtggdkibbfmjelaaFr
import Derived.Deep.RegionHeld3
import Derived.Deep.DeepCutAuto
import Derived.Test.YtggdkibbfmjelaaRgnMath
import Derived.Test.YtggdkibbfmjelaaGood
import Derived.IntWalk
import Derived.Test.YtggdkibbfmjelaaChecked
import Derived.Test.YtggdkibbfmjelaaDrew
import Derived.Maps.OwnSet
import Derived.DeepKeys4
import Derived.RegionTactic
import Derived.Test.YtggdkibbfmjelaaMvSmall
import Derived.BigQuiet
import Derived.Test.YtggdkibbfmjelaaMvSpM
import Derived.Deep.RegionLaw
import Derived.Test.YtggdkibbfmjelaaMvDf
import Derived.Sort.Grow
import Derived.Test.YtggdkibbfmjelaaShelfSF
import Derived.Shelf.SlSortCmp.NoneTotal
import Derived.Test.YtggdkibbfmjelaaMBox
namespace Go.Proofs.Ytggdkibbfmjelaa
open Go.RowKit
set_option linter.unusedVariables false
set_option linter.unusedSimpArgs false
abbrev MtT := Int × Int × Int × Int
/-- their cells -/
def mtv (l : List MtT) : List Value := l.flatMap fun p => [.int .i64 p.1, .int .i64 p.2.1, .int .i64 p.2.2.1, .int .i64 p.2.2.2]
theorem mtv_cons (q : MtT) (l : List MtT) : mtv (q :: l) = .int .i64 q.1 :: .int .i64 q.2.1 :: .int .i64 q.2.2.1 :: .int .i64 q.2.2.2 :: mtv l := rfl
theorem mtv_append (l r : List MtT) : mtv (l ++ r) = mtv l ++ mtv r := by unfold mtv; rw [List.flatMap_append]
theorem mtv_length (l : List MtT) : (mtv l).length = l.length * 4 := by
  induction l with
  | nil => rfl
  | cons q r ih => rw [mtv_cons]; simp [ih]; omega
theorem mtv_get (l : List MtT) : ∀ (k : Nat) (h : k < l.length), (mtv l)[k * 4]? = some (.int .i64 l[k].1) ∧ (mtv l)[k * 4 + 1]? = some (.int .i64 l[k].2.1) ∧ (mtv l)[k * 4 + 2]? = some (.int .i64 l[k].2.2.1) ∧ (mtv l)[k * 4 + 3]? = some (.int .i64 l[k].2.2.2) := by
  induction l with
  | nil => intro k h; simp at h
  | cons q r ih =>
    intro k h
    rw [mtv_cons]
    cases k with
    | zero => exact ⟨rfl, rfl, rfl, rfl⟩
    | succ k =>
      have h1 := ih k (by simpa using h)
      have e : (k + 1) * 4 = k * 4 + 1 + 1 + 1 + 1 := by omega
      rw [e]
      exact ⟨by simpa using h1.1, by simpa using h1.2.1, by simpa using h1.2.2.1, by simpa using h1.2.2.2⟩
theorem mtv_one (l : List MtT) : ∀ u ∈ mtv l, u.oneCell' = true := by
  intro u hu
  unfold mtv at hu
  rw [List.mem_flatMap] at hu
  obtain ⟨q, _, hp⟩ := hu
  simp at hp
  rcases hp with rfl | rfl | rfl | rfl <;> rfl
/-- the slice's address leads to the elements l, in a block below B; of an empty list nothing is asked -/
def Mts (w : World) (B : Nat) (a : Option Addr) (l : List MtT) : Prop :=
  l = [] ∨ ∃ b o, a = some ⟨b, o, none⟩ ∧ b < B ∧ ∀ j (h : j < l.length), w.cell? ⟨b, o + j * 4, none⟩ = some (.int .i64 l[j].1) ∧ w.cell? ⟨b, o + j * 4 + 1, none⟩ = some (.int .i64 l[j].2.1) ∧ w.cell? ⟨b, o + j * 4 + 2, none⟩ = some (.int .i64 l[j].2.2.1) ∧ w.cell? ⟨b, o + j * 4 + 3, none⟩ = some (.int .i64 l[j].2.2.2)
section
variable {w w' : World} {B D : Nat} {a : Option Addr} {l : List MtT}
theorem Mts.at_ (h : Mts w B a l) {j : Nat} (hj : j < l.length) :
    ∃ b o, a = some ⟨b, o, none⟩ ∧ b < B ∧ w.cell? ⟨b, o + j * 4, none⟩ = some (.int .i64 l[j].1) ∧ w.cell? ⟨b, o + j * 4 + 1, none⟩ = some (.int .i64 l[j].2.1) ∧ w.cell? ⟨b, o + j * 4 + 2, none⟩ = some (.int .i64 l[j].2.2.1) ∧ w.cell? ⟨b, o + j * 4 + 3, none⟩ = some (.int .i64 l[j].2.2.2) := by
  rcases h with rfl | ⟨b, o, e, hb, hc⟩
  · simp at hj
  · exact ⟨b, o, e, hb, hc j hj⟩
theorem Mts.keep (h : Mts w B a l) (hk : ∀ q : Addr, q.block < B → w'.cell? q = w.cell? q) : Mts w' B a l := by
  rcases h with rfl | ⟨b, o, e, hb, hc⟩
  · exact .inl rfl
  · exact .inr ⟨b, o, e, hb, fun j hj => ⟨(hk ⟨b, o + j * 4, none⟩ hb).trans (hc j hj).1, (hk ⟨b, o + j * 4 + 1, none⟩ hb).trans (hc j hj).2.1, (hk ⟨b, o + j * 4 + 2, none⟩ hb).trans (hc j hj).2.2.1, (hk ⟨b, o + j * 4 + 3, none⟩ hb).trans (hc j hj).2.2.2⟩⟩
theorem Mts.below (h : Mts w B a l) (hb : Below D w w') (hB : B ≤ D) : Mts w' B a l := h.keep fun q hp => hb.cell (by omega)
theorem Mts.more (h : Mts w B a l) (hB : B ≤ D) : Mts w D a l := by
  rcases h with rfl | ⟨b, o, e, hb, hc⟩
  · exact .inl rfl
  · exact .inr ⟨b, o, e, by omega, hc⟩
theorem Mts.drew (h : Mts w B a l) (d : Drew w w') : Mts w' B a l := h.keep fun q _ => d.cell q
theorem mts_below (h : Mts w w.heap.size a l) (hb : Below w.heap.size w w') : Mts w' w'.heap.size a l := (h.below hb (Nat.le_refl _)).more hb.size
theorem mts_alloc (h : Mts w w.heap.size a l) (o : Obj) : Mts (w.alloc o) (w.alloc o).heap.size a l := mts_below h ((Below.refl _ _).alloc (Nat.le_refl _) o)
end
theorem mts_at {W : World} {b off len : Nat} (h : ∀ i, i < len → ∃ q : MtT, W.cell? ⟨b, off + i * 4, none⟩ = some (.int .i64 q.1) ∧ W.cell? ⟨b, off + i * 4 + 1, none⟩ = some (.int .i64 q.2.1) ∧ W.cell? ⟨b, off + i * 4 + 2, none⟩ = some (.int .i64 q.2.2.1) ∧ W.cell? ⟨b, off + i * 4 + 3, none⟩ = some (.int .i64 q.2.2.2)) :
    ∃ l : List MtT, l.length = len ∧ ∀ j (hj : j < l.length), W.cell? ⟨b, off + j * 4, none⟩ = some (.int .i64 l[j].1) ∧ W.cell? ⟨b, off + j * 4 + 1, none⟩ = some (.int .i64 l[j].2.1) ∧ W.cell? ⟨b, off + j * 4 + 2, none⟩ = some (.int .i64 l[j].2.2.1) ∧ W.cell? ⟨b, off + j * 4 + 3, none⟩ = some (.int .i64 l[j].2.2.2) := by
  induction len with
  | zero => exact ⟨[], rfl, fun j hj => by simp at hj⟩
  | succ n ih =>
    obtain ⟨l, h1, h2⟩ := ih (fun i hi => h i (by omega))
    obtain ⟨q, hp⟩ := h n (by omega)
    refine ⟨l ++ [q], by simp [h1], fun j hj => ?_⟩
    rw [List.length_append, List.length_singleton] at hj
    by_cases hjn : j < l.length
    · rw [List.getElem_append_left hjn]
      exact h2 j hjn
    · have : j = l.length := by omega
      subst this
      rw [List.getElem_append_right (Nat.le_refl _)]
      simp only [Nat.sub_self, List.getElem_cons_zero]
      rw [h1]
      exact hp
theorem mts_of {W : World} {x : Addr} {len : Nat} (h : ∀ i, i < len → ∃ q : MtT, W.cell? (x.add (i * 4)) = some (.int .i64 q.1) ∧ W.cell? (x.add (i * 4 + 1)) = some (.int .i64 q.2.1) ∧ W.cell? (x.add (i * 4 + 2)) = some (.int .i64 q.2.2.1) ∧ W.cell? (x.add (i * 4 + 3)) = some (.int .i64 q.2.2.2)) :
    ∃ l : List MtT, l.length = len ∧ Mts W W.heap.size (some x) l := by
  rcases Nat.eq_zero_or_pos len with h0 | h0
  · subst h0; exact ⟨[], rfl, .inl rfl⟩
  · obtain ⟨b, off, spot⟩ := x
    obtain ⟨q, hp0, hp1, hp2, hp3⟩ := h 0 h0
    have hspot : spot = none := by simpa [Addr.add] using World.cell?_spot hp0
    subst hspot
    have e2 : ∀ i, (⟨b, off, none⟩ : Addr).add i = ⟨b, off + i, none⟩ := fun i => by unfold Addr.add; split <;> simp_all
    have hb : b < W.heap.size := by
      rw [e2] at hp0
      rcases Nat.lt_or_ge b W.heap.size with h | h
      · exact h
      · simp [World.cell?, Array.getElem?_eq_none h] at hp0
    obtain ⟨l, h1, h2⟩ := mts_at (W := W) (b := b) (off := off) (len := len) (fun i hi => by
      obtain ⟨q, hp0, hp1, hp2, hp3⟩ := h i hi
      rw [e2] at hp0 hp1 hp2 hp3
      exact ⟨q, hp0, by rw [Nat.add_assoc]; exact hp1, by rw [Nat.add_assoc]; exact hp2, by rw [Nat.add_assoc]; exact hp3⟩)
    exact ⟨l, h1, .inr ⟨b, off, rfl, hb, h2⟩⟩
theorem Mts.of_row {w : World} {g : Nat} {t : TypeId} {l : List MtT} (h : Row w g t (mtv l)) : Mts w w.heap.size (some ⟨g, 0, none⟩) l :=
  .inr ⟨g, 0, rfl, h.lt, fun j hj => by
    have hl := mtv_length l
    have e := mtv_get l j hj
    have c0 := h.cell (k := j * 4) (by omega)
    have c1 := h.cell (k := j * 4 + 1) (by omega)
    have c2 := h.cell (k := j * 4 + 2) (by omega)
    have c3 := h.cell (k := j * 4 + 3) (by omega)
    rw [List.getElem?_eq_getElem (by omega), List.getElem?_eq_getElem (by omega), List.getElem?_eq_getElem (by omega), List.getElem?_eq_getElem (by omega)] at e
    rw [Nat.zero_add, c0, c1, c2, c3]
    exact e⟩
/-- the slice at a is the row of block g, from its beginning, and holds l -/
def AtMt (w : World) (a : Option Addr) (g : Nat) (l : List MtT) : Prop := l = [] ∨ (a = some ⟨g, 0, none⟩ ∧ Row w g 97 (mtv l))
/-- .. and the block is not below B -/
def OwnMt (w : World) (B : Nat) (a : Option Addr) (l : List MtT) : Prop := ∃ g, B ≤ g ∧ AtMt w a g l
/-- own memory below U -/
def OwnUMt (w : World) (B U : Nat) (a : Option Addr) (l : List MtT) : Prop := ∃ g, B ≤ g ∧ (l = [] ∨ g < U) ∧ AtMt w a g l
section
variable {w w' : World} {a : Option Addr} {g B U : Nat} {l : List MtT}
theorem AtMt.keep (h : AtMt w a g l) (e : g < w.heap.size → w'.heap[g]? = w.heap[g]?) : AtMt w' a g l := by
  rcases h with rfl | ⟨h1, h2⟩
  · exact .inl rfl
  · exact .inr ⟨h1, h2.of_block (e h2.lt)⟩
theorem AtMt.below (h : AtMt w a g l) (hb : Below w.heap.size w w') : AtMt w' a g l := h.keep fun hg => hb.block g hg
theorem AtMt.only {g' : Nat} (h : AtMt w a g l) (o : Only g' w w') (hne : g ≠ g') : AtMt w' a g l := h.keep fun hg => o.1.block g hg (by intro e; injection e with e; exact hne e)
theorem AtMt.reads (h : AtMt w a g l) : Mts w w.heap.size a l := by
  rcases h with rfl | ⟨rfl, h2⟩
  · exact .inl rfl
  · exact Mts.of_row h2
theorem OwnMt.below (h : OwnMt w B a l) (hb : Below w.heap.size w w') : OwnMt w' B a l := by obtain ⟨g, h1, h2⟩ := h; exact ⟨g, h1, h2.below hb⟩
theorem OwnMt.more {D : Nat} (h : OwnMt w B a l) (hc : D ≤ B) : OwnMt w D a l := by obtain ⟨g, h1, h2⟩ := h; exact ⟨g, by omega, h2⟩
theorem OwnMt.only {g' : Nat} (h : OwnMt w B a l) (o : Only g' w w') (hne : g' < B) : OwnMt w' B a l := by obtain ⟨g, h1, h2⟩ := h; exact ⟨g, h1, h2.only o (by omega)⟩
theorem OwnMt.reads (h : OwnMt w B a l) : Mts w w.heap.size a l := by obtain ⟨g, h1, h2⟩ := h; exact h2.reads
theorem OwnMt.none_ : OwnMt w B a [] := ⟨B, Nat.le_refl _, .inl rfl⟩
theorem OwnUMt.of (h : OwnMt w B a l) : OwnUMt w B w.heap.size a l := by
  obtain ⟨g, h1, h2⟩ := h
  refine ⟨g, h1, ?_, h2⟩
  rcases h2 with h2 | ⟨_, h2⟩
  · exact .inl h2
  · exact .inr h2.lt
theorem OwnUMt.below (h : OwnUMt w B U a l) (hb : Below w.heap.size w w') : OwnUMt w' B U a l := by
  obtain ⟨g, h1, h2, h3⟩ := h
  exact ⟨g, h1, h2, h3.below hb⟩
theorem OwnUMt.only {g' : Nat} (h : OwnUMt w B U a l) (o : Only g' w w') (hg : U ≤ g') : OwnUMt w' B U a l := by
  obtain ⟨g, h1, h2, h3⟩ := h
  rcases h2 with h2 | h2
  · exact ⟨g, h1, .inl h2, .inl h2⟩
  · exact ⟨g, h1, .inr h2, h3.only o (by omega)⟩
theorem OwnUMt.reads (h : OwnUMt w B U a l) : Mts w w.heap.size a l := by
  obtain ⟨g, _, _, h⟩ := h
  exact h.reads
end
end Go.Proofs.Ytggdkibbfmjelaa
namespace Go.Proofs.Ytggdkibbfmjelaa
open Go.RowKit
set_option linter.unusedVariables false
set_option linter.unusedSimpArgs false
theorem ownMo_of {w : World} {B n : Nat} {v : Value} {l : List MoT} (h : w.ownsRow B 24 2 v n (mov l)) (hn : n = l.length) : ∃ a c, v = .slice a l.length c ∧ OwnMo w B a l := by
  subst hn
  obtain ⟨h1, ⟨h2, h3⟩ | ⟨g, cap, cur, h2, hb, hh, hc, _, hcs, hx⟩⟩ := h
  · refine ⟨none, 0, by rw [h2, h3], ?_⟩
    have : l = [] := List.eq_nil_of_length_eq_zero h3
    subst this
    exact OwnMo.none_
  · subst h2
    refine ⟨_, _, rfl, g, hb, .inr ⟨rfl, cur, hh, fun k hk => ?_⟩⟩
    have hk' := hk
    rw [mov_length] at hk'
    have e : (mov l)[k]? = cur[k]? := by
      rw [← hx, List.getElem?_take, if_pos hk']
      simp
    rw [← e]
    exact List.getElem?_eq_getElem hk
set_option maxRecDepth 100000 in
set_option maxHeartbeats 4000000 in
theorem implEvery_any (w : World) : Calls Try.prog 102 #[] w fun e w' => ∃ a c, e = .returned (.slice a 25 c) ∧ OwnMo w' w.heap.size a (moL 25) ∧ Below w.heap.size w w' := by
  obtain ⟨i0, hi0', hz0, hz1, hz2⟩ := info_parts infoMo
  go_enter Try.func102, Try.ntmps102
  go_wp2
  go_loopw [1, 2] (fun q i wr => ∃ j : Nat, j ≤ 5 ∧ i = .int .i64 ((j : Int) - 2) ∧ wr.ownsRow w.heap.size 24 2 q (5 * j) (mov (moL (5 * j))) ∧ Below w.heap.size w wr) (fun _ i _ => 5 - (intOf i + 2).toNat)
  case atStart => exact ⟨0, by omega, rfl, World.ownsRow_made (base := w.heap.size) (e := 24) (size := 2) w #[] 0 (Nat.le_refl _) (by unfold maxLen; omega) rfl, below_all _ _⟩
  case round =>
    obtain ⟨j, hj, rfl, hown, hB⟩ := hrel
    have HO := Lib.hid hown
    have HB := Lib.hid hB
    clear hown hB
    by_cases hlt : j < 5
    · have hi : (j : Int) - 2 ≤ 2 := by omega
      go_wp2
      go_loopw [1, 3] (fun q i wr => ∃ k : Nat, k ≤ 5 ∧ i = .int .i64 ((k : Int) - 2) ∧ wr.ownsRow w.heap.size 24 2 q (5 * j + k) (mov (moL (5 * j + k))) ∧ Below w.heap.size w wr) (fun _ i _ => 5 - (intOf i + 2).toNat)
      case atStart => exact ⟨0, by omega, rfl, HO.out, HB.out⟩
      case round =>
        clear HO HB
        obtain ⟨k, hk, rfl, hown, hB⟩ := hrel
        have HO := Lib.hid hown
        have HB := Lib.hid hB
        have hsz := hB.size
        clear hown hB
        by_cases hlt2 : k < 5
        · have hi2 : (k : Int) - 2 ≤ 2 := by omega
          obtain ⟨e1, e2⟩ := mo_at (j := j) hlt2
          have HE := Lib.hid (moL_step (5 * j + k))
          rw [e1, e2] at HE
          clear e1 e2
          have hml := moL_len (5 * j + k)
          have HML := Lib.hid hml
          clear hml
          have w1 := IntWalk.i64_in ((k : Int) - 2 + 1) (by omega)
          go_wp2_with (at_builtin; go_loud (refine wpList_append_own _ rfl _ _ 46 rfl w.heap.size 24 i0 (.agg #[.int .i64 0, .int .i64 0]) 2 16 Try.underlying46 hi0' hz0 hz1 hz2 rfl (by decide) _ (5 * j + k) (mov (moL (5 * j + k))) rfl (HO.out.alloc _) ⟨wr.heap.size, 0, none⟩ 1 1 [.int .i64 ((k : Int) - 2), .int .i64 ((j : Int) - 2)] rfl rfl (World.news_of_block (heap_alloc_new _ _)) (by simp [Value.oneCell']) (by unfold maxLen; omega) (by omega) (by simp; omega) ?_); intro v' w2 hown' hgr _; have HO1 := Lib.hid hown'; have HG1 := Lib.hid hgr; clear hown' hgr)
          go_roundw
          case rel =>
            refine ⟨k + 1, by omega, ?_, ?_, (HB.out.alloc HB.out.size _).grown HG1.out (by simp; omega) (fun q hq => by have := (HO.out.lt q hq).1; omega)⟩
            · congr 1; omega
            · rw [← Nat.add_assoc, HE.out, mov_append]; exact HO1.out
          case measure => simp [intOf]; omega
        · obtain rfl : k = 5 := by omega
          have w1 := IntWalk.i64_in ((j : Int) - 2 + 1) (by omega)
          go_wp2
          go_roundw
          case rel => exact ⟨j + 1, by omega, by congr 1; omega, by rw [Nat.mul_succ]; exact HO.out, HB.out⟩
          case measure => simp [intOf]; omega
    · obtain rfl : j = 5 := by omega
      obtain ⟨a', c', rfl, ho⟩ := ownMo_of HO.out (by rw [moL_len])
      have HOO := Lib.hid ho
      clear ho HO
      rw [moL_len]
      go_wp2
      go_ret
      exact ⟨a', c', rfl, HOO.out, HB.out⟩
end Go.Proofs.Ytggdkibbfmjelaa
namespace Go.Proofs.Ytggdkibbfmjelaa
set_option linter.unusedVariables false
set_option linter.unusedSimpArgs false
/-- the moved field's cell, if its source is among the first k cells -/
def mvQ (W H : Nat) (l : List Int) (mx my : Int) (k : Nat) (x y : Int) : Int := if inB W H (x - mx) (y - my) = true ∧ place W (x - mx) (y - my) < k then l.getD (place W (x - mx) (y - my)) 0 else -9999
def mvP (W H : Nat) (l : List Int) (mx my : Int) (k : Nat) : List Int := (List.range (W * H)).map fun i : Nat => mvQ W H l mx my k ((i : Int) % (W : Int)) ((i : Int) / (W : Int))
theorem mvP_len (W H : Nat) (l : List Int) (mx my : Int) (k : Nat) : (mvP W H l mx my k).length = W * H := by simp [mvP]
theorem mvP_get {W H : Nat} {l : List Int} {mx my : Int} {k i : Nat} (h : i < (mvP W H l mx my k).length) : (mvP W H l mx my k)[i] = mvQ W H l mx my k ((i : Int) % (W : Int)) ((i : Int) / (W : Int)) := by simp [mvP]
theorem mvP_zero (W H : Nat) (l : List Int) (mx my : Int) : mvP W H l mx my 0 = List.replicate (W * H) (-9999) := by
  apply List.ext_getElem (by rw [mvP_len, List.length_replicate])
  intro i h1 h2
  rw [mvP_get h1, List.getElem_replicate]
  exact if_neg (by omega)
theorem mvP_all {W H : Nat} (l : List Int) (mx my : Int) (hW : 1 ≤ W ∧ W ≤ 8) (hH : 1 ≤ H ∧ H ≤ 8) : mvP W H l mx my (W * H) = mvR W H l mx my := by
  unfold mvP mvR
  refine List.map_congr_left (fun i hi => ?_)
  unfold mvQ mvC
  cases h : inB W H ((i : Int) % (W : Int) - mx) ((i : Int) / (W : Int) - my) with
  | true =>
    have hp := place_int (shapeB_iff.2 (by omega)) h
    rw [← Int.natCast_mul] at hp
    rw [if_pos ⟨rfl, by omega⟩, if_pos rfl]
  | false => rw [if_neg (by simp), if_neg (by simp)]
theorem place_inj {W H : Nat} {x y x' y' : Int} (hW : 1 ≤ W ∧ W ≤ 8) (hH : 1 ≤ H ∧ H ≤ 8) (h : inB W H x y = true) (h' : inB W H x' y' = true) (e : place W x y = place W x' y') : x = x' ∧ y = y' := by
  have hs : shapeB (W : Int) (H : Int) = true := shapeB_iff.2 (by omega)
  have p1 := (place_int hs h).1
  have p2 := (place_int hs h').1
  rw [← e] at p2
  obtain ⟨⟨a1, a2⟩, _⟩ := inB_iff.1 h
  obtain ⟨⟨b1, b2⟩, _⟩ := inB_iff.1 h'
  have e3 : y * (W : Int) + x = y' * (W : Int) + x' := by omega
  have m1 := congrArg (· % (W : Int)) e3
  have m2 := congrArg (· / (W : Int)) e3
  rw [cell_mod a1 a2, cell_mod b1 b2] at m1
  rw [cell_div a1 a2, cell_div b1 b2] at m2
  exact ⟨m1, m2⟩
theorem mvQ_same {W H : Nat} {l : List Int} {mx my x y : Int} {k : Nat} (h : inB W H (x - mx) (y - my) = true → place W (x - mx) (y - my) ≠ k) : mvQ W H l mx my (k + 1) x y = mvQ W H l mx my k x y := by
  unfold mvQ
  by_cases h1 : inB W H (x - mx) (y - my) = true
  · have := h h1
    by_cases h2 : place W (x - mx) (y - my) < k
    · rw [if_pos ⟨h1, by omega⟩, if_pos ⟨h1, h2⟩]
    · rw [if_neg (by intro h3; omega), if_neg (by intro h3; omega)]
  · rw [if_neg (fun h3 => h1 h3.1), if_neg (fun h3 => h1 h3.1)]
theorem mvP_miss {W H : Nat} {l : List Int} {mx my : Int} {k : Nat} (hW : 1 ≤ W ∧ W ≤ 8) (hH : 1 ≤ H ∧ H ≤ 8) (hk : k < W * H) (h : inB W H ((k : Int) % (W : Int) + mx) ((k : Int) / (W : Int) + my) = false) : mvP W H l mx my (k + 1) = mvP W H l mx my k := by
  unfold mvP
  refine List.map_congr_left (fun i hi => ?_)
  have hi2 : i < W * H := List.mem_range.1 hi
  refine mvQ_same (fun h1 h2 => ?_)
  rw [← place_at (W := W) k] at h2
  obtain ⟨e1, e2⟩ := place_inj hW hH h1 (grid_cell (by omega) hk) h2
  have := grid_cell (W := W) (by omega) hi2
  rw [← e1, ← e2, Int.sub_add_cancel, Int.sub_add_cancel, this] at h
  cases h
theorem mvP_hit {W H : Nat} {l : List Int} {mx my : Int} {k : Nat} (hW : 1 ≤ W ∧ W ≤ 8) (hH : 1 ≤ H ∧ H ≤ 8) (hk : k < W * H) (hl : l.length = W * H) (h : inB W H ((k : Int) % (W : Int) + mx) ((k : Int) / (W : Int) + my) = true) :
    (mvP W H l mx my k).set (place W ((k : Int) % (W : Int) + mx) ((k : Int) / (W : Int) + my)) (l[k]'(by omega)) = mvP W H l mx my (k + 1) := by
  have hs : shapeB (W : Int) (H : Int) = true := shapeB_iff.2 (by omega)
  apply List.ext_getElem (by rw [List.length_set, mvP_len, mvP_len])
  intro i h1 h2
  rw [mvP_len] at h2
  rw [List.getElem_set, mvP_get (by rw [mvP_len]; exact h2), mvP_get (by rw [mvP_len]; exact h2)]
  have hg := grid_cell (W := W) (by omega) h2
  by_cases e : place W ((k : Int) % (W : Int) + mx) ((k : Int) / (W : Int) + my) = i
  · rw [if_pos e]
    have e2 : place (W : Int) ((k : Int) % (W : Int) + mx) ((k : Int) / (W : Int) + my) = place (W : Int) ((i : Int) % (W : Int)) ((i : Int) / (W : Int)) := by rw [place_at, e]
    obtain ⟨e3, e4⟩ := place_inj hW hH h hg e2
    unfold mvQ
    rw [← e3, ← e4, Int.add_sub_cancel, Int.add_sub_cancel, place_at, if_pos ⟨grid_cell (by omega) hk, by omega⟩, getD_at (by omega)]
  · rw [if_neg e]
    refine (mvQ_same (fun h3 h4 => e ?_)).symm
    rw [← place_at (W := W) k] at h4
    obtain ⟨e3, e4⟩ := place_inj hW hH h3 (grid_cell (by omega) hk) h4
    rw [← e3, ← e4, Int.sub_add_cancel, Int.sub_add_cancel, place_at]
theorem mvP_hitZ {W H : Nat} {l : List Int} {mx my : Int} {k : Nat} (hW : 1 ≤ W ∧ W ≤ 8) (hH : 1 ≤ H ∧ H ≤ 8) (hl : l.length = W * H) (hk : k < W * H) (z : Int) (hz : l.getD k 0 = z) (h : inB W H ((k : Int) % (W : Int) + mx) ((k : Int) / (W : Int) + my) = true) :
    (mvP W H l mx my k).set (place W ((k : Int) % (W : Int) + mx) ((k : Int) / (W : Int) + my)) z = mvP W H l mx my (k + 1) := by
  rw [getD_at (by omega)] at hz
  rw [← hz]
  exact mvP_hit hW hH hk hl h
/-- the first k cells of one list, then those of another one -/
def takeR (q l : List Int) (k : Nat) : List Int := q.take k ++ l.drop k
theorem takeR_zero (q l : List Int) : takeR q l 0 = l := by simp [takeR]
theorem takeR_all {q l : List Int} (h : q.length = l.length) : takeR q l l.length = q := by simp [takeR, ← h]
theorem takeR_len {q l : List Int} (h : q.length = l.length) (k : Nat) (hk : k ≤ l.length) : (takeR q l k).length = l.length := by simp [takeR]; omega
theorem takeR_step {q l : List Int} (h : q.length = l.length) (k : Nat) (hk : k < l.length) : (takeR q l k).set k (q[k]'(by omega)) = takeR q l (k + 1) := by
  unfold takeR
  rw [List.set_append_right _ _ (by simp; omega), List.length_take, Nat.min_eq_left (by omega), Nat.sub_self, List.drop_eq_getElem_cons hk, List.set_cons_zero, List.take_succ_eq_append_getElem (by omega : k < q.length), List.append_assoc]
  rfl
end Go.Proofs.Ytggdkibbfmjelaa
namespace Go.Proofs.Ytggdkibbfmjelaa
open Go.RowKit
set_option linter.unusedVariables false
structure Lw1 (w : World) (wd0 hg0 : Int) (a0 : Option Addr) (l0 : List Int) (c0 : Nat) (w' : World) : Prop where
  b : Below w.heap.size w w'
  s0 : Ints .i64 w w.heap.size a0 l0
  i0 : Ints .i64 w' w'.heap.size a0 l0
  k0 : Box w' (w.heap.size) 32 (.int .i64 wd0) (.int .i64 hg0) (.slice a0 l0.length c0)
theorem Lw1.new {w : World} {wd0 hg0 : Int} {a0 : Option Addr} {l0 : List Int} {c0 : Nat} (h0 : Ints .i64 w w.heap.size a0 l0) : Lw1 w wd0 hg0 a0 l0 c0 (w.alloc (.cells #[.int .i64 wd0, .int .i64 hg0, .slice a0 l0.length c0] 32)) := by
  constructor
  · exact ((Below.refl w.heap.size w).alloc (by simp <;> omega) _)
  · exact h0
  · exact (ints_alloc h0 _)
  · have h := (Box.new w 32 (.int .i64 wd0) (.int .i64 hg0) (.slice a0 l0.length c0))
    try simp only [World.size_alloc] at h
    exact h
section
variable {w w1 w2 : World} {wd0 hg0 : Int} {a0 : Option Addr} {l0 : List Int} {c0 : Nat}
theorem Lw1.step (h : Lw1 w wd0 hg0 a0 l0 c0 w1) (b : Below w1.heap.size w1 w2) : Lw1 w wd0 hg0 a0 l0 c0 w2 :=
  ⟨below_then h.b b, h.s0, ints_below h.i0 b, h.k0.below b⟩
theorem Lw1.turn {g : Nat} (h : Lw1 w wd0 hg0 a0 l0 c0 w1) (t : w1.grownBy w2 (some g)) (hg : w.heap.size + 1 ≤ g) : Lw1 w wd0 hg0 a0 l0 c0 w2 :=
  ⟨below_turn h.b t h.b.size (by omega), h.s0, ints_turn h.s0 h.b t (by omega), h.k0.turn t (by omega)⟩
end
structure Lw2 (w : World) (wd0 hg0 : Int) (a0 : Option Addr) (l0 : List Int) (c0 : Nat) (wd1 hg1 : Int) (a1 : Option Addr) (l1 : List Int) (c1 : Nat) (w' : World) : Prop where
  b : Below w.heap.size w w'
  s0 : Ints .i64 w w.heap.size a0 l0
  s1 : Ints .i64 w w.heap.size a1 l1
  i0 : Ints .i64 w' w'.heap.size a0 l0
  i1 : Ints .i64 w' w'.heap.size a1 l1
  k0 : Box w' (w.heap.size) 32 (.int .i64 wd0) (.int .i64 hg0) (.slice a0 l0.length c0)
  k1 : Box w' (w.heap.size + 1) 32 (.int .i64 wd1) (.int .i64 hg1) (.slice a1 l1.length c1)
theorem Lw2.new {w : World} {wd0 hg0 wd1 hg1 : Int} {a0 a1 : Option Addr} {l0 l1 : List Int} {c0 c1 : Nat} (h0 : Ints .i64 w w.heap.size a0 l0) (h1 : Ints .i64 w w.heap.size a1 l1) : Lw2 w wd0 hg0 a0 l0 c0 wd1 hg1 a1 l1 c1 ((w.alloc (.cells #[.int .i64 wd0, .int .i64 hg0, .slice a0 l0.length c0] 32)).alloc (.cells #[.int .i64 wd1, .int .i64 hg1, .slice a1 l1.length c1] 32)) := by
  constructor
  · exact (((Below.refl w.heap.size w).alloc (by simp <;> omega) _).alloc (by simp <;> omega) _)
  · exact h0
  · exact h1
  · exact (ints_alloc (ints_alloc h0 _) _)
  · exact (ints_alloc (ints_alloc h1 _) _)
  · have h := ((Box.new w 32 (.int .i64 wd0) (.int .i64 hg0) (.slice a0 l0.length c0)).alloc (.cells #[.int .i64 wd1, .int .i64 hg1, .slice a1 l1.length c1] 32))
    try simp only [World.size_alloc] at h
    exact h
  · have h := (Box.new (w.alloc (.cells #[.int .i64 wd0, .int .i64 hg0, .slice a0 l0.length c0] 32)) 32 (.int .i64 wd1) (.int .i64 hg1) (.slice a1 l1.length c1))
    try simp only [World.size_alloc] at h
    exact h
section
variable {w w1 w2 : World} {wd0 hg0 wd1 hg1 : Int} {a0 a1 : Option Addr} {l0 l1 : List Int} {c0 c1 : Nat}
theorem Lw2.step (h : Lw2 w wd0 hg0 a0 l0 c0 wd1 hg1 a1 l1 c1 w1) (b : Below w1.heap.size w1 w2) : Lw2 w wd0 hg0 a0 l0 c0 wd1 hg1 a1 l1 c1 w2 :=
  ⟨below_then h.b b, h.s0, h.s1, ints_below h.i0 b, ints_below h.i1 b, h.k0.below b, h.k1.below b⟩
theorem Lw2.turn {g : Nat} (h : Lw2 w wd0 hg0 a0 l0 c0 wd1 hg1 a1 l1 c1 w1) (t : w1.grownBy w2 (some g)) (hg : w.heap.size + 2 ≤ g) : Lw2 w wd0 hg0 a0 l0 c0 wd1 hg1 a1 l1 c1 w2 :=
  ⟨below_turn h.b t h.b.size (by omega), h.s0, h.s1, ints_turn h.s0 h.b t (by omega), ints_turn h.s1 h.b t (by omega), h.k0.turn t (by omega), h.k1.turn t (by omega)⟩
end
structure Lw3 (w : World) (wd0 hg0 : Int) (a0 : Option Addr) (l0 : List Int) (c0 : Nat) (wd1 hg1 : Int) (a1 : Option Addr) (l1 : List Int) (c1 : Nat) (wd2 hg2 : Int) (a2 : Option Addr) (l2 : List Int) (c2 : Nat) (w' : World) : Prop where
  b : Below w.heap.size w w'
  s0 : Ints .i64 w w.heap.size a0 l0
  s1 : Ints .i64 w w.heap.size a1 l1
  s2 : Ints .i64 w w.heap.size a2 l2
  i0 : Ints .i64 w' w'.heap.size a0 l0
  i1 : Ints .i64 w' w'.heap.size a1 l1
  i2 : Ints .i64 w' w'.heap.size a2 l2
  k0 : Box w' (w.heap.size) 32 (.int .i64 wd0) (.int .i64 hg0) (.slice a0 l0.length c0)
  k1 : Box w' (w.heap.size + 1) 32 (.int .i64 wd1) (.int .i64 hg1) (.slice a1 l1.length c1)
  k2 : Box w' (w.heap.size + 1 + 1) 32 (.int .i64 wd2) (.int .i64 hg2) (.slice a2 l2.length c2)
theorem Lw3.new {w : World} {wd0 hg0 wd1 hg1 wd2 hg2 : Int} {a0 a1 a2 : Option Addr} {l0 l1 l2 : List Int} {c0 c1 c2 : Nat} (h0 : Ints .i64 w w.heap.size a0 l0) (h1 : Ints .i64 w w.heap.size a1 l1) (h2 : Ints .i64 w w.heap.size a2 l2) : Lw3 w wd0 hg0 a0 l0 c0 wd1 hg1 a1 l1 c1 wd2 hg2 a2 l2 c2 (((w.alloc (.cells #[.int .i64 wd0, .int .i64 hg0, .slice a0 l0.length c0] 32)).alloc (.cells #[.int .i64 wd1, .int .i64 hg1, .slice a1 l1.length c1] 32)).alloc (.cells #[.int .i64 wd2, .int .i64 hg2, .slice a2 l2.length c2] 32)) := by
  constructor
  · exact ((((Below.refl w.heap.size w).alloc (by simp <;> omega) _).alloc (by simp <;> omega) _).alloc (by simp <;> omega) _)
  · exact h0
  · exact h1
  · exact h2
  · exact (ints_alloc (ints_alloc (ints_alloc h0 _) _) _)
  · exact (ints_alloc (ints_alloc (ints_alloc h1 _) _) _)
  · exact (ints_alloc (ints_alloc (ints_alloc h2 _) _) _)
  · have h := (((Box.new w 32 (.int .i64 wd0) (.int .i64 hg0) (.slice a0 l0.length c0)).alloc (.cells #[.int .i64 wd1, .int .i64 hg1, .slice a1 l1.length c1] 32)).alloc (.cells #[.int .i64 wd2, .int .i64 hg2, .slice a2 l2.length c2] 32))
    try simp only [World.size_alloc] at h
    exact h
  · have h := ((Box.new (w.alloc (.cells #[.int .i64 wd0, .int .i64 hg0, .slice a0 l0.length c0] 32)) 32 (.int .i64 wd1) (.int .i64 hg1) (.slice a1 l1.length c1)).alloc (.cells #[.int .i64 wd2, .int .i64 hg2, .slice a2 l2.length c2] 32))
    try simp only [World.size_alloc] at h
    exact h
  · have h := (Box.new ((w.alloc (.cells #[.int .i64 wd0, .int .i64 hg0, .slice a0 l0.length c0] 32)).alloc (.cells #[.int .i64 wd1, .int .i64 hg1, .slice a1 l1.length c1] 32)) 32 (.int .i64 wd2) (.int .i64 hg2) (.slice a2 l2.length c2))
    try simp only [World.size_alloc] at h
    exact h
section
variable {w w1 w2 : World} {wd0 hg0 wd1 hg1 wd2 hg2 : Int} {a0 a1 a2 : Option Addr} {l0 l1 l2 : List Int} {c0 c1 c2 : Nat}
theorem Lw3.step (h : Lw3 w wd0 hg0 a0 l0 c0 wd1 hg1 a1 l1 c1 wd2 hg2 a2 l2 c2 w1) (b : Below w1.heap.size w1 w2) : Lw3 w wd0 hg0 a0 l0 c0 wd1 hg1 a1 l1 c1 wd2 hg2 a2 l2 c2 w2 :=
  ⟨below_then h.b b, h.s0, h.s1, h.s2, ints_below h.i0 b, ints_below h.i1 b, ints_below h.i2 b, h.k0.below b, h.k1.below b, h.k2.below b⟩
theorem Lw3.turn {g : Nat} (h : Lw3 w wd0 hg0 a0 l0 c0 wd1 hg1 a1 l1 c1 wd2 hg2 a2 l2 c2 w1) (t : w1.grownBy w2 (some g)) (hg : w.heap.size + 3 ≤ g) : Lw3 w wd0 hg0 a0 l0 c0 wd1 hg1 a1 l1 c1 wd2 hg2 a2 l2 c2 w2 :=
  ⟨below_turn h.b t h.b.size (by omega), h.s0, h.s1, h.s2, ints_turn h.s0 h.b t (by omega), ints_turn h.s1 h.b t (by omega), ints_turn h.s2 h.b t (by omega), h.k0.turn t (by omega), h.k1.turn t (by omega), h.k2.turn t (by omega)⟩
end
theorem turn_set3 (w : World) (g i j k : Nat) (u v x : Value) : w.grownBy (((w.setCell ⟨g, i, none⟩ u).setCell ⟨g, j, none⟩ v).setCell ⟨g, k, none⟩ x) (some g) := turn_trans (turn_trans (turn_set _ _ _ _) (turn_set _ _ _ _)) (turn_set _ _ _ _)
theorem Box.set3 {w : World} {b : Nat} {t : TypeId} {v0 v1 v2 : Value} (h : Box w b t v0 v1 v2) (u0 u1 u2 : Value) : Box (((w.setCell ⟨b, 0, none⟩ u0).setCell ⟨b, 1, none⟩ u1).setCell ⟨b, 2, none⟩ u2) b t u0 u1 u2 := by
  unfold Box at *
  simp [World.setCell, Array.getElem?_modify, h]
theorem ints_own3 {w : World} {B b i j k : Nat} {a : Option Addr} {l : List Int} {u v x : Value} (h : OwnI w B a l) (hb : b < B) : Ints .i64 (((w.setCell ⟨b, i, none⟩ u).setCell ⟨b, j, none⟩ v).setCell ⟨b, k, none⟩ x) (((w.setCell ⟨b, i, none⟩ u).setCell ⟨b, j, none⟩ v).setCell ⟨b, k, none⟩ x).heap.size a l :=
  (ownI_set (ownI_set (ownI_set h hb _) hb _) hb _).ints
theorem size_set3 (w : World) (p q r : Addr) (u v x : Value) : (((w.setCell p u).setCell q v).setCell r x).heap.size = w.heap.size := by simp [World.setCell]
/-- the box of an answer may lie already -/
def MayBox (w : World) : Option Nat → Prop
  | none => True
  | some b => Box w b 34 (.int .i64 0) (.int .i64 0) (.slice none 0 0)
def cellAt (w : World) (i : Nat) (v : Value) : Option Nat → Prop
  | none => True
  | some b => w.cell? ⟨b, i, none⟩ = some v
def softAt (w : World) (i : Nat) : Option Nat → Prop
  | none => True
  | some b => w.frozen? ⟨b, i, none⟩ = false
theorem MayBox.below {w w' : World} {o : Option Nat} (h : MayBox w o) (b : Below w.heap.size w w') : MayBox w' o := by
  cases o with
  | none => trivial
  | some b' => exact Box.below h b
theorem MayBox.made {w w' : World} (b : Below (w.alloc (.cells #[.int .i64 0, .int .i64 0, .slice none 0 0] 34)).heap.size (w.alloc (.cells #[.int .i64 0, .int .i64 0, .slice none 0 0] 34)) w') : MayBox w' (some w.heap.size) := (Box.new w _ _ _ _).below b
theorem Box.set_other3 {w : World} {b g i j k : Nat} {t : TypeId} {v0 v1 v2 u v x : Value} (h : Box w b t v0 v1 v2) (hne : b ≠ g) : Box (((w.setCell ⟨g, i, none⟩ u).setCell ⟨g, j, none⟩ v).setCell ⟨g, k, none⟩ x) b t v0 v1 v2 := ((h.other (p := ⟨g, i, none⟩) hne u).other (p := ⟨g, j, none⟩) hne v).other (p := ⟨g, k, none⟩) hne x
theorem At.turnOr {w w' : World} {a : Option Addr} {g g' n : Nat} {k : Int} (h : At w a g (marks k n)) (o : w.grownBy w' (some g')) (hne : n = 0 ∨ g ≠ g') : At w' a g (marks k n) := by
  rcases hne with h0 | h0
  · subst h0; exact .inl rfl
  · exact h.turn o h0
theorem At.small {w : World} {a : Option Addr} {g : Nat} {l : List Int} (h : At w a g l) : l.length = 0 ∨ g < w.heap.size := by
  rcases h with h | ⟨_, h⟩
  · left; rw [h]; rfl
  · exact .inr h.lt
theorem drew_below (w : World) : Below w.heap.size w w.drew := ⟨rfl, rfl, rfl, Nat.le_refl _, fun _ _ => rfl⟩
theorem MayBox.made0 {w w' : World} (b : Below (w.alloc (.cells #[.int .i64 0, .int .i64 0, .slice none 0 0] 34)).drew.heap.size (w.alloc (.cells #[.int .i64 0, .int .i64 0, .slice none 0 0] 34)).drew w') : MayBox w' (some w.heap.size) := ((Box.new w _ _ _ _).below (drew_below _)).below b
theorem MayBox.facts {w : World} {o : Option Nat} (h : MayBox w o) : cellAt w 0 (.int .i64 0) o ∧ cellAt w 1 (.int .i64 0) o ∧ cellAt w 2 (.slice none 0 0) o ∧ softAt w 0 o ∧ softAt w 1 o ∧ softAt w 2 o := by
  cases o with
  | none => exact ⟨trivial, trivial, trivial, trivial, trivial, trivial⟩
  | some b' =>
    obtain ⟨h0, h1, h2⟩ := Box.cells h
    exact ⟨h0, h1, h2, Box.frozen h 0, Box.frozen h 1, Box.frozen h 2⟩
/-- a drawn answer: a field in a box of its own, and a bool; what else is known: P -/
def Got (P : World → Prop) (lo : Nat) (rw' rh : Int) (rl : List Int) (rb : Bool) (s t : Value) (wx : World) : Prop :=
  ∃ (bD : Nat) (a : Option Addr) (c : Nat), s = .pointer (some ⟨bD, 0, none⟩) ∧ t = .bool rb ∧ Box wx bD 34 (.int .i64 rw') (.int .i64 rh) (.slice a rl.length c) ∧ Ints .i64 wx wx.heap.size a rl ∧ lo ≤ bD ∧ bD < wx.heap.size ∧ P wx
/-! the marks once more, from a greater first number on -/
set_option maxHeartbeats 400000 in
theorem markIntsB_any (a : Option Addr) (l : List Int) (c g : Nat) (k0 : Int) (w : World) (hl : At w a g l) (hn : l.length ≤ 1048576) (h0 : 0 ≤ k0) (h1 : k0 ≤ 16777216) :
    Calls Try.prog 65 #[.slice a l.length c, .int .i64 k0] w fun e w' => e = .returned (.int .i64 (k0 + (l.length : Int))) ∧ At w' a g (marks k0 l.length) ∧ Only g w w' := by
  have HL := Lib.hid hl
  clear hl
  go_enter Try.func65, Try.ntmps65
  go_wp2
  go_loopw [1, 5] (fun q i wr => ∃ k : Nat, k ≤ l.length ∧ i = .int .i64 k ∧ q = .int .i64 (k0 + (k : Int)) ∧ At wr a g (part k0 l k) ∧ Only g w wr) (fun _ i _ => l.length - (intOf i).toNat)
  case atStart => exact ⟨0, Nat.zero_le _, rfl, by simp, by rw [part_zero]; exact HL.out, Only.refl g w⟩
  case round =>
    obtain ⟨k, hk, rfl, rfl, hat, ho⟩ := hrel
    have hpl := part_length k0 l k hk
    by_cases hlt : k < l.length
    · rcases hat with hat | ⟨rfl, hrow⟩
      · rw [hat] at hpl; simp at hpl; omega
      · obtain ⟨z, hc⟩ : ∃ z, wr.cell? ⟨g, k, none⟩ = some (.int .i64 z) := ⟨_, by rw [hrow.cell (k := k) (by rw [iv_length]; omega), iv_get]⟩
        have hf := hrow.frozen k
        have HR := Lib.hid (hrow.set k (.int .i64 (k0 + (k : Int))))
        have HO := Lib.hid ho
        have HS := Lib.hid (part_step k0 l k hlt)
        clear hpl hrow ho HL
        go_wp2
        go_roundw
        case rel => exact ⟨k + 1, by omega, by go_num, by go_num, .inr ⟨rfl, by have := HR.out; rw [iv_set, HS.out] at this; exact this⟩, HO.out.setCell k _⟩
        case measure => simp [intOf]; omega
    · obtain rfl : k = l.length := by omega
      have HP := Lib.hid (part_all k0 l)
      clear hpl HL
      go_wp2
      go_ret
      exact ⟨rfl, by rw [← HP.out]; exact hat, ho⟩


set_option maxHeartbeats 400000 in
theorem markFieldB_any (wd hg : Int) (a : Option Addr) (l : List Int) (c g : Nat) (k0 : Int) (w : World) (hl : At w a g l) (hn : l.length ≤ 1048576) (h0 : 0 ≤ k0) (h1 : k0 ≤ 16777216) :
    Calls Try.prog 23 #[.agg #[.int .i64 wd, .int .i64 hg, .slice a l.length c], .int .i64 k0] w fun e w' => e = .returned (.int .i64 (k0 + (l.length : Int))) ∧ At w' a g (marks k0 l.length) ∧ w.grownBy w' (some g) := by
  have HL := Lib.hid hl
  clear hl
  have bA := fun o => (Below.refl w.heap.size w).alloc (Nat.le_refl _) o
  have HM := Lib.hid (fun o => markIntsB_any a l c g k0 (w.alloc o) (HL.out.below (bA o)) hn h0 h1)
  go_enter Try.func23, Try.ntmps23
  go_wp2_with (go_at_call 65; refine (HM.out _).mono ?_; rintro e w1 ⟨rfl, ha, ho⟩; have HA := Lib.hid ha; have HO := Lib.hid ho; clear ha ho)
  go_ret
  exact ⟨rfl, HA.out, turn_trans (turn_below (bA _)) HO.out.1⟩


end Go.Proofs.Ytggdkibbfmjelaa
namespace Go.Proofs.Ytggdkibbfmjelaa
open Go.RowKit
set_option linter.unusedVariables false
set_option linter.unusedSimpArgs false
def newR (wd hg v : Int) : Option (Int × Int × List Int) := if (shapeB wd hg && cellB v) = true then some (wd, hg, List.replicate (wd * hg).toNat v) else none
theorem newR_no {wd hg v : Int} (h : (shapeB wd hg && cellB v) = false) : newR wd hg v = none := if_neg (by rw [h]; simp)
theorem newR_yes {wd hg v : Int} (h : (shapeB wd hg && cellB v) = true) : newR wd hg v = some (wd, hg, List.replicate (wd * hg).toNat v) := if_pos h
theorem newR_len (wd hg v : Int) : (rL (newR wd hg v)).length ≤ 64 := by
  cases h : (shapeB wd hg && cellB v) with
  | false => rw [newR_no h]; simp [rL]
  | true =>
    rw [newR_yes h]
    have hs : shapeB wd hg = true := by simp at h; exact h.1
    have := prod_bd hs
    simp [rL]; omega
theorem replicate_snoc (k : Nat) (v : Int) : List.replicate (k + 1) v = List.replicate k v ++ [v] := by rw [List.replicate_succ']
set_option maxRecDepth 100000 in
set_option maxHeartbeats 2000000 in
theorem fill_any (wd hg v : Int) (w : World) (hs : shapeB wd hg = true) :
    Calls Try.prog 124 #[.int .i64 wd, .int .i64 hg, .int .i64 v] w (FOne wd hg (List.replicate (wd * hg).toNat v) w) := by
  obtain ⟨i0, hi0', hz0, hz1, hz2⟩ := info_parts infoInt
  have hp := prod_bd hs
  obtain ⟨n, hn⟩ : ∃ n : Nat, wd * hg = (n : Int) := ⟨(wd * hg).toNat, by omega⟩
  rw [hn] at hp
  have HN := Lib.hid hn
  rw [hn]
  have hnat : ((n : Int)).toNat = n := by omega
  rw [hnat]
  clear hs hnat hn
  go_enter Try.func124, Try.ntmps124
  go_wp2
  go_loopw [8] (fun i wr => ∃ k : Nat, ∃ out : Value, k ≤ n ∧ i = .int .i64 k ∧ Box wr (w.heap.size + 1) 34 (.int .i64 wd) (.int .i64 hg) out ∧ Box wr w.heap.size 34 (.int .i64 0) (.int .i64 0) (.slice none 0 0) ∧
      wr.ownsRow (w.heap.size + 2) 3 1 out k (iv (List.replicate k v)) ∧ Below w.heap.size w wr) (fun i _ => n - (intOf i).toNat)
  case atStart =>
    refine ⟨0, .slice none 0 0, Nat.zero_le _, rfl, ?_, ?_, World.ownsRow_nil _ _ _ _, ((Below.refl _ _).alloc (Nat.le_refl _) _).alloc (by simp) _⟩
    · have := Box.new (w.alloc (.cells #[.int .i64 0, .int .i64 0, .slice none 0 0] 34)) 34 (.int .i64 wd) (.int .i64 hg) (.slice none 0 0)
      rw [World.size_alloc] at this
      exact this
    · exact (Box.new w 34 (.int .i64 0) (.int .i64 0) (.slice none 0 0)).alloc _
  case round =>
    obtain ⟨k, out, hk, rfl, hx, hr, hown, hB⟩ := hrel
    obtain ⟨c0, c1, c2⟩ := hx.cells
    have f2 := hx.frozen 2
    have HX := Lib.hid hx
    have HR := Lib.hid hr
    have HO := Lib.hid hown
    have HB := Lib.hid hB
    have hne := Lib.hid (own_ne_box hown hx (by decide))
    have hne2 := Lib.hid (own_ne_box hown hr (by decide))
    clear hx hr hown hB
    by_cases hlt : k < n
    · have hmul := HN.out
      have hi : (k : Int) < (n : Int) := by omega
      go_wp2_with (at_builtin; refine wpList_append_own _ rfl _ _ 30 rfl (w.heap.size + 2) 3 i0 (.int .i64 0) 1 8 Try.underlying30 hi0' hz0 hz1 hz2 rfl (by decide) _ k (iv (List.replicate k v)) rfl (HO.out.alloc _) ⟨wr.heap.size, 0, none⟩ 1 1 [.int .i64 v] rfl rfl (cell_one_new _ _ _) (by simp [Value.oneCell']) (by unfold maxLen; omega) (by omega) (by have := HX.out.lt; simp; omega) ?_; intro v' w1 hown' hgrow _; obtain ⟨g', cap', rfl⟩ := own_slice hown' (by omega); have HO1 := Lib.hid hown'; have HG1 := Lib.hid hgrow; have HX1 := Lib.hid ((HX.out.alloc _).grown hgrow (Ne.symm hne.out)); have HR1 := Lib.hid ((HR.out.alloc _).grown hgrow (Ne.symm hne2.out)); obtain ⟨d0, d1, d2⟩ := HX1.out.cells; have f3 := HX1.out.frozen 2; clear hown' hgrow)
      have hne3 := Lib.hid (own_ne_box HO1.out HX1.out (by decide))
      go_roundw
      case rel => exact ⟨k + 1, _, by omega, by go_num, HX1.out.set _, HR1.out.other (by simp <;> omega) _, by rw [replicate_snoc, iv_snoc]; exact own_setBox HO1.out hne3.out _ _,
        ((HB.out.alloc HB.out.size _).grown HG1.out (by have := HB.out.size; simp; omega) (fun j hj => by have := (HO.out.lt j hj).1; omega)).setCell (by simp <;> omega) _⟩
      case measure => simp [intOf]; omega
    · obtain rfl : k = n := by omega
      obtain ⟨a', c', hv, ho⟩ := ownI_of HO.out (by simp)
      rw [List.length_replicate] at hv
      subst hv
      have HO2 := Lib.hid ho
      clear ho HO hne hne2
      have hmul := HN.out
      obtain ⟨r0, r1, r2⟩ := HR.out.cells
      have g0 := HR.out.frozen 0
      have g1 := HR.out.frozen 1
      have g2 := HR.out.frozen 2
      go_wp2
      refine bodyPost_ret (v := .agg #[.int .i64 wd, .int .i64 hg, .slice a' k c']) (by simp [results, Try.results124, go_sem, r0, r1, r2]) rfl ⟨a', c', by simp, ?_, ?_⟩
      · exact (ownI_set (ownI_set (ownI_set HO2.out (by omega) _) (by omega) _) (by omega) _).more (by omega)
      · exact ((HB.out.setCell (by simp) _).setCell (by simp) _).setCell (by simp) _

/-- a row of n numbers, the first k of them v, the others 0 -/
def filled (v : Int) (k j : Nat) : Value := .int .i64 (if j < k then v else 0)

set_option maxRecDepth 100000 in
set_option maxHeartbeats 2000000 in
theorem implNew_any (wd hg v : Int) (w : World) :
    Calls Try.prog 61 #[.int .i64 wd, .int .i64 hg, .int .i64 v] w (FRet (newR wd hg v) w) := by
  cases hs : shapeB wd hg with
  | false =>
    rw [newR_no (by rw [hs]; rfl)]
    have C1 := Lib.hid (fun W => implShape_is wd hg false W hs)
    clear hs
    go_enter Try.func61, Try.ntmps61
    go_wp2_with (go_at_call 97; refine (C1.out _).mono ?_; rintro e w1 ⟨rfl, rfl⟩)
    refine bodyPost_ret (v := .tuple #[.agg #[.int .i64 0, .int .i64 0, .slice none 0 0], .bool false]) (by simp [results, Try.results61, go_sem]) rfl ⟨none, 0, rfl, OwnI.none_, ?_⟩
    exact below_all _ _
  | true =>
    have C1 := Lib.hid (fun W => implShape_is wd hg true W hs)
    cases hc : cellB v with
    | false =>
      rw [newR_no (by rw [hs, hc]; rfl)]
      have C2 := Lib.hid (fun W => implCell_is v false W hc)
      clear hs hc
      go_enter Try.func61, Try.ntmps61
      go_wp2_with (first | (go_at_call 97; refine (C1.out _).mono ?_; rintro e w1 ⟨rfl, rfl⟩) | (go_at_call 98; refine (C2.out _).mono ?_; rintro e w1 ⟨rfl, rfl⟩))
      refine bodyPost_ret (v := .tuple #[.agg #[.int .i64 0, .int .i64 0, .slice none 0 0], .bool false]) (by simp [results, Try.results61, go_sem]) rfl ⟨none, 0, rfl, OwnI.none_, ?_⟩
      exact below_all _ _
    | true =>
      rw [newR_yes (by rw [hs, hc]; rfl)]
      have C2 := Lib.hid (fun W => implCell_is v true W hc)
      have hp := prod_bd hs
      obtain ⟨n, hn⟩ : ∃ n : Nat, wd * hg = (n : Int) := ⟨(wd * hg).toNat, by omega⟩
      rw [hn] at hp ⊢
      have hnat : ((n : Int)).toNat = n := by omega
      rw [hnat]
      clear hs hc hnat
      have hmk := fun W => run_make_row' (P := Try.prog) 30 3 (.int .i64 0) 8 Try.underlying30 infoInt rfl .i64 .i64 n (by omega) (by omega) W
      go_enter Try.func61, Try.ntmps61
      go_wp2_with (first | (go_at_call 97; refine (C1.out _).mono ?_; rintro e w1 ⟨rfl, rfl⟩) | (go_at_call 98; refine (C2.out _).mono ?_; rintro e w1 ⟨rfl, rfl⟩))
      clear hmk
      go_loopw [26] (fun i wr => ∃ k : Nat, k ≤ n ∧ i = .int .i64 k ∧ wr.rowIs (w.heap.size + 1) 3 n (filled v k) ∧ Box wr w.heap.size 34 (.int .i64 0) (.int .i64 0) (.slice none 0 0) ∧ Below w.heap.size w wr) (fun i _ => n - (intOf i).toNat)
      case atStart =>
        refine ⟨0, Nat.zero_le _, rfl, ?_, (Box.new w 34 (.int .i64 0) (.int .i64 0) (.slice none 0 0)).alloc _, (below_all _ _).alloc (by simp) _⟩
        have := (World.rowIs_made (w.alloc (.cells #[.int .i64 0, .int .i64 0, .slice none 0 0] 34)) (.int .i64 0) n 3).congr (g := filled v 0) (fun i _ => by simp [filled])
        rw [World.size_alloc] at this
        exact this
      case round =>
        obtain ⟨k, hk, rfl, hrow, hx, hB⟩ := hrel
        by_cases hlt : k < n
        · have hi : (k : Int) < (n : Int) := by omega
          have hi0 : (0 : Int) ≤ (k : Int) := by omega
          have hg' := hrow.cell hlt
          have hf := hrow.frozen k
          have HR := Lib.hid hrow
          have HX := Lib.hid hx
          have HB := Lib.hid hB
          clear hrow hx hB
          go_wp2
          go_roundw
          case rel => exact ⟨k + 1, by omega, by go_num, (HR.out.set k (.int .i64 v)).congr (fun j _ => by unfold filled; by_cases e : j = k; (rw [if_pos e, if_pos (by omega)]); (rw [if_neg e]; by_cases e2 : j < k; (rw [if_pos e2, if_pos (by omega)]); (rw [if_neg e2, if_neg (by omega)]))), HX.out.other (by simp <;> omega) _, HB.out.setCell (by simp <;> omega) _⟩
          case measure => simp [intOf]; omega
        · obtain rfl : k = n := by omega
          have ho := OwnI.of_row (B := w.heap.size + 1) (l := List.replicate k v) hrow (by simp) (fun j hj => by simp at hj; simp [filled, hj]) (Nat.le_refl _)
          have HO := Lib.hid ho
          have HB := Lib.hid hB
          obtain ⟨r0, r1, r2⟩ := hx.cells
          have g0 := hx.frozen 0
          have g1 := hx.frozen 1
          have g2 := hx.frozen 2
          clear ho hB hrow hx
          go_wp2
          refine bodyPost_ret (v := .tuple #[.agg #[.int .i64 wd, .int .i64 hg, .slice (some ⟨w.heap.size + 1, 0, none⟩) k k], .bool true]) (by simp [results, Try.results61, go_sem, r0, r1, r2]) rfl ⟨some ⟨w.heap.size + 1, 0, none⟩, k, by simp [rW, rH, rL, rB], ?_, ?_⟩
          · exact (ownI_set (ownI_set (ownI_set HO.out (by omega) _) (by omega) _) (by omega) _).more (by omega)
          · exact ((HB.out.setCell (by simp) _).setCell (by simp) _).setCell (by simp) _
end Go.Proofs.Ytggdkibbfmjelaa
namespace Go.Proofs.Ytggdkibbfmjelaa
open Go.RowKit
set_option linter.unusedVariables false
set_option linter.unusedSimpArgs false
/-- the argument, its box and the result's; the field in box ob, its cells S in block g -/
structure Bk (w : World) (ob g : Nat) (wd hg : Int) (a : Option Addr) (l : List Int) (c : Nat) (P Q : Int) (S : List Int) (cap : Nat) (wr : World) : Prop where
  f : Fr1 w wd hg a l c wr
  x : Box wr ob 34 (.int .i64 P) (.int .i64 Q) (.slice (some ⟨g, 0, none⟩) S.length cap)
  o : Row wr g 3 (iv S)
  n : w.heap.size + 1 < ob
  m : w.heap.size + 1 < g
  ne : g ≠ ob
section
variable {w w1 w2 : World} {ob g c cap : Nat} {wd hg P Q : Int} {a : Option Addr} {l S : List Int}
theorem Bk.step (h : Bk w ob g wd hg a l c P Q S cap w1) (b : Below w1.heap.size w1 w2) : Bk w ob g wd hg a l c P Q S cap w2 :=
  ⟨h.f.step b, h.x.below b, h.o.of_block (b.block g h.o.lt), h.n, h.m, h.ne⟩
theorem Bk.drew (h : Bk w ob g wd hg a l c P Q S cap w1) : Bk w ob g wd hg a l c P Q S cap w1.drew := h.step (drew_below _)
theorem Bk.put (h : Bk w ob g wd hg a l c P Q S cap w1) (j : Nat) (z : Int) : Bk w ob g wd hg a l c P Q (S.set j z) cap (w1.setCell ⟨g, j, none⟩ (.int .i64 z)) :=
  ⟨h.f.turn (turn_set w1 g j _) (by have := h.m; omega), by rw [List.length_set]; exact h.x.other (show ob ≠ g from Ne.symm h.ne) _, by have := h.o.set j (.int .i64 z); rw [iv_set] at this; exact this, h.n, h.m, h.ne⟩
theorem Bk.get (h : Bk w ob g wd hg a l c P Q S cap w1) {j : Nat} (hj : j < S.length) : w1.cell? ⟨g, j, none⟩ = some (.int .i64 S[j]) := by
  rw [h.o.cell (k := j) (by rw [iv_length]; exact hj), iv_get]
theorem OwnI.row {w : World} {B : Nat} {a : Option Addr} {l : List Int} (h : OwnI w B a l) (h0 : 0 < l.length) : ∃ g, B ≤ g ∧ a = some ⟨g, 0, none⟩ ∧ Row w g 3 (iv l) := by
  obtain ⟨g, h1, h2⟩ := h
  rcases h2 with rfl | ⟨h3, h4⟩
  · simp at h0
  · exact ⟨g, h1, h3, h4⟩
/-- the field laid in a box behind the call -/
theorem Bk.new {a1 : Option Addr} (hf : Fr1 w wd hg a l c w1) (o1 : OwnI w1 (w.heap.size + 2) a1 S) (h0 : 0 < S.length) :
    ∃ g, a1 = some ⟨g, 0, none⟩ ∧ Bk w w1.heap.size g wd hg a l c P Q S cap (w1.alloc (.cells #[.int .i64 P, .int .i64 Q, .slice a1 S.length cap] 34)) := by
  obtain ⟨g, h1, rfl, h3⟩ := o1.row h0
  have hz := hf.r.lt
  exact ⟨g, rfl, hf.step (below_all _ _), Box.new _ _ _ _ _, h3.alloc _, by omega, by omega, by have := h3.lt; omega⟩
/-- .. or in a box that was there before -/
theorem Bk.newB {a1 : Option Addr} {v0 v1 v2 : Value} {ob : Nat} (hf : Fr1 w wd hg a l c w1) (hx : Box w1 ob 34 v0 v1 v2) (hob : w.heap.size + 1 < ob) (o1 : OwnI w1 (w.heap.size + 2) a1 S) (h0 : 0 < S.length) :
    ∃ g, a1 = some ⟨g, 0, none⟩ ∧ Bk w ob g wd hg a l c P Q S cap (((w1.setCell ⟨ob, 0, none⟩ (.int .i64 P)).setCell ⟨ob, 1, none⟩ (.int .i64 Q)).setCell ⟨ob, 2, none⟩ (.slice a1 S.length cap)) := by
  obtain ⟨g, h1, rfl, h3⟩ := o1.row h0
  have hne : g ≠ ob := by
    rintro rfl
    obtain ⟨cc, h4, _⟩ := h3
    unfold Box at hx
    rw [hx] at h4
    injection h4 with h4
    injection h4 with _ h5
    exact absurd h5 (by decide)
  exact ⟨g, rfl, hf.turn (turn_set3 _ _ _ _ _ _ _ _) (by omega), hx.set3 _ _ _, ((h3.other (p := ⟨ob, 0, none⟩) hne _).other (p := ⟨ob, 1, none⟩) hne _).other (p := ⟨ob, 2, none⟩) hne _, hob, by omega, hne⟩
/-- the field is returned: its cells lie in memory of the call's own -/
theorem Bk.own (h : Bk w ob g wd hg a l c P Q S cap w1) : OwnI w1 (w.heap.size + 2) (some ⟨g, 0, none⟩) S := ⟨g, h.m, .inr ⟨rfl, h.o⟩⟩
theorem Bk.ret (h : Bk w ob g wd hg a l c P Q S cap w1) {e : Ending} (he : e = .returned (.agg #[.int .i64 P, .int .i64 Q, .slice (some ⟨g, 0, none⟩) S.length cap])) {q : Nat} (hq : q = w.heap.size ∨ q = w.heap.size + 1) (u0 u1 u2 : Value) :
    FOne P Q S w e (((w1.setCell ⟨q, 0, none⟩ u0).setCell ⟨q, 1, none⟩ u1).setCell ⟨q, 2, none⟩ u2) :=
  ⟨_, _, he, (ownI_set (ownI_set (ownI_set h.own (by omega) _) (by omega) _) (by omega) _).more (by omega), ((h.f.b.setCell (p := ⟨q, 0, none⟩) (by show w.heap.size ≤ q; omega) _).setCell (p := ⟨q, 1, none⟩) (by show w.heap.size ≤ q; omega) _).setCell (p := ⟨q, 2, none⟩) (by show w.heap.size ≤ q; omega) _⟩
theorem Bk.ret2 (h : Bk w ob g wd hg a l c P Q S cap w1) {e : Ending} (he : e = .returned (.tuple #[.agg #[.int .i64 P, .int .i64 Q, .slice (some ⟨g, 0, none⟩) S.length cap], .bool true])) {q : Nat} (hq : q = w.heap.size ∨ q = w.heap.size + 1) (u0 u1 u2 : Value) :
    FRet (some (P, Q, S)) w e (((w1.setCell ⟨q, 0, none⟩ u0).setCell ⟨q, 1, none⟩ u1).setCell ⟨q, 2, none⟩ u2) :=
  ⟨_, _, he, (ownI_set (ownI_set (ownI_set h.own (by omega) _) (by omega) _) (by omega) _).more (by omega), ((h.f.b.setCell (p := ⟨q, 0, none⟩) (by show w.heap.size ≤ q; omega) _).setCell (p := ⟨q, 1, none⟩) (by show w.heap.size ≤ q; omega) _).setCell (p := ⟨q, 2, none⟩) (by show w.heap.size ≤ q; omega) _⟩
end
end Go.Proofs.Ytggdkibbfmjelaa
namespace Go.Proofs.Ytggdkibbfmjelaa
open Go.RowKit
set_option linter.unusedVariables false
set_option linter.unusedSimpArgs false
end Go.Proofs.Ytggdkibbfmjelaa
namespace Go.Proofs.Ytggdkibbfmjelaa
open Go.RowKit Go.Maps
set_option linter.unusedVariables false
theorem ptLaidOut : laidOutB Try.prog = true := by kernel_rfl
theorem ptRow : (83 : TypeId) < Try.prog.types.size := of_decide_eq_true (by kernel_rfl)
theorem ptKeyed : Keyed Try.prog 83 := Keyed.of_law (deep_law_laid ptLaidOut (m := 2) (by omega) ptRow (by kernel_rfl) (by rw [Try.underlying83]))
theorem zeroBool (w : World) : (zeroValue 4).run Try.prog w = .ok (.bool false) w := by kernel_rfl
theorem ptKeyType : Try.prog.keyType 83 = true := by kernel_rfl
theorem ptCells : Try.prog.cellsOf 83 = 2 := by kernel_rfl
theorem intCells : Try.prog.cellsOf 3 = 1 := by kernel_rfl
theorem tySize : ∃ m, Try.prog.types.size = m + 2 := ⟨Try.prog.types.size - 2, by have : 2 ≤ Try.prog.types.size := of_decide_eq_true (by kernel_rfl); omega⟩
def okI (x : Int) : Prop := -9223372036854775808 ≤ x ∧ x ≤ 9223372036854775807
theorem okI_wf {x : Int} (h : okI x) : (Lit.int .i64 x).wf = true := by unfold okI at h; exact WalkArith.wf_i64 (by omega)
def pkey (x y : Int) : Lit := .string (keyBytes [.int .i64 x, .int .i64 y])
theorem pkey_is {x y : Int} (hx : okI x) (hy : okI y) : keyOf Try.prog 83 (.agg #[.int .i64 x, .int .i64 y]) = some (pkey x y) := by
  have hwx := okI_wf hx
  have hwy := okI_wf hy
  obtain ⟨m, hm⟩ := tySize
  unfold keyOf
  simp only [Try.underlying83]
  rw [if_pos (by simp [ptKeyType, Value.formed, Try.underlying83, ptCells]), hm]
  unfold Program.keyLits
  simp only [Try.underlying83, Value.cells]
  rw [if_pos (by simp [ptCells])]
  simp [intCells, Program.keyLits, Try.underlying3, hwx, hwy, pkey]
theorem pkey_inj {x y x' y' : Int} (hx : okI x) (hy : okI y) (hx' : okI x') (hy' : okI y') (h : pkey x y = pkey x' y') : x = x' ∧ y = y' := by
  have h1 := pkey_is hx hy
  have h2 := pkey_is hx' hy'
  rw [← h] at h2
  have e := ptKeyed.inj h1 h2
  simpa using e
theorem plainElem_bool_inv {H : Type} {P : Program} {e : TypeId} (he : P.underlying e = some .bool) {v : Value} {z : DataW H × List MemPlace} (h : plainElem P e v = some z) : ∃ x, v = .bool x ∧ z = (.lit (.bool x), []) := by
  unfold plainElem at h
  rw [he] at h
  cases v <;> simp at h
  exact ⟨_, rfl, h.symm⟩
/-- block b is a map of at most n entries, made by the call; at the point (x, y) it holds S x y -/
def PSet (w : World) (b n : Nat) (S : Int → Int → Bool) : Prop :=
  ∃ D : DataW Unit, w.ownsMap Try.prog 83 (plainElem Try.prog 4) b n D ∧ ∀ x y, okI x → okI y → D.atKey (pkey x y) (.lit (.bool false)) = .lit (.bool (S x y))
section
variable {w w' : World} {b n : Nat} {S : Int → Int → Bool}
theorem PSet.made (w : World) : PSet (w.alloc (.map #[] 0)) w.heap.size 0 (fun _ _ => false) :=
  ⟨.map [], World.ownsMap_made _ _ _ _, fun x y _ _ => rfl⟩
theorem PSet.lt (h : PSet w b n S) : b < w.heap.size := by obtain ⟨D, h1, _⟩ := h; exact h1.lt
theorem PSet.mono {m : Nat} (h : PSet w b n S) (hm : n ≤ m) : PSet w b m S := by obtain ⟨D, h1, h2⟩ := h; exact ⟨D, h1.mono hm, h2⟩
theorem PSet.kept {row : Option Nat} (h : PSet w b n S) (hg : w.grownBy w' row) (hne : some b ≠ row) : PSet w' b n S := by obtain ⟨D, h1, h2⟩ := h; exact ⟨D, h1.kept hg hne, h2⟩
theorem PSet.below {B : Nat} (h : PSet w b n S) (hb : Below B w w') (hB : b < B) : PSet w' b n S := by
  obtain ⟨D, ⟨es, clock, h3, h4⟩, h2⟩ := h
  exact ⟨D, ⟨es, clock, (hb.block b hB).trans h3, h4⟩, h2⟩
theorem PSet.alloc (h : PSet w b n S) (o : Obj) : PSet (w.alloc o) b n S := by obtain ⟨D, h1, h2⟩ := h; exact ⟨D, h1.alloc o, h2⟩
theorem PSet.drew (h : PSet w b n S) (d : Drew w w') : PSet w' b n S := by obtain ⟨m, rfl⟩ := d; exact h
theorem PSet.setCell (h : PSet w b n S) {a : Addr} (ha : b ≠ a.block) (u : Value) : PSet (w.setCell a u) b n S := by obtain ⟨D, h1, h2⟩ := h; exact ⟨D, h1.setCell ha u, h2⟩
theorem PSet.congr {S' : Int → Int → Bool} (h : PSet w b n S) (e : ∀ x y, okI x → okI y → S x y = S' x y) : PSet w b n S' := by
  obtain ⟨D, h1, h2⟩ := h; exact ⟨D, h1, fun x y hx hy => by rw [h2 x y hx hy, e x y hx hy]⟩
theorem PSet.look {t : TypeId} (h : PSet w b n S) (ht : Try.prog.underlying t = some (.map 83 4)) {x y : Int} (hx : okI x) (hy : okI y) :
    (Instr.lookup t (.map (some b)) (.agg #[.int .i64 x, .int .i64 y]) false).run Try.prog w = .ok (.bool (S x y)) w := by
  obtain ⟨D, h1, h2⟩ := h
  obtain ⟨v, ps, hr, hv⟩ := h1.lookup ptKeyed ht (zeroBool w) (plainElem_bool Try.underlying4 false) (pkey_is hx hy)
  rw [h2 x y hx hy] at hv
  obtain ⟨x', rfl, hz⟩ := plainElem_bool_inv Try.underlying4 hv
  simp only [Prod.mk.injEq, DataW.lit.injEq, Lit.bool.injEq] at hz
  rw [hr, hz.1]
theorem PSet.put {t : TypeId} (h : PSet w b n S) (ht : Try.prog.underlying t = some (.map 83 4)) (hn : n < maxLen) {x y : Int} (hx : okI x) (hy : okI y) (v : Bool) :
    ∃ w', (Instr.mapUpdate t (.map (some b)) (.agg #[.int .i64 x, .int .i64 y]) (.bool v)).run Try.prog w = .ok () w' ∧ PSet w' b (n + 1) (fun p q => if p = x ∧ q = y then v else S p q) ∧ w.grownBy w' (some b) ∧ w'.heap.size = w.heap.size := by
  obtain ⟨D, h1, h2⟩ := h
  obtain ⟨w', hr, h3, h4⟩ := h1.store ptKeyed ht hn (pkey_is hx hy) (plainElem_bool Try.underlying4 v)
  refine ⟨w', hr, ⟨_, h3, fun p q hp hq => ?_⟩, h4.grown, ?_⟩
  · show _ = DataW.lit (.bool (if p = x ∧ q = y then v else S p q))
    by_cases e : p = x ∧ q = y
    · rw [if_pos e]
      obtain ⟨rfl, rfl⟩ := e
      exact atKey_put_same h1.isMap (ptKeyed.key (pkey_is hp hq)) _ _
    · rw [if_neg e, ← h2 p q hp hq]
      exact atKey_put_other (fun e2 => e (pkey_inj hp hq hx hy e2)) _ _
  · obtain ⟨es, clock, es', clock', _, rfl⟩ := h4; simp [ChangeMaps.setBlock]
theorem PSet.del {t : TypeId} (h : PSet w b n S) (ht : Try.prog.underlying t = some (.map 83 4)) {x y : Int} (hx : okI x) (hy : okI y) (ty : TypeId) :
    ∃ w', (Builtin.delete_ #[t, 83] ty #[.map (some b), .agg #[.int .i64 x, .int .i64 y]]).run Try.prog w = .ok (.tuple #[]) w' ∧ PSet w' b n (fun p q => if p = x ∧ q = y then false else S p q) ∧ w.grownBy w' (some b) ∧ w'.heap.size = w.heap.size := by
  obtain ⟨D, h1, h2⟩ := h
  obtain ⟨w', hr, h3, h4⟩ := h1.drop ptKeyed ht (pkey_is hx hy) ty
  refine ⟨w', hr, ⟨_, h3, fun p q hp hq => ?_⟩, h4.grown, ?_⟩
  · show _ = DataW.lit (.bool (if p = x ∧ q = y then false else S p q))
    by_cases e : p = x ∧ q = y
    · rw [if_pos e]
      obtain ⟨rfl, rfl⟩ := e
      exact atKey_del_same _
    · rw [if_neg e, ← h2 p q hp hq]
      exact atKey_del_other (fun e2 => e (pkey_inj hp hq hx hy e2)) _
  · obtain ⟨es, clock, es', clock', _, rfl⟩ := h4; simp [ChangeMaps.setBlock]
end
section
variable (w : World) {ops : Array Oper} {rest : List Oper} {o : Oper} {a : Act} {Q : Exit → Act → World → Prop}
/-- 'm[p]', p a point, at the operation -/
theorem wpList_look_set (hg : o.guard = none) (m x : Operand) (t : TypeId) (hop : o.op = Op.lookup t m x false) (ht : Try.prog.underlying t = some (.map 83 4)) (b n : Nat) (S : Int → Int → Bool) (hm : a.eval m = .map (some b)) (hs : PSet w b n S)
    (p q : Int) (hx : a.eval x = .agg #[.int .i64 p, .int .i64 q]) (hp : okI p) (hq : okI q) (v : Bool) (hv : S p q = v) (hK : wpList Try.prog ops Q rest (a.put o.dst (.bool v)) w) : wpList Try.prog ops Q (o :: rest) a w := by
  refine wpList_plain hg fun K' hK' => ?_
  have hr := hs.look ht hp hq
  rw [hv] at hr
  unfold Oper.wp
  simp [execOp, hop, hm, hx, hr, Result.andThen]
  exact hK' _ _ hK
/-- 'm[p] = v' at the operation -/
theorem wpList_put_set (hg : o.guard = none) (m x y : Operand) (t : TypeId) (hop : o.op = Op.mapUpdate t m x y) (ht : Try.prog.underlying t = some (.map 83 4)) (b n : Nat) (S : Int → Int → Bool) (hm : a.eval m = .map (some b)) (hs : PSet w b n S) (hn : n < maxLen)
    (p q : Int) (hx : a.eval x = .agg #[.int .i64 p, .int .i64 q]) (hp : okI p) (hq : okI q) (v : Bool) (hv : a.eval y = .bool v)
    (hK : ∀ w', PSet w' b (n + 1) (fun p' q' => if p' = p ∧ q' = q then v else S p' q') → w.grownBy w' (some b) → w'.heap.size = w.heap.size → wpList Try.prog ops Q rest (a.put o.dst undef) w') : wpList Try.prog ops Q (o :: rest) a w := by
  refine wpList_plain hg fun K' hK' => ?_
  obtain ⟨w', hr, h1, h2, h3⟩ := hs.put ht hn hp hq v
  unfold Oper.wp
  simp [execOp, hop, hm, hx, hv, hr, Result.andThen]
  exact hK' _ _ (hK w' h1 h2 h3)
/-- 'delete(m, p)' at the operation -/
theorem wpList_del_set (hg : o.guard = none) (m x : Operand) (t : TypeId) (hop : o.op = Op.call { callee := Callee.builtin Builtin.delete, args := #[m, x], argTypes := #[t, 83] }) (ht : Try.prog.underlying t = some (.map 83 4)) (b n : Nat) (S : Int → Int → Bool) (hm : a.eval m = .map (some b)) (hs : PSet w b n S)
    (p q : Int) (hx : a.eval x = .agg #[.int .i64 p, .int .i64 q]) (hp : okI p) (hq : okI q)
    (hK : ∀ w', PSet w' b n (fun p' q' => if p' = p ∧ q' = q then false else S p' q') → w.grownBy w' (some b) → w'.heap.size = w.heap.size → wpList Try.prog ops Q rest (a.put o.dst (.tuple #[])) w') : wpList Try.prog ops Q (o :: rest) a w := by
  refine wpList_plain hg fun K' hK' => ?_
  obtain ⟨w', hr, h1, h2, h3⟩ := hs.del ht hp hq o.type
  unfold Oper.wp
  simp [execOp, hop, resolve, invoke, builtin, hm, hx, hr, Result.andThen]
  exact hK' _ _ (hK w' h1 h2 h3)
end
end Go.Proofs.Ytggdkibbfmjelaa
namespace Go.Proofs.Ytggdkibbfmjelaa
open Go.RowKit
set_option linter.unusedVariables false
set_option linter.unusedSimpArgs false
set_option maxHeartbeats 1000000 in
theorem pointAt_any (wd i : Int) (w : World) (h1 : 1 ≤ wd) (h2 : wd ≤ 8) (h3 : 0 ≤ i) (h4 : i ≤ 64) :
    Calls Try.prog 62 #[.int .i64 wd, .int .i64 i] w fun e w' => e = .returned (.agg #[.int .i64 (i % wd), .int .i64 (i / wd)]) ∧ Below w.heap.size w w' := by
  have hne : ¬ wd = 0 := by omega
  go_enter Try.func62, Try.ntmps62
  go_wp2
  go_region
  all_goals go_wp2
  all_goals refine bodyPost_ret (v := .agg #[.int .i64 (i % wd), .int .i64 (i / wd)]) (by simp [results, Try.results62, go_sem]) rfl ⟨rfl, ?_⟩
  all_goals exact (below_all _ _).drew
theorem below_drewN {B : Nat} {w w' : World} (h : Below B w w') (n : Nat) : Below B w (w'.drewN n) := ⟨h.os, h.tape, h.output, h.size, h.block⟩
end Go.Proofs.Ytggdkibbfmjelaa
namespace Go.Proofs.Ytggdkibbfmjelaa
open Go.RowKit
set_option linter.unusedVariables false
set_option linter.unusedSimpArgs false
/-- a field and a motion by value, a field as a result -/
structure Fm1 (w : World) (wd hg : Int) (a : Option Addr) (l : List Int) (c : Nat) (mx my : Int) (w' : World) : Prop where
  b : Below w.heap.size w w'
  s0 : Ints .i64 w w.heap.size a l
  i0 : Ints .i64 w' w'.heap.size a l
  k0 : Box w' w.heap.size 34 (.int .i64 wd) (.int .i64 hg) (.slice a l.length c)
  m : MBox w' (w.heap.size + 1) 24 mx my
  r : Box w' (w.heap.size + 2) 34 (.int .i64 0) (.int .i64 0) (.slice none 0 0)
section
variable {w w1 w2 : World} {ob g c cap : Nat} {wd hg mx my P Q : Int} {a : Option Addr} {l S : List Int}
theorem Fm1.new (h : Ints .i64 w w.heap.size a l) (mx my : Int) : Fm1 w wd hg a l c mx my (((w.alloc (.cells #[.int .i64 wd, .int .i64 hg, .slice a l.length c] 34)).alloc (.cells #[.int .i64 mx, .int .i64 my] 24)).alloc (.cells #[.int .i64 0, .int .i64 0, .slice none 0 0] 34)) := by
  refine ⟨(((Below.refl w.heap.size w).alloc (by simp) _).alloc (by simp) _).alloc (by simp; omega) _, h, ints_alloc (ints_alloc (ints_alloc h _) _) _, ?_, ?_, ?_⟩
  · exact ((Box.new w _ _ _ _).alloc _).alloc _
  · have h1 := (MBox.new (w.alloc (.cells #[.int .i64 wd, .int .i64 hg, .slice a l.length c] 34)) 24 mx my).below (below_all _ (.cells #[.int .i64 0, .int .i64 0, .slice none 0 0] 34))
    simp only [World.size_alloc] at h1
    exact h1
  · have h1 := Box.new ((w.alloc (.cells #[.int .i64 wd, .int .i64 hg, .slice a l.length c] 34)).alloc (.cells #[.int .i64 mx, .int .i64 my] 24)) 34 (.int .i64 0) (.int .i64 0) (.slice none 0 0)
    simp only [World.size_alloc] at h1
    exact h1
theorem Fm1.step (h : Fm1 w wd hg a l c mx my w1) (b : Below w1.heap.size w1 w2) : Fm1 w wd hg a l c mx my w2 := ⟨below_then h.b b, h.s0, ints_below h.i0 b, h.k0.below b, h.m.below b, h.r.below b⟩
theorem Fm1.turn {g : Nat} (h : Fm1 w wd hg a l c mx my w1) (t : w1.grownBy w2 (some g)) (hg' : w.heap.size + 3 ≤ g) : Fm1 w wd hg a l c mx my w2 :=
  ⟨below_turn h.b t h.b.size (by omega), h.s0, ints_turn h.s0 h.b t (by omega), h.k0.turn t (by omega), h.m.turn t (by omega), h.r.turn t (by omega)⟩
/-- the field that is written, in box ob, its cells S in block g -/
structure Bm (w : World) (ob g : Nat) (wd hg : Int) (a : Option Addr) (l : List Int) (c : Nat) (mx my P Q : Int) (S : List Int) (cap : Nat) (wr : World) : Prop where
  f : Fm1 w wd hg a l c mx my wr
  x : Box wr ob 34 (.int .i64 P) (.int .i64 Q) (.slice (some ⟨g, 0, none⟩) S.length cap)
  o : Row wr g 3 (iv S)
  n : w.heap.size + 2 < ob
  m : w.heap.size + 2 < g
  ne : g ≠ ob
theorem Bm.step (h : Bm w ob g wd hg a l c mx my P Q S cap w1) (b : Below w1.heap.size w1 w2) : Bm w ob g wd hg a l c mx my P Q S cap w2 :=
  ⟨h.f.step b, h.x.below b, h.o.of_block (b.block g h.o.lt), h.n, h.m, h.ne⟩
theorem Bm.put (h : Bm w ob g wd hg a l c mx my P Q S cap w1) (j : Nat) (z : Int) : Bm w ob g wd hg a l c mx my P Q (S.set j z) cap (w1.setCell ⟨g, j, none⟩ (.int .i64 z)) :=
  ⟨h.f.turn (turn_set w1 g j _) (by have := h.m; omega), by rw [List.length_set]; exact h.x.other (show ob ≠ g from Ne.symm h.ne) _, by have := h.o.set j (.int .i64 z); rw [iv_set] at this; exact this, h.n, h.m, h.ne⟩
theorem Bm.get (h : Bm w ob g wd hg a l c mx my P Q S cap w1) {j : Nat} (hj : j < S.length) : w1.cell? ⟨g, j, none⟩ = some (.int .i64 S[j]) := by
  rw [h.o.cell (k := j) (by rw [iv_length]; exact hj), iv_get]
theorem Bm.new {a1 : Option Addr} (hf : Fm1 w wd hg a l c mx my w1) (o1 : OwnI w1 (w.heap.size + 3) a1 S) (h0 : 0 < S.length) :
    ∃ g, a1 = some ⟨g, 0, none⟩ ∧ Bm w w1.heap.size g wd hg a l c mx my P Q S cap (w1.alloc (.cells #[.int .i64 P, .int .i64 Q, .slice a1 S.length cap] 34)) := by
  obtain ⟨g, h1, rfl, h3⟩ := o1.row h0
  have hz := hf.r.lt
  exact ⟨g, rfl, hf.step (below_all _ _), Box.new _ _ _ _ _, h3.alloc _, by omega, by omega, by have := h3.lt; omega⟩
theorem Bm.own (h : Bm w ob g wd hg a l c mx my P Q S cap w1) : OwnI w1 (w.heap.size + 3) (some ⟨g, 0, none⟩) S := ⟨g, h.m, .inr ⟨rfl, h.o⟩⟩
theorem Bm.ret2 (h : Bm w ob g wd hg a l c mx my P Q S cap w1) {e : Ending} (he : e = .returned (.tuple #[.agg #[.int .i64 P, .int .i64 Q, .slice (some ⟨g, 0, none⟩) S.length cap], .bool true])) (u0 u1 u2 : Value) :
    FRet (some (P, Q, S)) w e (((w1.setCell ⟨w.heap.size + 2, 0, none⟩ u0).setCell ⟨w.heap.size + 2, 1, none⟩ u1).setCell ⟨w.heap.size + 2, 2, none⟩ u2) :=
  ⟨_, _, he, (ownI_set (ownI_set (ownI_set h.own (by simp) _) (by simp) _) (by simp) _).more (by omega), ((h.f.b.setCell (p := ⟨w.heap.size + 2, 0, none⟩) (by simp) _).setCell (p := ⟨w.heap.size + 2, 1, none⟩) (by simp) _).setCell (p := ⟨w.heap.size + 2, 2, none⟩) (by simp) _⟩
end
set_option maxRecDepth 100000 in
set_option maxHeartbeats 8000000 in
theorem implMove_any (wd hg : Int) (a : Option Addr) (l : List Int) (c : Nat) (mx my : Int) (w : World) (hl : Ints .i64 w w.heap.size a l) (hn : l.length ≤ 1048576) :
    Calls Try.prog 21 #[.agg #[.int .i64 wd, .int .i64 hg, .slice a l.length c], .agg #[.int .i64 mx, .int .i64 my]] w (FRet (moveR wd hg l mx my) w) := by
  have F0 := Lib.hid (Fm1.new (wd := wd) (hg := hg) (c := c) hl mx my)
  obtain ⟨W0, hW0⟩ : ∃ W, ((w.alloc (.cells #[.int .i64 wd, .int .i64 hg, .slice a l.length c] 34)).alloc (.cells #[.int .i64 mx, .int .i64 my] 24)).alloc (.cells #[.int .i64 0, .int .i64 0, .slice none 0 0] 34) = W := ⟨_, rfl⟩
  rw [hW0] at F0
  have HW := Lib.hid hW0
  clear hl hW0
  cases hs : goodB wd hg l with
  | false =>
    rw [moveR_no (by unfold movB; rw [hs]; rfl)]
    have HC := Lib.hid (fun W i => implGood_is wd hg a l c _ false W i (Nat.le_refl _) hn hs)
    clear hs
    go_enter Try.func21, Try.ntmps21
    go_wp2_with fail
    rw [HW.out]
    refine (HC.out _ F0.out.i0).mono ?_
    rintro e w1 ⟨rfl, b1⟩
    have F1 := Lib.hid (F0.out.step b1)
    clear b1 F0
    obtain ⟨r0, r1, r2⟩ := F1.out.r.cells
    have g0 := F1.out.r.frozen 0
    have g1 := F1.out.r.frozen 1
    have g2 := F1.out.r.frozen 2
    go_wp2
    refine bodyPost_ret (v := .tuple #[.agg #[.int .i64 0, .int .i64 0, .slice none 0 0], .bool false]) (by simp [results, Try.results21, go_sem, r0, r1, r2]) rfl ⟨none, 0, rfl, OwnI.none_, ?_⟩
    exact ((F1.out.b.setCell (by simp <;> omega) _).setCell (by simp <;> omega) _).setCell (by simp <;> omega) _
  | true =>
    have HC := Lib.hid (fun W i => implGood_is wd hg a l c _ true W i (Nat.le_refl _) hn hs)
    cases hmt : motB mx my with
    | false =>
      rw [moveR_no (by unfold movB; rw [hmt]; simp)]
      have HG := Lib.hid (fun W => implMot_is mx my false W hmt)
      clear hs hmt
      go_enter Try.func21, Try.ntmps21
      go_wp2_with fail
      rw [HW.out]
      refine (HC.out _ F0.out.i0).mono ?_
      rintro e w1 ⟨rfl, b1⟩
      have F1 := Lib.hid (F0.out.step b1)
      clear b1 F0
      obtain ⟨m0, m1⟩ := F1.out.m.cells
      go_wp2_with fail
      refine (HG.out _).mono ?_
      rintro e w2 ⟨rfl, b2⟩
      have F2 := Lib.hid (F1.out.step b2)
      clear b2 F1 m0 m1
      obtain ⟨r0, r1, r2⟩ := F2.out.r.cells
      have g0 := F2.out.r.frozen 0
      have g1 := F2.out.r.frozen 1
      have g2 := F2.out.r.frozen 2
      go_wp2
      refine bodyPost_ret (v := .tuple #[.agg #[.int .i64 0, .int .i64 0, .slice none 0 0], .bool false]) (by simp [results, Try.results21, go_sem, r0, r1, r2]) rfl ⟨none, 0, rfl, OwnI.none_, ?_⟩
      exact ((F2.out.b.setCell (by simp <;> omega) _).setCell (by simp <;> omega) _).setCell (by simp <;> omega) _
    | true =>
      rw [moveR_yes (movB_iff.2 ⟨hs, hmt⟩)]
      have HG := Lib.hid (fun W => implMot_is mx my true W hmt)
      have HNEW := Lib.hid (fun W' => implNew_any wd hg (-9999) W')
      unfold FRet at HNEW
      have hsh := good_shape hs
      rw [newR_yes (by rw [hsh]; rfl)] at HNEW
      simp only [rW, rH, rL, rB] at HNEW
      obtain ⟨⟨s1, s2⟩, s3, s4⟩ := shapeB_iff.1 hsh
      obtain ⟨⟨v1, v2⟩, v3, v4⟩ := motB_iff.1 hmt
      have hlen := good_len hs
      obtain ⟨W, rfl⟩ := Int.eq_ofNat_of_zero_le (show 0 ≤ wd by omega)
      obtain ⟨H, rfl⟩ := Int.eq_ofNat_of_zero_le (show 0 ≤ hg by omega)
      rw [← Int.natCast_mul] at hlen HNEW
      rw [Int.toNat_natCast] at HNEW
      simp only [Int.toNat_natCast]
      have hlw : l.length = W * H := by omega
      have W1 : 1 ≤ W ∧ W ≤ 8 := by omega
      have H1 : 1 ≤ H ∧ H ≤ 8 := by omega
      have hWH : W * H ≤ 64 := Nat.mul_le_mul W1.2 H1.2
      have hWH0 : 0 < W * H := Nat.mul_pos (by omega) (by omega)
      rw [← mvP_zero W H l mx my] at HNEW
      rw [← mvP_all l mx my W1 H1]
      have HPL := Lib.hid (fun x y (h : inB (W : Int) (H : Int) x y = true) => place_int hsh h)
      have HHAS := Lib.hid (fun x y v Wd h => implHas_is (W : Int) (H : Int) a l.length c x y v Wd h)
      have HPT := Lib.hid (fun i Wd h3 h4 => pointAt_any (W : Int) i Wd (by omega) (by omega) h3 h4)
      have HMISS := Lib.hid (fun k hk h => mvP_miss (l := l) (mx := mx) (my := my) (k := k) W1 H1 hk h)
      have HHIT := Lib.hid (fun k hk z hz h => mvP_hitZ (l := l) (mx := mx) (my := my) (k := k) W1 H1 hlw hk z hz h)
      have HLEN := Lib.hid (mvP_len W H l mx my)
      have HGC := Lib.hid (fun (i : Nat) hi => grid_cell (W := W) (H := H) (i := i) (by omega) hi)
      have HLW := Lib.hid hlw
      clear hs hmt hsh hlen hlw
      generalize hP : mvP W H l mx my = P at *
      clear hP
      go_enter Try.func21, Try.ntmps21
      go_wp2_with fail
      rw [HW.out]
      refine (HC.out _ F0.out.i0).mono ?_
      rintro e w1 ⟨rfl, b1⟩
      have F1 := Lib.hid (F0.out.step b1)
      clear b1 F0
      obtain ⟨m0, m1⟩ := F1.out.m.cells
      go_wp2_with fail
      refine (HG.out _).mono ?_
      rintro e w2 ⟨rfl, b2⟩
      have F2 := Lib.hid (F1.out.step b2)
      clear b2 F1 m0 m1
      obtain ⟨k0, k1, k2⟩ := F2.out.k0.cells
      go_wp2_with fail
      refine (HNEW.out _).mono ?_
      rintro e w3 ⟨a3, c3, rfl, o3, b3⟩
      have F3 := Lib.hid (F2.out.step b3)
      have hz3 := F2.out.r.lt
      obtain ⟨g, rfl, hB⟩ := Bm.new (P := (W : Int)) (Q := (H : Int)) (cap := c3) F3.out (o3.more (by omega)) (by rw [HLEN.out]; exact hWH0)
      have HB := Lib.hid hB
      have hzr := F3.out.r.lt
      clear b3 F2 k0 k1 k2 o3 hB hz3
      obtain ⟨k0, k1, k2⟩ := F3.out.k0.cells
      have q3 : w.heap.size < w3.heap.size := by omega
      have q4 : ¬ w.heap.size = w3.heap.size := by omega
      go_wp2
      generalize w3.heap.size = ob at *
      clear k0 k1 k2 q3 q4 F3 hzr
      go_loopw [33] (fun i wr => ∃ k : Nat, k ≤ l.length ∧ i = .int .i64 k ∧ Bm w ob g W H a l c mx my W H (P k) c3 wr) (fun i _ => l.length - (intOf i).toNat)
      case atStart => exact ⟨0, Nat.zero_le _, rfl, HB.out⟩
      case round =>
        clear HB
        obtain ⟨k, hk, rfl, hB⟩ := hrel
        have HB := Lib.hid hB
        by_cases hlt : k < l.length
        · have hkW : k < W * H := by rw [← HLW.out]; exact hlt
          have hi : (k : Int) < (l.length : Int) := by omega
          have hi0 : (0 : Int) ≤ (k : Int) := by omega
          obtain ⟨b, o, rfl, hb, hc⟩ := hB.f.i0.at_ hlt
          obtain ⟨k0, k1, k2⟩ := hB.f.k0.cells
          have hgc := HGC.out k hkW
          obtain ⟨⟨c1, c2⟩, c3', c4⟩ := inB_iff.1 hgc
          have HPK := Lib.hid (fun Wd => HPT.out (k : Int) Wd hi0 (by omega))
          have hMS := Lib.hid (HMISS.out k hkW)
          have hHT := Lib.hid (HHIT.out k hkW _ (getD_at hlt))
          generalize l[k] = z at *
          generalize (k : Int) % (W : Int) = x at *
          generalize (k : Int) / (W : Int) = y at *
          clear hB hgc
          go_wp2_with fail
          refine (HPK.out _).mono ?_
          rintro e w4 ⟨rfl, b4⟩
          have HB4 := Lib.hid (HB.out.step b4)
          clear b4 k0 k1 k2 hc HB
          have hz4 := HB4.out.f.r.lt
          obtain ⟨W5, hW5⟩ : ∃ x', w4.alloc (.cells #[.int .i64 x, .int .i64 y] 83) = x' := ⟨_, rfl⟩
          have HB5 := Lib.hid (HB4.out.step (below_all w4 (.cells #[.int .i64 x, .int .i64 y] 83)))
          have HP5 := Lib.hid (MBox.new w4 83 x y)
          rw [hW5] at HB5 HP5
          have HW5 := Lib.hid hW5
          clear hW5 HB4
          go_wp2_with fail
          rw [HW5.out]
          obtain ⟨p0, p1⟩ := HP5.out.cells
          obtain ⟨n0, n1⟩ := HB5.out.f.m.cells
          generalize w4.heap.size = pb at *
          have hwx := IntWalk.i64_in (x + mx) (by omega)
          have hwy := IntWalk.i64_in (y + my) (by omega)
          go_quiet (fail)
          clear p0 p1 n0 n1 HW5
          generalize hW6 : W5.drewN _ = W6
          have HB6 : Hid (Bm w ob g W H (some ⟨b, o, none⟩) l c mx my W H (P k) c3 W6) := Lib.hid (by rw [← hW6]; exact HB5.out.step (below_drewN (Below.refl _ _) _))
          clear hW6 HB5 HP5
          obtain ⟨k0, k1, k2⟩ := HB6.out.f.k0.cells
          cases hin : inB (W : Int) (H : Int) (x + mx) (y + my) with
          | false =>
            have HC2 := Lib.hid (fun Wd => HHAS.out _ _ false Wd hin)
            have HE := Lib.hid (hMS.out hin)
            clear hin hHT hMS
            go_wp2_with fail
            refine (HC2.out _).mono ?_
            rintro e w7 ⟨rfl, b7⟩
            have HB7 := Lib.hid (HB6.out.step b7)
            clear b7 k0 k1 k2
            go_wp2
            go_roundw
            case rel => exact ⟨k + 1, by omega, by go_num, by rw [HE.out]; exact HB7.out⟩
            case measure => simp [intOf]; omega
          | true =>
            have HC2 := Lib.hid (fun Wd => HHAS.out _ _ true Wd hin)
            have HE := Lib.hid (hHT.out hin)
            obtain ⟨p1, p2, p3, p4⟩ := HPL.out _ _ hin
            obtain ⟨⟨i1, i2⟩, i3, i4⟩ := inB_iff.1 hin
            rw [← Int.natCast_mul] at p2
            generalize place (W : Int) (x + mx) (y + my) = q at *
            clear hin hHT hMS
            go_wp2_with fail
            refine (HC2.out _).mono ?_
            rintro e w7 ⟨rfl, b7⟩
            have HB7 := Lib.hid (HB6.out.step b7)
            clear b7 k0 k1 k2 HB6
            obtain ⟨k0, k1, k2⟩ := HB7.out.f.k0.cells
            obtain ⟨x0, x1, x2⟩ := HB7.out.x.cells
            have hlp : (P k).length = W * H := HLEN.out k
            obtain ⟨ov, hov⟩ : ∃ ov, w7.cell? ⟨g, q, none⟩ = some (.int .i64 ov) := ⟨_, HB7.out.get (j := q) (by omega)⟩
            have hof := HB7.out.o.frozen q
            have hq0 : (0 : Int) ≤ (q : Int) := by omega
            have hq1 : (q : Int) < ((P k).length : Int) := by omega
            have e1 : (y + my) * (W : Int) = (q : Int) - (x + mx) := by omega
            have w1' := IntWalk.i64_in ((y + my) * (W : Int)) (by omega)
            have w2' := IntWalk.i64_in (q : Int) (by omega)
            have HPT2 : Hid (Bm w ob g W H (some ⟨b, o, none⟩) l c mx my W H ((P k).set q z) c3 (w7.setCell ⟨g, q, none⟩ (.int .i64 z))) := Lib.hid (HB7.out.put q z)
            rw [HE.out] at HPT2
            clear hlp e1
            go_wp2
            go_roundw
            case rel => exact ⟨k + 1, by omega, by go_num, HPT2.out⟩
            case measure => simp [intOf]; omega
        · obtain rfl : k = l.length := by omega
          have hBB := hB
          rw [HLW.out] at hBB
          have HBB := Lib.hid hBB
          obtain ⟨x0, x1, x2⟩ := hBB.x.cells
          obtain ⟨r0, r1, r2⟩ := hB.f.r.cells
          have g0 := hB.f.r.frozen 0
          have g1 := hB.f.r.frozen 1
          have g2 := hB.f.r.frozen 2
          have q7 : ¬ w.heap.size + 2 = ob := by have := hB.n; omega
          have q8 : ¬ ob = w.heap.size + 2 := by omega
          clear hB hBB
          generalize P (W * H) = L at *
          go_wp2
          refine bodyPost_ret (v := .tuple #[.agg #[.int .i64 W, .int .i64 H, .slice (some ⟨g, 0, none⟩) L.length c3], .bool true]) (by simp [results, Try.results21, go_sem, r0, r1, r2]) rfl ?_
          exact HBB.out.ret2 rfl _ _ _
end Go.Proofs.Ytggdkibbfmjelaa
namespace Go.Proofs.Ytggdkibbfmjelaa
open Go.RowKit
set_option linter.unusedVariables false
set_option linter.unusedSimpArgs false
section
variable {wa ha : Int} {la : List Int} {wb hb : Int} {lb : List Int} {mx my : Int}
theorem maB_move_no (h : movB wa ha la mx my = false) : maB wa ha la wb hb lb mx my = false := by
  cases h2 : maB wa ha la wb hb lb mx my with
  | false => rfl
  | true =>
    obtain ⟨h3, h4⟩ := maB_iff.1 h2
    rw [movB_iff.2 ⟨(same_iff.1 h3).1, h4⟩] at h
    cases h
theorem maB_move (h : movB wa ha la mx my = true) : maB wa ha la wb hb lb mx my = sameB wa ha (mvR wa.toNat ha.toNat la mx my) wb hb lb ∧ maG wa ha la wb hb lb mx my = erG wa ha (mvR wa.toNat ha.toNat la mx my) wb hb lb ∧ maN wa ha la wb hb lb mx my = erN wa ha (mvR wa.toNat ha.toNat la mx my) wb hb lb := by
  obtain ⟨h1, h2⟩ := movB_iff.1 h
  have e : maB wa ha la wb hb lb mx my = sameB wa ha (mvR wa.toNat ha.toNat la mx my) wb hb lb := by
    unfold maB sameB
    rw [h1, h2, move_good h1 mx my]; simp
  refine ⟨e, ?_, ?_⟩
  · unfold maG erG; rw [e]
  · unfold maN erN; rw [e]
end
set_option maxRecDepth 100000 in
set_option maxHeartbeats 4000000 in
theorem implMatch_any (wa ha : Int) (aa : Option Addr) (la : List Int) (ca : Nat) (wb hb : Int) (ab : Option Addr) (lb : List Int) (cb : Nat) (mx my : Int) (w : World) (h1 : Ints .i64 w w.heap.size aa la) (h2 : Ints .i64 w w.heap.size ab lb) (n1 : la.length ≤ 1048576) (n2 : lb.length ≤ 1048576) :
    Calls Try.prog 28 #[.agg #[.int .i64 wa, .int .i64 ha, .slice aa la.length ca], .agg #[.int .i64 wb, .int .i64 hb, .slice ab lb.length cb], .agg #[.int .i64 mx, .int .i64 my]] w fun e w' => e = .returned (.tuple #[.int .i64 (maG wa ha la wb hb lb mx my), .int .i64 (maN wa ha la wb hb lb mx my), .bool (maB wa ha la wb hb lb mx my)]) ∧ Below w.heap.size w w' := by
  have F0 := Lib.hid (Lx3.new (wd0 := wa) (hg0 := ha) (c0 := ca) (wd1 := wb) (hg1 := hb) (c1 := cb) h1 h2 mx my)
  obtain ⟨W0, hW0⟩ : ∃ W, ((w.alloc (.cells #[.int .i64 wa, .int .i64 ha, .slice aa la.length ca] 34)).alloc (.cells #[.int .i64 wb, .int .i64 hb, .slice ab lb.length cb] 34)).alloc (.cells #[.int .i64 mx, .int .i64 my] 24) = W := ⟨_, rfl⟩
  rw [hW0] at F0
  have HW := Lib.hid hW0
  clear h1 h2 hW0
  have HMV := Lib.hid (fun W i => implMove_any wa ha aa la ca mx my W i n1)
  unfold FRet at HMV
  cases hm : movB wa ha la mx my with
  | false =>
    rw [moveR_no hm] at HMV
    have hB := maB_move_no (wb := wb) (hb := hb) (lb := lb) hm
    rw [maG_no hB, maN_no hB, hB]
    simp only [rW, rH, rL, rB, List.length_nil] at HMV
    clear hm hB
    go_enter Try.func28, Try.ntmps28
    go_wp2_with fail
    rw [HW.out]
    refine (HMV.out _ F0.out.f.i0).mono ?_
    rintro e w1 ⟨a1, c1, rfl, o1, b1⟩
    have B1 := Lib.hid (below_then F0.out.f.b b1)
    have B2 := Lib.hid (below_then B1.out (below_all w1 (.cells #[.int .i64 0, .int .i64 0, .slice a1 0 c1] 34)))
    clear b1 o1
    go_wp2
    exact bodyPost_ret (v := .tuple #[.int .i64 0, .int .i64 0, .bool false]) (by simp [results, Try.results28, go_sem]) rfl ⟨rfl, B2.out⟩
  | true =>
    rw [moveR_yes hm] at HMV
    obtain ⟨e1, e2, e3⟩ := maB_move (wb := wb) (hb := hb) (lb := lb) hm
    rw [e1, e2, e3]
    simp only [rW, rH, rL, rB] at HMV
    have hq64 := (good_le (move_good (movB_iff.1 hm).1 mx my)).2
    generalize mvR wa.toNat ha.toNat la mx my = q at *
    have HE := Lib.hid (fun a1 c1 Wd i1 i2 => implErr_any wa ha a1 q c1 wb hb ab lb cb Wd i1 i2 (by omega) n2)
    clear hm e1 e2 e3
    generalize erG wa ha q wb hb lb = g at *
    generalize erN wa ha q wb hb lb = n at *
    generalize sameB wa ha q wb hb lb = v at *
    go_enter Try.func28, Try.ntmps28
    go_wp2_with fail
    rw [HW.out]
    refine (HMV.out _ F0.out.f.i0).mono ?_
    rintro e w1 ⟨a1, c1, rfl, o1, b1⟩
    have F1 := Lib.hid (F0.out.step b1)
    have hz := F1.out.m.lt
    obtain ⟨k0, k1, k2⟩ := F1.out.f.k1.cells
    have HI1 := Lib.hid (ints_alloc o1.ints (.cells #[.int .i64 wa, .int .i64 ha, .slice a1 q.length c1] 34))
    have HI2 := Lib.hid (ints_alloc F1.out.f.i1 (.cells #[.int .i64 wa, .int .i64 ha, .slice a1 q.length c1] 34))
    have B1 := Lib.hid (below_then F1.out.f.b (below_all w1 (.cells #[.int .i64 wa, .int .i64 ha, .slice a1 q.length c1] 34)))
    have q1 : w.heap.size + 1 < w1.heap.size := by omega
    have q2 : ¬ w.heap.size + 1 = w1.heap.size := by omega
    clear b1 o1 F0 HW HMV
    go_wp2_with fail
    refine (HE.out _ _ _ HI1.out HI2.out).mono ?_
    rintro e w2 ⟨rfl, b2⟩
    have B2 := Lib.hid (below_then B1.out b2)
    clear b2
    go_wp2
    exact bodyPost_ret (v := .tuple #[.int .i64 g, .int .i64 n, .bool v]) (by simp [results, Try.results28, go_sem]) rfl ⟨rfl, B2.out⟩
end Go.Proofs.Ytggdkibbfmjelaa
namespace Go.Proofs.Ytggdkibbfmjelaa
open Go.RowKit
set_option linter.unusedVariables false
set_option linter.unusedSimpArgs false
theorem infoMt : (Try.prog.info? 97).map (fun i => (i.zero, i.size, i.bytes)) = some (some (.agg #[.int .i64 0, .int .i64 0, .int .i64 0, .int .i64 0]), 4, 32) := by kernel_rfl
theorem ownMt_of {w : World} {B n : Nat} {v : Value} {l : List MtT} (h : w.ownsRow B 97 4 v n (mtv l)) (hn : n = l.length) : ∃ a c, v = .slice a l.length c ∧ OwnMt w B a l := by
  subst hn
  obtain ⟨h1, ⟨h2, h3⟩ | ⟨g, cap, cur, h2, hb, hh, hc, _, hcs, hx⟩⟩ := h
  · refine ⟨none, 0, by rw [h2, h3], ?_⟩
    have : l = [] := List.eq_nil_of_length_eq_zero h3
    subst this
    exact OwnMt.none_
  · subst h2
    refine ⟨_, _, rfl, g, hb, .inr ⟨rfl, cur, hh, fun k hk => ?_⟩⟩
    have hk' := hk
    rw [mtv_length] at hk'
    have e : (mtv l)[k]? = cur[k]? := by
      rw [← hx, List.getElem?_take, if_pos hk']
      simp
    rw [← e]
    exact List.getElem?_eq_getElem hk
theorem ownRow_keeps {w w' : World} {base e size n : Nat} {v : Value} {xs : List Value} (h : w.ownsRow base e size v n xs) (hb : Below w.heap.size w w') : w'.ownsRow base e size v n xs :=
  h.kept (row := none) ⟨hb.os, hb.tape, hb.output, hb.size, fun i hi _ => hb.block i hi⟩ (by cases h1 : v.ownBlock with | none => exact .inl rfl | some k => exact .inr (by simp))
theorem own_ne_row {w : World} {b base e n size : Nat} {t : TypeId} {v : Value} {xs vs : List Value} (h : w.ownsRow base e size v n xs) (hb : Row w b t vs) (hne : e ≠ t) : v.ownBlock ≠ some b := by
  rcases h.2 with ⟨rfl, _⟩ | ⟨g', cap, cur, rfl, _, hh, _⟩
  · simp [Value.ownBlock]
  · intro he
    have h9 : g' = b := by simpa [Value.ownBlock] using he
    subst h9
    obtain ⟨cc, h4, _⟩ := hb
    rw [hh] at h4
    injection h4 with h4
    injection h4 with _ h5
    exact hne h5
theorem row_mo {w : World} {g : Nat} {t : TypeId} {l : List MoT} (h : Row w g t (mov l)) {k : Nat} (hk : k < l.length) : w.cell? ⟨g, k * 2, none⟩ = some (.int .i64 l[k].1) ∧ w.cell? ⟨g, k * 2 + 1, none⟩ = some (.int .i64 l[k].2) := by
  obtain ⟨h1, h2⟩ := mov_get l k hk
  have hl := mov_length l
  constructor
  · rw [h.cell (k := k * 2) (by omega), ← h1]; simp [List.getElem?_eq_getElem (show k * 2 < (mov l).length by omega)]
  · rw [h.cell (k := k * 2 + 1) (by omega), ← h2]; simp [List.getElem?_eq_getElem (show k * 2 + 1 < (mov l).length by omega)]
section
variable {w w1 w2 : World} {wd0 hg0 wd1 hg1 : Int} {a0 a1 : Option Addr} {l0 l1 : List Int} {c0 c1 : Nat}
theorem Lx2.grown4 {b e n size : Nat} {v : Value} {xs : List Value} (h : Lx2 w wd0 hg0 a0 l0 c0 wd1 hg1 a1 l1 c1 w1) (o : w1.ownsRow b e size v n xs) (ob : Obj) (k : (w1.alloc ob).grownBy w2 v.ownBlock) (hb : w.heap.size + 2 ≤ b) : Lx2 w wd0 hg0 a0 l0 c0 wd1 hg1 a1 l1 c1 w2 := by
  have hne : ∀ j, v.ownBlock = some j → w.heap.size + 2 ≤ j := fun j hj => by have := (o.lt j hj).1; omega
  have h2 := h.step (below_all w1 ob)
  have hB := h2.b.grown k h2.b.size (fun j hj => by have := hne j hj; omega)
  exact ⟨hB, h.s0, h.s1, (h.s0.below hB (Nat.le_refl _)).more hB.size, (h.s1.below hB (Nat.le_refl _)).more hB.size, h2.k0.grown k (fun e => by have := hne _ e.symm; omega), h2.k1.grown k (fun e => by have := hne _ e.symm; omega)⟩
end
set_option maxRecDepth 100000 in
set_option maxHeartbeats 8000000 in
theorem implQl_any (wa ha : Int) (aa : Option Addr) (la : List Int) (ca : Nat) (wb hb : Int) (ab : Option Addr) (lb : List Int) (cb : Nat) (w : World) (h1 : Ints .i64 w w.heap.size aa la) (h2 : Ints .i64 w w.heap.size ab lb) (n1 : la.length ≤ 64) (n2 : lb.length ≤ 64) (hbd : ∀ x y, (-2 ≤ x ∧ x ≤ 2) → (-2 ≤ y ∧ y ≤ 2) → 0 ≤ maN wa ha la wb hb lb x y ∧ maN wa ha la wb hb lb x y ≤ 64) :
    Calls Try.prog 73 #[.agg #[.int .i64 wa, .int .i64 ha, .slice aa la.length ca], .agg #[.int .i64 wb, .int .i64 hb, .slice ab lb.length cb]] w fun e w' => ∃ a c, e = .returned (.slice a (qlL (maG wa ha la wb hb lb) (maN wa ha la wb hb lb) la.length 25).length c) ∧ OwnMt w' w.heap.size a (qlL (maG wa ha la wb hb lb) (maN wa ha la wb hb lb) la.length 25) ∧ Below w.heap.size w w' := by
  obtain ⟨i0, hi0', hz0, hz1, hz2⟩ := info_parts infoMt
  have F0 := Lib.hid (Lx2.new (wd0 := wa) (hg0 := ha) (c0 := ca) (wd1 := wb) (hg1 := hb) (c1 := cb) h1 h2)
  have HMA := Lib.hid (fun x y Wd i1 i2 => implMatch_any wa ha aa la ca wb hb ab lb cb x y Wd i1 i2 (by omega) (by omega))
  obtain ⟨w1, hw1⟩ : ∃ x, (w.alloc (.cells #[.int .i64 wa, .int .i64 ha, .slice aa la.length ca] 34)).alloc (.cells #[.int .i64 wb, .int .i64 hb, .slice ab lb.length cb] 34) = x := ⟨_, rfl⟩
  rw [hw1] at F0
  have hsz1 : w.heap.size + 2 ≤ w1.heap.size := by rw [← hw1]; simp
  have hsz2 : w1.heap.size ≤ w.heap.size + 2 := by rw [← hw1]; simp
  have HW := Lib.hid hw1
  have HBD := Lib.hid hbd
  clear h1 h2 hw1 hbd
  generalize maG wa ha la wb hb lb = G at *
  generalize maN wa ha la wb hb lb = N at *
  generalize maB wa ha la wb hb lb = B at *
  have HLN := Lib.hid (fun n => ql_len (G := G) (N := N) (len := (la.length : Int)) n)
  go_enter Try.func73, Try.ntmps73
  go_wp2_with fail
  rw [HW.out]
  have O1 := Lib.hid (World.ownsRow_made (base := w1.heap.size) (e := 97) (size := 4) w1 #[] 0 (Nat.le_refl _) (by unfold maxLen; omega) rfl)
  have F1 := Lib.hid (F0.out.step (below_all w1 (.cells #[] 97)))
  refine (implEvery_any _).mono ?_
  rintro e w2 ⟨a2, c2, rfl, o2, b2⟩
  have F2 := Lib.hid (F1.out.step b2)
  have O2 := Lib.hid (ownRow_keeps O1.out b2)
  have hz2' := b2.size
  obtain ⟨g2, hg2, hm⟩ := o2
  obtain ⟨rfl, hR⟩ : a2 = some ⟨g2, 0, none⟩ ∧ Row w2 g2 24 (mov (moL 25)) := by
    rcases hm with h | h
    · have := congrArg List.length h; rw [moL_len] at this; simp at this
    · exact h
  have HR2 := Lib.hid hR
  have hrl : w1.heap.size < w2.heap.size := by simp at hz2'; omega
  clear F0 F1 O1 b2 hm HW hz2' hR
  go_wp2
  go_loopw [5, 14] (fun q i wr => ∃ k : Nat, k ≤ 25 ∧ i = .int .i64 k ∧ wr.ownsRow w1.heap.size 97 4 q (qlL G N la.length k).length (mtv (qlL G N la.length k)) ∧ Lx2 w wa ha aa la ca wb hb ab lb cb wr ∧ Row wr g2 24 (mov (moL 25)) ∧ w1.heap.size < wr.heap.size) (fun _ i _ => 25 - (intOf i).toNat)
  case atStart => exact ⟨0, Nat.zero_le _, rfl, by have h9 := O2.out; (try rw [show w1.heap.size = w.heap.size + 1 + 1 by omega] at h9 ⊢); exact h9, F2.out, HR2.out, hrl⟩
  case round =>
    clear O2 F2 HR2
    obtain ⟨k, hk, rfl, hown, hL, hR, hzz⟩ := hrel
    have HO := Lib.hid hown
    have HX := Lib.hid hL
    have HR := Lib.hid hR
    have hqn := HLN.out k
    have hsz := hL.b.size
    by_cases hlt : k < 25
    · obtain ⟨c0, c1⟩ := row_mo hR (k := k) (by rw [moL_len]; exact hlt)
      rw [moL_get] at c0 c1
      have hmb := mo_bd hlt
      have HY := Lib.hid (fun h => qlL_yes (G := G) (N := N) (len := (la.length : Int)) (n := k) h)
      have HN := Lib.hid (fun h => qlL_no (G := G) (N := N) (len := (la.length : Int)) (n := k) h)
      have hnb := HBD.out _ _ hmb.1 hmb.2
      have HMK := Lib.hid (fun Wd i1 i2 => HMA.out (moX k) (moY k) Wd i1 i2)
      unfold mtAt at HY
      clear hown hL hR hmb
      generalize moX k = mx at *
      generalize moY k = my at *
      have hi : (k : Int) < 25 := by omega
      have hi0 : (0 : Int) ≤ (k : Int) := by omega
      have HP := Lib.hid (MBox.new wr 24 mx my)
      obtain ⟨w3, hw3⟩ : ∃ x, wr.alloc (.cells #[.int .i64 mx, .int .i64 my] 24) = x := ⟨_, rfl⟩
      have HX3 := Lib.hid (HX.out.step (below_all wr (.cells #[.int .i64 mx, .int .i64 my] 24)))
      have HO3 := Lib.hid (HO.out.alloc (.cells #[.int .i64 mx, .int .i64 my] 24))
      have HR3 := Lib.hid (HR.out.alloc (.cells #[.int .i64 mx, .int .i64 my] 24))
      have hz3 : wr.heap.size < w3.heap.size := by rw [← hw3]; simp
      rw [hw3] at HX3 HO3 HR3 HP
      have HW3 := Lib.hid hw3
      obtain ⟨k0, k1, k2⟩ := HX.out.k0.cells
      obtain ⟨l0, l1, l2⟩ := HX.out.k1.cells
      have q1 : w.heap.size < wr.heap.size := by omega
      have q2 : ¬ w.heap.size = wr.heap.size := by omega
      have q3 : w.heap.size + 1 < wr.heap.size := by omega
      have q4 : ¬ w.heap.size + 1 = wr.heap.size := by omega
      clear hw3
      go_wp2_with fail
      rw [HW3.out]
      refine (HMK.out _ HX3.out.i0 HX3.out.i1).mono ?_
      rintro e w4 ⟨rfl, b4⟩
      have HX4 := Lib.hid (HX3.out.step b4)
      have HO4 := Lib.hid (ownRow_keeps HO3.out b4)
      have HR4 := Lib.hid (HR3.out.of_block (b4.block g2 HR3.out.lt))
      have HP4 := Lib.hid (HP.out.below b4)
      have hz4 := b4.size
      obtain ⟨v1, v2⟩ := hnb
      clear b4 k0 k1 k2 l0 l1 l2 c0 c1 q1 q2 q3 q4 HX HO HR HX3 HO3 HR3 HP HW3 HMK
      generalize wr.heap.size = pb at *
      generalize G mx my = gg at *
      generalize hNn : N mx my = nn at *
      obtain ⟨k0, k1, k2⟩ := HX4.out.k0.cells
      obtain ⟨p0, p1⟩ := HP4.out.cells
      have w1' := IntWalk.i64_in (2 * nn) (by omega)
      by_cases hq : (la.length : Int) ≤ 2 * nn
      · have HE := Lib.hid (HY.out hq)
        clear HY HN hNn
        generalize qlL G N (la.length : Int) k = r at *
        have hne := Lib.hid (own_ne_row HO4.out HR4.out (by decide))
        go_wp2_with (at_builtin; go_loud (refine wpList_append_own _ rfl _ _ 93 rfl w1.heap.size 97 i0 (.agg #[.int .i64 0, .int .i64 0, .int .i64 0, .int .i64 0]) 4 32 Try.underlying93 hi0' hz0 hz1 hz2 rfl (by decide) _ r.length (mtv r) rfl (HO4.out.alloc _) ⟨w4.heap.size, 0, none⟩ 1 1 [.int .i64 mx, .int .i64 my, .int .i64 gg, .int .i64 nn] rfl rfl (World.news_of_block (heap_alloc_new _ _)) (by simp [Value.oneCell']) (by unfold maxLen; omega) (by omega) (by simp; omega) ?_); intro v' w5 hown' hgr _; have HO5 := Lib.hid hown'; have HG5 := Lib.hid hgr; clear hown' hgr)
        go_roundw
        case rel =>
          refine ⟨k + 1, by omega, by go_num, ?_, HX4.out.grown4 HO4.out _ HG5.out (by omega), ?_, by have := HG5.out.size; simp at this; omega⟩
          · rw [HE.out, List.length_append, mtv_append]; exact HO5.out
          · exact (HR4.out.alloc _).of_block (HG5.out.block g2 (HR4.out.alloc _).lt (Ne.symm hne.out))
        case measure => simp [intOf]; omega
      · have HE := Lib.hid (HN.out (by omega))
        clear HY HN hNn
        go_wp2
        go_roundw
        case rel => exact ⟨k + 1, by omega, by go_num, by rw [HE.out]; exact HO4.out, HX4.out, HR4.out, by omega⟩
        case measure => simp [intOf]; omega
    · obtain rfl : k = 25 := by omega
      obtain ⟨a', c', rfl, ho⟩ := ownMt_of HO.out rfl
      have HOO := Lib.hid ho
      clear ho HO hL hown hR
      go_wp2
      go_ret
      exact ⟨a', c', rfl, HOO.out.more (by omega), HX.out.b⟩
end Go.Proofs.Ytggdkibbfmjelaa
namespace Go.Proofs.Ytggdkibbfmjelaa
open Go.RowKit
set_option linter.unusedVariables false
set_option linter.unusedSimpArgs false
/-- an append onto a row of the call's own, as a step of a region; the source may be empty -/
theorem step_putM {P : Program} {w : World} {ops : Array Oper} {o : Oper} {a : Act} {K : Act → World → Prop} {Q : Exit → Act → World → Prop} {E : Prop} (hgd : o.guard = none) (s x : Operand) (t : TypeId)
    (ho : o.op = .call { callee := .builtin .append, args := #[s, x], argTypes := #[t, t] })
    (base : Nat) (e : TypeId) (i : TypeInfo) (z : Value) (ht : P.underlying t = some (.slice e)) (hi : P.info? e = some i) (hz : i.zero = some z)
    (hsize : i.size = 2) (hby : i.bytes = 16) (hzs : z.cells.size = 2)
    (v : Value) (n : Nat) (xs : List Value) (hs : a.eval s = v) (hown : w.ownsRow base e 2 v n xs)
    (ad : Addr) (m c : Nat) (news : List Value) (hx : a.eval x = .slice (some ad) m c) (hl : news.length = m * 2) (hnews : ∀ j u, news[j]? = some u → w.cell? (ad.add j) = some u) (h1 : ∀ u ∈ news, u.oneCell' = true)
    (h63 : n + m ≤ 1048576) (hbase : base ≤ w.heap.size)
    (h : ∀ v' w', w'.ownsRow base e 2 v' (n + m) (xs ++ news) → w.grownBy w' v.ownBlock → K (a.put o.dst v') w') :
    if Region.wanted o (yielded ops a.tmps) = true then Oper.wp P o a w K Q else E := by
  rw [if_pos (by simp [Region.wanted, hgd])]
  exact wp_append_own w s x t ho base e i z 2 16 ht hi hz hsize hby hzs (by omega) v n xs hs hown ad m c news hx hl hnews h1 (by unfold maxLen; omega) (by omega) hbase fun v' w' h2 h3 _ => h v' w' h2 h3
theorem mov_split (l : List MoT) (k : Nat) : mov l = mov (l.take k) ++ mov (l.drop k) := by rw [← mov_append, List.take_append_drop]
theorem mput_take {w W : World} {g : Nat} {l : List MoT} {k : Nat} (h : ∀ (j : Nat) (u : Value), (mov l)[j]? = some u → w.cell? ⟨g, j, none⟩ = some u) (hg : g < w.heap.size) (hb : Below w.heap.size w W) : ∀ (j : Nat) (u : Value), (mov (l.take k))[j]? = some u → W.cell? ((⟨g, 0, none⟩ : Addr).add j) = some u := by
  intro j u hu
  have hadd : (⟨g, 0, none⟩ : Addr).add j = ⟨g, j, none⟩ := by unfold Addr.add; split <;> simp_all
  rw [hadd, hb.cell (p := ⟨g, j, none⟩) hg]
  refine h j u ?_
  rw [mov_split l k, List.getElem?_append_left (List.getElem?_eq_some_iff.1 hu).1]
  exact hu
theorem mput_drop {w W : World} {g : Nat} {l : List MoT} {k : Nat} (h : ∀ (j : Nat) (u : Value), (mov l)[j]? = some u → w.cell? ⟨g, j, none⟩ = some u) (hg : g < w.heap.size) (hk : k ≤ l.length) (hb : Below w.heap.size w W) : ∀ (j : Nat) (u : Value), (mov (l.drop k))[j]? = some u → W.cell? ((⟨g, k * 2, none⟩ : Addr).add j) = some u := by
  intro j u hu
  have hadd : (⟨g, k * 2, none⟩ : Addr).add j = ⟨g, k * 2 + j, none⟩ := by unfold Addr.add; split <;> simp_all
  rw [hadd, hb.cell (p := ⟨g, k * 2 + j, none⟩) hg]
  refine h (k * 2 + j) u ?_
  have hlen : (mov (l.take k)).length = k * 2 := by rw [mov_length, List.length_take, Nat.min_eq_left hk]
  rw [mov_split l k, List.getElem?_append_right (by omega), hlen, show k * 2 + j - k * 2 = j by omega]
  exact hu
theorem litM_grown {W W1 : World} {B g : Nat} {vs : List Value} (h : ∀ (j : Nat) (u : Value), vs[j]? = some u → W.cell? ((⟨B, 0, none⟩ : Addr).add j) = some u) (hg : W.grownBy W1 (some g)) (hB : B < W.heap.size) (hne : B ≠ g) : ∀ (j : Nat) (u : Value), vs[j]? = some u → W1.cell? ((⟨B, 0, none⟩ : Addr).add j) = some u := by
  intro j u hu
  have e := h j u hu
  have hadd : (⟨B, 0, none⟩ : Addr).add j = ⟨B, j, none⟩ := by unfold Addr.add; split <;> simp_all
  rw [hadd] at e ⊢
  unfold World.cell? at e ⊢
  rw [hg.block B hB (by intro q; injection q with q; exact hne q)]
  exact e
theorem litM_below {W W1 : World} {B : Nat} {vs : List Value} (h : ∀ (j : Nat) (u : Value), vs[j]? = some u → W.cell? ((⟨B, 0, none⟩ : Addr).add j) = some u) (hb : Below W.heap.size W W1) (hB : B < W.heap.size) : ∀ (j : Nat) (u : Value), vs[j]? = some u → W1.cell? ((⟨B, 0, none⟩ : Addr).add j) = some u := by
  intro j u hu
  have e := h j u hu
  have hadd : (⟨B, 0, none⟩ : Addr).add j = ⟨B, j, none⟩ := by unfold Addr.add; split <;> simp_all
  rw [hadd] at e ⊢
  rw [hb.cell (p := ⟨B, j, none⟩) hB]
  exact e
theorem lit_newM (w : World) (x y : Int) (t : TypeId) : ∀ (j : Nat) (u : Value), [Value.int .i64 x, .int .i64 y][j]? = some u → (w.alloc (.cells #[.int .i64 x, .int .i64 y] t)).cell? ((⟨w.heap.size, 0, none⟩ : Addr).add j) = some u := World.news_of_block (heap_alloc_new _ _)
theorem ownM_slice {w : World} {base e size n : Nat} {v : Value} {xs : List Value} (h : w.ownsRow base e size v n xs) (hn : 0 < n) : ∃ g cap, v = .slice (some ⟨g, 0, none⟩) n cap := by
  rcases h.2 with ⟨_, h1⟩ | ⟨g, cap, cur, h1, _⟩
  · omega
  · exact ⟨g, cap, h1⟩
theorem ownM_base {w : World} {B C e size n : Nat} {v : Value} {xs : List Value} (h : w.ownsRow C e size v n xs) (hB : B ≤ C) : w.ownsRow B e size v n xs := by
  obtain ⟨h1, h2 | ⟨g, cap, cur, h2, h3, h4⟩⟩ := h
  · exact ⟨h1, .inl h2⟩
  · exact ⟨h1, .inr ⟨g, cap, cur, h2, Nat.le_trans hB h3, h4⟩⟩
/-- a list of the call's own, in a block that is known -/
structure OutM (B : Nat) (l : List MoT) (g cap : Nat) (wr : World) : Prop where
  o : wr.ownsRow B 24 2 (.slice (some ⟨g, 0, none⟩) l.length cap) l.length (mov l)
theorem OutM.facts {B : Nat} {wr : World} {l : List MoT} {g cap : Nat} (h : OutM B l g cap wr) : g < wr.heap.size ∧ B ≤ g ∧ l.length ≤ cap ∧ ∀ (j : Nat) (u : Value), (mov l)[j]? = some u → wr.cell? ⟨g, j, none⟩ = some u := by
  obtain ⟨h1, ⟨h2, _⟩ | ⟨g', cap', cur, h2, hb, hh, hc, _, hcs, hx⟩⟩ := h.o
  · cases h2
  · injection h2 with e1 _ e2
    injection e1 with e1
    injection e1 with e1
    subst e1 e2
    refine ⟨(Array.getElem?_eq_some_iff.1 hh).1, hb, hc, fun j u hu => ?_⟩
    have hj := (List.getElem?_eq_some_iff.1 hu).1
    rw [mov_length] at hj
    have e : (mov l)[j]? = cur[j]? := by
      rw [← hx, List.getElem?_take, if_pos hj]
      simp
    simp [World.cell?, hh, ← e, hu]
theorem OutM.start (B : Nat) (w : World) (h : B ≤ w.heap.size) : OutM B [] w.heap.size 0 (w.alloc (.cells #[] 24)) :=
  ⟨World.ownsRow_made (base := B) (e := 24) (size := 2) w #[] 0 h (by simp) rfl⟩
theorem OutM.step {B : Nat} {w w' : World} {l : List MoT} {g cap : Nat} (h : OutM B l g cap w) (b : Below w.heap.size w w') : OutM B l g cap w' := ⟨ownRow_keeps h.o b⟩
theorem OutM.ins {B C : Nat} {w3 : World} {l : List MoT} {k q : Nat} {x y : Int} {v3 : Value} (hB : B ≤ C) (ho : w3.ownsRow C 24 2 v3 q ([] ++ mov (l.take k) ++ [.int .i64 x, .int .i64 y] ++ mov (l.drop k))) (hq : q = l.length + 1) (hk : k ≤ l.length) :
    ∃ g' cap', v3 = .slice (some ⟨g', 0, none⟩) (l.take k ++ (x, y) :: l.drop k).length cap' ∧ OutM B (l.take k ++ (x, y) :: l.drop k) g' cap' w3 := by
  have e : [] ++ mov (l.take k) ++ [.int .i64 x, .int .i64 y] ++ mov (l.drop k) = mov (l.take k ++ (x, y) :: l.drop k) := by rw [mov_append, mov_cons]; simp
  have el : (l.take k ++ (x, y) :: l.drop k).length = l.length + 1 := by simp; omega
  subst hq
  obtain ⟨g', cap', rfl⟩ := ownM_slice ho (by omega)
  rw [e] at ho
  rw [← el] at ho ⊢
  exact ⟨g', cap', rfl, ⟨ownM_base ho hB⟩⟩
end Go.Proofs.Ytggdkibbfmjelaa
namespace Go.Proofs.Ytggdkibbfmjelaa
open Go.RowKit
set_option linter.unusedVariables false
set_option linter.unusedSimpArgs false
/-- the first number that is not 0 -/
def orV : List Int → Int
  | [] => 0
  | x :: r => if x ≠ 0 then x else orV r
theorem orV_drop {l : List Int} {k : Nat} (h : ∀ j (hj : j < l.length), j < k → l[j] = 0) (hk : k ≤ l.length) : orV l = orV (l.drop k) := by
  induction k generalizing l with
  | zero => rfl
  | succ k ih =>
    cases l with
    | nil => simp at hk
    | cons x r =>
      have h0 := h 0 (by simp) (by omega)
      simp only [List.getElem_cons_zero] at h0
      show (if x ≠ 0 then x else orV r) = _
      rw [if_neg (by simp [h0]), List.drop_succ_cons]
      exact ih (fun j hj hjk => by have := h (j + 1) (by simp; omega) (by omega); simpa using this) (by simp at hk; omega)
set_option maxHeartbeats 2000000 in
theorem or_any (a : Option Addr) (l : List Int) (c : Nat) (w : World) (hl : Ints .i64 w w.heap.size a l) (hn : l.length ≤ 64) :
    Calls Try.prog 105 #[.slice a l.length c] w fun e w' => e = .returned (.int .i64 (orV l)) ∧ w = w' := by
  have HL := Lib.hid hl
  have HD := Lib.hid (fun k h hk => orV_drop (l := l) (k := k) h hk)
  clear hl
  go_enter Try.func105, Try.ntmps105
  go_wp2
  go_loop [8] (fun i => ∃ k : Nat, k ≤ l.length ∧ i = .int .i64 k ∧ ∀ j (hj : j < l.length), j < k → l[j] = 0) (fun i => l.length - (intOf i).toNat)
  case atStart => exact ⟨0, Nat.zero_le _, rfl, fun j _ h => by omega⟩
  case round =>
    obtain ⟨k, hk, rfl, hz⟩ := hrel
    have HZ := Lib.hid hz
    clear hz
    by_cases hlt : k < l.length
    · obtain ⟨b, o, rfl, hb, hc⟩ := HL.out.at_ hlt
      have hi : (k : Int) < (l.length : Int) := by omega
      have hi0 : (0 : Int) ≤ (k : Int) := by omega
      have HE := Lib.hid (fun (h : ¬ l[k] = 0) => show orV l = l[k] from by
        rw [HD.out k HZ.out hk, List.drop_eq_getElem_cons hlt]
        exact if_pos h)
      have HN := Lib.hid (fun (h : l[k] = 0) => show ∀ j (hj : j < l.length), j < k + 1 → l[j] = 0 from fun j hj hjk => by
        rcases Nat.lt_or_ge j k with h9 | h9
        · exact HZ.out j hj h9
        · obtain rfl : j = k := by omega
          exact h)
      by_cases hx : l[k] = 0
      · have HN2 := Lib.hid (HN.out hx)
        rw [hx] at hc
        clear HN HE hx
        go_wp2
        go_round
        case rel => exact ⟨k + 1, by omega, by go_num, HN2.out⟩
        case measure => simp [intOf]; omega
      · have HE2 := Lib.hid (HE.out hx)
        have nx : (l[k] != 0) = true := by rw [bne_iff_ne]; exact hx
        clear HN HE hx
        generalize l[k] = x at *
        go_wp2
        go_ret
        rw [HE2.out]
        exact ⟨rfl, rfl⟩
    · obtain rfl : k = l.length := by omega
      have HE := Lib.hid (show orV l = 0 from by rw [HD.out _ HZ.out (Nat.le_refl _), List.drop_length]; rfl)
      go_wp2
      go_ret
      rw [HE.out]
      exact ⟨rfl, rfl⟩
theorem cmp_or (p q : MtV) : orV [mG p * mN q - mG q * mN p, sz2 (mX p) (mY p) - sz2 (mX q) (mY q), mY p - mY q, mX p - mX q] = cmpM p q := by
  unfold cmpM
  simp only [orV]
  split
  · rfl
  · split
    · rfl
    · split
      · rfl
      · split <;> omega
theorem sz_two (x y : Int) : szS [x, y] = sz2 x y := by unfold szS sz2; simp
/-- a later world: draws, and blocks behind the others -/
def Lay (w w' : World) : Prop := ∃ q os, w' = Sort.grow (w.drewN q) os
theorem Lay.refl (w : World) : Lay w w := ⟨0, #[], by simp [World.drewN]⟩
theorem Lay.alloc {w w' : World} (h : Lay w w') (o : Obj) : Lay w (w'.alloc o) := by
  obtain ⟨q, os, rfl⟩ := h
  exact ⟨q, os ++ #[o], by rw [Sort.alloc_eq_grow, Sort.grow_grow]⟩
theorem Lay.drew {w w' : World} (h : Lay w w') : Lay w w'.drew := by
  obtain ⟨q, os, rfl⟩ := h
  exact ⟨q + 1, os, by simp [Sort.grow, World.drewN, World.drew, Nat.add_assoc]⟩
theorem Lay.below {w w' : World} (h : Lay w w') : Below w.heap.size w w' := by
  obtain ⟨q, os, rfl⟩ := h
  refine ⟨rfl, rfl, rfl, ?_, fun k hk => ?_⟩
  · simp [Sort.grow, World.drewN]
  · simp [Sort.grow, World.drewN, Array.getElem?_append, hk]
theorem ints_lit2 (w : World) (x y : Int) (t : TypeId) : Ints .i64 (w.alloc (.cells #[.int .i64 x, .int .i64 y] t)) (w.alloc (.cells #[.int .i64 x, .int .i64 y] t)).heap.size (some ⟨w.heap.size, 0, none⟩) [x, y] := by
  refine .inr ⟨w.heap.size, 0, rfl, by simp, fun j hj => ?_⟩
  rcases (by simp at hj; omega : j = 0 ∨ j = 1) with rfl | rfl <;> simp [go_sem]
theorem ints_lit4 (w : World) (x y z v : Int) (t : TypeId) : Ints .i64 (w.alloc (.cells #[.int .i64 x, .int .i64 y, .int .i64 z, .int .i64 v] t)) (w.alloc (.cells #[.int .i64 x, .int .i64 y, .int .i64 z, .int .i64 v] t)).heap.size (some ⟨w.heap.size, 0, none⟩) [x, y, z, v] := by
  refine .inr ⟨w.heap.size, 0, rfl, by simp, fun j hj => ?_⟩
  rcases (by simp at hj; omega : j = 0 ∨ j = 1 ∨ j = 2 ∨ j = 3) with rfl | rfl | rfl | rfl <;> simp [go_sem]
theorem ints_lit2E (w : World) (x y : Int) (t : TypeId) (b : Nat) (hb : b = w.heap.size) : Ints .i64 (w.alloc (.cells #[.int .i64 x, .int .i64 y] t)) (w.alloc (.cells #[.int .i64 x, .int .i64 y] t)).heap.size (some ⟨b, 0, none⟩) [x, y] := by subst hb; exact ints_lit2 w x y t
theorem ints_lit4E (w : World) (x y z v : Int) (t : TypeId) (b : Nat) (hb : b = w.heap.size) : Ints .i64 (w.alloc (.cells #[.int .i64 x, .int .i64 y, .int .i64 z, .int .i64 v] t)) (w.alloc (.cells #[.int .i64 x, .int .i64 y, .int .i64 z, .int .i64 v] t)).heap.size (some ⟨b, 0, none⟩) [x, y, z, v] := by subst hb; exact ints_lit4 w x y z v t
set_option maxRecDepth 100000 in
set_option maxHeartbeats 8000000 in
theorem implCmp_any (px py pg pn qx qy qg qn : Int) (w : World) (hp : okM (px, py, pg, pn)) (hq : okM (qx, qy, qg, qn)) :
    Calls Try.prog 75 #[.agg #[.int .i64 px, .int .i64 py, .int .i64 pg, .int .i64 pn], .agg #[.int .i64 qx, .int .i64 qy, .int .i64 qg, .int .i64 qn]] w fun e w' => e = .returned (.int .i64 (cmpM (px, py, pg, pn) (qx, qy, qg, qn))) ∧ Lay w w' := by
  obtain ⟨⟨a1, a2⟩, ⟨a3, a4⟩, ⟨a5, a6⟩, a7, a8⟩ := hp
  obtain ⟨⟨b1, b2⟩, ⟨b3, b4⟩, ⟨b5, b6⟩, b7, b8⟩ := hq
  simp only [mX, mY, mG, mN] at a1 a2 a3 a4 a5 a6 a7 a8 b1 b2 b3 b4 b5 b6 b7 b8
  have c1 : 0 ≤ pg * qn ∧ pg * qn ≤ 1280000 * 64 := ⟨Int.mul_nonneg a3 (by omega), Int.mul_le_mul a4 b2 (by omega) (by omega)⟩
  have c2 : 0 ≤ qg * pn ∧ qg * pn ≤ 1280000 * 64 := ⟨Int.mul_nonneg b3 (by omega), Int.mul_le_mul b4 a2 (by omega) (by omega)⟩
  have hor := cmp_or (px, py, pg, pn) (qx, qy, qg, qn)
  simp only [mX, mY, mG, mN] at hor
  rw [← hor]
  have w1 := IntWalk.i64_in (pg * qn) (by omega)
  have w2 := IntWalk.i64_in (qg * pn) (by omega)
  have w3 := IntWalk.i64_in (pg * qn - qg * pn) (by omega)
  have w4 := IntWalk.i64_in (py - qy) (by omega)
  have w5 := IntWalk.i64_in (px - qx) (by omega)
  have HSP : Hid (∀ (a : Option Addr) (W : World), Ints .i64 W W.heap.size a [px, py] → Calls Try.prog 71 #[.slice a 2 2] W fun e w' => e = .returned (.int .i64 (szS [px, py])) ∧ W = w') := Lib.hid (fun a W i => implSz_any a [px, py] 2 W i (by intro z hz; simp at hz; omega) (by simp))
  have HSQ : Hid (∀ (a : Option Addr) (W : World), Ints .i64 W W.heap.size a [qx, qy] → Calls Try.prog 71 #[.slice a 2 2] W fun e w' => e = .returned (.int .i64 (szS [qx, qy])) ∧ W = w') := Lib.hid (fun a W i => implSz_any a [qx, qy] 2 W i (by intro z hz; simp at hz; omega) (by simp))
  rw [sz_two] at HSP HSQ
  have d1 : 0 ≤ sz2 px py ∧ sz2 px py ≤ 4 := by unfold sz2; omega
  have d2 : 0 ≤ sz2 qx qy ∧ sz2 qx qy ≤ 4 := by unfold sz2; omega
  generalize sz2 px py = sp at *
  generalize sz2 qx qy = sq at *
  have w6 := IntWalk.i64_in (sp - sq) (by omega)
  have HOR : Hid (∀ (a : Option Addr) (W : World), Ints .i64 W W.heap.size a [pg * qn - qg * pn, sp - sq, py - qy, px - qx] → Calls Try.prog 105 #[.slice a 4 4] W fun e w' => e = .returned (.int .i64 (orV [pg * qn - qg * pn, sp - sq, py - qy, px - qx])) ∧ W = w') := Lib.hid (fun a W i => or_any a [pg * qn - qg * pn, sp - sq, py - qy, px - qx] 4 W i (by simp))
  have L0 : Lay w ((w.alloc (.cells #[.int .i64 px, .int .i64 py, .int .i64 pg, .int .i64 pn] 97)).alloc (.cells #[.int .i64 qx, .int .i64 qy, .int .i64 qg, .int .i64 qn] 97)) := ((Lay.refl w).alloc _).alloc _
  have C0 : (((w.alloc (.cells #[.int .i64 px, .int .i64 py, .int .i64 pg, .int .i64 pn] 97)).alloc (.cells #[.int .i64 qx, .int .i64 qy, .int .i64 qg, .int .i64 qn] 97)).cell? ⟨w.heap.size, 0, none⟩ = some (.int .i64 px) ∧ ((w.alloc (.cells #[.int .i64 px, .int .i64 py, .int .i64 pg, .int .i64 pn] 97)).alloc (.cells #[.int .i64 qx, .int .i64 qy, .int .i64 qg, .int .i64 qn] 97)).cell? ⟨w.heap.size, 1, none⟩ = some (.int .i64 py) ∧ ((w.alloc (.cells #[.int .i64 px, .int .i64 py, .int .i64 pg, .int .i64 pn] 97)).alloc (.cells #[.int .i64 qx, .int .i64 qy, .int .i64 qg, .int .i64 qn] 97)).cell? ⟨w.heap.size, 2, none⟩ = some (.int .i64 pg) ∧ ((w.alloc (.cells #[.int .i64 px, .int .i64 py, .int .i64 pg, .int .i64 pn] 97)).alloc (.cells #[.int .i64 qx, .int .i64 qy, .int .i64 qg, .int .i64 qn] 97)).cell? ⟨w.heap.size, 3, none⟩ = some (.int .i64 pn)) ∧ ((w.alloc (.cells #[.int .i64 px, .int .i64 py, .int .i64 pg, .int .i64 pn] 97)).alloc (.cells #[.int .i64 qx, .int .i64 qy, .int .i64 qg, .int .i64 qn] 97)).cell? ⟨w.heap.size + 1, 0, none⟩ = some (.int .i64 qx) ∧ ((w.alloc (.cells #[.int .i64 px, .int .i64 py, .int .i64 pg, .int .i64 pn] 97)).alloc (.cells #[.int .i64 qx, .int .i64 qy, .int .i64 qg, .int .i64 qn] 97)).cell? ⟨w.heap.size + 1, 1, none⟩ = some (.int .i64 qy) ∧ ((w.alloc (.cells #[.int .i64 px, .int .i64 py, .int .i64 pg, .int .i64 pn] 97)).alloc (.cells #[.int .i64 qx, .int .i64 qy, .int .i64 qg, .int .i64 qn] 97)).cell? ⟨w.heap.size + 1, 2, none⟩ = some (.int .i64 qg) ∧ ((w.alloc (.cells #[.int .i64 px, .int .i64 py, .int .i64 pg, .int .i64 pn] 97)).alloc (.cells #[.int .i64 qx, .int .i64 qy, .int .i64 qg, .int .i64 qn] 97)).cell? ⟨w.heap.size + 1, 3, none⟩ = some (.int .i64 qn) := by refine ⟨⟨?_, ?_, ?_, ?_⟩, ?_, ?_, ?_, ?_⟩ <;> simp [go_sem]
  have z0 : w.heap.size + 1 < ((w.alloc (.cells #[.int .i64 px, .int .i64 py, .int .i64 pg, .int .i64 pn] 97)).alloc (.cells #[.int .i64 qx, .int .i64 qy, .int .i64 qg, .int .i64 qn] 97)).heap.size := by simp
  obtain ⟨W0, hW0⟩ : ∃ x, (w.alloc (.cells #[.int .i64 px, .int .i64 py, .int .i64 pg, .int .i64 pn] 97)).alloc (.cells #[.int .i64 qx, .int .i64 qy, .int .i64 qg, .int .i64 qn] 97) = x := ⟨_, rfl⟩
  rw [hW0] at L0 C0 z0
  have HW := Lib.hid hW0
  have HC := Lib.hid C0
  have HL := Lib.hid L0
  have HK := Lib.hid (fun W (k : Lay W0 W) => show (W.cell? ⟨w.heap.size, 0, none⟩ = some (.int .i64 px) ∧ W.cell? ⟨w.heap.size, 1, none⟩ = some (.int .i64 py) ∧ W.cell? ⟨w.heap.size, 2, none⟩ = some (.int .i64 pg) ∧ W.cell? ⟨w.heap.size, 3, none⟩ = some (.int .i64 pn)) ∧ W.cell? ⟨w.heap.size + 1, 0, none⟩ = some (.int .i64 qx) ∧ W.cell? ⟨w.heap.size + 1, 1, none⟩ = some (.int .i64 qy) ∧ W.cell? ⟨w.heap.size + 1, 2, none⟩ = some (.int .i64 qg) ∧ W.cell? ⟨w.heap.size + 1, 3, none⟩ = some (.int .i64 qn) from by
    have b := k.below
    obtain ⟨⟨x0, x1, x2, x3⟩, y0, y1, y2, y3⟩ := C0
    exact ⟨⟨(b.cell (p := ⟨w.heap.size, 0, none⟩) (by show w.heap.size < _; omega)).trans x0, (b.cell (p := ⟨w.heap.size, 1, none⟩) (by show w.heap.size < _; omega)).trans x1, (b.cell (p := ⟨w.heap.size, 2, none⟩) (by show w.heap.size < _; omega)).trans x2, (b.cell (p := ⟨w.heap.size, 3, none⟩) (by show w.heap.size < _; omega)).trans x3⟩, (b.cell (p := ⟨w.heap.size + 1, 0, none⟩) (by show w.heap.size + 1 < _; omega)).trans y0, (b.cell (p := ⟨w.heap.size + 1, 1, none⟩) (by show w.heap.size + 1 < _; omega)).trans y1, (b.cell (p := ⟨w.heap.size + 1, 2, none⟩) (by show w.heap.size + 1 < _; omega)).trans y2, (b.cell (p := ⟨w.heap.size + 1, 3, none⟩) (by show w.heap.size + 1 < _; omega)).trans y3⟩)
  have LL := Lib.hid (fun W (k : Lay W0 W) => show Lay w W from by
    obtain ⟨q, os, rfl⟩ := k
    obtain ⟨q', os', rfl⟩ := L0
    exact ⟨q' + q, os' ++ os, by simp [Sort.grow, World.drewN, Nat.add_assoc]⟩)
  clear L0 C0 hW0 hor c1 c2 d1 d2 a1 a2 a3 a4 a5 a6 a7 a8 b1 b2 b3 b4 b5 b6 b7 b8
  go_enter Try.func75, Try.ntmps75
  go_upto_region 1 with fail
  rw [HW.out]
  obtain ⟨⟨x0, x1, x2, x3⟩, y0, y1, y2, y3⟩ := HC.out
  go_cut [4] (fun s wx => s = .int .i64 (orV [pg * qn - qg * pn, sp - sq, py - qy, px - qx]) ∧ Lay W0 wx)
  case first =>
    go_region_held3 (fun w' => (w'.cell? ⟨w.heap.size, 0, none⟩ = some (.int .i64 px) ∧ w'.cell? ⟨w.heap.size, 1, none⟩ = some (.int .i64 py) ∧ w'.cell? ⟨w.heap.size, 2, none⟩ = some (.int .i64 pg) ∧ w'.cell? ⟨w.heap.size, 3, none⟩ = some (.int .i64 pn)) ∧ w'.cell? ⟨w.heap.size + 1, 0, none⟩ = some (.int .i64 qx) ∧ w'.cell? ⟨w.heap.size + 1, 1, none⟩ = some (.int .i64 qy) ∧ w'.cell? ⟨w.heap.size + 1, 2, none⟩ = some (.int .i64 qg) ∧ w'.cell? ⟨w.heap.size + 1, 3, none⟩ = some (.int .i64 qn))
      (first | exact HK.out _ (by repeat (first | (with_reducible exact Lay.refl _) | (with_reducible refine Lay.alloc ?_ _) | (with_reducible refine Lay.drew ?_))) | go_keep)
      (first
        | (go_at_call 71; (with_reducible refine (HSP.out _ _ ?_).mono ?_); (first | (refine ints_lit2E _ _ _ _ _ ?_; first | rfl | simp) | (refine ints_alloc (ints_lit2E _ _ _ _ _ ?_) _; first | rfl | simp)); rintro e w9 ⟨rfl, rfl⟩)
        | (go_at_call 71; (with_reducible refine (HSQ.out _ _ ?_).mono ?_); (first | (refine ints_lit2E _ _ _ _ _ ?_; first | rfl | simp) | (refine ints_alloc (ints_lit2E _ _ _ _ _ ?_) _; first | rfl | simp)); rintro e w9 ⟨rfl, rfl⟩)
        | (go_at_call 105; (with_reducible refine (HOR.out _ _ ?_).mono ?_); (refine ints_lit4E _ _ _ _ _ _ _ ?_; first | rfl | simp); rintro e w9 ⟨rfl, rfl⟩))
    all_goals (go_wp2_with fail; go_meet)
    all_goals exact ⟨rfl, by repeat (first | (with_reducible exact Lay.refl _) | (with_reducible refine Lay.alloc ?_ _) | (with_reducible refine Lay.drew ?_))⟩
  case rest =>
    obtain ⟨rfl, hl⟩ := hcut
    have HLL := Lib.hid hl
    clear hl
    go_wp2
    go_ret
    exact ⟨rfl, LL.out _ HLL.out⟩
end Go.Proofs.Ytggdkibbfmjelaa
namespace Go.Proofs.Ytggdkibbfmjelaa
open Go.RowKit Go.Sort
set_option linter.unusedVariables false
set_option linter.unusedSimpArgs false
/-- a match that may be compared -/
abbrev OkT := {p : MtV // okM p}
instance : Inhabited OkT := ⟨⟨(0, 0, 0, 1), by unfold okM mN mG mX mY; simp⟩⟩
def encM (p : OkT) : List Value := [.int .i64 p.1.1, .int .i64 p.1.2.1, .int .i64 p.1.2.2.1, .int .i64 p.1.2.2.2]
def cmpO (p q : OkT) : Int := cmpM p.1 q.1
theorem ltO (p q : OkT) : ltOf cmpO p q = ltM p.1 q.1 := rfl
theorem swoM : SWO (ltOf cmpO) where
  irrefl x := ltM_irrefl x.1
  trans x y z h1 h2 := ltM_trans x.2 y.2 z.2 h1 h2
  ntrans x y z h1 h2 := ltM_ntrans x.2 y.2 z.2 h1 h2
theorem cmpLays (blk off size : Nat) (w : World) : CmpLays Try.prog 75 #[] encM 4 cmpO blk off size w :=
  fun _ _ _ _ x y => (implCmp_any x.1.1 x.1.2.1 x.1.2.2.1 x.1.2.2.2 y.1.1 y.1.2.1 y.1.2.2.1 y.1.2.2.2 _ x.2 y.2).mono fun _ _ h => h
def arrM (l : List MtV) (h : ∀ p ∈ l, okM p) : Array OkT := (l.pmap Subtype.mk h).toArray
theorem arrM_size (l : List MtV) (h : ∀ p ∈ l, okM p) : (arrM l h).size = l.length := by simp [arrM]
theorem arrM_get (l : List MtV) (h : ∀ p ∈ l, okM p) {i : Nat} (hi : i < l.length) : ((arrM l h)[i]!).1 = l[i] := by
  have h1 : i < (arrM l h).size := by rw [arrM_size]; exact hi
  rw [getElem!_pos (arrM l h) i h1]
  simp [arrM]
theorem holds_mt {w : World} {g : Nat} {l : List MtV} (hR : Row w g 97 (mtv l)) (h : ∀ p ∈ l, okM p) : HoldsK encM 4 w g 0 (arrM l h) := by
  intro t ht
  rw [size_flatK, arrM_size] at ht
  have h4 : t / 4 < l.length := by omega
  rw [get_flatK _ _ _ _ (by rw [arrM_size]; exact ht)]
  refine ⟨?_, hR.frozen _⟩
  rw [Nat.zero_add, hR.cell (k := t) (by rw [mtv_length]; exact ht)]
  obtain ⟨m0, m1, m2, m3⟩ := mtv_get l (t / 4) h4
  have hl := mtv_length l
  have e : (mtv l)[t]? = some ((encM (arrM l h)[t / 4]!)[t % 4]!) := by
    have hg := arrM_get l h h4
    unfold encM
    rw [hg]
    have ht4 : t = t / 4 * 4 + t % 4 := by omega
    have hc4 : t % 4 = 0 ∨ t % 4 = 1 ∨ t % 4 = 2 ∨ t % 4 = 3 := by omega
    clear hg
    generalize t / 4 = i at *
    generalize t % 4 = k at *
    subst ht4
    rcases hc4 with rfl | rfl | rfl | rfl
    · exact m0
    · exact m1
    · exact m2
    · exact m3
  rw [List.getElem?_eq_getElem (show t < (mtv l).length by omega)] at e
  injection e with e
  rw [e]; rfl
theorem grownBy_sortK (w : World) (g n : Nat) (d : Array OkT) (os : Array Obj) : w.grownBy (sortWorldK encM 4 w g 0 n d os) (some g) := by
  unfold sortWorldK grow putRowK putRow mapBlock Go.Sort.ahead
  refine ⟨rfl, rfl, rfl, by simp, fun k hk hne => ?_⟩
  have h9 : ¬ g = k := fun e => hne (by rw [e])
  simp [Array.getElem?_append, hk, Array.getElem_modify, h9]
theorem mts_sorted {w : World} {g n : Nat} {d d' : Array OkT} {os : Array Obj} (h : HoldsK encM 4 w g 0 d) (hs : d'.size = d.size) (hg : g < w.heap.size) : Mts (sortWorldK encM 4 w g 0 n d' os) (sortWorldK encM 4 w g 0 n d' os).heap.size (some ⟨g, 0, none⟩) (d'.toList.map Subtype.val) := by
  have hH := holdsK_sortWorldK_c encM 4 w g 0 d d' n os h hg hs
  have hz := size_sortWorldK_c encM 4 w g 0 n d' os
  refine .inr ⟨g, 0, rfl, by omega, fun j hj => ?_⟩
  simp only [List.length_map, Array.length_toList] at hj
  have c0 := (hH.cell hj (c := 0) (by omega)).1
  have c1 := (hH.cell hj (c := 1) (by omega)).1
  have c2 := (hH.cell hj (c := 2) (by omega)).1
  have c3 := (hH.cell hj (c := 3) (by omega)).1
  rw [getElem!_pos d' j hj] at c0 c1 c2 c3
  simp only [List.getElem_map, Array.getElem_toList]
  exact ⟨c0, c1, c2, c3⟩
theorem sort_perm {l : List MtV} {h : ∀ p ∈ l, okM p} {d' : Array OkT} (hp : PermIn 0 (arrM l h).size (arrM l h) d') : (d'.toList.map Subtype.val).Perm l := by
  obtain ⟨h1, _, h3⟩ := hp
  have e1 : d'.extract 0 (arrM l h).size = d' := by rw [← h1]; simp
  have e2 : (arrM l h).extract 0 (arrM l h).size = arrM l h := by simp
  rw [e1, e2] at h3
  have h4 := h3.map Subtype.val
  have e3 : (arrM l h).toList.map Subtype.val = l := by simp [arrM, List.map_pmap]
  rw [e3] at h4
  exact h4
theorem sort_sorted {l : List MtV} {h : ∀ p ∈ l, okM p} {d' : Array OkT} (hz : d'.size = (arrM l h).size) (hs : SortedIn (ltOf cmpO) 0 (arrM l h).size d') : SortM (d'.toList.map Subtype.val) := by
  unfold SortM
  rw [List.pairwise_iff_getElem]
  intro i j hi hj hij
  simp only [List.length_map, Array.length_toList] at hi hj
  have h9 := hs i j (Nat.zero_le _) hij (by omega)
  rw [getElem!_pos d' i hi, getElem!_pos d' j hj] at h9
  simp only [List.getElem_map, Array.getElem_toList]
  exact h9
theorem ent_cmp : ∀ args w, (callFunc 75 args).run Try.prog w = .ok (.enter 75 args) w := enters_of Try.func75 (by kernel_rfl) rfl
theorem sortMt_any (g c : Nat) (l : List MtV) (w : World) (hR : Row w g 97 (mtv l)) (hok : ∀ p ∈ l, okM p) (hn : l.length ≤ 64) :
    Calls Try.prog 74 #[.slice (some ⟨g, 0, none⟩) l.length c, .func (.func 75) #[] #[]] w fun e w' => e = .returned (.tuple #[]) ∧ ∃ l' : List MtV, l'.Perm l ∧ SortM l' ∧ Mts w' w'.heap.size (some ⟨g, 0, none⟩) l' ∧ w.grownBy w' (some g) := by
  have hcon := AnyQ.slices_SortFunc Try.sortMt 4 Try.isAgg97 Try.sizeOf97 encM (fun _ => rfl) (fun x v hv => by simp [encM] at hv; rcases hv with rfl | rfl | rfl | rfl <;> rfl) cmpO swoM 75 #[] g 0 c (arrM l hok) w ent_cmp (cmpLays g 0 _ w) (holds_mt hR hok) hR.lt (by rw [arrM_size]; omega)
  rw [arrM_size] at hcon
  refine hcon.mono ?_
  rintro e w' ⟨he, d', n, os, hp, hs, rfl⟩
  have hz : d'.size = (arrM l hok).size := hp.1.trans (by rw [arrM_size])
  refine ⟨he, d'.toList.map Subtype.val, sort_perm (h := hok) (by rw [arrM_size]; exact hp), sort_sorted (h := hok) hz (by rw [arrM_size]; exact hs), mts_sorted (holds_mt hR hok) hz hR.lt, grownBy_sortK w g n d' os⟩
theorem sortNone_any (c : Nat) (p : Option Addr) (w : World) :
    Calls Try.prog 74 #[.slice p 0 c, .func (.func 75) #[] #[]] w fun e w' => e = .returned (.tuple #[]) ∧ w' = w :=
  AnyF.slices_SortFunc_none Try.sortMt p c _ w
end Go.Proofs.Ytggdkibbfmjelaa
namespace Go.Proofs.Ytggdkibbfmjelaa
open Go.RowKit
set_option linter.unusedVariables false
set_option linter.unusedSimpArgs false
/-- what RankMotions answers -/
def rankM (wa ha : Int) (la : List Int) (wb hb : Int) (lb : List Int) : List MtV := rkL (maG wa ha la wb hb lb) (maN wa ha la wb hb lb) la.length 25
def rankR (wa ha : Int) (la : List Int) (wb hb : Int) (lb : List Int) : List MoT := if sameB wa ha la wb hb lb = true then (rankM wa ha la wb hb lb).map moOf else []
section
variable {wa ha : Int} {la : List Int} {wb hb : Int} {lb : List Int}
theorem rankR_no (h : sameB wa ha la wb hb lb = false) : rankR wa ha la wb hb lb = [] := if_neg (by rw [h]; simp)
theorem rankR_yes (h : sameB wa ha la wb hb lb = true) : rankR wa ha la wb hb lb = (rankM wa ha la wb hb lb).map moOf := if_pos h
theorem rankR_len : (rankR wa ha la wb hb lb).length ≤ 25 := by
  unfold rankR
  split
  · rw [List.length_map]; exact rk_len 25
  · simp
theorem ma_fine (h : sameB wa ha la wb hb lb = true) : FineM (maG wa ha la wb hb lb) (maN wa ha la wb hb lb) la.length ∧ ∀ x y, (-2 ≤ x ∧ x ≤ 2) → (-2 ≤ y ∧ y ≤ 2) → 0 ≤ maN wa ha la wb hb lb x y ∧ maN wa ha la wb hb lb x y ≤ 64 := by
  obtain ⟨g1, g2, _, _⟩ := same_iff.1 h
  have hl := (good_le g1).1
  have hn := (good_le g2).2
  have key : ∀ x y, (-2 ≤ x ∧ x ≤ 2) → (-2 ≤ y ∧ y ≤ 2) → (0 ≤ maN wa ha la wb hb lb x y ∧ maN wa ha la wb hb lb x y ≤ 64) ∧ 0 ≤ maG wa ha la wb hb lb x y ∧ maG wa ha la wb hb lb x y ≤ 1280000 := by
    intro x y hx hy
    have hb' := maB_iff.2 ⟨h, motB_iff.2 ⟨hx, hy⟩⟩
    rw [maG_yes hb', maN_yes hb']
    have c := cnt_bd (mvR wa.toNat ha.toNat la x y) lb lb.length
    have g := gapK_bd (good_bd (move_good g1 x y)) (good_bd g2) lb.length
    omega
  refine ⟨fun x y hx hy hq => ?_, fun x y hx hy => (key x y hx hy).1⟩
  have k := key x y hx hy
  omega
end
def MRet (r : List MoT) (v : Bool) (w : World) (e : Ending) (w' : World) : Prop := ∃ a c, e = .returned (.tuple #[.slice a r.length c, .bool v]) ∧ OwnMo w' w.heap.size a r ∧ Below w.heap.size w w'
theorem sortOwn_any (B : Nat) (a : Option Addr) (c : Nat) (l : List MtV) (w : World) (h : OwnMt w B a l) (hok : ∀ p ∈ l, okM p) (hn : l.length ≤ 64) :
    Calls Try.prog 74 #[.slice a l.length c, .func (.func 75) #[] #[]] w fun e w' => e = .returned (.tuple #[]) ∧ ∃ l' : List MtV, l'.Perm l ∧ SortM l' ∧ Mts w' w'.heap.size a l' ∧ ∃ g, B ≤ g ∧ w.grownBy w' (some g) := by
  obtain ⟨g, hg, rfl | ⟨rfl, hR⟩⟩ := h
  · refine (sortNone_any c a w).mono ?_
    rintro e w' ⟨rfl, rfl⟩
    exact ⟨rfl, [], List.Perm.refl _, List.Pairwise.nil, .inl rfl, g, hg, ⟨rfl, rfl, rfl, Nat.le_refl _, fun _ _ _ => rfl⟩⟩
  · refine (sortMt_any g c l w hR hok hn).mono ?_
    rintro e w' ⟨rfl, l', h1, h2, h3, h4⟩
    exact ⟨rfl, l', h1, h2, h3, g, hg, h4⟩
set_option maxRecDepth 100000 in
set_option maxHeartbeats 8000000 in
theorem implRank_any (wa ha : Int) (aa : Option Addr) (la : List Int) (ca : Nat) (wb hb : Int) (ab : Option Addr) (lb : List Int) (cb : Nat) (w : World) (h1 : Ints .i64 w w.heap.size aa la) (h2 : Ints .i64 w w.heap.size ab lb) (n1 : la.length ≤ 1048576) (n2 : lb.length ≤ 1048576) :
    Calls Try.prog 30 #[.agg #[.int .i64 wa, .int .i64 ha, .slice aa la.length ca], .agg #[.int .i64 wb, .int .i64 hb, .slice ab lb.length cb]] w (MRet (rankR wa ha la wb hb lb) (sameB wa ha la wb hb lb) w) := by
  have F0 := Lib.hid (Lx2.new (wd0 := wa) (hg0 := ha) (c0 := ca) (wd1 := wb) (hg1 := hb) (c1 := cb) h1 h2)
  clear h1 h2
  cases hs : sameB wa ha la wb hb lb with
  | false =>
    rw [rankR_no hs]
    have hS := oneShape_is _ 2 2 _ _ _ _ _ false _ (fldRow_two (wa := wa) (ha := ha) (wb := wb) (hb := hb) (ca := ca) (cb := cb) 34 F0.out.i0 F0.out.i1 n1 n2) (by omega) (by omega) ((oneB_two wa ha la wb hb lb).trans hs)
    simp only [World.size_alloc] at hS
    have HS := Lib.hid hS
    clear hS hs
    go_enter Try.func30, Try.ntmps30
    go_wp2_with fail
    refine HS.out.mono ?_
    rintro e w1 ⟨rfl, b1⟩
    have B1 := Lib.hid (below_then (below_then F0.out.b (below_all _ _)) (by simpa using b1))
    clear b1
    go_wp2
    go_ret2
    exact ⟨_, _, rfl, OwnMo.none_, B1.out.alloc B1.out.size _⟩
  | true =>
    rw [rankR_yes hs]
    have hS := oneShape_is _ 2 2 _ _ _ _ _ true _ (fldRow_two (wa := wa) (ha := ha) (wb := wb) (hb := hb) (ca := ca) (cb := cb) 34 F0.out.i0 F0.out.i1 n1 n2) (by omega) (by omega) ((oneB_two wa ha la wb hb lb).trans hs)
    simp only [World.size_alloc] at hS
    have HS := Lib.hid hS
    obtain ⟨hfine, hbd⟩ := ma_fine hs
    obtain ⟨g1, g2, e1, e2⟩ := same_iff.1 hs
    have l1 := (good_le g1).2
    have l2 := (good_le g2).2
    have HQ := Lib.hid (fun Wd i1 i2 => implQl_any wa ha aa la ca wb hb ab lb cb Wd i1 i2 l1 l2 hbd)
    have HOK := Lib.hid (fun p h => ql_ok hfine (n := 25) (Nat.le_refl _) (p := p) h)
    have HON := Lib.hid (fun m h1 h2 => rk_only hfine (n := 25) (m := m) (Nat.le_refl _) h1 h2)
    have hql := ql_len (G := maG wa ha la wb hb lb) (N := maN wa ha la wb hb lb) (len := (la.length : Int)) 25
    unfold rankM
    clear hS hs hfine hbd g1 g2 e1 e2
    generalize rkL (maG wa ha la wb hb lb) (maN wa ha la wb hb lb) la.length 25 = R at *
    generalize qlL (maG wa ha la wb hb lb) (maN wa ha la wb hb lb) la.length 25 = q at *
    have HST := Lib.hid (fun B a c Wd h => sortOwn_any B a c q Wd h HOK.out (by omega))
    go_enter Try.func30, Try.ntmps30
    go_wp2_with fail
    refine HS.out.mono ?_
    rintro e w1 ⟨rfl, b1⟩
    have F1 := Lib.hid ((F0.out.step (below_all _ _)).step (by simpa using b1))
    obtain ⟨k0, k1, k2⟩ := F1.out.k0.cells
    obtain ⟨l0, l1', l2'⟩ := F1.out.k1.cells
    clear b1 F0 HS
    go_wp2_with fail
    refine (HQ.out _ F1.out.i0 F1.out.i1).mono ?_
    rintro e w2 ⟨a2, c2, rfl, o2, b2⟩
    have B2 := Lib.hid (below_then F1.out.b b2)
    have HO := Lib.hid o2
    have hz1 := F1.out.b.size
    clear o2 b2 k0 k1 k2 l0 l1' l2' HQ
    go_wp2_with fail
    refine (HST.out _ _ _ _ HO.out).mono ?_
    rintro e w3 ⟨rfl, q', hp, hso, hmt, g, hg, hgr⟩
    have e9 := HON.out q' hp hso
    subst e9
    have hlen := hp.length_eq
    have B3 := Lib.hid (B2.out.grown hgr B2.out.size (fun j hj => by injection hj with hj; omega))
    have HM := Lib.hid hmt
    have HLN := Lib.hid hlen
    clear hp hso hmt hgr HO HST HON HOK
    have hmk := fun W => run_make_mo q.length (by omega) W
    have HR0 := Lib.hid (row_made_mo q.length w3)
    go_wp2
    clear hmk
    obtain ⟨L, hL⟩ : ∃ L, q'.map moOf = L := ⟨_, rfl⟩
    have hLl : L.length = q.length := by rw [← hL, List.length_map]; exact hlen
    have HLG := Lib.hid (fun k (h : k < L.length) (h' : k < q'.length) => show L[k] = (mX q'[k], mY q'[k]) from by subst hL; simp [moOf])
    have HLL := Lib.hid hLl
    have HR1' : Hid (Row (w3.alloc (.cells (madeCells #[.int .i64 0, .int .i64 0] (q.length * 2)) 24)) w3.heap.size 24 (mov (mixMo L 0))) := Lib.hid (by rw [mixMo_zero, hLl]; exact HR0.out)
    have HLM := Lib.hid hL
    clear hL hLl hlen HR0
    go_loopw [26] (fun i wr => ∃ k : Nat, k ≤ q.length ∧ i = .int .i64 k ∧ Row wr w3.heap.size 24 (mov (mixMo L k)) ∧ Mts wr w3.heap.size a2 q' ∧ Below w.heap.size w wr) (fun i _ => q.length - (intOf i).toNat)
    case atStart => exact ⟨0, Nat.zero_le _, rfl, HR1'.out, HM.out.below (below_all _ _) (Nat.le_refl _), B3.out.alloc B3.out.size _⟩
    case round =>
      clear HR1'
      obtain ⟨k, hk, rfl, hrow, hm, hB⟩ := hrel
      have HR := Lib.hid hrow
      have HMM := Lib.hid hm
      have HB := Lib.hid hB
      by_cases hlt : k < q.length
      · have hkR : k < q'.length := by have := HLN.out; omega
        have hkL : k < L.length := by have := HLL.out; omega
        obtain ⟨b, o, rfl, hb, d0, d1, d2, d3⟩ := hm.at_ hkR
        have hml := mixMo_len L k (by omega)
        have hnl := mov_length (mixMo L k)
        have hLe := HLL.out
        obtain ⟨u0, hu0⟩ : ∃ u, wr.cell? ⟨w3.heap.size, k * 2, none⟩ = some u := ⟨_, hrow.cell (k := k * 2) (by omega)⟩
        obtain ⟨u1, hu1⟩ : ∃ u, wr.cell? ⟨w3.heap.size, k * 2 + 1, none⟩ = some u := ⟨_, hrow.cell (k := k * 2 + 1) (by omega)⟩
        have f0 := hrow.frozen (k * 2)
        have f1 := hrow.frozen (k * 2 + 1)
        have hz := hrow.lt
        have hz2 : ¬ w3.heap.size = wr.heap.size := by omega
        have HST := Lib.hid (mixMo_step L k hkL)
        have HNS := Lib.hid (fun x0 x1 => mov_set (mixMo L k) k x0 x1 (by omega))
        have HXY := Lib.hid (HLG.out k hkL hkR)
        clear hrow hm hB hml hnl hLe
        have hi : (k : Int) < (q.length : Int) := by omega
        have hi0 : (0 : Int) ≤ (k : Int) := by omega
        unfold mX mY at HXY
        generalize q'[k] = mt at *
        obtain ⟨x0, x1, x2, x3⟩ := mt
        simp only at d0 d1 d2 d3 HXY
        have hwr : w.heap.size ≤ w3.heap.size := B3.out.size
        generalize w3.heap.size = gR at *
        go_wp2
        go_roundw
        case rel =>
          refine ⟨k + 1, by omega, by go_num, ?_, ?_, ?_⟩
          · have h := ((HR.out.set (k * 2) (.int .i64 x0)).set (k * 2 + 1) (.int .i64 x1)).alloc (.cells #[.int .i64 x0, .int .i64 x1, .int .i64 x2, .int .i64 x3] 97)
            rw [HNS.out, ← HXY.out, HST.out] at h
            exact h
          · exact (HMM.out.keep (fun p9 hp9 => (World.cell?_setCell_far _ _ _ _ (Nat.ne_of_gt hp9)).trans (World.cell?_setCell_far _ _ _ _ (Nat.ne_of_gt hp9)))).below (below_all _ _) (by simp [World.setCell]; omega)
          · exact ((HB.out.setCell (p := ⟨gR, k * 2, none⟩) (by simp; omega) _).setCell (p := ⟨gR, k * 2 + 1, none⟩) (by simp; omega) _).alloc (by have := HB.out.size; simp [World.setCell]; omega) _
        case measure => simp [intOf]; omega
      · obtain rfl : k = q.length := by omega
        have hLe := HLL.out
        rw [← hLe, mixMo_all] at hrow
        have HR2 := Lib.hid hrow
        have hz := hrow.lt
        have HLE := Lib.hid hLe
        clear hrow hm hB hLe
        go_wp2
        go_ret2
        exact ⟨_, _, by rw [HLM.out, HLE.out]; rfl, ⟨w3.heap.size, by have := B3.out.size; omega, .inr ⟨rfl, by rw [HLM.out]; exact HR2.out⟩⟩, HB.out⟩
end Go.Proofs.Ytggdkibbfmjelaa
namespace Go.Proofs.Ytggdkibbfmjelaa
open Go.RowKit
set_option linter.unusedVariables false
set_option linter.unusedSimpArgs false
theorem ltM_by (mx my G1 N1 kx ky G2 N2 : Int) : (G1 * N2 ≠ G2 * N1 → ltM (mx, my, G1, N1) (kx, ky, G2, N2) = decide (G1 * N2 < G2 * N1)) ∧ (G1 * N2 = G2 * N1 → max mx (-mx) + max my (-my) ≠ max kx (-kx) + max ky (-ky) → ltM (mx, my, G1, N1) (kx, ky, G2, N2) = decide (max mx (-mx) + max my (-my) < max kx (-kx) + max ky (-ky))) ∧ (G1 * N2 = G2 * N1 → max mx (-mx) + max my (-my) = max kx (-kx) + max ky (-ky) → ltM (mx, my, G1, N1) (kx, ky, G2, N2) = decide (my < ky ∨ (my = ky ∧ mx < kx))) := by
  have hi : ltM (mx, my, G1, N1) (kx, ky, G2, N2) = true ↔ G1 * N2 < G2 * N1 ∨ (G1 * N2 = G2 * N1 ∧ (max mx (-mx) + max my (-my) < max kx (-kx) + max ky (-ky) ∨ (max mx (-mx) + max my (-my) = max kx (-kx) + max ky (-ky) ∧ (my < ky ∨ (my = ky ∧ mx < kx))))) := ltM_iff _ _
  have key : ∀ (P : Prop) [Decidable P], (ltM (mx, my, G1, N1) (kx, ky, G2, N2) = true ↔ P) → ltM (mx, my, G1, N1) (kx, ky, G2, N2) = decide P := by
    intro P _ h
    by_cases hp : P
    · rw [h.2 hp, decide_eq_true hp]
    · rw [decide_eq_false hp]
      cases h9 : ltM (mx, my, G1, N1) (kx, ky, G2, N2) with
      | false => rfl
      | true => exact absurd (h.1 h9) hp
  generalize max mx (-mx) + max my (-my) = sp at *
  generalize max kx (-kx) + max ky (-ky) = sq at *
  refine ⟨fun h => key _ ?_, fun h h2 => key _ ?_, fun h h2 => key _ ?_⟩ <;> rw [hi] <;> omega
/-- a call that leaves every world as it is, in a region that reads behind another one -/
theorem quietMoreR {P : Program} {f : FuncId} {args : Array Value} {w : World} {a n : Nat} {v : Value} (h : ∀ W : World, Calls P f args W fun e w' => e = .returned v ∧ W = w') :
    Calls P f args (w.drewN (a + n)) fun e w'' => e = .returned v ∧ ∃ m, w'' = w.drewN (a + m) := (h _).mono fun _ _ h9 => ⟨h9.1, n, h9.2.symm⟩
/-- two fields, two motions, by value -/
structure Lx4 (w : World) (wd0 hg0 : Int) (a0 : Option Addr) (l0 : List Int) (c0 : Nat) (wd1 hg1 : Int) (a1 : Option Addr) (l1 : List Int) (c1 : Nat) (mx my kx ky : Int) (w' : World) : Prop where
  f : Lx3 w wd0 hg0 a0 l0 c0 wd1 hg1 a1 l1 c1 mx my w'
  k : MBox w' (w.heap.size + 3) 24 kx ky
section
variable {w w1 w2 : World} {wd0 hg0 wd1 hg1 mx my kx ky : Int} {a0 a1 : Option Addr} {l0 l1 : List Int} {c0 c1 : Nat}
theorem Lx4.new (h0 : Ints .i64 w w.heap.size a0 l0) (h1 : Ints .i64 w w.heap.size a1 l1) (mx my kx ky : Int) : Lx4 w wd0 hg0 a0 l0 c0 wd1 hg1 a1 l1 c1 mx my kx ky ((((w.alloc (.cells #[.int .i64 wd0, .int .i64 hg0, .slice a0 l0.length c0] 34)).alloc (.cells #[.int .i64 wd1, .int .i64 hg1, .slice a1 l1.length c1] 34)).alloc (.cells #[.int .i64 mx, .int .i64 my] 24)).alloc (.cells #[.int .i64 kx, .int .i64 ky] 24)) := by
  have h := Lx3.new (wd0 := wd0) (hg0 := hg0) (c0 := c0) (wd1 := wd1) (hg1 := hg1) (c1 := c1) h0 h1 mx my
  refine ⟨⟨h.f.step (below_all _ _), h.m.below (below_all _ _)⟩, ?_⟩
  have h9 := MBox.new (((w.alloc (.cells #[.int .i64 wd0, .int .i64 hg0, .slice a0 l0.length c0] 34)).alloc (.cells #[.int .i64 wd1, .int .i64 hg1, .slice a1 l1.length c1] 34)).alloc (.cells #[.int .i64 mx, .int .i64 my] 24)) 24 kx ky
  simp only [World.size_alloc] at h9
  exact h9
theorem Lx4.step (h : Lx4 w wd0 hg0 a0 l0 c0 wd1 hg1 a1 l1 c1 mx my kx ky w1) (b : Below w1.heap.size w1 w2) : Lx4 w wd0 hg0 a0 l0 c0 wd1 hg1 a1 l1 c1 mx my kx ky w2 := ⟨⟨h.f.f.step b, h.f.m.below b⟩, h.k.below b⟩
end
set_option maxRecDepth 100000 in
set_option maxHeartbeats 4000000 in
theorem specQl_any (W H : Nat) (aa : Option Addr) (la : List Int) (ca : Nat) (ab : Option Addr) (lb : List Int) (cb : Nat) (mx my G N : Int) (w : World) (h1 : Ints .i64 w w.heap.size aa la) (h2 : Ints .i64 w w.heap.size ab lb) (hn : 0 ≤ N ∧ N ≤ 64) (hl : 1 ≤ la.length ∧ la.length ≤ 64)
    (hM : ∀ W1 : World, Ints .i64 W1 W1.heap.size aa la → Ints .i64 W1 W1.heap.size ab lb → Calls Try.prog 68 #[.agg #[.int .i64 W, .int .i64 H, .slice aa la.length ca], .agg #[.int .i64 W, .int .i64 H, .slice ab lb.length cb], .agg #[.int .i64 mx, .int .i64 my]] W1 fun e w' => e = .returned (.tuple #[.int .i64 G, .int .i64 N]) ∧ Below W1.heap.size W1 w') :
    Calls Try.prog 100 #[.agg #[.int .i64 W, .int .i64 H, .slice aa la.length ca], .agg #[.int .i64 W, .int .i64 H, .slice ab lb.length cb], .agg #[.int .i64 mx, .int .i64 my]] w fun e w' => e = .returned (.bool (decide ((la.length : Int) ≤ 2 * N))) ∧ Below w.heap.size w w' := by
  have F0 := Lib.hid (Lx3.new (wd0 := (W : Int)) (hg0 := (H : Int)) (c0 := ca) (wd1 := (W : Int)) (hg1 := (H : Int)) (c1 := cb) h1 h2 mx my)
  obtain ⟨W0, hW0⟩ : ∃ x, ((w.alloc (.cells #[.int .i64 W, .int .i64 H, .slice aa la.length ca] 34)).alloc (.cells #[.int .i64 W, .int .i64 H, .slice ab lb.length cb] 34)).alloc (.cells #[.int .i64 mx, .int .i64 my] 24) = x := ⟨_, rfl⟩
  rw [hW0] at F0
  have HW := Lib.hid hW0
  have HM := Lib.hid hM
  have w1' := IntWalk.i64_in (2 * N) (by omega)
  clear h1 h2 hW0 hM
  by_cases hq : (la.length : Int) ≤ 2 * N
  · rw [decide_eq_true hq]
    have hN : 0 < N := by omega
    go_enter Try.func100, Try.ntmps100
    go_wp2_with fail
    rw [HW.out]
    refine (HM.out _ F0.out.f.i0 F0.out.f.i1).mono ?_
    rintro e w1 ⟨rfl, b1⟩
    have F1 := Lib.hid (F0.out.step b1)
    clear b1 F0
    obtain ⟨k0, k1, k2⟩ := F1.out.f.k0.cells
    go_wp2
    go_ret
    exact ⟨by simp [hq], F1.out.f.b⟩
  · rw [decide_eq_false hq]
    have hq2 : 2 * N < (la.length : Int) := by omega
    by_cases hN : 0 < N
    · go_enter Try.func100, Try.ntmps100
      go_wp2_with fail
      rw [HW.out]
      refine (HM.out _ F0.out.f.i0 F0.out.f.i1).mono ?_
      rintro e w1 ⟨rfl, b1⟩
      have F1 := Lib.hid (F0.out.step b1)
      clear b1 F0
      obtain ⟨k0, k1, k2⟩ := F1.out.f.k0.cells
      go_wp2
      go_ret
      (first | exact ⟨rfl, F1.out.f.b⟩ | exact ⟨by simp [hq], F1.out.f.b⟩ | exact ⟨by simp [hq]; omega, F1.out.f.b⟩)
    · go_enter Try.func100, Try.ntmps100
      go_wp2_with fail
      rw [HW.out]
      refine (HM.out _ F0.out.f.i0 F0.out.f.i1).mono ?_
      rintro e w1 ⟨rfl, b1⟩
      have F1 := Lib.hid (F0.out.step b1)
      clear b1 F0
      obtain ⟨k0, k1, k2⟩ := F1.out.f.k0.cells
      go_wp2
      go_ret
      (first | exact ⟨rfl, F1.out.f.b⟩ | exact ⟨by simp [hq], F1.out.f.b⟩ | exact ⟨by simp [hq]; omega, F1.out.f.b⟩)
set_option maxRecDepth 100000 in
set_option maxHeartbeats 8000000 in
theorem specBt_any (W H : Nat) (aa : Option Addr) (la : List Int) (ca : Nat) (ab : Option Addr) (lb : List Int) (cb : Nat) (mx my kx ky G1 N1 G2 N2 : Int) (w : World) (h1 : Ints .i64 w w.heap.size aa la) (h2 : Ints .i64 w w.heap.size ab lb) (o1 : okM (mx, my, G1, N1)) (o2 : okM (kx, ky, G2, N2))
    (hM : ∀ W1 : World, Ints .i64 W1 W1.heap.size aa la → Ints .i64 W1 W1.heap.size ab lb → Calls Try.prog 68 #[.agg #[.int .i64 W, .int .i64 H, .slice aa la.length ca], .agg #[.int .i64 W, .int .i64 H, .slice ab lb.length cb], .agg #[.int .i64 mx, .int .i64 my]] W1 fun e w' => e = .returned (.tuple #[.int .i64 G1, .int .i64 N1]) ∧ Below W1.heap.size W1 w')
    (hK : ∀ W1 : World, Ints .i64 W1 W1.heap.size aa la → Ints .i64 W1 W1.heap.size ab lb → Calls Try.prog 68 #[.agg #[.int .i64 W, .int .i64 H, .slice aa la.length ca], .agg #[.int .i64 W, .int .i64 H, .slice ab lb.length cb], .agg #[.int .i64 kx, .int .i64 ky]] W1 fun e w' => e = .returned (.tuple #[.int .i64 G2, .int .i64 N2]) ∧ Below W1.heap.size W1 w') :
    Calls Try.prog 101 #[.agg #[.int .i64 W, .int .i64 H, .slice aa la.length ca], .agg #[.int .i64 W, .int .i64 H, .slice ab lb.length cb], .agg #[.int .i64 mx, .int .i64 my], .agg #[.int .i64 kx, .int .i64 ky]] w fun e w' => e = .returned (.bool (ltM (mx, my, G1, N1) (kx, ky, G2, N2))) ∧ Below w.heap.size w w' := by
  have F0 := Lib.hid (Lx4.new (wd0 := (W : Int)) (hg0 := (H : Int)) (c0 := ca) (wd1 := (W : Int)) (hg1 := (H : Int)) (c1 := cb) h1 h2 mx my kx ky)
  obtain ⟨W0, hW0⟩ : ∃ x, (((w.alloc (.cells #[.int .i64 W, .int .i64 H, .slice aa la.length ca] 34)).alloc (.cells #[.int .i64 W, .int .i64 H, .slice ab lb.length cb] 34)).alloc (.cells #[.int .i64 mx, .int .i64 my] 24)).alloc (.cells #[.int .i64 kx, .int .i64 ky] 24) = x := ⟨_, rfl⟩
  rw [hW0] at F0
  have HW := Lib.hid hW0
  have HM := Lib.hid hM
  have HK := Lib.hid hK
  obtain ⟨b1, b2, b3⟩ := ltM_by mx my G1 N1 kx ky G2 N2
  obtain ⟨⟨a1, a2⟩, ⟨a3, a4⟩, ⟨a5, a6⟩, a7, a8⟩ := o1
  obtain ⟨⟨d1, d2⟩, ⟨d3, d4⟩, ⟨d5, d6⟩, d7, d8⟩ := o2
  simp only [mX, mY, mG, mN] at a1 a2 a3 a4 a5 a6 a7 a8 d1 d2 d3 d4 d5 d6 d7 d8
  have c1 : 0 ≤ G1 * N2 ∧ G1 * N2 ≤ 1280000 * 64 := ⟨Int.mul_nonneg a3 (by omega), Int.mul_le_mul a4 d2 (by omega) (by omega)⟩
  have c2 : 0 ≤ G2 * N1 ∧ G2 * N1 ≤ 1280000 * 64 := ⟨Int.mul_nonneg d3 (by omega), Int.mul_le_mul d4 a2 (by omega) (by omega)⟩
  have w1 := IntWalk.i64_in (G1 * N2) (by omega)
  have w2 := IntWalk.i64_in (G2 * N1) (by omega)
  have HA1 := Lib.hid (fun Wd => specAbs_is mx Wd (by omega))
  have HA2 := Lib.hid (fun Wd => specAbs_is my Wd (by omega))
  have HA3 := Lib.hid (fun Wd => specAbs_is kx Wd (by omega))
  have HA4 := Lib.hid (fun Wd => specAbs_is ky Wd (by omega))
  have f1 : 0 ≤ max mx (-mx) ∧ max mx (-mx) ≤ 2 := by omega
  have f2 : 0 ≤ max my (-my) ∧ max my (-my) ≤ 2 := by omega
  have f3 : 0 ≤ max kx (-kx) ∧ max kx (-kx) ≤ 2 := by omega
  have f4 : 0 ≤ max ky (-ky) ∧ max ky (-ky) ≤ 2 := by omega
  have B1 := Lib.hid b1
  have B2 := Lib.hid b2
  have B3 := Lib.hid b3
  clear h1 h2 hW0 hM hK b1 b2 b3 a1 a2 a3 a4 d1 d2 d3 d4
  generalize max mx (-mx) = s1 at *
  generalize max my (-my) = s2 at *
  generalize max kx (-kx) = s3 at *
  generalize max ky (-ky) = s4 at *
  generalize ltM (mx, my, G1, N1) (kx, ky, G2, N2) = v at *
  have w3 := IntWalk.i64_in (s1 + s2) (by omega)
  have w4 := IntWalk.i64_in (s3 + s4) (by omega)
  go_enter Try.func101, Try.ntmps101
  go_wp2_with fail
  rw [HW.out]
  refine (HM.out _ F0.out.f.f.i0 F0.out.f.f.i1).mono ?_
  rintro e w5 ⟨rfl, b5⟩
  have F1 := Lib.hid (F0.out.step b5)
  clear b5 F0
  obtain ⟨⟨k0, k1, k2⟩, ⟨l0, l1, l2⟩, n0, n1⟩ := F1.out.f.cells
  obtain ⟨n2, n3⟩ := F1.out.k.cells
  go_wp2_with fail
  refine (HK.out _ F1.out.f.f.i0 F1.out.f.f.i1).mono ?_
  rintro e w6 ⟨rfl, b6⟩
  have F2 := Lib.hid (F1.out.step b6)
  clear b6 F1 k0 k1 k2 l0 l1 l2 n0 n1 n2 n3
  obtain ⟨⟨k0, k1, k2⟩, ⟨l0, l1, l2⟩, n0, n1⟩ := F2.out.f.cells
  obtain ⟨n2, n3⟩ := F2.out.k.cells
  by_cases hab : G1 * N2 = G2 * N1
  · have HB2 := Lib.hid (B2.out hab)
    have HB3 := Lib.hid (B3.out hab)
    have nab : (G1 * N2 != G2 * N1) = false := by simp [hab]
    clear B1 B2 B3 hab
    go_wp2_with fail
    go_quiet ((go_at_call 99; first | exact Calls.quiet_of_same (quietSame (HA1.out _)) | exact Calls.quiet_of_same (quietSame (HA2.out _)) | exact Calls.quiet_of_same (quietSame (HA3.out _)) | exact Calls.quiet_of_same (quietSame (HA4.out _)) | exact quietMoreR HA1.out | exact quietMoreR HA2.out | exact quietMoreR HA3.out | exact quietMoreR HA4.out))
    clear k0 k1 k2 l0 l1 l2 n0 n1 n2 n3
    generalize hW7 : w6.drewN _ = W7
    have F3 := Lib.hid (show Lx4 w W H aa la ca W H ab lb cb mx my kx ky W7 from by rw [← hW7]; exact F2.out.step (below_drewN (Below.refl _ _) _))
    clear hW7 F2
    obtain ⟨⟨k0, k1, k2⟩, ⟨l0, l1, l2⟩, n0, n1⟩ := F3.out.f.cells
    obtain ⟨n2, n3⟩ := F3.out.k.cells
    by_cases hs : s1 + s2 = s3 + s4
    · have HE := Lib.hid (HB3.out hs)
      have ns : (s1 + s2 != s3 + s4) = false := by simp [hs]
      clear HB2 HB3 hs
      by_cases hy : my < ky
      · have HV := Lib.hid (show v = true from by rw [HE.out]; simp [hy])
        go_wp2
        go_ret
        exact ⟨by show Ending.returned (.bool _) = _; rw [HV.out], F3.out.f.f.b⟩
      · by_cases hy2 : my = ky
        · have nyy : (my == ky) = true := by simp [hy2]
          have HV := Lib.hid (show v = decide (mx < kx) from by rw [HE.out]; simp [hy2])
          clear hy2
          go_wp2
          go_ret
          exact ⟨by show Ending.returned (.bool _) = _; rw [HV.out], F3.out.f.f.b⟩
        · have nyy : (my == ky) = false := by simp [hy2]
          have HV := Lib.hid (show v = false from by rw [HE.out]; simp [hy2]; omega)
          clear hy2
          go_wp2
          go_ret
          exact ⟨by show Ending.returned (.bool _) = _; rw [HV.out], F3.out.f.f.b⟩
    · have HE := Lib.hid (HB2.out hs)
      have ns : (s1 + s2 != s3 + s4) = true := by simp [hs]
      clear HB2 HB3 hs
      go_wp2
      go_ret
      exact ⟨by show Ending.returned (.bool _) = _; rw [HE.out], F3.out.f.f.b⟩
  · have HB1 := Lib.hid (B1.out hab)
    have nab : (G1 * N2 != G2 * N1) = true := by simp [hab]
    clear B1 B2 B3 hab
    go_wp2
    go_ret
    exact ⟨by show Ending.returned (.bool _) = _; rw [HB1.out], F2.out.f.f.b⟩
end Go.Proofs.Ytggdkibbfmjelaa
namespace Go.Proofs.Ytggdkibbfmjelaa
open Go.RowKit
set_option linter.unusedVariables false
set_option linter.unusedSimpArgs false
section
variable {G N : Int → Int → Int} {len : Int}
/-- the motions of the ranking among the first n -/
def RL (G N : Int → Int → Int) (len : Int) (n : Nat) : List MoT := (rkL G N len n).map moOf
theorem RL_len (n : Nat) : (RL G N len n).length ≤ n := by unfold RL; rw [List.length_map]; exact rk_len n
theorem RL_no {n : Nat} (h : ¬ len ≤ 2 * N (moX n) (moY n)) : RL G N len (n + 1) = RL G N len n := by unfold RL; rw [rkL_no h]
theorem RL_yes {n k : Nat} (h : len ≤ 2 * N (moX n) (moY n)) (hk : spotM (rkL G N len n) (mtAt G N n) (rkL G N len n).length = k) : RL G N len (n + 1) = (RL G N len n).take k ++ (moX n, moY n) :: (RL G N len n).drop k := by
  unfold RL
  rw [rkL_yes h]
  unfold insM
  rw [hk, List.map_append, List.map_cons, List.map_take, List.map_drop]
  rfl
theorem RL_at {n j : Nat} (hj : j < (rkL G N len n).length) : ∃ i, i < n ∧ (rkL G N len n)[j] = mtAt G N i ∧ len ≤ 2 * N (moX i) (moY i) := by
  exact ql_mem ((rk_perm n).mem_iff.1 (List.getElem_mem hj))
theorem RL_cell {n j : Nat} (hj : j < (rkL G N len n).length) : (mov (RL G N len n))[j * 2]? = some (.int .i64 (mX (rkL G N len n)[j])) ∧ (mov (RL G N len n))[j * 2 + 1]? = some (.int .i64 (mY (rkL G N len n)[j])) := by
  have hj2 : j < (RL G N len n).length := by unfold RL; rw [List.length_map]; exact hj
  obtain ⟨h1, h2⟩ := mov_get (RL G N len n) j hj2
  have e : (RL G N len n)[j] = (mX (rkL G N len n)[j], mY (rkL G N len n)[j]) := by simp [RL, moOf]
  rw [e] at h1 h2
  exact ⟨h1, h2⟩
end
set_option maxRecDepth 100000 in
set_option maxHeartbeats 16000000 in
theorem specRk_any (W H : Nat) (aa : Option Addr) (la : List Int) (ca : Nat) (ab : Option Addr) (lb : List Int) (cb : Nat) (G N : Int → Int → Int) (w : World) (h1 : Ints .i64 w w.heap.size aa la) (h2 : Ints .i64 w w.heap.size ab lb) (hl64 : 1 ≤ la.length ∧ la.length ≤ 64) (hfine : FineM G N la.length) (hN : ∀ x y, (-2 ≤ x ∧ x ≤ 2) → (-2 ≤ y ∧ y ≤ 2) → 0 ≤ N x y ∧ N x y ≤ 64)
    (hM : ∀ (x y : Int), (-2 ≤ x ∧ x ≤ 2) → (-2 ≤ y ∧ y ≤ 2) → ∀ W1 : World, Ints .i64 W1 W1.heap.size aa la → Ints .i64 W1 W1.heap.size ab lb → Calls Try.prog 68 #[.agg #[.int .i64 W, .int .i64 H, .slice aa la.length ca], .agg #[.int .i64 W, .int .i64 H, .slice ab lb.length cb], .agg #[.int .i64 x, .int .i64 y]] W1 fun e w' => e = .returned (.tuple #[.int .i64 (G x y), .int .i64 (N x y)]) ∧ Below W1.heap.size W1 w') :
    Calls Try.prog 72 #[.agg #[.int .i64 W, .int .i64 H, .slice aa la.length ca], .agg #[.int .i64 W, .int .i64 H, .slice ab lb.length cb]] w fun e w' => ∃ a c, e = .returned (.slice a (RL G N la.length 25).length c) ∧ OwnMo w' w.heap.size a (RL G N la.length 25) ∧ Below w.heap.size w w' := by
  obtain ⟨i0, hi0', hz0, hz1, hz2⟩ := info_parts infoMo
  have F0 := Lib.hid (Lx2.new (wd0 := (W : Int)) (hg0 := (H : Int)) (c0 := ca) (wd1 := (W : Int)) (hg1 := (H : Int)) (c1 := cb) h1 h2)
  have HQ := Lib.hid (fun n (hn : n < 25) Wd i1 i2 => specQl_any W H aa la ca ab lb cb (moX n) (moY n) (G (moX n) (moY n)) (N (moX n) (moY n)) Wd i1 i2 (hN _ _ (mo_bd hn).1 (mo_bd hn).2) hl64 (hM _ _ (mo_bd hn).1 (mo_bd hn).2))
  have HOK := Lib.hid (fun n (hn : n < 25) (h : (la.length : Int) ≤ 2 * N (moX n) (moY n)) => show okM (moX n, moY n, G (moX n) (moY n), N (moX n) (moY n)) from ⟨(hfine _ _ (mo_bd hn).1 (mo_bd hn).2 h).1, (hfine _ _ (mo_bd hn).1 (mo_bd hn).2 h).2, (mo_bd hn).1, (mo_bd hn).2⟩)
  have HB := Lib.hid (fun n m (hn : n < 25) (hm : m < 25) o1 o2 Wd i1 i2 => specBt_any W H aa la ca ab lb cb (moX n) (moY n) (moX m) (moY m) (G (moX n) (moY n)) (N (moX n) (moY n)) (G (moX m) (moY m)) (N (moX m) (moY m)) Wd i1 i2 o1 o2 (hM _ _ (mo_bd hn).1 (mo_bd hn).2) (hM _ _ (mo_bd hm).1 (mo_bd hm).2))
  have HLN := Lib.hid (fun n => RL_len (G := G) (N := N) (len := (la.length : Int)) n)
  have HLR := Lib.hid (fun n => show (RL G N la.length n).length = (rkL G N la.length n).length from by unfold RL; rw [List.length_map])
  have HNO := Lib.hid (fun n h => RL_no (G := G) (N := N) (len := (la.length : Int)) (n := n) h)
  have HYES := Lib.hid (fun n k h hk => RL_yes (G := G) (N := N) (len := (la.length : Int)) (n := n) (k := k) h hk)
  have HAT := Lib.hid (fun n j hj => RL_at (G := G) (N := N) (len := (la.length : Int)) (n := n) (j := j) hj)
  have HCELL := Lib.hid (fun n j hj => RL_cell (G := G) (N := N) (len := (la.length : Int)) (n := n) (j := j) hj)
  have HRL0 := Lib.hid (show RL G N la.length 0 = [] from rfl)
  obtain ⟨w1, hw1⟩ : ∃ x, (w.alloc (.cells #[.int .i64 W, .int .i64 H, .slice aa la.length ca] 34)).alloc (.cells #[.int .i64 W, .int .i64 H, .slice ab lb.length cb] 34) = x := ⟨_, rfl⟩
  obtain ⟨y0, y1, y2⟩ := F0.out.k0.cells
  rw [hw1] at F0
  have hs1 : w.heap.size + 2 ≤ w1.heap.size := by rw [← hw1]; simp
  have S0 := Lib.hid (OutM.start (w.heap.size + 2) w1 hs1)
  have HW := Lib.hid hw1
  have hss : w1.heap.size = w.heap.size + 1 + 1 := by rw [← hw1]; simp
  have HSS := Lib.hid hss
  clear h1 h2 hw1 hM hfine hN hss y0 y1 y2
  generalize hRL : RL G N la.length = R at *
  clear hRL
  go_enter Try.func72, Try.ntmps72
  go_wp2
  go_loopw [5, 6] (fun out i9 wr => ∃ j : Nat, j ≤ 5 ∧ i9 = .int .i64 ((j : Int) - 2) ∧ ∃ g cap, out = .slice (some ⟨g, 0, none⟩) (R (5 * j)).length cap ∧ OutM (w.heap.size + 2) (R (5 * j)) g cap wr ∧ Lx2 w W H aa la ca W H ab lb cb wr) (fun _ i9 _ => 5 - (intOf i9 + 2).toNat)
  case atStart =>
    rw [HW.out]
    refine ⟨0, by omega, rfl, w.heap.size + 1 + 1, 0, ?_, ?_, F0.out.step (below_all _ _)⟩
    · rw [Nat.mul_zero, HRL0.out]; rfl
    · rw [Nat.mul_zero, HRL0.out]; have h9 := S0.out; rw [HSS.out] at h9; exact h9
  case round =>
    clear S0 F0
    obtain ⟨j, hj, rfl, g0, cap0, rfl, hO, hX⟩ := hrel
    have HO := Lib.hid hO
    have HX := Lib.hid hX
    clear hO hX
    by_cases hlt : j < 5
    · have hi : (j : Int) - 2 ≤ 2 := by omega
      go_wp2
      go_loopw [5, 7] (fun out i9 wr => ∃ i : Nat, i ≤ 5 ∧ i9 = .int .i64 ((i : Int) - 2) ∧ ∃ g cap, out = .slice (some ⟨g, 0, none⟩) (R (5 * j + i)).length cap ∧ OutM (w.heap.size + 2) (R (5 * j + i)) g cap wr ∧ Lx2 w W H aa la ca W H ab lb cb wr) (fun _ i9 _ => 5 - (intOf i9 + 2).toNat)
      case atStart => exact ⟨0, by omega, rfl, g0, cap0, rfl, HO.out, HX.out⟩
      case round =>
        clear HO HX
        obtain ⟨i, hi5, rfl, g, c, rfl, hO, hX⟩ := hrel
        have HO := Lib.hid hO
        have HX := Lib.hid hX
        clear hO hX
        by_cases hlt2 : i < 5
        · have hi2 : (i : Int) - 2 ≤ 2 := by omega
          obtain ⟨ex, ey⟩ := mo_at (j := j) hlt2
          have hn25 : 5 * j + i < 25 := by omega
          have w1' := IntWalk.i64_in ((i : Int) - 2 + 1) (by omega)
          have HQN := Lib.hid (HQ.out (5 * j + i) hn25)
          have HNON := Lib.hid (HNO.out (5 * j + i))
          have HYESN := Lib.hid (HYES.out (5 * j + i))
          have HOKN := Lib.hid (HOK.out (5 * j + i) hn25)
          have HBN := Lib.hid (fun m hm => HB.out (5 * j + i) m hn25 hm)
          have HATN := Lib.hid (HAT.out (5 * j + i))
          have HCELLN := Lib.hid (HCELL.out (5 * j + i))
          have hln := HLN.out (5 * j + i)
          have HLRN := Lib.hid (HLR.out (5 * j + i))
          have HMT := Lib.hid (show mtAt G N (5 * j + i) = (moX (5 * j + i), moY (5 * j + i), G (moX (5 * j + i)) (moY (5 * j + i)), N (moX (5 * j + i)) (moY (5 * j + i))) from rfl)
          rw [ex, ey] at HQN HNON HYESN HOKN HBN HMT
          have HX5 := Lib.hid (show 5 * j + (i + 1) = 5 * j + i + 1 from rfl)
          generalize hn' : 5 * j + i = n at *
          clear hn' ex ey
          obtain ⟨x, hx⟩ : ∃ x, (i : Int) - 2 = x := ⟨_, rfl⟩
          obtain ⟨y, hy⟩ : ∃ y, (j : Int) - 2 = y := ⟨_, rfl⟩
          have HXX := Lib.hid hx
          have hxi : x + 1 = ((i + 1 : Nat) : Int) - 2 := by omega
          have HXI := Lib.hid hxi
          rw [hx, hy] at HQN HNON HYESN HOKN HBN HMT
          rw [hx] at hi2 w1'
          rw [hy] at hi
          rw [hx, hy]
          clear hx hy hxi
          generalize G x y = G1 at *
          generalize hN1 : N x y = N1 at *
          clear hN1
          obtain ⟨wA, hwA⟩ : ∃ z, wr.alloc (.cells #[.int .i64 x, .int .i64 y] 24) = z := ⟨_, rfl⟩
          have HP := Lib.hid (MBox.new wr 24 x y)
          have HXA := Lib.hid (HX.out.step (below_all wr (.cells #[.int .i64 x, .int .i64 y] 24)))
          have HOA := Lib.hid (HO.out.step (below_all wr (.cells #[.int .i64 x, .int .i64 y] 24)))
          have hzA : wr.heap.size < wA.heap.size := by rw [← hwA]; simp
          rw [hwA] at HP HXA HOA
          have HWA := Lib.hid hwA
          obtain ⟨k0, k1, k2⟩ := HX.out.k0.cells
          obtain ⟨l0, l1, l2⟩ := HX.out.k1.cells
          have q0 := HX.out.k1.lt
          have q1 : w.heap.size < wr.heap.size := by omega
          have q2 : ¬ w.heap.size = wr.heap.size := by omega
          have q3 : ¬ w.heap.size + 1 = wr.heap.size := by omega
          clear hwA
          go_wp2_with fail
          rw [HWA.out]
          refine (HQN.out _ HXA.out.i0 HXA.out.i1).mono ?_
          rintro e wB ⟨rfl, bB⟩
          have HPB := Lib.hid (HP.out.below bB)
          have HXB := Lib.hid (HXA.out.step bB)
          have HOB := Lib.hid (HOA.out.step bB)
          have hzB := bB.size
          clear bB HP HXA HOA HWA k0 k1 k2 l0 l1 l2 q0 q1 q2 q3 HX HO
          generalize wr.heap.size = pb at *
          by_cases hq : (la.length : Int) ≤ 2 * N1
          · have HYN := Lib.hid (fun k hk => HYESN.out k hq hk)
            have o1 := HOKN.out hq
            have O1 := Lib.hid o1
            have dq : decide ((la.length : Int) ≤ 2 * N1) = true := decide_eq_true hq
            clear HNON HYESN HOKN HQN hq o1
            rw [HMT.out] at HYN
            go_wp2
            clear dq
            go_loopw [9] (fun p wr => ∃ k : Nat, k ≤ (R n).length ∧ p = .int .i64 k ∧ Hid (spotM (rkL G N la.length n) (x, y, G1, N1) (rkL G N la.length n).length = spotM (rkL G N la.length n) (x, y, G1, N1) k) ∧ OutM (w.heap.size + 2) (R n) g c wr ∧ Lx2 w W H aa la ca W H ab lb cb wr ∧ MBox wr pb 24 x y) (fun p _ => (intOf p).toNat)
            case atStart => exact ⟨(R n).length, Nat.le_refl _, rfl, Lib.hid (by rw [HLRN.out]), HOB.out, HXB.out, HPB.out⟩
            case round =>
              clear HOB HXB HPB
              obtain ⟨k, hk, rfl, HSP, hO, hX, hP⟩ := hrel
              have HO := Lib.hid hO
              have HX := Lib.hid hX
              have HP := Lib.hid hP
              clear hO hX hP
              obtain ⟨v, hv⟩ : ∃ v : Bool, (decide (0 < k) && ltM (x, y, G1, N1) ((rkL G N la.length n).getD (k - 1) (0, 0, 0, 0))) = v := ⟨_, rfl⟩
              have HV := Lib.hid hv
              clear hv
              obtain ⟨hgl, hgb, hgc, hcl⟩ := HO.out.facts
              have HL1 := Lib.hid hcl
              clear hcl
              obtain ⟨k0, k1, k2⟩ := HX.out.k0.cells
              obtain ⟨l0, l1, l2⟩ := HX.out.k1.cells
              obtain ⟨m0, m1⟩ := HP.out.cells
              go_upto_region 11 with fail
              go_cut [41] (fun s wx => s = .bool v ∧ OutM (w.heap.size + 2) (R n) g c wx ∧ Lx2 w W H aa la ca W H ab lb cb wx ∧ MBox wx pb 24 x y)
              case first =>
                by_cases hk0 : k = 0
                · have hv0 : v = false := by rw [← HV.out, hk0]; rfl
                  subst hv0
                  have hk00 : ¬ (0 : Int) < (k : Int) := by omega
                  have hkN : ¬ 0 < k := by omega
                  clear hk0
                  refine wp_region_later (by kernel_rfl) (by kernel_rfl) ?_
                  repeat (go_big_quiet_step (fail))
                  refine wpQuiet_nil ?_
                  intro _ hw'
                  obtain ⟨pq, hw''⟩ := hw'
                  subst hw''
                  all_goals (go_wp2_with fail; go_meet)
                  exact ⟨rfl, HO.out.step pq.below, HX.out.step pq.below, HP.out.below pq.below⟩
                · obtain ⟨k', hkk⟩ : ∃ k', k = k' + 1 := ⟨k - 1, by omega⟩
                  have hk' : k' < (rkL G N la.length n).length := by have := HLRN.out; omega
                  obtain ⟨ci0, ci1⟩ := HCELLN.out k' hk'
                  have d0 := HL1.out _ _ ci0
                  have d1 := HL1.out _ _ ci1
                  obtain ⟨m, hm, em, hmq⟩ := HATN.out k' hk'
                  have hv2 : v = ltM (x, y, G1, N1) (mtAt G N m) := by rw [← HV.out, hkk, ← em, show k' + 1 - 1 = k' from rfl, gM_at hk', decide_eq_true (by omega)]; rfl
                  rw [em] at d0 d1
                  have HBM := Lib.hid (fun Wd i1 i2 => HBN.out m (by omega) O1.out (HOK.out m (by omega) hmq) Wd i1 i2)
                  have e1 : mX (mtAt G N m) = moX m := rfl
                  have e2 : mY (mtAt G N m) = moY m := rfl
                  rw [e1] at d0
                  rw [e2] at d1
                  unfold mtAt at hv2
                  have HV2 := Lib.hid hv2
                  have hk00 : (0 : Int) < (k : Int) := by omega
                  have hkN : 0 < k := by omega
                  have hx1 : (k : Int) - 1 = (k' : Int) := by omega
                  have hk3 : (k' : Int) < ((R n).length : Int) := by have := HLRN.out; omega
                  have hk4 : (0 : Int) ≤ (k' : Int) := by omega
                  clear ci0 ci1 em hmq hv2 e1 e2 hkk hk0 hk'
                  generalize moX m = kx at *
                  generalize moY m = ky at *
                  have zw := HX.out.k1.lt
                  have zw0 : w.heap.size < wr.heap.size := by omega
                  have zp := HP.out.lt
                  have p0 := later_cell k0 zw0
                  have p1 := later_cell k1 zw0
                  have p2 := later_cell k2 zw0
                  have p3 := later_cell l0 zw
                  have p4 := later_cell l1 zw
                  have p5 := later_cell l2 zw
                  have p6 := later_cell m0 zp
                  have p7 := later_cell m1 zp
                  have p8 := later_cell d0 hgl
                  have p9 := later_cell d1 hgl
                  have HXI0 := Lib.hid HX.out.i0
                  have HXI1 := Lib.hid HX.out.i1
                  clear d0 d1 k0 k1 k2 l0 l1 l2 m0 m1
                  refine wp_region_later (by kernel_rfl) (by kernel_rfl) ?_
                  repeat (go_big_quiet_step ((go_at_call 101; exact calls_later (HBM.out _ (ints_below HXI0.out (Later.below _)) (ints_below HXI1.out (Later.below _))))))
                  refine wpQuiet_nil ?_
                  intro _ hw'
                  obtain ⟨pq, hw''⟩ := hw'
                  subst hw''
                  clear p0 p1 p2 p3 p4 p5 p6 p7 p8 p9
                  all_goals (go_wp2_with fail; go_meet)
                  exact ⟨by rw [HV2.out], HO.out.step pq.below, HX.out.step pq.below, HP.out.below pq.below⟩
              case rest =>
                obtain ⟨rfl, hO, hX, hP⟩ := hcut
                clear HO HX HP HL1 k0 k1 k2 l0 l1 l2 m0 m1 hgl hgb
                have HO := Lib.hid hO
                have HX := Lib.hid hX
                have HP := Lib.hid hP
                clear hO hX hP
                cases v with
                | true =>
                  have hkp : 0 < k := by have h9 := HV.out; rw [Bool.and_eq_true] at h9; exact of_decide_eq_true h9.1
                  obtain ⟨k', hkk⟩ : ∃ k', k = k' + 1 := ⟨k - 1, by omega⟩
                  have hk' : k' < (rkL G N la.length n).length := by have := HLRN.out; omega
                  have HSP2 := Lib.hid (show spotM (rkL G N la.length n) (x, y, G1, N1) (rkL G N la.length n).length = spotM (rkL G N la.length n) (x, y, G1, N1) k' from by
                    rw [HSP.out, hkk]
                    refine spotM_down hk' ?_
                    have h9 := HV.out
                    rw [Bool.and_eq_true, hkk, show k' + 1 - 1 = k' from rfl, gM_at hk'] at h9
                    exact h9.2)
                  have hx1 : (k : Int) - 1 = (k' : Int) := by omega
                  have hkm : k' < k := by omega
                  have hkr : k' ≤ (R n).length := by omega
                  clear hkk hk' HSP HV
                  go_wp2
                  go_roundw
                  case rel => exact ⟨k', hkr, rfl, HSP2, HO.out, HX.out, HP.out⟩
                  case measure => simp [intOf]; omega
                | false =>
                  have HE := Lib.hid (show spotM (rkL G N la.length n) (x, y, G1, N1) (rkL G N la.length n).length = k from by
                    rw [HSP.out]
                    rcases Nat.eq_zero_or_pos k with h0 | h0
                    · rw [h0]; rfl
                    · obtain ⟨k', hkk⟩ : ∃ k', k = k' + 1 := ⟨k - 1, by omega⟩
                      have hk' : k' < (rkL G N la.length n).length := by have := HLRN.out; omega
                      have h9 := HV.out
                      rw [decide_eq_true h0, Bool.true_and, hkk, show k' + 1 - 1 = k' from rfl, gM_at hk'] at h9
                      rw [hkk]
                      exact spotM_stop hk' h9)
                  have HFIN := Lib.hid (fun h => show R (n + 1) = (R n).take k ++ (x, y) :: (R n).drop k from HYN.out k h)
                  obtain ⟨hg, hgb, hgc, hcl⟩ := HO.out.facts
                  have HL1 := Lib.hid hcl
                  obtain ⟨m0, m1⟩ := HP.out.cells
                  have hpb := HP.out.lt
                  have hpb2 : ¬ pb = wc.heap.size := by omega
                  have hBw : w.heap.size + 2 ≤ wc.heap.size := by omega
                  clear hcl HSP HV HYN
                  obtain ⟨wr, rfl⟩ : ∃ z, z = wc := ⟨_, rfl⟩
                  have hl25 : (R n).length ≤ 25 := by omega
                  have HLAST : Hid (5 * j + i + 1 = 5 * j + i + 1) := Lib.hid rfl
                  generalize R n = l at *
                  by_cases hck : c = k
                  · have HKL := Lib.hid (show k = l.length by omega)
                    have HDR := Lib.hid (show mov (l.drop k) = [] by rw [HKL.out, List.drop_length]; rfl)
                    subst hck
                    have hwz : wr.heap.size ≤ wr.heap.size := Nat.le_refl _
                    have BW := Lib.hid (show Below wr.heap.size wr (wr.alloc (.cells #[] 24)).drew from ((Below.refl wr.heap.size wr).alloc hwz _).drew)
                    have OW := Lib.hid (show (wr.alloc (.cells #[] 24)).drew.ownsRow wr.heap.size 24 2 (.slice (some ⟨wr.heap.size, 0, none⟩) 0 0) 0 [] from ownRow_keeps (World.ownsRow_made (base := wr.heap.size) (e := 24) (size := 2) wr #[] 0 hwz (by simp) rfl) (Below.refl _ _).drew)
                    have BWb := Lib.hid (show Below wr.heap.size wr ((wr.alloc (.cells #[] 24)).alloc (.cells #[.int .i64 x, .int .i64 y] 24)).drew from (((Below.refl wr.heap.size wr).alloc hwz _).alloc (by simp <;> omega) _).drew)
                    have OWb := Lib.hid (show ((wr.alloc (.cells #[] 24)).alloc (.cells #[.int .i64 x, .int .i64 y] 24)).drew.ownsRow wr.heap.size 24 2 (.slice (some ⟨wr.heap.size, 0, none⟩) 0 0) 0 [] from ownRow_keeps ((World.ownsRow_made (base := wr.heap.size) (e := 24) (size := 2) wr #[] 0 hwz (by simp) rfl).alloc _) (Below.refl _ _).drew)
                    have LTb := Lib.hid (show ∀ (j : Nat) (u : Value), [Value.int .i64 x, .int .i64 y][j]? = some u → ((wr.alloc (.cells #[] 24)).alloc (.cells #[.int .i64 x, .int .i64 y] 24)).drew.cell? ((⟨wr.heap.size + 1, 0, none⟩ : Addr).add j) = some u from by
                      have h := lit_newM (wr.alloc (.cells #[] 24)) x y 24
                      rw [World.size_alloc] at h
                      exact litM_below h (Below.refl _ _).drew (by simp))
                    have BWc := Lib.hid (show Below wr.heap.size wr ((wr.alloc (.cells #[.int .i64 x, .int .i64 y] 24)).alloc (.cells #[] 24)).drew from (((Below.refl wr.heap.size wr).alloc hwz _).alloc (by simp <;> omega) _).drew)
                    have OWc := Lib.hid (show ((wr.alloc (.cells #[.int .i64 x, .int .i64 y] 24)).alloc (.cells #[] 24)).drew.ownsRow wr.heap.size 24 2 (.slice (some ⟨wr.heap.size + 1, 0, none⟩) 0 0) 0 [] from by
                      have h := World.ownsRow_made (base := wr.heap.size) (e := 24) (size := 2) (wr.alloc (.cells #[.int .i64 x, .int .i64 y] 24)) #[] 0 (by simp <;> omega) (by simp) rfl
                      rw [World.size_alloc] at h
                      exact ownRow_keeps h (Below.refl _ _).drew)
                    have LTc := Lib.hid (show ∀ (j : Nat) (u : Value), [Value.int .i64 x, .int .i64 y][j]? = some u → ((wr.alloc (.cells #[.int .i64 x, .int .i64 y] 24)).alloc (.cells #[] 24)).drew.cell? ((⟨wr.heap.size, 0, none⟩ : Addr).add j) = some u from
                      litM_below (lit_newM wr x y 24) (below_all _ _).drew (by simp))
                    have HBb := Lib.hid (show wr.heap.size + 1 < ((wr.alloc (.cells #[] 24)).alloc (.cells #[.int .i64 x, .int .i64 y] 24)).drew.heap.size by
                      show wr.heap.size + 1 < ((wr.alloc (.cells #[] 24)).alloc (.cells #[.int .i64 x, .int .i64 y] 24)).heap.size
                      simp)
                    have HBc := Lib.hid (show wr.heap.size < ((wr.alloc (.cells #[.int .i64 x, .int .i64 y] 24)).alloc (.cells #[] 24)).drew.heap.size by
                      show wr.heap.size < ((wr.alloc (.cells #[.int .i64 x, .int .i64 y] 24)).alloc (.cells #[] 24)).heap.size
                      simp <;> omega)
                    have HNb := Lib.hid (show wr.heap.size + 1 ≠ wr.heap.size by omega)
                    have HNc := Lib.hid (show wr.heap.size ≠ wr.heap.size + 1 by omega)
                    go_wp2_with fail
                    go_region_law (first
                      | (refine step_putM (by rfl) _ _ _ (by rfl) wr.heap.size 24 i0 (.agg #[.int .i64 0, .int .i64 0]) Try.underlying46 hi0' hz0 hz1 hz2 rfl (.slice (some ⟨wr.heap.size, 0, none⟩) 0 0) 0 [] (by rfl) OW.out ⟨g, 0, none⟩ c c (mov (l.take c)) (by rfl) (by rw [mov_length, List.length_take]; omega) (mput_take HL1.out hg BW.out) (mov_one _) (by omega) BW.out.size ?_; intro v1 w1 hown1 hgrow1; have BW1 := Lib.hid (BW.out.grown hgrow1 BW.out.size (fun j hj => (OW.out.lt j hj).1)); have OW1 := Lib.hid hown1; have md0 := (BW1.out.cell (p := ⟨pb, 0, none⟩) hpb).trans m0; have md1 := (BW1.out.cell (p := ⟨pb, 1, none⟩) hpb).trans m1; clear hown1 hgrow1)
                      | (refine step_putM (by rfl) _ _ _ (by rfl) wr.heap.size 24 i0 (.agg #[.int .i64 0, .int .i64 0]) Try.underlying46 hi0' hz0 hz1 hz2 rfl v1 (0 + c) ([] ++ mov (l.take c)) (by rfl) (OW1.out.alloc _) ⟨w1.heap.size, 0, none⟩ 1 1 [.int .i64 x, .int .i64 y] (by rfl) (by rfl) (lit_newM _ _ _ _) (by simp [Value.oneCell']) (by omega) ((BW1.out.alloc BW1.out.size _).size) ?_; intro v2 w2 hown2 hgrow2; have BW2 := Lib.hid ((BW1.out.alloc BW1.out.size (.cells #[.int .i64 x, .int .i64 y] 24)).grown hgrow2 (BW1.out.alloc BW1.out.size _).size (fun j hj => (OW1.out.lt j hj).1)); have OW2 := Lib.hid hown2; clear hown2 hgrow2)
                      | (refine step_putM (by rfl) _ _ _ (by rfl) wr.heap.size 24 i0 (.agg #[.int .i64 0, .int .i64 0]) Try.underlying46 hi0' hz0 hz1 hz2 rfl v2 (0 + c + 1) ([] ++ mov (l.take c) ++ [.int .i64 x, .int .i64 y]) (by rfl) OW2.out ⟨g, 0, none⟩ 0 0 [] (by rfl) rfl (by intro j u h; simp at h) (by intro u hu; simp at hu) (by omega) BW2.out.size ?_; intro v3 w3 hown3 hgrow3; have BW3 := Lib.hid (BW2.out.grown hgrow3 BW2.out.size (fun j hj => (OW2.out.lt j hj).1)); have OW3 := Lib.hid hown3; clear hown3 hgrow3)
                      | (refine step_putM (by rfl) _ _ _ (by rfl) wr.heap.size 24 i0 (.agg #[.int .i64 0, .int .i64 0]) Try.underlying46 hi0' hz0 hz1 hz2 rfl (.slice (some ⟨wr.heap.size, 0, none⟩) 0 0) 0 [] (by rfl) OWb.out ⟨g, 0, none⟩ c c (mov (l.take c)) (by rfl) (by rw [mov_length, List.length_take]; omega) (mput_take HL1.out hg BWb.out) (mov_one _) (by omega) BWb.out.size ?_; intro v1 w1 hown1 hgrow1; have BW1 := Lib.hid (BWb.out.grown hgrow1 BWb.out.size (fun j hj => (OWb.out.lt j hj).1)); have OW1 := Lib.hid hown1; have md0 := (BW1.out.cell (p := ⟨pb, 0, none⟩) hpb).trans m0; have md1 := (BW1.out.cell (p := ⟨pb, 1, none⟩) hpb).trans m1; have LT1 := Lib.hid (litM_grown (g := wr.heap.size) LTb.out hgrow1 HBb.out HNb.out); clear hown1 hgrow1)
                      | (refine step_putM (by rfl) _ _ _ (by rfl) wr.heap.size 24 i0 (.agg #[.int .i64 0, .int .i64 0]) Try.underlying46 hi0' hz0 hz1 hz2 rfl (.slice (some ⟨wr.heap.size + 1, 0, none⟩) 0 0) 0 [] (by rfl) OWc.out ⟨g, 0, none⟩ c c (mov (l.take c)) (by rfl) (by rw [mov_length, List.length_take]; omega) (mput_take HL1.out hg BWc.out) (mov_one _) (by omega) BWc.out.size ?_; intro v1 w1 hown1 hgrow1; have BW1 := Lib.hid (BWc.out.grown hgrow1 BWc.out.size (fun j hj => (OWc.out.lt j hj).1)); have OW1 := Lib.hid hown1; have md0 := (BW1.out.cell (p := ⟨pb, 0, none⟩) hpb).trans m0; have md1 := (BW1.out.cell (p := ⟨pb, 1, none⟩) hpb).trans m1; have LT1 := Lib.hid (litM_grown (g := wr.heap.size + 1) LTc.out hgrow1 HBc.out HNc.out); clear hown1 hgrow1)
                      | (refine step_putM (by rfl) _ _ _ (by rfl) wr.heap.size 24 i0 (.agg #[.int .i64 0, .int .i64 0]) Try.underlying46 hi0' hz0 hz1 hz2 rfl v1 (0 + c) ([] ++ mov (l.take c)) (by rfl) OW1.out ⟨wr.heap.size + 1, 0, none⟩ 1 1 [.int .i64 x, .int .i64 y] (by rfl) (by rfl) LT1.out (by simp [Value.oneCell']) (by omega) BW1.out.size ?_; intro v2 w2 hown2 hgrow2; have BW2 := Lib.hid (BW1.out.grown hgrow2 BW1.out.size (fun j hj => (OW1.out.lt j hj).1)); have OW2 := Lib.hid hown2; clear hown2 hgrow2)
                      | (refine step_putM (by rfl) _ _ _ (by rfl) wr.heap.size 24 i0 (.agg #[.int .i64 0, .int .i64 0]) Try.underlying46 hi0' hz0 hz1 hz2 rfl v1 (0 + c) ([] ++ mov (l.take c)) (by rfl) OW1.out ⟨wr.heap.size, 0, none⟩ 1 1 [.int .i64 x, .int .i64 y] (by rfl) (by rfl) LT1.out (by simp [Value.oneCell']) (by omega) BW1.out.size ?_; intro v2 w2 hown2 hgrow2; have BW2 := Lib.hid (BW1.out.grown hgrow2 BW1.out.size (fun j hj => (OW1.out.lt j hj).1)); have OW2 := Lib.hid hown2; clear hown2 hgrow2))
                    all_goals
                      obtain ⟨g3, c3, rfl, hS3⟩ := OutM.ins (B := w.heap.size + 2) (l := l) (k := c) hBw (by rw [HDR.out]; exact OW3.out) (by first | omega | (simp; omega)) (by omega)
                      have HS3 := Lib.hid hS3
                      have HX3 := Lib.hid (HX.out.step BW3.out)
                      clear hS3 OW3 BW3 OW2 BW2 OW1 BW1 BW OW BWb OWb LTb BWc OWc LTc
                      have HF := Lib.hid (HFIN.out HE.out)
                      rw [← HF.out] at HS3 ⊢
                      go_wp2
                      go_roundw
                      case rel => exact ⟨i + 1, by omega, by rw [HXI.out], g3, c3, by rw [HX5.out], by rw [HX5.out]; exact HS3.out, HX3.out⟩
                      case measure => have := HXX.out; simp [intOf]; omega
                  · have hk1 : (k : Int) ≤ (c : Int) := by omega
                    have hk2 : (k : Int) ≤ (l.length : Int) := by omega
                    have hkz : (0 : Int) ≤ (k : Int) := by omega
                    have hkl : k ≤ l.length := hk
                    have hwz : wr.heap.size ≤ wr.heap.size := Nat.le_refl _
                    have BW := Lib.hid (show Below wr.heap.size wr (wr.alloc (.cells #[] 24)).drew from ((Below.refl wr.heap.size wr).alloc hwz _).drew)
                    have OW := Lib.hid (show (wr.alloc (.cells #[] 24)).drew.ownsRow wr.heap.size 24 2 (.slice (some ⟨wr.heap.size, 0, none⟩) 0 0) 0 [] from ownRow_keeps (World.ownsRow_made (base := wr.heap.size) (e := 24) (size := 2) wr #[] 0 hwz (by simp) rfl) (Below.refl _ _).drew)
                    have BWb := Lib.hid (show Below wr.heap.size wr ((wr.alloc (.cells #[] 24)).alloc (.cells #[.int .i64 x, .int .i64 y] 24)).drew from (((Below.refl wr.heap.size wr).alloc hwz _).alloc (by simp <;> omega) _).drew)
                    have OWb := Lib.hid (show ((wr.alloc (.cells #[] 24)).alloc (.cells #[.int .i64 x, .int .i64 y] 24)).drew.ownsRow wr.heap.size 24 2 (.slice (some ⟨wr.heap.size, 0, none⟩) 0 0) 0 [] from ownRow_keeps ((World.ownsRow_made (base := wr.heap.size) (e := 24) (size := 2) wr #[] 0 hwz (by simp) rfl).alloc _) (Below.refl _ _).drew)
                    have LTb := Lib.hid (show ∀ (j : Nat) (u : Value), [Value.int .i64 x, .int .i64 y][j]? = some u → ((wr.alloc (.cells #[] 24)).alloc (.cells #[.int .i64 x, .int .i64 y] 24)).drew.cell? ((⟨wr.heap.size + 1, 0, none⟩ : Addr).add j) = some u from by
                      have h := lit_newM (wr.alloc (.cells #[] 24)) x y 24
                      rw [World.size_alloc] at h
                      exact litM_below h (Below.refl _ _).drew (by simp))
                    have BWc := Lib.hid (show Below wr.heap.size wr ((wr.alloc (.cells #[.int .i64 x, .int .i64 y] 24)).alloc (.cells #[] 24)).drew from (((Below.refl wr.heap.size wr).alloc hwz _).alloc (by simp <;> omega) _).drew)
                    have OWc := Lib.hid (show ((wr.alloc (.cells #[.int .i64 x, .int .i64 y] 24)).alloc (.cells #[] 24)).drew.ownsRow wr.heap.size 24 2 (.slice (some ⟨wr.heap.size + 1, 0, none⟩) 0 0) 0 [] from by
                      have h := World.ownsRow_made (base := wr.heap.size) (e := 24) (size := 2) (wr.alloc (.cells #[.int .i64 x, .int .i64 y] 24)) #[] 0 (by simp <;> omega) (by simp) rfl
                      rw [World.size_alloc] at h
                      exact ownRow_keeps h (Below.refl _ _).drew)
                    have LTc := Lib.hid (show ∀ (j : Nat) (u : Value), [Value.int .i64 x, .int .i64 y][j]? = some u → ((wr.alloc (.cells #[.int .i64 x, .int .i64 y] 24)).alloc (.cells #[] 24)).drew.cell? ((⟨wr.heap.size, 0, none⟩ : Addr).add j) = some u from
                      litM_below (lit_newM wr x y 24) (below_all _ _).drew (by simp))
                    have HBb := Lib.hid (show wr.heap.size + 1 < ((wr.alloc (.cells #[] 24)).alloc (.cells #[.int .i64 x, .int .i64 y] 24)).drew.heap.size by
                      show wr.heap.size + 1 < ((wr.alloc (.cells #[] 24)).alloc (.cells #[.int .i64 x, .int .i64 y] 24)).heap.size
                      simp)
                    have HBc := Lib.hid (show wr.heap.size < ((wr.alloc (.cells #[.int .i64 x, .int .i64 y] 24)).alloc (.cells #[] 24)).drew.heap.size by
                      show wr.heap.size < ((wr.alloc (.cells #[.int .i64 x, .int .i64 y] 24)).alloc (.cells #[] 24)).heap.size
                      simp <;> omega)
                    have HNb := Lib.hid (show wr.heap.size + 1 ≠ wr.heap.size by omega)
                    have HNc := Lib.hid (show wr.heap.size ≠ wr.heap.size + 1 by omega)
                    go_wp2_with fail
                    go_region_law (first
                      | (refine step_putM (by rfl) _ _ _ (by rfl) wr.heap.size 24 i0 (.agg #[.int .i64 0, .int .i64 0]) Try.underlying46 hi0' hz0 hz1 hz2 rfl (.slice (some ⟨wr.heap.size, 0, none⟩) 0 0) 0 [] (by rfl) OW.out ⟨g, 0, none⟩ k c (mov (l.take k)) (by rfl) (by rw [mov_length, List.length_take]; omega) (mput_take HL1.out hg BW.out) (mov_one _) (by omega) BW.out.size ?_; intro v1 w1 hown1 hgrow1; have BW1 := Lib.hid (BW.out.grown hgrow1 BW.out.size (fun j hj => (OW.out.lt j hj).1)); have OW1 := Lib.hid hown1; have md0 := (BW1.out.cell (p := ⟨pb, 0, none⟩) hpb).trans m0; have md1 := (BW1.out.cell (p := ⟨pb, 1, none⟩) hpb).trans m1; clear hown1 hgrow1)
                      | (refine step_putM (by rfl) _ _ _ (by rfl) wr.heap.size 24 i0 (.agg #[.int .i64 0, .int .i64 0]) Try.underlying46 hi0' hz0 hz1 hz2 rfl v1 (0 + k) ([] ++ mov (l.take k)) (by rfl) (OW1.out.alloc _) ⟨w1.heap.size, 0, none⟩ 1 1 [.int .i64 x, .int .i64 y] (by rfl) (by rfl) (lit_newM _ _ _ _) (by simp [Value.oneCell']) (by omega) ((BW1.out.alloc BW1.out.size _).size) ?_; intro v2 w2 hown2 hgrow2; have BW2 := Lib.hid ((BW1.out.alloc BW1.out.size (.cells #[.int .i64 x, .int .i64 y] 24)).grown hgrow2 (BW1.out.alloc BW1.out.size _).size (fun j hj => (OW1.out.lt j hj).1)); have OW2 := Lib.hid hown2; clear hown2 hgrow2)
                      | (refine step_putM (by rfl) _ _ _ (by rfl) wr.heap.size 24 i0 (.agg #[.int .i64 0, .int .i64 0]) Try.underlying46 hi0' hz0 hz1 hz2 rfl v2 (0 + k + 1) ([] ++ mov (l.take k) ++ [.int .i64 x, .int .i64 y]) (by rfl) OW2.out ⟨g, k * 2, none⟩ (l.length - k) (c - k) (mov (l.drop k)) (by rfl) (by rw [mov_length, List.length_drop]) (mput_drop HL1.out hg hkl BW2.out) (mov_one _) (by omega) BW2.out.size ?_; intro v3 w3 hown3 hgrow3; have BW3 := Lib.hid (BW2.out.grown hgrow3 BW2.out.size (fun j hj => (OW2.out.lt j hj).1)); have OW3 := Lib.hid hown3; clear hown3 hgrow3)
                      | (refine step_putM (by rfl) _ _ _ (by rfl) wr.heap.size 24 i0 (.agg #[.int .i64 0, .int .i64 0]) Try.underlying46 hi0' hz0 hz1 hz2 rfl (.slice (some ⟨wr.heap.size, 0, none⟩) 0 0) 0 [] (by rfl) OWb.out ⟨g, 0, none⟩ k c (mov (l.take k)) (by rfl) (by rw [mov_length, List.length_take]; omega) (mput_take HL1.out hg BWb.out) (mov_one _) (by omega) BWb.out.size ?_; intro v1 w1 hown1 hgrow1; have BW1 := Lib.hid (BWb.out.grown hgrow1 BWb.out.size (fun j hj => (OWb.out.lt j hj).1)); have OW1 := Lib.hid hown1; have md0 := (BW1.out.cell (p := ⟨pb, 0, none⟩) hpb).trans m0; have md1 := (BW1.out.cell (p := ⟨pb, 1, none⟩) hpb).trans m1; have LT1 := Lib.hid (litM_grown (g := wr.heap.size) LTb.out hgrow1 HBb.out HNb.out); clear hown1 hgrow1)
                      | (refine step_putM (by rfl) _ _ _ (by rfl) wr.heap.size 24 i0 (.agg #[.int .i64 0, .int .i64 0]) Try.underlying46 hi0' hz0 hz1 hz2 rfl (.slice (some ⟨wr.heap.size + 1, 0, none⟩) 0 0) 0 [] (by rfl) OWc.out ⟨g, 0, none⟩ k c (mov (l.take k)) (by rfl) (by rw [mov_length, List.length_take]; omega) (mput_take HL1.out hg BWc.out) (mov_one _) (by omega) BWc.out.size ?_; intro v1 w1 hown1 hgrow1; have BW1 := Lib.hid (BWc.out.grown hgrow1 BWc.out.size (fun j hj => (OWc.out.lt j hj).1)); have OW1 := Lib.hid hown1; have md0 := (BW1.out.cell (p := ⟨pb, 0, none⟩) hpb).trans m0; have md1 := (BW1.out.cell (p := ⟨pb, 1, none⟩) hpb).trans m1; have LT1 := Lib.hid (litM_grown (g := wr.heap.size + 1) LTc.out hgrow1 HBc.out HNc.out); clear hown1 hgrow1)
                      | (refine step_putM (by rfl) _ _ _ (by rfl) wr.heap.size 24 i0 (.agg #[.int .i64 0, .int .i64 0]) Try.underlying46 hi0' hz0 hz1 hz2 rfl v1 (0 + k) ([] ++ mov (l.take k)) (by rfl) OW1.out ⟨wr.heap.size + 1, 0, none⟩ 1 1 [.int .i64 x, .int .i64 y] (by rfl) (by rfl) LT1.out (by simp [Value.oneCell']) (by omega) BW1.out.size ?_; intro v2 w2 hown2 hgrow2; have BW2 := Lib.hid (BW1.out.grown hgrow2 BW1.out.size (fun j hj => (OW1.out.lt j hj).1)); have OW2 := Lib.hid hown2; clear hown2 hgrow2)
                      | (refine step_putM (by rfl) _ _ _ (by rfl) wr.heap.size 24 i0 (.agg #[.int .i64 0, .int .i64 0]) Try.underlying46 hi0' hz0 hz1 hz2 rfl v1 (0 + k) ([] ++ mov (l.take k)) (by rfl) OW1.out ⟨wr.heap.size, 0, none⟩ 1 1 [.int .i64 x, .int .i64 y] (by rfl) (by rfl) LT1.out (by simp [Value.oneCell']) (by omega) BW1.out.size ?_; intro v2 w2 hown2 hgrow2; have BW2 := Lib.hid (BW1.out.grown hgrow2 BW1.out.size (fun j hj => (OW1.out.lt j hj).1)); have OW2 := Lib.hid hown2; clear hown2 hgrow2))
                    all_goals
                      obtain ⟨g3, c3, rfl, hS3⟩ := OutM.ins (B := w.heap.size + 2) (l := l) (k := k) hBw OW3.out (by first | omega | (simp; omega)) (by omega)
                      have HS3 := Lib.hid hS3
                      have HX3 := Lib.hid (HX.out.step BW3.out)
                      clear hS3 OW3 BW3 OW2 BW2 OW1 BW1 BW OW BWb OWb LTb BWc OWc LTc
                      have HF := Lib.hid (HFIN.out HE.out)
                      rw [← HF.out] at HS3 ⊢
                      go_wp2
                      go_roundw
                      case rel => exact ⟨i + 1, by omega, by rw [HXI.out], g3, c3, by rw [HX5.out], by rw [HX5.out]; exact HS3.out, HX3.out⟩
                      case measure => have := HXX.out; simp [intOf]; omega
          · have HE := Lib.hid (HNON.out (by omega))
            have dq : decide ((la.length : Int) ≤ 2 * N1) = false := decide_eq_false hq
            clear HNON HYESN HOKN HQN hq
            go_wp2
            go_roundw
            case rel => exact ⟨i + 1, by omega, by rw [HXI.out], g, c, by rw [HX5.out, HE.out], by rw [HX5.out, HE.out]; exact HOB.out, HXB.out⟩
            case measure => have := HXX.out; simp [intOf]; omega
        · obtain rfl : i = 5 := by omega
          have w1' := IntWalk.i64_in ((j : Int) - 2 + 1) (by omega)
          go_wp2
          go_roundw
          case rel => exact ⟨j + 1, by omega, by congr 1; omega, g, c, by rw [Nat.mul_succ], by rw [Nat.mul_succ]; exact HO.out, HX.out⟩
          case measure => simp [intOf]; omega
    · obtain rfl : j = 5 := by omega
      obtain ⟨a', c', he, ho⟩ := ownMo_of HO.out.o rfl
      have HOO := Lib.hid ho
      have HEE := Lib.hid he
      clear ho he
      go_wp2
      go_ret
      exact ⟨a', c', by show Ending.returned (.slice _ _ _) = _; rw [HEE.out], HOO.out.more (by omega), HX.out.b⟩
end Go.Proofs.Ytggdkibbfmjelaa
namespace Go.Proofs.Ytggdkibbfmjelaa
open Go.RowKit
set_option linter.unusedVariables false
set_option linter.unusedSimpArgs false
set_option maxRecDepth 100000 in
set_option maxHeartbeats 4000000 in
theorem specRank_any (wa ha : Int) (aa : Option Addr) (la : List Int) (ca : Nat) (wb hb : Int) (ab : Option Addr) (lb : List Int) (cb : Nat) (w : World) (h1 : Ints .i64 w w.heap.size aa la) (h2 : Ints .i64 w w.heap.size ab lb) (n1 : la.length ≤ 1048576) (n2 : lb.length ≤ 1048576) :
    Calls Try.prog 29 #[.agg #[.int .i64 wa, .int .i64 ha, .slice aa la.length ca], .agg #[.int .i64 wb, .int .i64 hb, .slice ab lb.length cb]] w (MRet (rankR wa ha la wb hb lb) (sameB wa ha la wb hb lb) w) := by
  have F0 := Lib.hid (Lx2.new (wd0 := wa) (hg0 := ha) (c0 := ca) (wd1 := wb) (hg1 := hb) (c1 := cb) h1 h2)
  obtain ⟨W0, hW0⟩ : ∃ W, (w.alloc (.cells #[.int .i64 wa, .int .i64 ha, .slice aa la.length ca] 34)).alloc (.cells #[.int .i64 wb, .int .i64 hb, .slice ab lb.length cb] 34) = W := ⟨_, rfl⟩
  rw [hW0] at F0
  have HW := Lib.hid hW0
  clear h1 h2 hW0
  cases hs : sameB wa ha la wb hb lb with
  | false =>
    rw [rankR_no hs]
    have HC := Lib.hid (fun W i1 i2 => specSame_is wa ha aa la ca wb hb ab lb cb false W i1 i2 n1 n2 hs)
    clear hs
    go_enter Try.func29, Try.ntmps29
    go_wp2_with fail
    rw [HW.out]
    refine (HC.out _ F0.out.i0 F0.out.i1).mono ?_
    rintro e w1 ⟨rfl, b1⟩
    have B1 := Lib.hid (below_then F0.out.b b1)
    clear b1
    go_wp2
    go_ret2
    exact ⟨_, _, rfl, OwnMo.none_, B1.out.alloc B1.out.size _⟩
  | true =>
    have HR := Lib.hid (show rankR wa ha la wb hb lb = RL (maG wa ha la wb hb lb) (maN wa ha la wb hb lb) la.length 25 from rankR_yes hs)
    rw [HR.out]
    have HC := Lib.hid (fun W i1 i2 => specSame_is wa ha aa la ca wb hb ab lb cb true W i1 i2 n1 n2 hs)
    obtain ⟨hfine, hbd⟩ := ma_fine hs
    obtain ⟨g1, g2, e1, e2⟩ := same_iff.1 hs
    have b1' := good_bd g1
    have b2' := good_bd g2
    have l1 := good_le g1
    obtain ⟨W, H, rfl, rfl, rfl, rfl, hW, hH, hla, hlb⟩ := same_nat hs
    have hM : ∀ (x y : Int), (-2 ≤ x ∧ x ≤ 2) → (-2 ≤ y ∧ y ≤ 2) → ∀ W1 : World, Ints .i64 W1 W1.heap.size aa la → Ints .i64 W1 W1.heap.size ab lb → Calls Try.prog 68 #[.agg #[.int .i64 W, .int .i64 H, .slice aa la.length ca], .agg #[.int .i64 W, .int .i64 H, .slice ab lb.length cb], .agg #[.int .i64 x, .int .i64 y]] W1 fun e w' => e = .returned (.tuple #[.int .i64 (maG W H la W H lb x y), .int .i64 (maN W H la W H lb x y)]) ∧ Below W1.heap.size W1 w' := by
      intro x y hx hy W1 i1 i2
      have hm := maB_iff.2 ⟨hs, motB_iff.2 ⟨hx, hy⟩⟩
      rw [maG_yes hm, maN_yes hm]
      simp only [Int.toNat_natCast]
      obtain ⟨e1, e2⟩ := match_is (la := la) hW.1 hlb x y
      rw [← e1, ← e2]
      exact specMt_any W H aa la ca ab lb cb x y W1 i1 i2 hW hH hla hlb b1' b2' ⟨hx, hy⟩
    have HRK := Lib.hid (fun Wd i1 i2 => specRk_any W H aa la ca ab lb cb (maG W H la W H lb) (maN W H la W H lb) Wd i1 i2 (by omega) hfine hbd hM)
    clear hs hfine hbd g1 g2 e1 e2 b1' b2' l1 hM hW hH hla hlb HR
    generalize RL (maG W H la W H lb) (maN W H la W H lb) la.length 25 = R at *
    go_enter Try.func29, Try.ntmps29
    go_wp2_with fail
    rw [HW.out]
    refine (HC.out _ F0.out.i0 F0.out.i1).mono ?_
    rintro e w1 ⟨rfl, b1⟩
    have F1 := Lib.hid (F0.out.step b1)
    obtain ⟨k0, k1, k2⟩ := F1.out.k0.cells
    obtain ⟨l0, l1, l2⟩ := F1.out.k1.cells
    clear b1 F0 HC HW
    go_wp2_with fail
    refine (HRK.out _ F1.out.i0 F1.out.i1).mono ?_
    rintro e w2 ⟨a2, c2, rfl, o2, b2⟩
    have B2 := Lib.hid (below_then F1.out.b b2)
    have HO := Lib.hid o2
    have hz := F1.out.b.size
    clear o2 b2
    go_wp2
    go_ret2
    exact ⟨a2, c2, rfl, HO.out.more hz, B2.out⟩
end Go.Proofs.Ytggdkibbfmjelaa
namespace Go.Proofs.Ytggdkibbfmjelaa
open Go.RowKit
set_option linter.unusedVariables false
set_option linter.unusedSimpArgs false
/-- what BestMotion answers -/
def bsX (wa ha : Int) (la : List Int) (wb hb : Int) (lb : List Int) : Int := ((rankR wa ha la wb hb lb).headD (0, 0)).1
def bsY (wa ha : Int) (la : List Int) (wb hb : Int) (lb : List Int) : Int := ((rankR wa ha la wb hb lb).headD (0, 0)).2
def bsB (wa ha : Int) (la : List Int) (wb hb : Int) (lb : List Int) : Bool := !(rankR wa ha la wb hb lb).isEmpty
/-- two fields by value, a motion as a result -/
structure FbM (w : World) (wd0 hg0 : Int) (a0 : Option Addr) (l0 : List Int) (c0 : Nat) (wd1 hg1 : Int) (a1 : Option Addr) (l1 : List Int) (c1 : Nat) (w' : World) : Prop where
  f : Lx2 w wd0 hg0 a0 l0 c0 wd1 hg1 a1 l1 c1 w'
  r : MBox w' (w.heap.size + 2) 24 0 0
section
variable {w w1 w2 : World} {wd0 hg0 wd1 hg1 : Int} {a0 a1 : Option Addr} {l0 l1 : List Int} {c0 c1 : Nat}
theorem FbM.new (h0 : Ints .i64 w w.heap.size a0 l0) (h1 : Ints .i64 w w.heap.size a1 l1) : FbM w wd0 hg0 a0 l0 c0 wd1 hg1 a1 l1 c1 (((w.alloc (.cells #[.int .i64 wd0, .int .i64 hg0, .slice a0 l0.length c0] 34)).alloc (.cells #[.int .i64 wd1, .int .i64 hg1, .slice a1 l1.length c1] 34)).alloc (.cells #[.int .i64 0, .int .i64 0] 24)) :=
  ⟨(Lx3.new h0 h1 0 0).f, (Lx3.new (wd0 := wd0) (hg0 := hg0) (c0 := c0) (wd1 := wd1) (hg1 := hg1) (c1 := c1) h0 h1 0 0).m⟩
theorem FbM.step (h : FbM w wd0 hg0 a0 l0 c0 wd1 hg1 a1 l1 c1 w1) (b : Below w1.heap.size w1 w2) : FbM w wd0 hg0 a0 l0 c0 wd1 hg1 a1 l1 c1 w2 := ⟨h.f.step b, h.r.below b⟩
end
theorem best_none {wa ha : Int} {la : List Int} {wb hb : Int} {lb : List Int} (h : rankR wa ha la wb hb lb = []) : bsX wa ha la wb hb lb = 0 ∧ bsY wa ha la wb hb lb = 0 ∧ bsB wa ha la wb hb lb = false := by unfold bsX bsY bsB; rw [h]; exact ⟨rfl, rfl, rfl⟩
theorem best_some {wa ha : Int} {la : List Int} {wb hb : Int} {lb : List Int} {p : MoT} {r : List MoT} (h : rankR wa ha la wb hb lb = p :: r) : bsX wa ha la wb hb lb = p.1 ∧ bsY wa ha la wb hb lb = p.2 ∧ bsB wa ha la wb hb lb = true := by unfold bsX bsY bsB; rw [h]; exact ⟨rfl, rfl, rfl⟩
set_option maxRecDepth 100000 in
set_option maxHeartbeats 4000000 in
theorem implBest_any (wa ha : Int) (aa : Option Addr) (la : List Int) (ca : Nat) (wb hb : Int) (ab : Option Addr) (lb : List Int) (cb : Nat) (w : World) (h1 : Ints .i64 w w.heap.size aa la) (h2 : Ints .i64 w w.heap.size ab lb) (n1 : la.length ≤ 1048576) (n2 : lb.length ≤ 1048576) :
    Calls Try.prog 35 #[.agg #[.int .i64 wa, .int .i64 ha, .slice aa la.length ca], .agg #[.int .i64 wb, .int .i64 hb, .slice ab lb.length cb]] w fun e w' => e = .returned (.tuple #[.agg #[.int .i64 (bsX wa ha la wb hb lb), .int .i64 (bsY wa ha la wb hb lb)], .bool (bsB wa ha la wb hb lb)]) ∧ Below w.heap.size w w' := by
  have F0 := Lib.hid (FbM.new (wd0 := wa) (hg0 := ha) (c0 := ca) (wd1 := wb) (hg1 := hb) (c1 := cb) h1 h2)
  obtain ⟨W0, hW0⟩ : ∃ W, ((w.alloc (.cells #[.int .i64 wa, .int .i64 ha, .slice aa la.length ca] 34)).alloc (.cells #[.int .i64 wb, .int .i64 hb, .slice ab lb.length cb] 34)).alloc (.cells #[.int .i64 0, .int .i64 0] 24) = W := ⟨_, rfl⟩
  rw [hW0] at F0
  have HW := Lib.hid hW0
  have HR := Lib.hid (fun W i1 i2 => implRank_any wa ha aa la ca wb hb ab lb cb W i1 i2 n1 n2)
  unfold MRet at HR
  clear h1 h2 hW0
  generalize sameB wa ha la wb hb lb = v at *
  cases hr : rankR wa ha la wb hb lb with
  | nil =>
    obtain ⟨e1, e2, e3⟩ := best_none hr
    rw [e1, e2, e3]
    rw [hr] at HR
    simp only [List.length_nil] at HR
    clear hr e1 e2 e3
    go_enter Try.func35, Try.ntmps35
    go_wp2_with fail
    rw [HW.out]
    refine (HR.out _ F0.out.f.i0 F0.out.f.i1).mono ?_
    rintro e w1 ⟨a1, c1, rfl, o1, b1⟩
    have F1 := Lib.hid (F0.out.step b1)
    obtain ⟨r0, r1⟩ := F1.out.r.cells
    have g0 := F1.out.r.frozen 0
    have g1 := F1.out.r.frozen 1
    clear b1 o1 F0 HR
    go_wp2
    refine bodyPost_ret (v := .tuple #[.agg #[.int .i64 0, .int .i64 0], .bool false]) (by simp [results, Try.results35, go_sem, r0, r1]) rfl ⟨rfl, ?_⟩
    exact (F1.out.f.b.setCell (by simp <;> omega) _).setCell (by simp <;> omega) _
  | cons p r =>
    obtain ⟨e1, e2, e3⟩ := best_some hr
    rw [e1, e2, e3]
    rw [hr] at HR
    have hl25 : (p :: r).length ≤ 25 := by rw [← hr]; exact rankR_len
    have hpos : 0 < (p :: r).length := by simp
    have HP := Lib.hid (show (p :: r)[0] = p from rfl)
    clear hr e1 e2 e3
    obtain ⟨x, y⟩ := p
    generalize hq : (x, y) :: r = q at *
    clear hq
    have hne : ((q.length : Int) == 0) = false := by rw [beq_eq_false_iff_ne]; omega
    have h0q : (0 : Int) < (q.length : Int) := by omega
    go_enter Try.func35, Try.ntmps35
    go_wp2_with fail
    rw [HW.out]
    refine (HR.out _ F0.out.f.i0 F0.out.f.i1).mono ?_
    rintro e w1 ⟨a1, c1, rfl, o1, b1⟩
    have F1 := Lib.hid (F0.out.step b1)
    obtain ⟨b, o, rfl, hb', q0, q1⟩ := o1.reads.at_ hpos
    rw [HP.out] at q0 q1
    simp only [Nat.zero_mul, Nat.add_zero] at q0 q1
    obtain ⟨r0, r1⟩ := F1.out.r.cells
    have g0 := F1.out.r.frozen 0
    have g1 := F1.out.r.frozen 1
    clear b1 o1 F0 HR
    go_wp2
    refine bodyPost_ret (v := .tuple #[.agg #[.int .i64 x, .int .i64 y], .bool true]) (by simp [results, Try.results35, go_sem, r0, r1]) rfl ⟨rfl, ?_⟩
    exact (F1.out.f.b.setCell (by simp <;> omega) _).setCell (by simp <;> omega) _
theorem rank_call {wa ha : Int} {la : List Int} {wb hb : Int} {lb : List Int} (hs : sameB wa ha la wb hb lb = true) (aa : Option Addr) (ca : Nat) (ab : Option Addr) (cb : Nat) (Wd : World) (i1 : Ints .i64 Wd Wd.heap.size aa la) (i2 : Ints .i64 Wd Wd.heap.size ab lb) :
    Calls Try.prog 72 #[.agg #[.int .i64 wa, .int .i64 ha, .slice aa la.length ca], .agg #[.int .i64 wb, .int .i64 hb, .slice ab lb.length cb]] Wd fun e w' => ∃ a c, e = .returned (.slice a (rankR wa ha la wb hb lb).length c) ∧ OwnMo w' Wd.heap.size a (rankR wa ha la wb hb lb) ∧ Below Wd.heap.size Wd w' := by
  have HR : rankR wa ha la wb hb lb = RL (maG wa ha la wb hb lb) (maN wa ha la wb hb lb) la.length 25 := rankR_yes hs
  rw [HR]
  obtain ⟨hfine, hbd⟩ := ma_fine hs
  obtain ⟨g1, g2, e1, e2⟩ := same_iff.1 hs
  have b1' := good_bd g1
  have b2' := good_bd g2
  have l1 := good_le g1
  obtain ⟨W, H, rfl, rfl, rfl, rfl, hW, hH, hla, hlb⟩ := same_nat hs
  refine specRk_any W H aa la ca ab lb cb (maG W H la W H lb) (maN W H la W H lb) Wd i1 i2 (by omega) hfine hbd ?_
  intro x y hx hy W1 i1 i2
  have hm := maB_iff.2 ⟨hs, motB_iff.2 ⟨hx, hy⟩⟩
  rw [maG_yes hm, maN_yes hm]
  simp only [Int.toNat_natCast]
  obtain ⟨e1, e2⟩ := match_is (la := la) hW.1 hlb x y
  rw [← e1, ← e2]
  exact specMt_any W H aa la ca ab lb cb x y W1 i1 i2 hW hH hla hlb b1' b2' ⟨hx, hy⟩
set_option maxRecDepth 100000 in
set_option maxHeartbeats 4000000 in
theorem specBest_any (wa ha : Int) (aa : Option Addr) (la : List Int) (ca : Nat) (wb hb : Int) (ab : Option Addr) (lb : List Int) (cb : Nat) (w : World) (h1 : Ints .i64 w w.heap.size aa la) (h2 : Ints .i64 w w.heap.size ab lb) (n1 : la.length ≤ 1048576) (n2 : lb.length ≤ 1048576) :
    Calls Try.prog 34 #[.agg #[.int .i64 wa, .int .i64 ha, .slice aa la.length ca], .agg #[.int .i64 wb, .int .i64 hb, .slice ab lb.length cb]] w fun e w' => e = .returned (.tuple #[.agg #[.int .i64 (bsX wa ha la wb hb lb), .int .i64 (bsY wa ha la wb hb lb)], .bool (bsB wa ha la wb hb lb)]) ∧ Below w.heap.size w w' := by
  have F0 := Lib.hid (FbM.new (wd0 := wa) (hg0 := ha) (c0 := ca) (wd1 := wb) (hg1 := hb) (c1 := cb) h1 h2)
  obtain ⟨W0, hW0⟩ : ∃ W, ((w.alloc (.cells #[.int .i64 wa, .int .i64 ha, .slice aa la.length ca] 34)).alloc (.cells #[.int .i64 wb, .int .i64 hb, .slice ab lb.length cb] 34)).alloc (.cells #[.int .i64 0, .int .i64 0] 24) = W := ⟨_, rfl⟩
  rw [hW0] at F0
  have HW := Lib.hid hW0
  clear h1 h2 hW0
  cases hs : sameB wa ha la wb hb lb with
  | false =>
    obtain ⟨e1, e2, e3⟩ := best_none (rankR_no hs)
    rw [e1, e2, e3]
    have HC := Lib.hid (fun W i1 i2 => specSame_is wa ha aa la ca wb hb ab lb cb false W i1 i2 n1 n2 hs)
    clear hs e1 e2 e3
    go_enter Try.func34, Try.ntmps34
    go_wp2_with fail
    rw [HW.out]
    refine (HC.out _ F0.out.f.i0 F0.out.f.i1).mono ?_
    rintro e w1 ⟨rfl, b1⟩
    have F1 := Lib.hid (F0.out.step b1)
    obtain ⟨r0, r1⟩ := F1.out.r.cells
    have g0 := F1.out.r.frozen 0
    have g1 := F1.out.r.frozen 1
    clear b1 F0 HC
    go_wp2
    refine bodyPost_ret (v := .tuple #[.agg #[.int .i64 0, .int .i64 0], .bool false]) (by simp [results, Try.results34, go_sem, r0, r1]) rfl ⟨rfl, ?_⟩
    exact (F1.out.f.b.setCell (by simp <;> omega) _).setCell (by simp <;> omega) _
  | true =>
    have HC := Lib.hid (fun W i1 i2 => specSame_is wa ha aa la ca wb hb ab lb cb true W i1 i2 n1 n2 hs)
    have HR := Lib.hid (fun W i1 i2 => rank_call hs aa ca ab cb W i1 i2)
    clear hs
    cases hr : rankR wa ha la wb hb lb with
    | nil =>
      obtain ⟨e1, e2, e3⟩ := best_none hr
      rw [e1, e2, e3]
      rw [hr] at HR
      simp only [List.length_nil] at HR
      clear hr e1 e2 e3
      go_enter Try.func34, Try.ntmps34
      go_wp2_with fail
      rw [HW.out]
      refine (HC.out _ F0.out.f.i0 F0.out.f.i1).mono ?_
      rintro e w1 ⟨rfl, b1⟩
      have F1 := Lib.hid (F0.out.step b1)
      obtain ⟨k0, k1, k2⟩ := F1.out.f.k0.cells
      obtain ⟨l0, l1, l2⟩ := F1.out.f.k1.cells
      clear b1 F0 HC
      go_wp2_with fail
      refine (HR.out _ F1.out.f.i0 F1.out.f.i1).mono ?_
      rintro e w2 ⟨a1, c1, rfl, o1, b2⟩
      have F2 := Lib.hid (F1.out.step b2)
      obtain ⟨r0, r1⟩ := F2.out.r.cells
      have g0 := F2.out.r.frozen 0
      have g1 := F2.out.r.frozen 1
      clear b2 o1 F1 HR k0 k1 k2 l0 l1 l2
      go_wp2
      refine bodyPost_ret (v := .tuple #[.agg #[.int .i64 0, .int .i64 0], .bool false]) (by simp [results, Try.results34, go_sem, r0, r1]) rfl ⟨rfl, ?_⟩
      exact (F2.out.f.b.setCell (by simp <;> omega) _).setCell (by simp <;> omega) _
    | cons p r =>
      obtain ⟨e1, e2, e3⟩ := best_some hr
      rw [e1, e2, e3]
      rw [hr] at HR
      have hl25 : (p :: r).length ≤ 25 := by rw [← hr]; exact rankR_len
      have hpos : 0 < (p :: r).length := by simp
      have HP := Lib.hid (show (p :: r)[0] = p from rfl)
      clear hr e1 e2 e3
      obtain ⟨x, y⟩ := p
      generalize hq : (x, y) :: r = q at *
      clear hq
      have hne : ((q.length : Int) == 0) = false := by rw [beq_eq_false_iff_ne]; omega
      have h0q : (0 : Int) < (q.length : Int) := by omega
      go_enter Try.func34, Try.ntmps34
      go_wp2_with fail
      rw [HW.out]
      refine (HC.out _ F0.out.f.i0 F0.out.f.i1).mono ?_
      rintro e w1 ⟨rfl, b1⟩
      have F1 := Lib.hid (F0.out.step b1)
      obtain ⟨k0, k1, k2⟩ := F1.out.f.k0.cells
      obtain ⟨l0, l1, l2⟩ := F1.out.f.k1.cells
      clear b1 F0 HC
      go_wp2_with fail
      refine (HR.out _ F1.out.f.i0 F1.out.f.i1).mono ?_
      rintro e w2 ⟨a1, c1, rfl, o1, b2⟩
      have F2 := Lib.hid (F1.out.step b2)
      obtain ⟨b, o, rfl, hb', q0, q1⟩ := o1.reads.at_ hpos
      rw [HP.out] at q0 q1
      simp only [Nat.zero_mul, Nat.add_zero] at q0 q1
      obtain ⟨r0, r1⟩ := F2.out.r.cells
      have g0 := F2.out.r.frozen 0
      have g1 := F2.out.r.frozen 1
      clear b2 o1 F1 HR k0 k1 k2 l0 l1 l2
      go_wp2
      refine bodyPost_ret (v := .tuple #[.agg #[.int .i64 x, .int .i64 y], .bool true]) (by simp [results, Try.results34, go_sem, r0, r1]) rfl ⟨rfl, ?_⟩
      exact (F2.out.f.b.setCell (by simp <;> omega) _).setCell (by simp <;> omega) _
end Go.Proofs.Ytggdkibbfmjelaa
namespace Go.Proofs.Ytggdkibbfmjelaa
open Go.RowKit
set_option linter.unusedVariables false
/-- the box of an answer may lie already -/
def MayMo (w : World) : Option Nat → Prop
  | none => True
  | some b => MBox w b 24 0 0
theorem MayMo.below {w w' : World} {o : Option Nat} (h : MayMo w o) (b : Below w.heap.size w w') : MayMo w' o := by
  cases o with
  | none => trivial
  | some b' => exact MBox.below h b
theorem MayMo.made {w w' : World} (b : Below (w.alloc (.cells #[.int .i64 0, .int .i64 0] 24)).heap.size (w.alloc (.cells #[.int .i64 0, .int .i64 0] 24)) w') : MayMo w' (some w.heap.size) := (MBox.new w _ _ _).below b
theorem MayMo.made0 {w w' : World} (b : Below (w.alloc (.cells #[.int .i64 0, .int .i64 0] 24)).drew.heap.size (w.alloc (.cells #[.int .i64 0, .int .i64 0] 24)).drew w') : MayMo w' (some w.heap.size) := ((MBox.new w _ _ _).below (drew_below _)).below b
theorem MayMo.facts {w : World} {o : Option Nat} (h : MayMo w o) : cellAt w 0 (.int .i64 0) o ∧ cellAt w 1 (.int .i64 0) o ∧ softAt w 0 o ∧ softAt w 1 o := by
  cases o with
  | none => exact ⟨trivial, trivial, trivial, trivial⟩
  | some b' =>
    obtain ⟨h0, h1⟩ := MBox.cells h
    exact ⟨h0, h1, MBox.frozen h 0, MBox.frozen h 1⟩
theorem turn_set2 (w : World) (g i j : Nat) (u v : Value) : w.grownBy ((w.setCell ⟨g, i, none⟩ u).setCell ⟨g, j, none⟩ v) (some g) := turn_trans (turn_set _ _ _ _) (turn_set _ _ _ _)
theorem Box.set_other2 {w : World} {b g i j : Nat} {t : TypeId} {v0 v1 v2 u v : Value} (h : Box w b t v0 v1 v2) (hne : b ≠ g) : Box ((w.setCell ⟨g, i, none⟩ u).setCell ⟨g, j, none⟩ v) b t v0 v1 v2 := (h.other (p := ⟨g, i, none⟩) hne u).other (p := ⟨g, j, none⟩) hne v
/-- a drawn answer: a motion in a box of its own, and a bool; what else is known: P -/
def GotV (P : World → Prop) (lo : Nat) (x y : Int) (rb : Bool) (s t : Value) (wx : World) : Prop :=
  ∃ bD : Nat, s = .pointer (some ⟨bD, 0, none⟩) ∧ t = .bool rb ∧ MBox wx bD 24 x y ∧ lo ≤ bD ∧ P wx
end Go.Proofs.Ytggdkibbfmjelaa
namespace Go.Proofs.Ytggdkibbfmjelaa
open Go.RowKit
set_option linter.unusedVariables false
set_option linter.unusedSimpArgs false
set_option maxRecDepth 100000 in
set_option maxHeartbeats 16000000 in
theorem walk_BmLaw (wd0 hg0 : Int) (a0 : Option Addr) (l0 : List Int) (c0 : Nat) (wd1 hg1 : Int) (a1 : Option Addr) (l1 : List Int) (c1 : Nat) (w : World) (hl0 : Ints .i64 w w.heap.size a0 l0) (hm0 : l0.length ≤ maxLen) (hl1 : Ints .i64 w w.heap.size a1 l1) (hm1 : l1.length ≤ maxLen) :
    Calls Try.prog 8 #[.agg #[.int .i64 wd0, .int .i64 hg0, .slice a0 l0.length c0], .agg #[.int .i64 wd1, .int .i64 hg1, .slice a1 l1.length c1]] w fun e w' => e = .returned (.bool true) ∧ Below w.heap.size w w' := by
  have hL0 := Lib.hid ((Lw2.new (wd0 := wd0) (hg0 := hg0) (c0 := c0) (wd1 := wd1) (hg1 := hg1) (c1 := c1) hl0 hl1))
  clear hl0 hl1
  have HZ0 := Lib.hid (fun W h0 => szField_any wd0 hg0 a0 l0.length c0 (1048576) W hm0 h0 (by omega))
  have HZ1 := Lib.hid (fun W h0 => szField_any wd1 hg1 a1 l1.length c1 (1048576 - (l0.length : Int)) W hm1 h0 (by omega))
  unfold maxLen at hm0
  unfold maxLen at hm1
  by_cases hn0 : (l0.length : Int) ≤ 1048576
  · rw [if_pos hn0] at HZ0
    by_cases hn1 : (l1.length : Int) ≤ 1048576 - (l0.length : Int)
    · rw [if_pos hn1] at HZ1
      have hq0 : l0.length ≤ 1048576 := by omega
      have hq1 : l1.length ≤ 1048576 := by omega
      have HV := Lib.hid (fun (b0 : Nat) (b1 : Nat) (W : World) (h0 : Ints .i64 W W.heap.size (some ⟨b0, 0, none⟩) l0) (h1 : Ints .i64 W W.heap.size (some ⟨b1, 0, none⟩) l1) => specBest_any wd0 hg0 (some ⟨b0, 0, none⟩) l0 l0.length wd1 hg1 (some ⟨b1, 0, none⟩) l1 l1.length W h0 h1 hq0 hq1)
      have HI := Lib.hid (fun (b0 : Nat) (b1 : Nat) (W : World) (h0 : Ints .i64 W W.heap.size (some ⟨b0, 0, none⟩) l0) (h1 : Ints .i64 W W.heap.size (some ⟨b1, 0, none⟩) l1) => implBest_any wd0 hg0 (some ⟨b0, 0, none⟩) l0 l0.length wd1 hg1 (some ⟨b1, 0, none⟩) l1 l1.length W h0 h1 hq0 hq1)
      have HT0 := Lib.hid (fun (W : World) (h : Ints .i64 W W.heap.size a0 l0) => toField_any wd0 hg0 a0 l0 c0 W h hq0)
      have HT1 := Lib.hid (fun (W : World) (h : Ints .i64 W W.heap.size a1 l1) => toField_any wd1 hg1 a1 l1 c1 W h hq1)
      generalize bsX wd0 hg0 l0 wd1 hg1 l1 = rx at *
      generalize bsY wd0 hg0 l0 wd1 hg1 l1 = ry at *
      generalize bsB wd0 hg0 l0 wd1 hg1 l1 = rb at *
      go_enter Try.func8, Try.ntmps8
      go_wp2_with fail
      refine (HZ0.out _ (by omega)).mono ?_
      rintro e w1 ⟨rfl, b⟩
      have z1 := b.size
      simp only [World.size_alloc] at z1
      have hL1 := Lib.hid (hL0.out.step b)
      clear hL0
      clear b HZ0
      obtain ⟨k0, k1, k2⟩ := hL1.out.k1.cells
      go_wp2_with fail
      refine (HZ1.out _ (by omega)).mono ?_
      rintro e w2 ⟨rfl, b⟩
      have z2 := b.size
      have hL2 := Lib.hid (hL1.out.step b)
      clear hL1
      clear b HZ1
      clear k0 k1 k2
      obtain ⟨k0, k1, k2⟩ := hL2.out.k0.cells
      obtain ⟨p0, p1, p2⟩ := hL2.out.k1.cells
      have zl := hL2.out.k1.lt
      go_upto_region 8 with fail
      go_cut [6, 7] (fun s t wx => GotV (fun wx => (Lw2 w wd0 hg0 a0 l0 c0 wd1 hg1 a1 l1 c1 wx)) (w.heap.size + 2) rx ry rb s t wx)
      case first =>
        have hz2 : Hid (MayMo w2 none) := Lib.hid trivial
        go_region_held3 (fun w' => (w'.cell? ⟨w.heap.size, 0, none⟩ = some (.int .i64 wd0) ∧ w'.cell? ⟨w.heap.size, 1, none⟩ = some (.int .i64 hg0) ∧ w'.cell? ⟨w.heap.size, 2, none⟩ = some (.slice a0 l0.length c0)) ∧ (w'.cell? ⟨w.heap.size + 1, 0, none⟩ = some (.int .i64 wd1) ∧ w'.cell? ⟨w.heap.size + 1, 1, none⟩ = some (.int .i64 hg1) ∧ w'.cell? ⟨w.heap.size + 1, 2, none⟩ = some (.slice a1 l1.length c1)))
          (first | (with_reducible exact ⟨hL103.out.k0.cells, hL103.out.k1.cells⟩) | (with_reducible exact ⟨(hL103.out.k0.alloc _).cells, (hL103.out.k1.alloc _).cells⟩) | (with_reducible exact ⟨hL102.out.k0.cells, hL102.out.k1.cells⟩) | (with_reducible exact ⟨(hL102.out.k0.alloc _).cells, (hL102.out.k1.alloc _).cells⟩) | (with_reducible exact ⟨hL101.out.k0.cells, hL101.out.k1.cells⟩) | (with_reducible exact ⟨(hL101.out.k0.alloc _).cells, (hL101.out.k1.alloc _).cells⟩) | (with_reducible exact ⟨(hL2.out.k0.below (drew_below _)).cells, (hL2.out.k1.below (drew_below _)).cells⟩) | (with_reducible exact ⟨((hL2.out.k0.alloc _).below (drew_below _)).cells, ((hL2.out.k1.alloc _).below (drew_below _)).cells⟩) | ((with_reducible refine ⟨(hL103.out.k0.set_other2 ?_).cells, (hL103.out.k1.set_other2 ?_).cells⟩) <;> omega) | go_keep)
          (first | (go_at_call 20; (with_reducible refine (HT0.out _ ?_).mono ?_); (first | ((with_reducible exact (ints_below hL2.out.i0 (drew_below _))); rintro e w101 ⟨v0, hv0, hy0, rfl, at0, b101⟩; have bb : Below w2.heap.size w2 w101 := below_then (drew_below _) b101; have z101 := bb.size; have hL101 := Lib.hid (hL2.out.step bb); have hz101 := Lib.hid (hz2.out.below bb); have hA0101 := Lib.hid at0; clear at0 b101 bb) | ((with_reducible exact (ints_below (ints_alloc hL2.out.i0 _) (drew_below _))); rintro e w101 ⟨v0, hv0, hy0, rfl, at0, b101⟩; have bb : Below w2.heap.size w2 w101 := below_then (below_then (below_all _ _) (drew_below _)) b101; have z101 := bb.size; have hL101 := Lib.hid (hL2.out.step bb); have hz101 := Lib.hid (MayMo.made0 b101); have zs101 := MBox.lt hz101.out; have hA0101 := Lib.hid at0; clear at0 b101 bb))) | (go_at_call 20; (with_reducible refine (HT1.out _ ?_).mono ?_); (first | ((with_reducible exact hL101.out.i1); rintro e w102 ⟨v1, hv1, hy1, rfl, at1, b102⟩; have bb : Below w101.heap.size w101 w102 := b102; have z102 := bb.size; have hL102 := Lib.hid (hL101.out.step bb); have hz102 := Lib.hid (hz101.out.below bb); have hA0102 := Lib.hid (hA0101.out.below bb); have hA1102 := Lib.hid at1; clear at1 b102 bb) | ((with_reducible exact (ints_alloc hL101.out.i1 _)); rintro e w102 ⟨v1, hv1, hy1, rfl, at1, b102⟩; have bb : Below w101.heap.size w101 w102 := below_then (below_all _ _) b102; have z102 := bb.size; have hL102 := Lib.hid (hL101.out.step bb); have hz102 := Lib.hid (MayMo.made b102); have zs102 := MBox.lt hz102.out; have hA0102 := Lib.hid (hA0101.out.below bb); have hA1102 := Lib.hid at1; clear at1 b102 bb))) | (go_at_call 34; (with_reducible refine (HV.out _ _ _ ?_ ?_).mono ?_); (first | ((with_reducible exact hA0102.out.ints); (with_reducible exact hA1102.out.ints); rintro e w103 ⟨rfl, b103⟩; have bb : Below w102.heap.size w102 w103 := b103; have z103 := bb.size; have hL103 := Lib.hid (hL102.out.step bb); have hz103 := Lib.hid (hz102.out.below bb); obtain ⟨y0, y1, f0, f1⟩ := hz103.out.facts; simp only [cellAt, softAt] at y0 y1 f0 f1; clear b103 bb) | ((with_reducible exact (ints_alloc hA0102.out.ints _)); (with_reducible exact (ints_alloc hA1102.out.ints _)); rintro e w103 ⟨rfl, b103⟩; have bb : Below w102.heap.size w102 w103 := below_then (below_all _ _) b103; have z103 := bb.size; have hL103 := Lib.hid (hL102.out.step bb); have hz103 := Lib.hid (MayMo.made b103); have zs103 := MBox.lt hz103.out; obtain ⟨y0, y1, f0, f1⟩ := hz103.out.facts; simp only [cellAt, softAt] at y0 y1 f0 f1; clear b103 bb))))
        all_goals (go_wp2_with fail; go_meet)
        all_goals first
          | exact ⟨_, rfl, rfl, MBox.new _ _ _ _, by omega, hL103.out.step (below_all _ _)⟩
          | (have hzb : MBox w103 _ 24 0 0 := hz103.out
             exact ⟨_, rfl, rfl, hzb.set2 _ _, by omega, hL103.out.turn (turn_set2 _ _ _ _ _ _) (by omega)⟩)
      case rest =>
        obtain ⟨bD, rfl, rfl, xD, loD, gL⟩ := hcut
        have hLD := Lib.hid gL
        have zcD := hLD.out.k1.lt
        clear gL hL2
        clear k0 k1 k2
        clear p0 p1 p2
        clear HV
        have hDD := Lib.hid xD
        have ltD := xD.lt
        clear xD
        obtain ⟨k0, k1, k2⟩ := hLD.out.k0.cells
        go_wp2_with fail
        refine (HT0.out _ hLD.out.i0).mono ?_
        rintro e wx0 ⟨gx0, hgx0, hzx0, rfl, atx, bx⟩
        have zx0 := bx.size
        clear k0 k1 k2
        obtain ⟨WX0, hW⟩ : ∃ x, wx0.alloc (.cells #[.int .i64 wd0, .int .i64 hg0, .slice (some ⟨gx0, 0, none⟩) l0.length l0.length] 34) = x := ⟨_, rfl⟩
        have sWX0 : WX0.heap.size = wx0.heap.size + 1 := by rw [← hW]; simp
        have BX : Box WX0 wx0.heap.size 34 (.int .i64 wd0) (.int .i64 hg0) (.slice (some ⟨gx0, 0, none⟩) l0.length l0.length) := by rw [← hW]; exact Box.new _ _ _ _ _
        have aX : Below wx0.heap.size wx0 WX0 := by rw [← hW]; exact below_all _ _
        obtain ⟨k0, k1, k2⟩ := (hLD.out.step bx).k1.cells
        have qk1 : w.heap.size + 1 < wx0.heap.size := by omega
        have qk2 : ¬ w.heap.size + 1 = wx0.heap.size := by omega
        have bx' := below_then bx aX
        have hLx0 := Lib.hid (hLD.out.step bx')
        have hDx0 := Lib.hid (hDD.out.below bx')
        clear hLD hDD
        have hX0x0 := Lib.hid BX
        have hXA0x0 := Lib.hid (atx.below aX)
        have eX0 := Lib.hid hW
        clear hW bx bx' atx aX BX
        go_wp2_with fail
        rw [eX0.out]
        refine (HT1.out _ hLx0.out.i1).mono ?_
        rintro e wx1 ⟨gx1, hgx1, hzx1, rfl, atx, bx⟩
        have zx1 := bx.size
        clear k0 k1 k2
        clear qk1 qk2
        obtain ⟨WX1, hW⟩ : ∃ x, wx1.alloc (.cells #[.int .i64 wd1, .int .i64 hg1, .slice (some ⟨gx1, 0, none⟩) l1.length l1.length] 34) = x := ⟨_, rfl⟩
        have sWX1 : WX1.heap.size = wx1.heap.size + 1 := by rw [← hW]; simp
        have BX : Box WX1 wx1.heap.size 34 (.int .i64 wd1) (.int .i64 hg1) (.slice (some ⟨gx1, 0, none⟩) l1.length l1.length) := by rw [← hW]; exact Box.new _ _ _ _ _
        have aX : Below wx1.heap.size wx1 WX1 := by rw [← hW]; exact below_all _ _
        obtain ⟨x00, x01, x02⟩ := (hX0x0.out.below bx).cells
        have qx01 : wx0.heap.size < wx1.heap.size := by omega
        have qx02 : ¬ wx0.heap.size = wx1.heap.size := by omega
        have bx' := below_then bx aX
        have hLx1 := Lib.hid (hLx0.out.step bx')
        have hDx1 := Lib.hid (hDx0.out.below bx')
        have hX0x1 := Lib.hid (hX0x0.out.below bx')
        have hXA0x1 := Lib.hid (hXA0x0.out.below bx')
        clear hLx0 hDx0 hX0x0 hXA0x0
        have hX1x1 := Lib.hid BX
        have hXA1x1 := Lib.hid (atx.below aX)
        have eX1 := Lib.hid hW
        clear hW bx bx' atx aX BX eX0
        go_wp2_with fail
        rw [eX1.out]
        refine (HI.out _ _ _ hXA0x1.out.ints hXA1x1.out.ints).mono ?_
        rintro e wG ⟨rfl, b5⟩
        have zG := b5.size
        obtain ⟨y0, y1⟩ := (hDx1.out.below b5).cells
        have q1 : bD < wG.heap.size := by omega
        have q2 : ¬ bD = wG.heap.size := by omega
        have hLG := Lib.hid (hLx1.out.step (below_then b5 (below_all wG (.cells #[.int .i64 rx, .int .i64 ry] 24))))
        have hDG := Lib.hid (hDx1.out.below (below_then b5 (below_all wG (.cells #[.int .i64 rx, .int .i64 ry] 24))))
        have hX0G := Lib.hid (hX0x1.out.below (below_then b5 (below_all wG (.cells #[.int .i64 rx, .int .i64 ry] 24))))
        have hXA0G := Lib.hid (hXA0x1.out.below (below_then b5 (below_all wG (.cells #[.int .i64 rx, .int .i64 ry] 24))))
        have hX1G := Lib.hid (hX1x1.out.below (below_then b5 (below_all wG (.cells #[.int .i64 rx, .int .i64 ry] 24))))
        have hXA1G := Lib.hid (hXA1x1.out.below (below_then b5 (below_all wG (.cells #[.int .i64 rx, .int .i64 ry] 24))))
        clear hLx1 hDx1 hX0x1 hXA0x1 hX1x1 hXA1x1
        have zG2 : wG.heap.size ≤ (wG.alloc (.cells #[.int .i64 rx, .int .i64 ry] 24)).heap.size := by simp
        clear b5 HI eX1 x00 x01 x02 qx01 qx02
        go_wp2_with fail
        refine (eqMo_yes rx ry _).mono ?_
        rintro e w20 ⟨rfl, b⟩
        have z20 := b.size
        have hL20 := Lib.hid (hLG.out.step b)
        have hD20 := Lib.hid (hDG.out.below b)
        have hX020 := Lib.hid (hX0G.out.below b)
        have hXA020 := Lib.hid (hXA0G.out.below b)
        have hX120 := Lib.hid (hX1G.out.below b)
        have hXA120 := Lib.hid (hXA1G.out.below b)
        clear hLG hDG hX0G hXA0G hX1G hXA1G
        clear b y0 y1 q1 q2
        have er0 : (rb != rb) = false := by simp
        go_wp2_with fail
        obtain ⟨k0, k1, k2⟩ := hL20.out.k0.cells
        obtain ⟨x0, x1, x2⟩ := hX020.out.cells
        have bd : Below w20.heap.size w20 w20.drew := ⟨rfl, rfl, rfl, Nat.le_refl _, fun _ _ => rfl⟩
        have hL20d := Lib.hid (hL20.out.step bd)
        have hD20d := Lib.hid (hD20.out.below bd)
        have hX020d := Lib.hid (hX020.out.below bd)
        have hXA020d := Lib.hid (hXA020.out.below bd)
        have hX120d := Lib.hid (hX120.out.below bd)
        have hXA120d := Lib.hid (hXA120.out.below bd)
        clear hL20 hD20 hX020 hXA020 hX120 hXA120
        have z20d : w20.heap.size ≤ w20.drew.heap.size := Nat.le_refl _
        clear bd
        go_region_held3 (fun w' => (w'.cell? ⟨w.heap.size, 0, none⟩ = some (.int .i64 wd0) ∧ w'.cell? ⟨w.heap.size, 1, none⟩ = some (.int .i64 hg0) ∧ w'.cell? ⟨w.heap.size, 2, none⟩ = some (.slice a0 l0.length c0)) ∧ (w'.cell? ⟨wx0.heap.size, 0, none⟩ = some (.int .i64 wd0) ∧ w'.cell? ⟨wx0.heap.size, 1, none⟩ = some (.int .i64 hg0) ∧ w'.cell? ⟨wx0.heap.size, 2, none⟩ = some (.slice (some ⟨gx0, 0, none⟩) l0.length l0.length)))
          (first | exact ⟨hL22.out.k0.cells, hX022.out.cells⟩ | exact ⟨hL21.out.k0.cells, hX021.out.cells⟩ | go_keep)
          (first | (go_at_call 20; (with_reducible refine (HT0.out _ hL20d.out.i0).mono ?_); rintro e w21 ⟨gz0, hgz0, hzz0, rfl, atz, bb⟩; have z21 := bb.size; have hL21 := Lib.hid (hL20d.out.step bb); have hD21 := Lib.hid (hD20d.out.below bb); have hX021 := Lib.hid (hX020d.out.below bb); have hXA021 := Lib.hid (hXA020d.out.below bb); have hX121 := Lib.hid (hX120d.out.below bb); have hXA121 := Lib.hid (hXA120d.out.below bb); have hz0 := Lib.hid atz; clear atz; clear bb) | (go_at_call 22; (with_reducible refine (eqField_yes wd0 hg0 _ _ l0 _ _ _ hXA021.out.ints hz0.out.ints hq0).mono ?_); rintro e w22 ⟨rfl, bb⟩; have z22 := bb.size; have hL22 := Lib.hid (hL21.out.step bb); have hD22 := Lib.hid (hD21.out.below bb); have hX022 := Lib.hid (hX021.out.below bb); have hXA022 := Lib.hid (hXA021.out.below bb); have hX122 := Lib.hid (hX121.out.below bb); have hXA122 := Lib.hid (hXA121.out.below bb); clear bb))
        clear hL20d hD20d hX020d hXA020d hX120d hXA120d hL21 hD21 hX021 hXA021 hX121 hXA121 hz0
        clear k0 k1 k2
        clear x0 x1 x2
        rename_i hHeld
        clear hHeld
        go_wp2_with fail
        obtain ⟨k0, k1, k2⟩ := hL22.out.k1.cells
        obtain ⟨x0, x1, x2⟩ := hX122.out.cells
        have bd : Below w22.heap.size w22 w22.drew := ⟨rfl, rfl, rfl, Nat.le_refl _, fun _ _ => rfl⟩
        have hL22d := Lib.hid (hL22.out.step bd)
        have hD22d := Lib.hid (hD22.out.below bd)
        have hX022d := Lib.hid (hX022.out.below bd)
        have hXA022d := Lib.hid (hXA022.out.below bd)
        have hX122d := Lib.hid (hX122.out.below bd)
        have hXA122d := Lib.hid (hXA122.out.below bd)
        clear hL22 hD22 hX022 hXA022 hX122 hXA122
        have z22d : w22.heap.size ≤ w22.drew.heap.size := Nat.le_refl _
        clear bd
        go_region_held3 (fun w' => (w'.cell? ⟨w.heap.size + 1, 0, none⟩ = some (.int .i64 wd1) ∧ w'.cell? ⟨w.heap.size + 1, 1, none⟩ = some (.int .i64 hg1) ∧ w'.cell? ⟨w.heap.size + 1, 2, none⟩ = some (.slice a1 l1.length c1)) ∧ (w'.cell? ⟨wx1.heap.size, 0, none⟩ = some (.int .i64 wd1) ∧ w'.cell? ⟨wx1.heap.size, 1, none⟩ = some (.int .i64 hg1) ∧ w'.cell? ⟨wx1.heap.size, 2, none⟩ = some (.slice (some ⟨gx1, 0, none⟩) l1.length l1.length)))
          (first | exact ⟨hL24.out.k1.cells, hX124.out.cells⟩ | exact ⟨hL23.out.k1.cells, hX123.out.cells⟩ | go_keep)
          (first | (go_at_call 20; (with_reducible refine (HT1.out _ hL22d.out.i1).mono ?_); rintro e w23 ⟨gz1, hgz1, hzz1, rfl, atz, bb⟩; have z23 := bb.size; have hL23 := Lib.hid (hL22d.out.step bb); have hD23 := Lib.hid (hD22d.out.below bb); have hX023 := Lib.hid (hX022d.out.below bb); have hXA023 := Lib.hid (hXA022d.out.below bb); have hX123 := Lib.hid (hX122d.out.below bb); have hXA123 := Lib.hid (hXA122d.out.below bb); have hz1 := Lib.hid atz; clear atz; clear bb) | (go_at_call 22; (with_reducible refine (eqField_yes wd1 hg1 _ _ l1 _ _ _ hXA123.out.ints hz1.out.ints hq1).mono ?_); rintro e w24 ⟨rfl, bb⟩; have z24 := bb.size; have hL24 := Lib.hid (hL23.out.step bb); have hD24 := Lib.hid (hD23.out.below bb); have hX024 := Lib.hid (hX023.out.below bb); have hXA024 := Lib.hid (hXA023.out.below bb); have hX124 := Lib.hid (hX123.out.below bb); have hXA124 := Lib.hid (hXA123.out.below bb); clear bb))
        clear hL22d hD22d hX022d hXA022d hX122d hXA122d hL23 hD23 hX023 hXA023 hX123 hXA123 hz1
        clear k0 k1 k2
        clear x0 x1 x2
        rename_i hHeld
        clear hHeld
        go_wp2
        go_ret
        exact ⟨rfl, hL24.out.b⟩
    · rw [if_neg hn1] at HZ1
      go_enter Try.func8, Try.ntmps8
      go_wp2_with fail
      refine (HZ0.out _ (by omega)).mono ?_
      rintro e w1 ⟨rfl, b⟩
      have z1 := b.size
      simp only [World.size_alloc] at z1
      have hL1 := Lib.hid (hL0.out.step b)
      clear hL0
      clear b HZ0
      obtain ⟨k0, k1, k2⟩ := hL1.out.k1.cells
      go_wp2_with fail
      refine (HZ1.out _ (by omega)).mono ?_
      rintro e w2 ⟨rfl, b⟩
      have z2 := b.size
      have hL2 := Lib.hid (hL1.out.step b)
      clear hL1
      clear b HZ1
      clear k0 k1 k2
      go_wp2
      go_ret
      exact ⟨rfl, hL2.out.b⟩
  · rw [if_neg hn0] at HZ0
    go_enter Try.func8, Try.ntmps8
    go_wp2_with fail
    refine (HZ0.out _ (by omega)).mono ?_
    rintro e w1 ⟨rfl, b⟩
    have z1 := b.size
    simp only [World.size_alloc] at z1
    have hL1 := Lib.hid (hL0.out.step b)
    clear hL0
    clear b HZ0
    obtain ⟨k0, k1, k2⟩ := hL1.out.k1.cells
    go_wp2
    go_ret
    exact ⟨rfl, hL1.out.b⟩
end Go.Proofs.Ytggdkibbfmjelaa
