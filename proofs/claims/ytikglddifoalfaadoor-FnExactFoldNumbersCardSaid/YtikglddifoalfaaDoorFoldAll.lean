/- A law's answer: a field in a box of the law's own, its box and cells between two bounds. The model's FoldNumbers. The model's FoldNumbers: its loop. What the program's folding takes from Evaluate: a node over numbers, evaluated without a field, is what folding makes of it. Depth, the model's and the program's. The model's Evaluate: l5Fields, l5Value, Evaluate. l5Value: the model's value of the expression that ends at a place. l5Value: a field. l5Value: a field that is not there. l5Value: a number. l5Value: above. l5Value: two arguments. l5Value over the whole tree; the model's Evaluate. Depth, the program's; the walk of FnExactDepth. haveOneShape: all fields of a row valid and of the first one's shape. Two fields in one: withCells, combineCells. Rules for values made rules for cells: ofValues, changeValues. A field under a rule for its values: changeValues. The program's field algebra: the closures, and the functions over changeValues and combineCells. The program's Combine. slices.Clone of a row of numbers. valueFor: what its cases share. valueFor: a field. valueFor: a field that is not there, a number. valueFor: a node with arguments. valueFor over the whole tree; the program's Evaluate. areNumbers and numberOf. The program's ReplaceField. appendFolded. The program's FoldNumbers. Own rows of nodes below a bound. The walk of FnExactFoldNumbers. -/
import Derived.Test.YtikglddifoalfaaDoorFldsLaw
import Derived.Test.YtikglddifoalfaaDoorFr
import Derived.Test.YtikglddifoalfaaDoorFoldSpec
import Derived.Test.YtikglddifoalfaaDoorReplMath
import Derived.OwnWalk
import Derived.Maps.AppendAt
import Derived.Deep.AppendLies
import Derived.Test.YtikglddifoalfaaDoorEvalMath
import Derived.Test.YtikglddifoalfaaDoorExprLaw
import Derived.Test.YtikglddifoalfaaDoorFlds
import Derived.Test.YtikglddifoalfaaDoorSet
import Derived.Test.YtikglddifoalfaaDoorAlgSpecOne
import Derived.Test.YtikglddifoalfaaDoorAlgSpecCombine
import Derived.Test.YtikglddifoalfaaDoorAlgMath
import Derived.Test.YtikglddifoalfaaDoorLater
import Derived.Test.YtikglddifoalfaaDoorPair
import Derived.Deep.RegionHeld3
import Derived.IntWalk
import Derived.Test.YtikglddifoalfaaDoorMake
import Derived.Test.YtikglddifoalfaaDoorNodeMark
namespace Go.Proofs.YtikglddifoalfaaDoor
open Go.RowKit
set_option linter.unusedVariables false
structure Res (w : World) (lo hi b : Nat) (p q : Int) (a : Option Addr) (L : List Int) (c : Nat) : Prop where
  k : Box w b 80 (.int .i64 p) (.int .i64 q) (.slice a L.length c)
  i : ∃ g, lo ≤ g ∧ (L = [] ∨ g < hi) ∧ At w a g L
  lb : lo ≤ b
  ub : b < hi
section
variable {w w' : World} {lo hi b : Nat} {p q : Int} {a : Option Addr} {L : List Int} {c : Nat}
theorem Res.new {B : Nat} (h : OwnI w B a L) (hB : B ≤ w.heap.size) : Res (w.alloc (.cells #[.int .i64 p, .int .i64 q, .slice a L.length c] 80)) B (w.heap.size + 1) w.heap.size p q a L c := by
  obtain ⟨g, h1, h2⟩ := h
  refine ⟨Box.new _ _ _ _ _, ⟨g, h1, ?_, h2.alloc _⟩, hB, Nat.lt_succ_self _⟩
  rcases h2 with h2 | ⟨_, h2⟩
  · exact .inl h2
  · exact .inr (by have := h2.lt; omega)
theorem Res.keep (h : Res w lo hi b p q a L c) (hk : ∀ i, lo ≤ i → i < hi → i < w.heap.size → w'.heap[i]? = w.heap[i]?) : Res w' lo hi b p q a L c := by
  obtain ⟨g, h1, h2, h3⟩ := h.i
  refine ⟨(hk b h.lb h.ub h.k.lt).trans h.k, ⟨g, h1, h2, ?_⟩, h.lb, h.ub⟩
  rcases h2 with h2 | h2
  · exact .inl h2
  · exact h3.keep fun hl => hk g h1 h2 hl
theorem Res.below {C : Nat} (h : Res w lo hi b p q a L c) (hb : Below C w w') (hC : hi ≤ C) : Res w' lo hi b p q a L c := h.keep fun i _ h2 _ => hb.block i (by omega)
theorem Res.turn {g : Nat} (h : Res w lo hi b p q a L c) (o : w.grownBy w' (some g)) (hg : hi ≤ g) : Res w' lo hi b p q a L c := h.keep fun i _ h2 h3 => o.block i h3 (by intro e; injection e with e; omega)
theorem Res.past {g : Nat} (h : Res w lo hi b p q a L c) (o : w.grownBy w' (some g)) (hg : g < lo) : Res w' lo hi b p q a L c := h.keep fun i h1 _ h3 => o.block i h3 (by intro e; injection e with e; omega)
theorem Res.aside {U : Nat} (h : Res w lo hi b p q a L c) (o : ∀ i, U ≤ i → i < w.heap.size → w'.heap[i]? = w.heap[i]?) (hU : U ≤ lo) : Res w' lo hi b p q a L c := h.keep fun i h1 _ h3 => o i (by omega) h3
theorem Res.ints (h : Res w lo hi b p q a L c) : Ints .i64 w w.heap.size a L := by obtain ⟨g, _, _, h3⟩ := h.i; exact h3.ints
theorem Res.pick (h : Res w lo hi b p q a L c) (hlo : lo ≤ w.heap.size) : ∃ g, lo ≤ g ∧ g ≠ b ∧ At w a g L := by
  obtain ⟨g, h1, h2, h3⟩ := h.i
  rcases h3 with h3 | ⟨h4, h5⟩
  · exact ⟨w.heap.size, hlo, by have := h.k.lt; omega, .inl h3⟩
  · refine ⟨g, h1, ?_, .inr ⟨h4, h5⟩⟩
    rintro rfl
    obtain ⟨cur, hc, _⟩ := h5
    have hk := h.k
    unfold Box at hk
    rw [hc] at hk
    injection hk with hk
    injection hk with _ hty
    exact absurd hty (by decide)
end
/-- the answer marked -/
structure Mk (w : World) (b g : Nat) (p q : Int) (a : Option Addr) (n c : Nat) : Prop where
  k : Box w b 80 (.int .i64 p) (.int .i64 q) (.slice a n c)
  i : At w a g (marks 1 n)
theorem Mk.below {w w' : World} {b g : Nat} {p q : Int} {a : Option Addr} {n c : Nat} (h : Mk w b g p q a n c) (hb : Below w.heap.size w w') : Mk w' b g p q a n c := ⟨h.k.below hb, h.i.below hb⟩
theorem like_plain {es es' : List FE} (h1 : es'.length = es.length) (h2 : LikeF es' es) : es'.map FE.plain = es.map FE.plain := h2.plain h1
theorem below_aside {w w1 w2 : World} {B : Nat} (h : Below w.heap.size w w1) (k : Below B w1 w2) (hB : w.heap.size ≤ B) : Below w.heap.size w w2 := h.trans (k.mono hB)
theorem below_on {w w1 w2 : World} {g : Nat} (h : Below w.heap.size w w1) (o : Only g w1 w2) (hg : w.heap.size ≤ g) : Below w.heap.size w w2 := h.grown o.1 h.size (fun j e => by injection e with e; omega)
theorem below_turn' {w w1 w2 : World} {g : Nat} (h : Below w.heap.size w w1) (o : w1.grownBy w2 (some g)) (hg : w.heap.size ≤ g) : Below w.heap.size w w2 := h.grown o h.size (fun j e => by injection e with e; omega)
end Go.Proofs.YtikglddifoalfaaDoor
namespace Go.Proofs.YtikglddifoalfaaDoor
open Go.RowKit
set_option linter.unusedVariables false
set_option linter.unusedSimpArgs false
theorem Nds.take {w : World} {B : Nat} {a : Option Addr} {l : List Nd} (h : Nds w B a l) (t : Nat) : Nds w B a (l.take t) := by
  rcases h with rfl | ⟨b, o, e, hb, hc⟩
  · exact .inl (by simp)
  · exact .inr ⟨b, o, e, hb, fun j hj => by have hj2 : j < l.length := by (rw [List.length_take] at hj; omega)
                                            rw [List.getElem_take]; exact hc j hj2⟩
theorem Nds.drop {w : World} {B b o : Nat} {l : List Nd} (h : Nds w B (some ⟨b, o, none⟩) l) (u : Nat) : Nds w B (some ⟨b, o + u * 2, none⟩) (l.drop u) := by
  rcases h with rfl | ⟨b', o', e, hb, hc⟩
  · exact .inl (by simp)
  · injection e with e
    injection e with e1 e2
    subst e1 e2
    refine .inr ⟨b, o + u * 2, rfl, hb, fun j hj => ?_⟩
    have hj2 : u + j < l.length := by rw [List.length_drop] at hj; omega
    obtain ⟨h1, h2⟩ := hc (u + j) hj2
    rw [List.getElem_drop, show o + u * 2 + j * 2 = o + (u + j) * 2 by omega]
    exact ⟨h1, h2⟩
theorem own_rowc {w : World} {B n : Nat} {v : Value} {l : List Nd} (h : w.ownsRow B 49 2 v n (nv l)) (hn : 0 < n) : ∃ g cap, v = .slice (some ⟨g, 0, none⟩) n cap ∧ B ≤ g ∧ Row w g 49 (nv l) ∧ n ≤ cap ∧ cap ≤ maxLen := by
  obtain ⟨h1, ⟨h2, h3⟩ | ⟨g, cap, cur, h2, hb, hh, hc, hcm, hcs, hx⟩⟩ := h
  · omega
  · refine ⟨g, cap, h2, hb, ⟨cur, hh, fun k hk => ?_⟩, hc, by first | exact hcm | (unfold maxLen; omega)⟩
    have e : (nv l)[k]? = cur[k]? := by
      rw [← hx, List.getElem?_take]
      rw [h1] at hk
      rw [if_pos hk]
      simp
    rw [← e]
    exact List.getElem?_eq_getElem hk
theorem own_less2 {w : World} {b b' e size n : Nat} {v : Value} {xs : List Value} (h : w.ownsRow b e size v n xs) (hb : b' ≤ b) : w.ownsRow b' e size v n xs := by
  obtain ⟨h1, h2 | ⟨g, cap, cur, h2, h3, h4⟩⟩ := h
  · exact ⟨h1, .inl h2⟩
  · exact ⟨h1, .inr ⟨g, cap, cur, h2, Nat.le_trans hb h3, h4⟩⟩
theorem opens_need {L : List Nd} {m : Nat} (h : opens L 0 = some m) {i : Nat} (hi : i < L.length) : ∃ a, arity L[i].1 L[i].2 = some a ∧ a ≤ i := by
  obtain ⟨n, h1, h2⟩ := opens_take (k := i) h
  rw [List.drop_eq_getElem_cons hi] at h2
  have h3 : opens ([L[i]] ++ L.drop (i + 1)) n = some m := h2
  rw [opens_append, opens_one] at h3
  cases ha : arity L[i].1 L[i].2 with
  | none => rw [ha] at h3; cases h3
  | some a =>
    refine ⟨a, rfl, ?_⟩
    rw [ha] at h3
    have hle := opens_le _ _ _ h1
    rw [List.length_take] at hle
    by_cases hc : a ≤ n
    · omega
    · simp only [hc, if_false] at h3; cases h3
theorem opens_nums {L : List Nd} {m : Nat} (h : opens L 0 = some m) : ∀ q ∈ L, q.1 = 2 → 0 ≤ q.2 ∧ q.2 ≤ 9000 := by
  intro q hq h2
  have h9 := opens_all L 0 m h q hq
  rw [h2] at h9
  unfold arity at h9
  rw [if_neg (by omega), if_pos rfl] at h9
  by_cases hc : 0 ≤ q.2 ∧ q.2 ≤ 9000
  · exact hc
  · rw [if_neg hc] at h9; exact absurd rfl h9
theorem l5Folded_any (a : Option Addr) (l : List Nd) (c i m : Nat) (w : World) (hl : Nds w w.heap.size a l) (hn : l.length ≤ 1048576) (ho : opens l 0 = some m) (hi : i < l.length) :
    Calls Tryd.prog 32 #[.slice a l.length c, .int .i64 (i : Int)] w fun e w' => e = .returned (.tuple #[.int .i64 (foldW (l.take i) l[i]).1, .int .i64 (foldW (l.take i) l[i]).2]) ∧ Below w.heap.size w w' := by
  obtain ⟨x, hx, hle⟩ := opens_need ho hi
  have hg : l[i] = (l[i].1, l[i].2) := rfl
  rw [hg]
  generalize l[i].1 = k at *
  generalize l[i].2 = v at *
  by_cases h7 : k = 7
  · subst h7
    have : x = 1 := by
      unfold arity at hx
      rw [if_neg (by omega), if_neg (by omega), if_pos rfl] at hx
      split at hx
      · injection hx with hx; exact hx.symm
      · cases hx
    exact folded_above a l c i (i - 1) v w hl hn hi hg (by omega)
  · by_cases h2 : x = 2
    · subst h2
      exact folded_two a l c i (i - 2) k v w hl hn hi hg hx (by omega) (opens_nums ho)
    · exact folded_leaf a l c i k v w hl hn hi hg h7 (by rw [hx]; intro e; injection e with e; exact h2 e)
/-- what FoldNumbers hands back -/
def FlPost (l : List Nd) (w : World) (e : Ending) (w' : World) : Prop :=
  ∃ a c, e = .returned (.tuple #[.slice a (foldR l).length c, .bool (exprB l)]) ∧ OwnN w' w.heap.size a (foldR l) ∧ Below w.heap.size w w'
theorem own_len {w : World} {b e size n : Nat} {v : Value} {xs : List Value} (h : w.ownsRow b e size v n xs) : ∃ a c, v = .slice a n c := by
  obtain ⟨h1, ⟨h2, h3⟩ | ⟨g, cap, cur, h2, _⟩⟩ := h
  · exact ⟨none, 0, by rw [h2, h3]⟩
  · exact ⟨_, _, h2⟩
def slen : Value → Nat
  | .slice _ n _ => n
  | _ => 0
def foldF (l : List Nd) (k : Nat) : List Nd := foldL (l.take k) ++ l.drop k
theorem foldF_opens {l : List Nd} {m : Nat} (h : opens l 0 = some m) (k : Nat) (hk : k ≤ l.length) : opens (foldF l k) 0 = some m := by
  unfold foldF
  rw [opens_append, foldL_opens h k hk, ← opens_append, List.take_append_drop]; exact h
theorem foldF_zero (l : List Nd) : foldF l 0 = l := by simp [foldF, foldL]
theorem foldF_all (l : List Nd) : foldF l l.length = foldL l := by simp [foldF]
theorem foldL_unf (l : List Nd) : ∀ k, Unf (foldL (l.take k))
  | 0 => unf_nil
  | k + 1 => by
    by_cases h : k < l.length
    · rw [foldL_step h]; exact unf_step (foldL_unf l k) _
    · rw [show l.take (k + 1) = l.take k by rw [List.take_of_length_le (by omega), List.take_of_length_le (by omega)]]; exact foldL_unf l k
theorem foldF_len (l : List Nd) (k : Nat) (hk : k ≤ l.length) : (foldF l k).length ≤ l.length := by
  unfold foldF; rw [List.length_append, List.length_drop]; have := foldL_len l k; omega
/-- one step of the model's loop at place q: nothing to do, or a node is folded -/
theorem fold_round {l : List Nd} {m k q : Nat} (ho : opens l 0 = some m) (hk : k ≤ l.length) (hq : q ≤ (foldL (l.take k)).length) (hlt : q < (foldF l k).length) :
    (foldW ((foldF l k).take q) (foldF l k)[q] = (0, 0) ∧ ∃ k', k' ≤ l.length ∧ q + 1 ≤ (foldL (l.take k')).length ∧ foldF l k' = foldF l k) ∨
    ∃ (n : Int) (S t : Nat), foldW ((foldF l k).take q) (foldF l k)[q] = (n, (S : Int)) ∧ 2 ≤ S ∧ S ≤ 3 ∧ q + 1 = S + t ∧ 0 ≤ n ∧ n ≤ 9000 ∧ k + 1 ≤ l.length ∧ foldF l (k + 1) = (foldF l k).take t ++ [(2, n)] ++ (foldF l k).drop (q + 1) := by
  by_cases h : q < (foldL (l.take k)).length
  · left
    have e1 : (foldF l k)[q] = (foldL (l.take k))[q] := by simp only [foldF]; rw [List.getElem_append_left h]
    have e2 : (foldF l k).take q = (foldL (l.take k)).take q := by unfold foldF; rw [List.take_append_of_le_length (by omega)]
    refine ⟨?_, k, hk, h, rfl⟩
    rw [e1, e2]
    unfold foldW
    rw [foldL_unf l k q h]
  · have hqf : q = (foldL (l.take k)).length := by omega
    have hkl : k < l.length := by
      have h9 := hlt
      unfold foldF at h9
      rw [List.length_append, List.length_drop] at h9
      omega
    have e1 : (foldF l k)[q] = l[k] := by
      simp only [foldF]
      rw [List.getElem_append_right (by omega)]
      simp [hqf]
    have e2 : (foldF l k).take q = foldL (l.take k) := by unfold foldF; rw [List.take_append_of_le_length (by omega), hqf, List.take_length]
    rw [e1, e2]
    cases hv : foldV (foldL (l.take k)) l[k] with
    | none =>
      left
      refine ⟨by unfold foldW; rw [hv], k + 1, by omega, ?_, ?_⟩
      · rw [foldL_step hkl, foldX_none hv]; simp; omega
      · unfold foldF
        rw [foldL_step hkl, foldX_none hv, List.append_assoc]
        congr 1
        rw [List.drop_eq_getElem_cons hkl]; rfl
    | some r =>
      right
      obtain ⟨n, mm⟩ := r
      obtain ⟨f1, f2, f3, f4, f5, _⟩ := foldV_facts hv
      refine ⟨n, mm + 1, q - mm, by unfold foldW; rw [hv]; push_cast; rfl, by omega, by omega, by omega, f4, f5, by omega, ?_⟩
      unfold foldF
      rw [foldL_step hkl, foldX_some hv]
      congr 1
      · congr 1
        rw [List.take_append_of_le_length (by omega), hqf]
      · rw [hqf, List.drop_append, List.drop_of_length_le (Nat.le_succ _), List.nil_append, List.drop_drop]
        congr 1
        omega
end Go.Proofs.YtikglddifoalfaaDoor
namespace Go.Proofs.YtikglddifoalfaaDoor
open Go.RowKit
set_option linter.unusedVariables false
set_option linter.unusedSimpArgs false
set_option maxRecDepth 100000 in
set_option maxHeartbeats 8000000 in
theorem specFold_any (a : Option Addr) (l : List Nd) (c : Nat) (w : World) (hl : Nds w w.heap.size a l) (hn : l.length ≤ 1048576) :
    Calls Tryd.prog 15 #[.slice a l.length c] w (FlPost l w) := by
  obtain ⟨i0, hi0', hz0, hz1, hz2⟩ := info_parts infoNode
  have HL := Lib.hid hl
  cases he : exprB l with
  | false =>
    have HR := Lib.hid (show foldR l = [] from if_neg (by rw [he]; simp))
    have HE := Lib.hid he
    have HC := Lib.hid (fun W h => specExprGood_any a l c W h hn)
    rw [he] at HC
    clear hl he
    go_enter Tryd.func15, Tryd.ntmps15
    go_wp2_with fail
    refine (HC.out _ HL.out).mono ?_
    rintro e w1 ⟨rfl, b1⟩
    have B1 := Lib.hid b1
    clear b1
    go_wp2
    go_ret2
    exact ⟨_, _, by rw [HR.out, HE.out]; rfl, by rw [HR.out]; exact OwnN.none_, B1.out.alloc B1.out.size _⟩
  | true =>
    have HR := Lib.hid (show foldR l = foldL l from if_pos he)
    have HE := Lib.hid he
    have HC := Lib.hid (fun W h => specExprGood_any a l c W h hn)
    rw [he] at HC
    have hx := he
    unfold exprB at hx
    simp only [Bool.and_eq_true, decide_eq_true_eq] at hx
    obtain ⟨h15, ho⟩ := hx
    have HO := Lib.hid ho
    have hne := expr_ne he
    obtain ⟨b, o, rfl⟩ : ∃ b o, a = some ⟨b, o, none⟩ := by
      rcases hl with h | ⟨b, o, e, _⟩
      · exact absurd h hne
      · exact ⟨b, o, e⟩
    have hpos := List.length_pos_iff.2 hne
    clear hl he ho hne
    go_enter Tryd.func15, Tryd.ntmps15
    go_wp2_with fail
    refine (HC.out _ HL.out).mono ?_
    rintro e w1 ⟨rfl, b1⟩
    have B1 := Lib.hid b1
    have N1 := Lib.hid (nds_news (nds_alloc (nds_below HL.out b1) (.cells #[] 49)))
    have O1 := Lib.hid (World.ownsRow_made (base := w.heap.size) (e := 49) (size := 2) w1 #[] 0 b1.size (by simp) rfl)
    have BA := Lib.hid (B1.out.alloc B1.out.size (.cells #[] 49))
    clear b1
    go_wp2_with (at_builtin; refine wpList_append_own _ rfl _ _ 24 rfl w.heap.size 49 i0 _ 2 16 Tryd.underlying24 hi0' hz0 hz1 hz2 rfl (by decide) _ 0 [] rfl O1.out ⟨b, o, none⟩ l.length c (nv l) rfl (nv_length l) N1.out (nv_one l) (by unfold maxLen; omega) (by omega) BA.out.size ?_; intro v2 w2 hown hgrow _; rw [Nat.zero_add, List.nil_append] at hown; have O2 := Lib.hid hown; have B2 := Lib.hid (BA.out.grown hgrow BA.out.size (fun k hk => (O1.out.lt k hk).1)); clear hown hgrow)
    go_loopw [4, 5] (fun out i wr => ∃ k q : Nat, k ≤ l.length ∧ q ≤ (foldL (l.take k)).length ∧ i = .int .i64 q ∧ wr.ownsRow w.heap.size 49 2 out (foldF l k).length (nv (foldF l k)) ∧ Below w.heap.size w wr) (fun out i _ => slen out * 32 - (intOf i).toNat)
    case atStart => exact ⟨0, 0, Nat.zero_le _, Nat.zero_le _, rfl, by rw [foldF_zero]; exact O2.out, B2.out⟩
    case round =>
      obtain ⟨k, q, hk, hq, rfl, hown, hB⟩ := hrel
      have HB := Lib.hid hB
      have HOW := Lib.hid hown
      have hlen := foldF_len l k hk
      have hpos2 : 0 < (foldF l k).length := by
        have h1 := foldF_opens HO.out k hk
        rcases Nat.eq_zero_or_pos (foldF l k).length with h | h
        · rw [List.eq_nil_of_length_eq_zero h] at h1; cases h1
        · exact h
      obtain ⟨g, cap, rfl, hgB, hrow, hcap, hcm⟩ := own_rowc hown hpos2
      by_cases hlt : q < (foldF l k).length
      · have HRD := Lib.hid (fold_round HO.out hk hq hlt)
        have ND := Lib.hid (Nds.of_row hrow)
        have HF := Lib.hid (fun W h => l5Folded_any (some ⟨g, 0, none⟩) (foldF l k) cap q 1 W h (by omega) (foldF_opens HO.out k hk) hlt)
        have hqi : (q : Int) < ((foldF l k).length : Int) := by omega
        have hq15 : (q : Int) ≤ 15 := by omega
        have hgl := hrow.lt
        clear hB hown
        rcases HRD.out with ⟨hW, k', hk', hq', hF'⟩ | ⟨n, S, t, hW, S2, S3, hSt, n0, n9, hk1, hF'⟩
        · rw [hW] at HF
          have HX := Lib.hid (And.intro hk' (And.intro hq' hF'))
          clear hW hk' hq' hF' HRD hrow
          generalize foldF l k = L at *
          go_wp2_with fail
          refine (HF.out _ ND.out).mono ?_
          rintro e w3 ⟨rfl, b3⟩
          have B3 := Lib.hid (HB.out.trans (b3.mono HB.out.size))
          have O3 := Lib.hid (own2_keeps HOW.out b3)
          clear b3
          go_wp2
          go_roundw
          case rel => exact ⟨k', q + 1, HX.out.1, HX.out.2.1, by go_num, by rw [HX.out.2.2]; exact O3.out, B3.out⟩
          case measure => simp [intOf, slen]; omega
        · rw [hW] at HF
          have HX := Lib.hid hF'
          have HRW := Lib.hid hrow
          have htl : t ≤ (foldF l k).length := by omega
          obtain ⟨u, hu⟩ : ∃ u, q + 1 = u := ⟨_, rfl⟩
          rw [hu] at HX
          have hul : u ≤ (foldF l k).length := by omega
          have hqu : (q : Int) + 1 = (u : Int) := by omega
          have huS : (u : Int) - (S : Int) = (t : Int) := by omega
          have hS0 : ((S : Int) == 0) = false := by simp; omega
          have htc : (t : Int) ≤ (cap : Int) := by omega
          have hul2 : (u : Int) ≤ ((foldF l k).length : Int) := by omega
          have hlc : ((foldF l k).length : Int) ≤ (cap : Int) := by omega
          have hXL : Hid ((foldF l (k + 1)).length = t + 1 + ((foldF l k).length - u)) := Lib.hid (by rw [hF']; simp [hu]; omega)
          clear hW hF' HRD hu hSt hrow
          generalize foldF l k = L at *
          go_wp2_with fail
          refine (HF.out _ ND.out).mono ?_
          rintro e w3 ⟨rfl, b3⟩
          have B3 := Lib.hid (HB.out.trans (b3.mono HB.out.size))
          have R3 := Lib.hid (HRW.out.of_block (b3.block g hgl))
          have hgl3 := R3.out.lt
          have hws : w.heap.size ≤ w3.heap.size := B3.out.size
          have BA := Lib.hid (below_allN w3 (.cells #[] 49))
          have OA := Lib.hid (World.ownsRow_made (base := w3.heap.size) (e := 49) (size := 2) w3 #[] 0 (Nat.le_refl _) (by simp) rfl)
          have NA := Lib.hid (nds_news ((Nds.of_row (R3.out.alloc (.cells #[] 49))).take t))
          have HTL : Hid ((L.take t).length = t) := Lib.hid (by rw [List.length_take]; omega)
          have HTV : Hid ((nv (L.take t)).length = t * 2) := Lib.hid (by rw [nv_length, HTL.out])
          have t15 : t ≤ 15 := by omega
          have l15 : L.length ≤ 15 := by omega
          clear b3 HOW ND HRW HF
          have HDV : Hid ((nv (L.drop u)).length = (L.length - u) * 2) := Lib.hid (by rw [nv_length, List.length_drop])
          rcases Nat.lt_or_ge u cap with huc | huc
          · have k1 : (u : Int) < (cap : Int) := by omega
            have k2 : ¬ cap = u := by omega
            go_wp2_with (first
              | (at_builtin; refine wpList_append_own _ rfl _ _ 24 rfl w3.heap.size 49 i0 _ 2 16 Tryd.underlying24 hi0' hz0 hz1 hz2 rfl (by decide) _ 0 [] rfl OA.out ⟨g, 0, none⟩ t cap (nv (L.take t)) rfl HTV.out NA.out (nv_one _) (by unfold maxLen; omega) (by omega) BA.out.size ?_; intro v4 w4 hown hgrow _; rw [Nat.zero_add, List.nil_append] at hown; have O4 := Lib.hid (hown.alloc (.cells #[.int .i64 2, .int .i64 n] 49)); have B3g := BA.out.grown hgrow BA.out.size (fun k hk => (OA.out.lt k hk).1); have B4 := Lib.hid (B3g.alloc B3g.size (.cells #[.int .i64 2, .int .i64 n] 49)); clear hown hgrow B3g)
              | (at_builtin; refine wpList_append_own _ rfl _ _ 24 rfl w3.heap.size 49 i0 _ 2 16 Tryd.underlying24 hi0' hz0 hz1 hz2 rfl (by decide) _ t (nv (L.take t)) rfl O4.out ⟨w4.heap.size, 0, none⟩ 1 1 [.int .i64 2, .int .i64 n] rfl rfl (World.news_of_block (heap_alloc_new _ _)) (by simp [Value.oneCell']) (by unfold maxLen; omega) (by omega) B4.out.size ?_; intro v5 w5 hown hgrow _; have O5 := Lib.hid hown; have B5 := Lib.hid (B4.out.grown hgrow B4.out.size (fun k hk => (O4.out.lt k hk).1)); have R5 := Lib.hid (R3.out.of_block (B5.out.block g hgl3)); have N5 := Lib.hid (nds_news ((Nds.of_row R5.out).drop u)); rw [Nat.zero_add] at N5; clear hown hgrow)
              | (at_builtin; refine wpList_append_own _ rfl _ _ 24 rfl w3.heap.size 49 i0 _ 2 16 Tryd.underlying24 hi0' hz0 hz1 hz2 rfl (by decide) _ (t + 1) (nv (L.take t) ++ [Value.int .i64 2, Value.int .i64 n]) rfl O5.out ⟨g, u * 2, none⟩ (L.length - u) (cap - u) (nv (L.drop u)) rfl HDV.out N5.out (nv_one _) (by unfold maxLen; omega) (by omega) B5.out.size ?_; intro v6 w6 hown hgrow _; have O6 := Lib.hid hown; have B6 := Lib.hid (B5.out.grown hgrow B5.out.size (fun k hk => (O5.out.lt k hk).1)); clear hown hgrow))
            go_roundw
            case rel =>
              refine ⟨k + 1, 0, by omega, Nat.zero_le _, rfl, ?_, B3.out.trans (B6.out.mono hws)⟩
              have h9 := own_less2 O6.out hws
              rw [HX.out]
              rw [HX.out] at hXL
              rw [hXL.out, nv_append, nv_append]
              exact h9
            case measure =>
              obtain ⟨a8, c8, h8⟩ := own_len O6.out
              subst h8
              simp only [intOf, slen]
              simp
              omega
          · obtain rfl : cap = u := by omega
            have HD0 : Hid (L.drop cap = []) := Lib.hid (List.drop_of_length_le (by omega))
            go_wp2_with (first
              | (at_builtin; refine wpList_append_own _ rfl _ _ 24 rfl w3.heap.size 49 i0 _ 2 16 Tryd.underlying24 hi0' hz0 hz1 hz2 rfl (by decide) _ 0 [] rfl OA.out ⟨g, 0, none⟩ t cap (nv (L.take t)) rfl HTV.out NA.out (nv_one _) (by unfold maxLen; omega) (by omega) BA.out.size ?_; intro v4 w4 hown hgrow _; rw [Nat.zero_add, List.nil_append] at hown; have O4 := Lib.hid (hown.alloc (.cells #[.int .i64 2, .int .i64 n] 49)); have B3g := BA.out.grown hgrow BA.out.size (fun k hk => (OA.out.lt k hk).1); have B4 := Lib.hid (B3g.alloc B3g.size (.cells #[.int .i64 2, .int .i64 n] 49)); clear hown hgrow B3g)
              | (at_builtin; refine wpList_append_own _ rfl _ _ 24 rfl w3.heap.size 49 i0 _ 2 16 Tryd.underlying24 hi0' hz0 hz1 hz2 rfl (by decide) _ t (nv (L.take t)) rfl O4.out ⟨w4.heap.size, 0, none⟩ 1 1 [.int .i64 2, .int .i64 n] rfl rfl (World.news_of_block (heap_alloc_new _ _)) (by simp [Value.oneCell']) (by unfold maxLen; omega) (by omega) B4.out.size ?_; intro v5 w5 hown hgrow _; have O5 := Lib.hid hown; have B5 := Lib.hid (B4.out.grown hgrow B4.out.size (fun k hk => (O4.out.lt k hk).1)); have R5 := Lib.hid (R3.out.of_block (B5.out.block g hgl3)); clear hown hgrow)
              | (at_builtin; refine wpList_append_own _ rfl _ _ 24 rfl w3.heap.size 49 i0 _ 2 16 Tryd.underlying24 hi0' hz0 hz1 hz2 rfl (by decide) _ (t + 1) (nv (L.take t) ++ [Value.int .i64 2, Value.int .i64 n]) rfl O5.out ⟨g, 0, none⟩ 0 0 [] rfl rfl (fun j x hx => by simp at hx) (fun x hx => by cases hx) (by unfold maxLen; omega) (by omega) B5.out.size ?_; intro v6 w6 hown hgrow _; have O6 := Lib.hid hown; have B6 := Lib.hid (B5.out.grown hgrow B5.out.size (fun k hk => (O5.out.lt k hk).1)); clear hown hgrow))
            go_roundw
            case rel =>
              refine ⟨k + 1, 0, by omega, Nat.zero_le _, rfl, ?_, B3.out.trans (B6.out.mono hws)⟩
              have h9 := own_less2 O6.out hws
              rw [HX.out]
              rw [HX.out] at hXL
              have e0 : L.length - cap = 0 := by omega
              rw [hXL.out, HD0.out, nv_append, nv_append, e0]
              exact h9
            case measure =>
              obtain ⟨a8, c8, h8⟩ := own_len O6.out
              subst h8
              simp only [intOf, slen]
              simp
              try omega
      · have hqk : foldF l k = foldL l := by
          have h9 := hlt
          unfold foldF at h9
          rw [List.length_append, List.length_drop] at h9
          have : k = l.length := by omega
          rw [this, foldF_all]
        rw [hqk] at hown hlt ⊢
        have HO2 := Lib.hid hown
        obtain ⟨a9, c9, e9, o9⟩ := ownN_of hown rfl
        injection e9 with e1 e2 e3
        subst e1 e3
        have HO9 := Lib.hid o9
        have hge : ¬ (q : Int) < ((foldL l).length : Int) := by omega
        clear hB hown hrow hqk
        go_wp2
        go_ret2
        exact ⟨_, _, by rw [HR.out, HE.out]; rfl, by rw [HR.out]; exact HO9.out, HB.out⟩
end Go.Proofs.YtikglddifoalfaaDoor
namespace Go.Proofs.YtikglddifoalfaaDoor
set_option linter.unusedVariables false
set_option linter.unusedSimpArgs false
def hereF : List Fv := [(1, 1, [0])]
theorem here_ok : fieldsB hereF = true := by decide
def numR (l : List Nd) : Option Int := match evalR l hereF with
  | none => none
  | some r => if r.2.2.headD 0 < 0 then none else some (r.2.2.headD 0)
def numV (l : List Nd) : Int := match numR l with
  | none => 0
  | some n => n
theorem numV_none {l : List Nd} (h : numR l = none) : numV l = 0 := by unfold numV; rw [h]
theorem numV_some {l : List Nd} {n : Int} (h : numR l = some n) : numV l = n := by unfold numV; rw [h]
def numsB (l : List Nd) : Bool := decide (0 < l.length) && l.all (fun q => decide (q.1 = 2))
theorem numR_none {l : List Nd} (h : evalR l hereF = none) : numR l = none := by unfold numR; rw [h]
theorem numR_one {l : List Nd} {z : Int} (h : evalR l hereF = some (1, 1, [z])) : numR l = if z < 0 then none else some z := by unfold numR; rw [h]; rfl
/-- what Evaluate without fields answers -/
theorem here_eval {l : List Nd} : evalR l hereF = none ∨ ∃ z, evalR l hereF = some (1, 1, [z]) ∧ -9999 ≤ z ∧ z ≤ 9000 := by
  cases he : evalR l hereF with
  | none => exact .inl rfl
  | some r =>
    right
    have h2 := he
    unfold evalR at h2
    rw [if_pos here_ok] at h2
    rw [Option.bind_eq_some_iff] at h2
    obtain ⟨t, ht, hr⟩ := h2
    obtain ⟨_, _, hok⟩ := treeT_some ht
    obtain ⟨hne, hall⟩ := fields_allF here_ok
    obtain ⟨g1, g2, g3⟩ := eval_good hne hall t hok r hr
    obtain ⟨r1, r2, r3⟩ := r
    simp only at g1 g2 g3
    have w1 : (hereF.headD (0, 0, [])).1 = 1 := rfl
    have w2 : (hereF.headD (0, 0, [])).2.1 = 1 := rfl
    rw [w1] at g1 g3
    rw [w2] at g2 g3
    subst g1 g2
    have hl := good_len g3
    have hl1 : r3.length = 1 := by omega
    match r3, hl1, g3 with
    | [z], _, g3 => exact ⟨z, rfl, good_bd g3 z (by simp)⟩
theorem cell_one (z : Int) : goodB 1 1 [z] = cellB z := by
  unfold goodB
  simp [shapeB]
theorem new_one {x : Int} (h0 : 0 ≤ x) (h9 : x ≤ 9000) : newR 1 1 x = some (1, 1, [x]) := by
  rw [newR_yes (by rw [show shapeB 1 1 = true from by decide, cellB_iff.2 (.inr ⟨by omega, h9⟩)]; rfl)]
  rfl
theorem tree_one {x v : Int} (x0 : 0 ≤ x) (x9 : x ≤ 9000) (v0 : 0 ≤ v) (v9 : v ≤ 9000) : treeT [(2, x), (7, v)] = some (.n1 7 v (.n0 2 x)) := by
  refine treeT_one (by simp) ?_
  have a1 : arity 2 x = some 0 := by unfold arity; rw [if_neg (by omega), if_pos rfl, if_pos ⟨x0, x9⟩]
  have a2 : arity 7 v = some 1 := by unfold arity; rw [if_neg (by omega), if_neg (by omega), if_pos rfl, if_pos ⟨v0, v9⟩]
  simp [run, a1, a2, pushT, mkT]
theorem tree_two {k x y : Int} (k3 : 3 ≤ k) (k6 : k ≤ 6) (x0 : 0 ≤ x) (x9 : x ≤ 9000) (y0 : 0 ≤ y) (y9 : y ≤ 9000) : treeT [(2, x), (2, y), (k, 0)] = some (.n2 k 0 (.n0 2 x) (.n0 2 y)) := by
  refine treeT_one (by simp) ?_
  have a1 : arity 2 x = some 0 := by unfold arity; rw [if_neg (by omega), if_pos rfl, if_pos ⟨x0, x9⟩]
  have a2 : arity 2 y = some 0 := by unfold arity; rw [if_neg (by omega), if_pos rfl, if_pos ⟨y0, y9⟩]
  have a3 : arity k 0 = some 2 := by unfold arity; rw [if_neg (by omega), if_neg (by omega), if_neg (by omega), if_pos ⟨k3, k6⟩, if_pos rfl]
  simp [run, a1, a2, a3, pushT, mkT]
theorem num_one {x v : Int} (x0 : 0 ≤ x) (x9 : x ≤ 9000) (v0 : 0 ≤ v) (v9 : v ≤ 9000) : numR [(2, x), (7, v)] = some (if v < x then 1 else 0) := by
  have hg : goodB 1 1 [x] = true := by rw [cell_one]; exact cellB_iff.2 (.inr ⟨by omega, x9⟩)
  have he : evalR [(2, x), (7, v)] hereF = some (1, 1, [exF v x]) := by
    unfold evalR
    rw [if_pos here_ok, tree_one x0 x9 v0 v9, Option.bind_some]
    show (evalT hereF (.n0 2 x)).bind _ = _
    have e1 : evalT hereF (.n0 2 x) = newR 1 1 x := if_neg (by omega)
    rw [e1, new_one x0 x9, Option.bind_some]
    show exceedsR 1 1 [x] v = _
    rw [(exceeds_is v hg).1]
    have e2 : zipR (ofV fun a _ => exF v a) [x] [x] = [ofV (fun a _ => exF v a) x x] := rfl
    have e3 : valB (exF v x) = true := by unfold valB exF; split <;> decide
    have e4 : ofV (fun a _ => exF v a) x x = exF v x := ofV_yes (r := fun a _ => exF v a) (by omega) e3
    rw [e2, e4]
  rw [numR_one he]
  unfold exF
  split <;> rfl
theorem num_two {k x y : Int} (k3 : 3 ≤ k) (k6 : k ≤ 6) (x0 : 0 ≤ x) (x9 : x ≤ 9000) (y0 : 0 ≤ y) (y9 : y ≤ 9000) : numR [(2, x), (2, y), (k, 0)] = if 0 ≤ opF (k - 2) x y ∧ opF (k - 2) x y ≤ 9000 then some (opF (k - 2) x y) else none := by
  have hx : goodB 1 1 [x] = true := by rw [cell_one]; exact cellB_iff.2 (.inr ⟨by omega, x9⟩)
  have hy : goodB 1 1 [y] = true := by rw [cell_one]; exact cellB_iff.2 (.inr ⟨by omega, y9⟩)
  have hop : opB (k - 2) = true := by unfold opB; simp; omega
  have hlo : -9000 ≤ opF (k - 2) x y := by
    unfold opF
    split
    · omega
    · split
      · omega
      · split <;> omega
  have he : evalR [(2, x), (2, y), (k, 0)] hereF = cellsR 1 1 [ofV (opF (k - 2)) x y] := by
    unfold evalR
    rw [if_pos here_ok, tree_two k3 k6 x0 x9 y0 y9, Option.bind_some]
    show (evalT hereF (.n0 2 x)).bind _ = _
    have e1 : evalT hereF (.n0 2 x) = newR 1 1 x := if_neg (by omega)
    have e2 : evalT hereF (.n0 2 y) = newR 1 1 y := if_neg (by omega)
    rw [e1, new_one x0 x9, Option.bind_some, e2, new_one y0 y9, Option.bind_some]
    show combineR (k - 2) 1 1 [x] 1 1 [y] = _
    unfold combineR
    rw [if_pos hop, combR_yes (same_yes hx hy)]
    rfl
  by_cases hv : opF (k - 2) x y ≤ 9000
  · rw [ofV_yes (by omega) (by unfold valB; simp; omega), cellsR_yes (by rw [cell_one]; exact cellB_iff.2 (.inr ⟨hlo, hv⟩))] at he
    rw [numR_one he]
    by_cases h0 : 0 ≤ opF (k - 2) x y
    · rw [if_neg (by omega), if_pos ⟨h0, hv⟩]
    · rw [if_pos (by omega), if_neg (fun h => h0 h.1)]
  · rw [ofV_no (by omega) (by unfold valB; simp; omega), cellsR_no (by decide)] at he
    rw [numR_none he, if_neg (fun h => hv h.2)]
theorem drop_one {f : List Nd} (h : 1 ≤ f.length) : f.drop (f.length - 1) = [lastN f 1] := by
  rw [List.drop_eq_getElem_cons (by omega), show f.length - 1 + 1 = f.length by omega, List.drop_length]
  unfold lastN
  rw [List.getD_eq_getElem?_getD, List.getElem?_eq_getElem (by omega), Option.getD_some]
theorem drop_two {f : List Nd} (h : 2 ≤ f.length) : f.drop (f.length - 2) = [lastN f 2, lastN f 1] := by
  rw [List.drop_eq_getElem_cons (by omega), show f.length - 2 + 1 = f.length - 1 by omega, drop_one (by omega)]
  congr 1
  unfold lastN
  rw [List.getD_eq_getElem?_getD, List.getElem?_eq_getElem (by omega), Option.getD_some]
theorem lastN_mem {f : List Nd} {j : Nat} (h1 : 1 ≤ j) (h2 : j ≤ f.length) : lastN f j ∈ f := by
  unfold lastN
  rw [List.getD_eq_getElem?_getD, List.getElem?_eq_getElem (by omega), Option.getD_some]
  exact List.getElem_mem _
/-- folding is what the program does with the arguments at the end of its list -/
theorem fold_num {f : List Nd} {p : Nd} {o a : Nat} (ho : opens f 0 = some o) (ha : arity p.1 p.2 = some a) (hle : a ≤ o) :
    (numsB (f.drop (f.length - a)) = false ∧ foldV f p = none) ∨ (numsB (f.drop (f.length - a)) = true ∧ 1 ≤ a ∧ foldV f p = (numR (f.drop (f.length - a) ++ [p])).map fun n => (n, a)) := by
  have hol := opens_le _ _ _ ho
  have hfl : a ≤ f.length := by omega
  have ha2 := arity_le ha
  have hnum := opens_nums ho
  obtain ⟨k, v⟩ := p
  simp only at ha ⊢
  have hc : a = 0 ∨ a = 1 ∨ a = 2 := by omega
  rcases hc with rfl | rfl | rfl
  · left
    refine ⟨by simp [numsB], ?_⟩
    unfold foldV
    rw [if_neg, if_neg]
    · rintro ⟨h, _⟩; simp only at h; rw [ha] at h; cases h
    · intro h; simp only at h; have := arity0 ha; omega
  · obtain ⟨rfl, v0, v9⟩ := arity1 ha
    rw [drop_one hfl]
    have hm := hnum _ (lastN_mem (j := 1) (by omega) hfl)
    have hfv : foldV f (7, v) = if (lastN f 1).1 = 2 then some (if v < (lastN f 1).2 then 1 else 0, 1) else none := by
      unfold foldV
      rw [if_pos rfl]
      by_cases h2 : (lastN f 1).1 = 2
      · rw [if_pos ⟨hfl, h2⟩, if_pos h2]
      · rw [if_neg (fun h => h2 h.2), if_neg h2]
    rw [hfv]
    generalize lastN f 1 = q at *
    obtain ⟨q1, q2⟩ := q
    simp only at hm ⊢
    by_cases h2 : q1 = 2
    · subst h2
      right
      obtain ⟨m1, m2⟩ := hm rfl
      refine ⟨by simp [numsB], by omega, ?_⟩
      rw [if_pos rfl]
      show _ = (numR [(2, q2), (7, v)]).map _
      rw [num_one m1 m2 v0 v9]
      rfl
    · left
      exact ⟨by simp [numsB, h2], if_neg h2⟩
  · obtain ⟨k3, k6, rfl⟩ := arity2 ha
    rw [drop_two hfl]
    have hm1 := hnum _ (lastN_mem (j := 1) (by omega) (by omega))
    have hm2 := hnum _ (lastN_mem (j := 2) (by omega) hfl)
    have hfv : foldV f (k, 0) = if (lastN f 1).1 = 2 ∧ (lastN f 2).1 = 2 ∧ 0 ≤ opF (k - 2) (lastN f 2).2 (lastN f 1).2 ∧ opF (k - 2) (lastN f 2).2 (lastN f 1).2 ≤ 9000 then some (opF (k - 2) (lastN f 2).2 (lastN f 1).2, 2) else none := by
      unfold foldV
      rw [if_neg (by show ¬ k = 7; omega)]
      by_cases h2 : (lastN f 1).1 = 2 ∧ (lastN f 2).1 = 2 ∧ 0 ≤ opF (k - 2) (lastN f 2).2 (lastN f 1).2 ∧ opF (k - 2) (lastN f 2).2 (lastN f 1).2 ≤ 9000
      · rw [if_pos ⟨ha, hfl, h2⟩, if_pos h2]
      · rw [if_neg (fun h => h2 h.2.2), if_neg h2]
    rw [hfv]
    generalize lastN f 1 = q at *
    generalize lastN f 2 = r at *
    obtain ⟨q1, q2⟩ := q
    obtain ⟨r1, r2⟩ := r
    simp only at hm1 hm2 ⊢
    by_cases h2 : q1 = 2 ∧ r1 = 2
    · obtain ⟨rfl, rfl⟩ := h2
      right
      obtain ⟨m1, m2⟩ := hm1 rfl
      obtain ⟨n1, n2⟩ := hm2 rfl
      refine ⟨by simp [numsB], by omega, ?_⟩
      show _ = (numR [(2, r2), (2, q2), (k, 0)]).map _
      rw [num_two k3 k6 n1 n2 m1 m2]
      by_cases hc : 0 ≤ opF (k - 2) r2 q2 ∧ opF (k - 2) r2 q2 ≤ 9000
      · rw [if_pos ⟨rfl, rfl, hc⟩, if_pos hc]; rfl
      · rw [if_neg (fun h => hc h.2.2), if_neg hc]; rfl
    · left
      refine ⟨?_, if_neg (fun h => h2 ⟨h.1, h.2.1⟩)⟩
      simp only [numsB, List.all_cons, List.all_nil, Bool.and_true]
      rcases Decidable.em (q1 = 2) with h | h
      · have : ¬ r1 = 2 := fun h' => h2 ⟨h, h'⟩
        simp [this]
      · simp [h]
end Go.Proofs.YtikglddifoalfaaDoor
namespace Go.Proofs.YtikglddifoalfaaDoor
open Go.RowKit
set_option linter.unusedVariables false
set_option linter.unusedSimpArgs false
theorem flat_root (t : ET) : ∃ body, t.flat = body ++ [(t.kind, t.val)] := by
  cases t with
  | n0 k v => exact ⟨[], rfl⟩
  | n1 k v x => exact ⟨x.flat, rfl⟩
  | n2 k v x y => exact ⟨x.flat ++ y.flat, rfl⟩
theorem root_get {l pre post : List Nd} {t : ET} {i : Nat} (h : l = pre ++ t.flat ++ post) (hi : i + 1 = pre.length + t.flat.length) : ∃ hlt : i < l.length, l[i] = (t.kind, t.val) := by
  obtain ⟨body, hb⟩ := flat_root t
  have hp := flat_pos t
  subst h
  have hlt : i < (pre ++ t.flat ++ post).length := by rw [List.length_append, List.length_append]; omega
  refine ⟨hlt, ?_⟩
  rw [List.getElem_append_left (by rw [List.length_append]; omega), List.getElem_append_right (by have := flat_pos t; omega)]
  have key : ∀ (f : List Nd) (j : Nat) (hj : j < f.length), f = body ++ [(t.kind, t.val)] → j + 1 = f.length → f[j] = (t.kind, t.val) := by
    intro f j hj e hl
    subst e
    rw [List.length_append] at hl
    have : j = body.length := by simpa using hl
    subst this
    simp
  exact key t.flat _ _ hb (by omega)
theorem mostN_is (x y : Int) (w : World) : Calls Tryd.prog 40 #[.int .i64 x, .int .i64 y] w fun e w' => e = .returned (.int .i64 (max x y)) ∧ w = w' := by
  by_cases h : y < x
  · have e : max x y = x := by omega
    rw [e]
    clear e
    go_enter Tryd.func40, Tryd.ntmps40
    go_wp2
    go_ret
    exact ⟨rfl, rfl⟩
  · have e : max x y = y := by omega
    rw [e]
    clear e
    go_enter Tryd.func40, Tryd.ntmps40
    go_wp2
    go_ret
    exact ⟨rfl, rfl⟩

set_option maxRecDepth 100000 in
set_option maxHeartbeats 4000000 in
theorem start_any (a : Option Addr) (l : List Nd) (c : Nat) (hn : l.length ≤ 1048576) : ∀ (t : ET) (pre post : List Nd) (i : Nat), t.ok → l = pre ++ t.flat ++ post → i + 1 = pre.length + t.flat.length → ∀ w : World, Nds w w.heap.size a l →
    Calls Tryd.prog 41 #[.slice a l.length c, .int .i64 (i : Int)] w fun e w' => e = .returned (.int .i64 (pre.length : Int)) ∧ Below w.heap.size w w' := by
  intro t
  induction t with
  | n0 k v =>
    intro pre post i hok hl hi w hnd
    obtain ⟨hlt, hg⟩ := root_get hl hi
    obtain ⟨b, o, rfl, hb, q0, q1⟩ := hnd.at_ hlt
    rw [hg] at q0 q1
    have hip : i = pre.length := by simp [ET.flat] at hi; omega
    subst hip
    have HC := Lib.hid (fun W => specArity_any k v W)
    rw [arI_some (show arity k v = some 0 from hok)] at HC
    simp only [ET.kind, ET.val] at q0 q1
    have i1 : (pre.length : Int) < (l.length : Int) := by omega
    have i0 : (0 : Int) ≤ (pre.length : Int) := by omega
    clear hnd hl hi hg hok
    go_enter Tryd.func41, Tryd.ntmps41
    go_wp2_with (go_at_call 38; refine (HC.out _).mono ?_; rintro e w1 ⟨rfl, b1⟩; have HB := Lib.hid b1; clear b1)
    go_ret
    exact ⟨rfl, HB.out⟩
  | n1 k v x ih =>
    intro pre post i hok hl hi w hnd
    obtain ⟨hlt, hg⟩ := root_get hl hi
    have HND := Lib.hid hnd
    obtain ⟨b, o, rfl, hb, q0, q1⟩ := hnd.at_ hlt
    rw [hg] at q0 q1
    have HC := Lib.hid (fun W => specArity_any k v W)
    rw [arI_some hok.1] at HC
    simp only [ET.kind, ET.val] at q0 q1
    have hp := flat_pos x
    simp only [ET.flat, List.length_append, List.length_singleton] at hi
    obtain ⟨j, hj⟩ : ∃ j, i = j + 1 := ⟨i - 1, by omega⟩
    have HR := Lib.hid (ih pre ((k, v) :: post) j hok.2 (by rw [hl]; simp [ET.flat]) (by omega))
    have i1 : (i : Int) < (l.length : Int) := by omega
    have i0 : (0 : Int) ≤ (i : Int) := by omega
    have ej : (i : Int) - 1 = (j : Int) := by omega
    clear hnd hl hi hg hok ih hj
    go_enter Tryd.func41, Tryd.ntmps41
    go_wp2_with (go_at_call 38; refine (HC.out _).mono ?_; rintro e w1 ⟨rfl, b1⟩; have HB := Lib.hid b1; clear b1)
    refine (HR.out _ (nds_below HND.out HB.out)).mono ?_
    rintro e w2 ⟨rfl, b2⟩
    have HB2 := Lib.hid (below_thenN HB.out b2)
    clear b2
    go_wp2
    go_ret
    exact ⟨rfl, HB2.out⟩
  | n2 k v x y ih1 ih2 =>
    intro pre post i hok hl hi w hnd
    obtain ⟨hlt, hg⟩ := root_get hl hi
    have HND := Lib.hid hnd
    obtain ⟨b, o, rfl, hb, q0, q1⟩ := hnd.at_ hlt
    rw [hg] at q0 q1
    have HC := Lib.hid (fun W => specArity_any k v W)
    rw [arI_some hok.1] at HC
    simp only [ET.kind, ET.val] at q0 q1
    have hpx := flat_pos x
    have hpy := flat_pos y
    simp only [ET.flat, List.length_append, List.length_singleton] at hi
    obtain ⟨j, hj⟩ : ∃ j, i = j + 1 := ⟨i - 1, by omega⟩
    obtain ⟨s, hs⟩ : ∃ s, pre.length + x.flat.length = s + 1 := ⟨pre.length + x.flat.length - 1, by omega⟩
    have HR2 := Lib.hid (ih2 (pre ++ x.flat) ((k, v) :: post) j hok.2.2 (by rw [hl]; simp [ET.flat]) (by rw [List.length_append]; omega))
    rw [List.length_append, hs] at HR2
    have HR1 := Lib.hid (ih1 pre (y.flat ++ (k, v) :: post) s hok.2.1 (by rw [hl]; simp [ET.flat]) (by omega))
    have i1 : (i : Int) < (l.length : Int) := by omega
    have i0 : (0 : Int) ≤ (i : Int) := by omega
    have ej : (i : Int) - 1 = (j : Int) := by omega
    have hs9 : s + 1 ≤ l.length := by omega
    clear hnd hl hi hg hok ih1 ih2 hj hs
    go_enter Tryd.func41, Tryd.ntmps41
    go_wp2_with (go_at_call 38; refine (HC.out _).mono ?_; rintro e w1 ⟨rfl, b1⟩; have HB := Lib.hid b1; clear b1)
    refine (HR2.out _ (nds_below HND.out HB.out)).mono ?_
    rintro e w2 ⟨rfl, b2⟩
    have HB2 := Lib.hid (below_thenN HB.out b2)
    clear b2
    have es : ((s + 1 : Nat) : Int) - 1 = (s : Int) := by omega
    go_wp2_with fail
    refine (HR1.out _ (nds_below HND.out HB2.out)).mono ?_
    rintro e w3 ⟨rfl, b3⟩
    have HB3 := Lib.hid (below_thenN HB2.out b3)
    clear b3
    go_wp2
    go_ret
    exact ⟨rfl, HB3.out⟩

set_option maxRecDepth 100000 in
set_option maxHeartbeats 4000000 in
theorem sdepth_any (a : Option Addr) (l : List Nd) (c : Nat) (hn : l.length ≤ 1048576) : ∀ (t : ET) (pre post : List Nd) (i : Nat), t.ok → l = pre ++ t.flat ++ post → i + 1 = pre.length + t.flat.length → ∀ w : World, Nds w w.heap.size a l →
    Calls Tryd.prog 30 #[.slice a l.length c, .int .i64 (i : Int)] w fun e w' => e = .returned (.int .i64 (t.depth : Int)) ∧ Below w.heap.size w w' := by
  intro t
  induction t with
  | n0 k v =>
    intro pre post i hok hl hi w hnd
    obtain ⟨hlt, hg⟩ := root_get hl hi
    obtain ⟨b, o, rfl, hb, q0, q1⟩ := hnd.at_ hlt
    rw [hg] at q0 q1
    have HC := Lib.hid (fun W => specArity_any k v W)
    rw [arI_some (show arity k v = some 0 from hok)] at HC
    simp only [ET.kind, ET.val] at q0 q1
    have i1 : (i : Int) < (l.length : Int) := by omega
    have i0 : (0 : Int) ≤ (i : Int) := by omega
    clear hnd hl hi hg hok
    go_enter Tryd.func30, Tryd.ntmps30
    go_wp2_with (go_at_call 38; refine (HC.out _).mono ?_; rintro e w1 ⟨rfl, b1⟩; have HB := Lib.hid b1; clear b1)
    go_ret
    exact ⟨rfl, HB.out⟩
  | n1 k v x ih =>
    intro pre post i hok hl hi w hnd
    obtain ⟨hlt, hg⟩ := root_get hl hi
    have HND := Lib.hid hnd
    obtain ⟨b, o, rfl, hb, q0, q1⟩ := hnd.at_ hlt
    rw [hg] at q0 q1
    have HC := Lib.hid (fun W => specArity_any k v W)
    rw [arI_some hok.1] at HC
    simp only [ET.kind, ET.val] at q0 q1
    have hp := flat_pos x
    have hd := depth_le x
    simp only [ET.flat, List.length_append, List.length_singleton] at hi
    obtain ⟨j, hj⟩ : ∃ j, i = j + 1 := ⟨i - 1, by omega⟩
    have HR := Lib.hid (ih pre ((k, v) :: post) j hok.2 (by rw [hl]; simp [ET.flat]) (by omega))
    have i1 : (i : Int) < (l.length : Int) := by omega
    have i0 : (0 : Int) ≤ (i : Int) := by omega
    have ej : (i : Int) - 1 = (j : Int) := by omega
    have hdx : x.depth ≤ 1048576 := by omega
    obtain ⟨dx, hdx'⟩ : ∃ q, x.depth = q := ⟨_, rfl⟩
    have R := Lib.hid (show (ET.n1 k v x).depth = dx + 1 by rw [← hdx']; rfl)
    rw [hdx'] at HR hdx
    clear hnd hl hi hg hok ih hj hd hdx'
    go_enter Tryd.func30, Tryd.ntmps30
    go_wp2_with (go_at_call 38; refine (HC.out _).mono ?_; rintro e w1 ⟨rfl, b1⟩; have HB := Lib.hid b1; clear b1)
    refine (HR.out _ (nds_below HND.out HB.out)).mono ?_
    rintro e w2 ⟨rfl, b2⟩
    have HB2 := Lib.hid (below_thenN HB.out b2)
    clear b2
    go_wp2
    go_ret
    exact ⟨by rw [R.out]; go_num, HB2.out⟩
  | n2 k v x y ih1 ih2 =>
    intro pre post i hok hl hi w hnd
    obtain ⟨hlt, hg⟩ := root_get hl hi
    have HND := Lib.hid hnd
    obtain ⟨b, o, rfl, hb, q0, q1⟩ := hnd.at_ hlt
    rw [hg] at q0 q1
    have HC := Lib.hid (fun W => specArity_any k v W)
    rw [arI_some hok.1] at HC
    simp only [ET.kind, ET.val] at q0 q1
    have hpx := flat_pos x
    have hpy := flat_pos y
    have hdx := depth_le x
    have hdy := depth_le y
    simp only [ET.flat, List.length_append, List.length_singleton] at hi
    obtain ⟨j, hj⟩ : ∃ j, i = j + 1 := ⟨i - 1, by omega⟩
    obtain ⟨s, hs⟩ : ∃ s, pre.length + x.flat.length = s + 1 := ⟨pre.length + x.flat.length - 1, by omega⟩
    have e2 : l = (pre ++ x.flat) ++ y.flat ++ ((k, v) :: post) := by rw [hl]; simp [ET.flat]
    have HR2 := Lib.hid (ih2 (pre ++ x.flat) ((k, v) :: post) j hok.2.2 e2 (by rw [List.length_append]; omega))
    have HST := Lib.hid (start_any (some ⟨b, o, none⟩) l c hn y (pre ++ x.flat) ((k, v) :: post) j hok.2.2 e2 (by rw [List.length_append]; omega))
    rw [List.length_append, hs] at HST
    have HR1 := Lib.hid (ih1 pre (y.flat ++ (k, v) :: post) s hok.2.1 (by rw [hl]; simp [ET.flat]) (by omega))
    have i1 : (i : Int) < (l.length : Int) := by omega
    have i0 : (0 : Int) ≤ (i : Int) := by omega
    have ej : (i : Int) - 1 = (j : Int) := by omega
    have hs9 : s + 1 ≤ l.length := by omega
    have hdx2 : x.depth ≤ 1048576 := by omega
    have hdy2 : y.depth ≤ 1048576 := by omega
    obtain ⟨dx, hdx'⟩ : ∃ q, x.depth = q := ⟨_, rfl⟩
    obtain ⟨dy, hdy'⟩ : ∃ q, y.depth = q := ⟨_, rfl⟩
    have R := Lib.hid (show (ET.n2 k v x y).depth = max dx dy + 1 by rw [← hdx', ← hdy']; rfl)
    rw [hdx'] at HR1 hdx2
    rw [hdy'] at HR2 hdy2
    clear hnd hl hi hg hok ih1 ih2 hj hs hdx hdy hdx' hdy' e2
    go_enter Tryd.func30, Tryd.ntmps30
    go_wp2_with (go_at_call 38; refine (HC.out _).mono ?_; rintro e w1 ⟨rfl, b1⟩; have HB := Lib.hid b1; clear b1)
    refine (HR2.out _ (nds_below HND.out HB.out)).mono ?_
    rintro e w2 ⟨rfl, b2⟩
    have HB2 := Lib.hid (below_thenN HB.out b2)
    clear b2
    have es : ((s + 1 : Nat) : Int) - 1 = (s : Int) := by omega
    go_wp2_with fail
    refine (HST.out _ (nds_below HND.out HB2.out)).mono ?_
    rintro e w3 ⟨rfl, b3⟩
    have HB3 := Lib.hid (below_thenN HB2.out b3)
    clear b3
    go_wp2_with fail
    refine (HR1.out _ (nds_below HND.out HB3.out)).mono ?_
    rintro e w4 ⟨rfl, b4⟩
    have HB4 := Lib.hid (below_thenN HB3.out b4)
    clear b4
    go_wp2_with fail
    refine (mostN_is (dy : Int) (dx : Int) w4).mono ?_
    rintro e w5 ⟨rfl, rfl⟩
    obtain ⟨mx, hmx⟩ : ∃ q : Nat, max dx dy = q := ⟨_, rfl⟩
    have hmx2 : max (dy : Int) (dx : Int) = (mx : Int) := by omega
    have hmx3 : mx ≤ 1048576 := by omega
    rw [hmx] at R
    rw [hmx2]
    clear hmx hmx2
    go_wp2
    go_ret
    exact ⟨by rw [R.out]; go_num, HB4.out⟩

set_option maxRecDepth 100000 in
set_option maxHeartbeats 4000000 in
theorem specDepth_any (a : Option Addr) (l : List Nd) (c : Nat) (w : World) (hl : Nds w w.heap.size a l) (hn : l.length ≤ 1048576) :
    Calls Tryd.prog 11 #[.slice a l.length c] w fun e w' => e = .returned (.tuple #[.int .i64 (depR l), .bool (exprB l)]) ∧ Below w.heap.size w w' := by
  have HC := Lib.hid (fun W h => specExprGood_any a l c W h hn)
  have HL := Lib.hid hl
  have HE := Lib.hid (exprB_tree l)
  clear hl
  cases ht : treeT l with
  | none =>
    have hb : exprB l = false := by rw [HE.out, ht]; rfl
    have hd : depR l = 0 := by unfold depR; rw [ht]
    rw [hb] at HC ⊢
    rw [hd]
    clear hb hd ht
    go_enter Tryd.func11, Tryd.ntmps11
    go_wp2_with fail
    refine (HC.out _ HL.out).mono ?_
    rintro e w1 ⟨rfl, b1⟩
    have HB := Lib.hid b1
    clear b1
    go_wp2
    go_ret2
    exact ⟨rfl, HB.out⟩
  | some t =>
    have hb : exprB l = true := by rw [HE.out, ht]; rfl
    have hd : depR l = (t.depth : Int) := by unfold depR; rw [ht]
    obtain ⟨h15, hf, hok⟩ := treeT_some ht
    have hp := flat_pos t
    rw [hf] at hp
    obtain ⟨j, hj⟩ : ∃ j, l.length = j + 1 := ⟨l.length - 1, by omega⟩
    have HD := Lib.hid (sdepth_any a l c hn t [] [] j hok (by simp [hf]) (by rw [hf, hj]; simp))
    rw [hb] at HC ⊢
    rw [hd]
    have ej : (l.length : Int) - 1 = (j : Int) := by omega
    clear hb hd ht hf hok hp hj
    go_enter Tryd.func11, Tryd.ntmps11
    go_wp2_with fail
    refine (HC.out _ HL.out).mono ?_
    rintro e w1 ⟨rfl, b1⟩
    have HB := Lib.hid b1
    clear b1
    go_wp2_with fail
    refine (HD.out _ (nds_below HL.out HB.out)).mono ?_
    rintro e w2 ⟨rfl, b2⟩
    have HB2 := Lib.hid (below_thenN HB.out b2)
    clear b2
    go_wp2
    go_ret2
    exact ⟨rfl, HB2.out⟩
end Go.Proofs.YtikglddifoalfaaDoor
namespace Go.Proofs.YtikglddifoalfaaDoor
open Go.RowKit
set_option linter.unusedVariables false
set_option linter.unusedSimpArgs false
def plains (es : List FE) : List Fv := es.map FE.plain
theorem plains_len (es : List FE) : (plains es).length = es.length := by simp [plains]
theorem plains_get (es : List FE) (j : Nat) (h : j < (plains es).length) (h2 : j < es.length) : (plains es)[j] = (es[j].wd, es[j].hg, es[j].l) := by simp [plains, FE.plain]
theorem plains_head (es : List FE) (h : 0 < es.length) : (plains es).headD (0, 0, []) = (es[0].wd, es[0].hg, es[0].l) := by
  cases es with
  | nil => simp at h
  | cons e r => rfl
end Go.Proofs.YtikglddifoalfaaDoor
namespace Go.Proofs.YtikglddifoalfaaDoor
open Go.RowKit
set_option linter.unusedVariables false
set_option linter.unusedSimpArgs false
/-- what l5Value knows of a later world -/
structure Ev (w : World) (a : Option Addr) (l : List Nd) (af : Option Addr) (es : List FE) (k v : Int) (w' : World) : Prop where
  b : Below w.heap.size w w'
  n : Nds w' w'.heap.size a l
  f : Flds w' w'.heap.size af es
  r : Box w' w.heap.size 80 (.int .i64 0) (.int .i64 0) (.slice none 0 0)
  x : BoxC w' (w.heap.size + 1) 49 #[.int .i64 k, .int .i64 v]
section
variable {w w1 w2 : World} {a : Option Addr} {l : List Nd} {af : Option Addr} {es : List FE} {k v : Int}
theorem Ev.new (hn : Nds w w.heap.size a l) (hf : Flds w w.heap.size af es) : Ev w a l af es k v ((w.alloc (.cells #[.int .i64 0, .int .i64 0, .slice none 0 0] 80)).alloc (.cells #[.int .i64 k, .int .i64 v] 49)) := by
  refine ⟨(below_all w _).alloc (by simp) _, nds_alloc (nds_alloc hn _) _, flds_alloc (flds_alloc hf _) _, (Box.new w _ _ _ _).alloc _, ?_⟩
  have h := BoxC.new (w.alloc (.cells #[.int .i64 0, .int .i64 0, .slice none 0 0] 80)) 49 #[.int .i64 k, .int .i64 v]
  rw [World.size_alloc] at h
  exact h
theorem Ev.step (h : Ev w a l af es k v w1) (b : Below w1.heap.size w1 w2) : Ev w a l af es k v w2 := ⟨below_then h.b b, nds_below h.n b, flds_below h.f b, h.r.below b, h.x.below b⟩
theorem Ev.xc (h : Ev w a l af es k v w1) : w1.cell? ⟨w.heap.size + 1, 0, none⟩ = some (.int .i64 k) ∧ w1.cell? ⟨w.heap.size + 1, 1, none⟩ = some (.int .i64 v) := ⟨h.x.cell 0, h.x.cell 1⟩
end
/-- the value of a field goes into the result's box and is handed back -/
theorem fret_put {w w1 : World} {r : Option Fv} {e : Ending} {a : Option Addr} {c : Nat} (hb : Below w.heap.size w w1) (ho : OwnI w1 (w.heap.size + 1) a (rL r)) (he : e = .returned (.tuple #[.agg #[.int .i64 (rW r), .int .i64 (rH r), .slice a (rL r).length c], .bool (rB r)])) (u0 u1 u2 : Value) :
    FRet r w e (((w1.setCell ⟨w.heap.size, 0, none⟩ u0).setCell ⟨w.heap.size, 1, none⟩ u1).setCell ⟨w.heap.size, 2, none⟩ u2) :=
  ⟨a, c, he, (ownI_set (ownI_set (ownI_set ho (by omega) _) (by omega) _) (by omega) _).more (by omega), ((hb.setCell (p := ⟨w.heap.size, 0, none⟩) (Nat.le_refl _) _).setCell (p := ⟨w.heap.size, 1, none⟩) (Nat.le_refl _) _).setCell (p := ⟨w.heap.size, 2, none⟩) (Nat.le_refl _) _⟩
end Go.Proofs.YtikglddifoalfaaDoor
namespace Go.Proofs.YtikglddifoalfaaDoor
open Go.RowKit
set_option linter.unusedVariables false
set_option linter.unusedSimpArgs false
end Go.Proofs.YtikglddifoalfaaDoor
namespace Go.Proofs.YtikglddifoalfaaDoor
open Go.RowKit
set_option linter.unusedVariables false
set_option linter.unusedSimpArgs false
end Go.Proofs.YtikglddifoalfaaDoor
namespace Go.Proofs.YtikglddifoalfaaDoor
open Go.RowKit
set_option linter.unusedVariables false
set_option linter.unusedSimpArgs false
end Go.Proofs.YtikglddifoalfaaDoor
namespace Go.Proofs.YtikglddifoalfaaDoor
open Go.RowKit
set_option linter.unusedVariables false
set_option linter.unusedSimpArgs false
end Go.Proofs.YtikglddifoalfaaDoor
namespace Go.Proofs.YtikglddifoalfaaDoor
open Go.RowKit
set_option linter.unusedVariables false
set_option linter.unusedSimpArgs false
end Go.Proofs.YtikglddifoalfaaDoor
namespace Go.Proofs.YtikglddifoalfaaDoor
open Go.RowKit
set_option linter.unusedVariables false
set_option linter.unusedSimpArgs false
/-- fields that are alike, by the fields in memory -/
structure OkF (es : List FE) (wd hg : Int) : Prop where
  n : 1 ≤ es.length ∧ es.length ≤ 4
  e : ∀ j (h : j < es.length), es[j].wd = wd ∧ es[j].hg = hg ∧ goodB wd hg es[j].l = true
theorem okF_of {es : List FE} (h : fieldsB (plains es) = true) (h0 : 0 < es.length) : OkF es es[0].wd es[0].hg := by
  have hlen := (fieldsB_iff.1 h).1
  rw [plains_len] at hlen
  obtain ⟨hne, hall⟩ := fields_allF h
  rw [plains_head es h0] at hall
  refine ⟨hlen, fun j hj => ?_⟩
  have h1 := hall _ (List.getElem_mem (h := show j < (plains es).length by rw [plains_len]; exact hj))
  rw [plains_get es j _ hj] at h1
  exact h1
theorem OkF.allF {es : List FE} {wd hg : Int} (h : OkF es wd hg) : plains es ≠ [] ∧ allF wd hg (plains es) := by
  refine ⟨fun e => ?_, fun f hf => ?_⟩
  · have := congrArg List.length e
    rw [plains_len, List.length_nil] at this
    have := h.n
    omega
  · obtain ⟨j, hj, rfl⟩ := List.getElem_of_mem hf
    have hj2 : j < es.length := by rwa [plains_len] at hj
    rw [plains_get es j hj hj2]
    exact h.e j hj2
theorem good_pos {wd hg : Int} {l : List Int} (h : goodB wd hg l = true) : 0 < l.length := by
  have h1 := good_len h
  have h2 := shapeB_iff.1 (good_shape h)
  have : 0 < wd * hg := Int.mul_pos (by omega) (by omega)
  omega
theorem eval_n0 {es : List FE} {wd hg : Int} (h : OkF es wd hg) (v : Int) (h0 : 0 < es.length) (v0 : 0 ≤ v) (v9 : v ≤ 9000) : evalT (plains es) (.n0 2 v) = some (es[0].wd, es[0].hg, List.replicate (es[0].wd * es[0].hg).toNat v) := by
  obtain ⟨e1, e2, e3⟩ := h.e 0 h0
  unfold evalT
  rw [if_neg (by omega), plains_head es h0]
  refine newR_yes ?_
  rw [e1, e2, good_shape e3, cellB_iff.2 (.inr ⟨by omega, v9⟩)]
  rfl
theorem eval_n1 {es : List FE} (n : Nat) (h : n < es.length) : evalT (plains es) (.n0 1 (n : Int)) = some (es[n].wd, es[n].hg, es[n].l) := by
  unfold evalT
  rw [if_pos rfl, Int.toNat_natCast, List.getElem?_eq_getElem (by rw [plains_len]; exact h), plains_get es n _ h]
theorem eval_none {es : List FE} (n : Nat) (h : ¬ n < es.length) : evalT (plains es) (.n0 1 (n : Int)) = none := by
  unfold evalT
  rw [if_pos rfl, Int.toNat_natCast, List.getElem?_eq_none (by rw [plains_len]; omega)]
end Go.Proofs.YtikglddifoalfaaDoor
namespace Go.Proofs.YtikglddifoalfaaDoor
open Go.RowKit
set_option linter.unusedVariables false
set_option linter.unusedSimpArgs false
theorem TreeAt.below {w w' : World} {P : Nat → Prop} {t : ET} {b : Nat} (h : TreeAt w P t b) (hb : Below w.heap.size w w') : TreeAt w' P t b := TreeAt.keep (fun i _ hi => hb.block i hi) (fun _ h _ => h) t b h
set_option maxRecDepth 100000 in
set_option maxHeartbeats 4000000 in
theorem tdepth_any : ∀ (t : ET), t.flat.length ≤ 1000 → ∀ (P : Nat → Prop) (b : Nat) (w : World), TreeAt w P t b →
    Calls Tryd.prog 29 #[.pointer (some ⟨b, 0, none⟩)] w fun e w' => e = .returned (.int .i64 (t.depth : Int)) ∧ Below w.heap.size w w' := by
  intro t
  induction t with
  | n0 k v =>
    intro hf P b w ht
    obtain ⟨h1, a, c, h2⟩ := ht
    have c9 := h2.cell 9
    simp [tcells] at c9
    clear h1 h2 hf
    go_enter Tryd.func29, Tryd.ntmps29
    go_wp2
    go_loopw [3, 11] (fun m i wr => m = .int .i64 0 ∧ i = .int .i64 0 ∧ Below w.heap.size w wr) (fun _ i _ => 1)
    case atStart => exact ⟨rfl, rfl, Below.refl _ _⟩
    case round =>
      obtain ⟨rfl, rfl, hB⟩ := hrel
      have HB := Lib.hid hB
      clear hB
      go_wp2
      go_ret
      exact ⟨rfl, HB.out⟩
  | n1 k v x ih =>
    intro hf P b w ht
    obtain ⟨h1, ga, c, bx, h2, h3, h4, h5⟩ := ht
    have c9 := h3.cell 9
    simp [tcells] at c9
    have hg := cell_lt h4
    have hd := depth_le x
    simp only [ET.flat, List.length_append, List.length_singleton] at hf
    have HC := Lib.hid (fun W h => ih (by omega) P bx W h)
    have HT := Lib.hid h5
    have H4 := Lib.hid h4
    obtain ⟨dx, hdx⟩ : ∃ q, x.depth = q := ⟨_, rfl⟩
    have R := Lib.hid (show (ET.n1 k v x).depth = dx + 1 by rw [← hdx]; rfl)
    rw [hdx] at HC hd
    have hdx3 : dx ≤ 1000 := by omega
    clear h1 h2 h3 h4 h5 ih hdx hd hf
    go_enter Tryd.func29, Tryd.ntmps29
    go_wp2
    go_loopw [3, 11] (fun m i wr => ((m = .int .i64 0 ∧ i = .int .i64 0) ∨ (m = .int .i64 (dx : Int) ∧ i = .int .i64 1)) ∧ Below w.heap.size w wr) (fun _ i _ => 1 - (intOf i).toNat)
    case atStart => exact ⟨.inl ⟨rfl, rfl⟩, Below.refl _ _⟩
    case round =>
      obtain ⟨⟨rfl, rfl⟩ | ⟨rfl, rfl⟩, hB⟩ := hrel
      · have h4' := (hB.cell (p := ⟨ga, 0, none⟩) hg).trans H4.out
        have HB := Lib.hid hB
        have HTB := Lib.hid (TreeAt.keep (w' := wr) (fun i _ hi => hB.block i hi) (fun _ h _ => h) x bx HT.out)
        clear hB
        go_wp2_with fail
        refine (HC.out wr HTB.out).mono ?_
        rintro e w1 ⟨rfl, b1⟩
        have HB1 := Lib.hid (below_thenN HB.out b1)
        clear b1 h4'
        have hm : max (0 : Int) (dx : Int) = (dx : Int) := by omega
        go_wp2
        go_roundw
        case rel => exact ⟨.inr ⟨by congr 1; split <;> omega, rfl⟩, HB1.out⟩
        case measure => simp [intOf]
      · have HB := Lib.hid hB
        clear hB
        go_wp2
        go_ret
        exact ⟨by rw [R.out]; go_num, HB.out⟩
  | n2 k v x y ih1 ih2 =>
    intro hf P b w ht
    obtain ⟨h1, ga, c, bx, bz, h2, h3, h4, h5, h6, h7⟩ := ht
    have c9 := h3.cell 9
    simp [tcells] at c9
    have hg := cell_lt h4
    have hd := depth_le x
    have hd2 := depth_le y
    simp only [ET.flat, List.length_append, List.length_singleton] at hf
    have HC := Lib.hid (fun W h => ih1 (by omega) P bx W h)
    have HC2 := Lib.hid (fun W h => ih2 (by omega) P bz W h)
    have HT := Lib.hid h6
    have HT2 := Lib.hid h7
    have H4 := Lib.hid h4
    have H5 := Lib.hid h5
    obtain ⟨dx, hdx⟩ : ∃ q, x.depth = q := ⟨_, rfl⟩
    obtain ⟨dy, hdy⟩ : ∃ q, y.depth = q := ⟨_, rfl⟩
    obtain ⟨mx, hmx⟩ : ∃ q : Nat, max dx dy = q := ⟨_, rfl⟩
    have R := Lib.hid (show (ET.n2 k v x y).depth = mx + 1 by rw [← hmx, ← hdx, ← hdy]; rfl)
    rw [hdx] at HC hd
    rw [hdy] at HC2 hd2
    have hdx3 : dx ≤ 1000 := by omega
    have hdy3 : dy ≤ 1000 := by omega
    have hm2 : max (dx : Int) (dy : Int) = (mx : Int) := by omega
    have hmx3 : mx ≤ 1000 := by omega
    clear h1 h2 h3 h4 h5 h6 h7 ih1 ih2 hdx hdy hd hd2 hf hmx
    go_enter Tryd.func29, Tryd.ntmps29
    go_wp2
    go_loopw [3, 11] (fun m i wr => ((m = .int .i64 0 ∧ i = .int .i64 0) ∨ (m = .int .i64 (dx : Int) ∧ i = .int .i64 1) ∨ (m = .int .i64 (mx : Int) ∧ i = .int .i64 2)) ∧ Below w.heap.size w wr) (fun _ i _ => 2 - (intOf i).toNat)
    case atStart => exact ⟨.inl ⟨rfl, rfl⟩, Below.refl _ _⟩
    case round =>
      obtain ⟨⟨rfl, rfl⟩ | ⟨rfl, rfl⟩ | ⟨rfl, rfl⟩, hB⟩ := hrel
      · have h4' := (hB.cell (p := ⟨ga, 0, none⟩) hg).trans H4.out
        have HB := Lib.hid hB
        have HTB := Lib.hid (TreeAt.keep (w' := wr) (fun i _ hi => hB.block i hi) (fun _ h _ => h) x bx HT.out)
        clear hB
        go_wp2_with fail
        refine (HC.out wr HTB.out).mono ?_
        rintro e w1 ⟨rfl, b1⟩
        have HB1 := Lib.hid (below_thenN HB.out b1)
        clear b1 h4'
        have hm : max (0 : Int) (dx : Int) = (dx : Int) := by omega
        go_wp2
        go_roundw
        case rel => exact ⟨.inr (.inl ⟨by congr 1; split <;> omega, rfl⟩), HB1.out⟩
        case measure => simp [intOf]
      · have h5' := (hB.cell (p := ⟨ga, 1, none⟩) hg).trans H5.out
        have HB := Lib.hid hB
        have HTB := Lib.hid (TreeAt.keep (w' := wr) (fun i _ hi => hB.block i hi) (fun _ h _ => h) y bz HT2.out)
        clear hB
        go_wp2_with fail
        refine (HC2.out wr HTB.out).mono ?_
        rintro e w1 ⟨rfl, b1⟩
        have HB1 := Lib.hid (below_thenN HB.out b1)
        clear b1 h5'
        go_wp2
        go_roundw
        case rel => exact ⟨.inr (.inr ⟨by congr 1; split <;> omega, rfl⟩), HB1.out⟩
        case measure => simp [intOf]
      · have HB := Lib.hid hB
        clear hB
        go_wp2
        go_ret
        exact ⟨by rw [R.out]; go_num, HB.out⟩

set_option maxRecDepth 100000 in
set_option maxHeartbeats 4000000 in
theorem implDepth_any (a : Option Addr) (l : List Nd) (c : Nat) (w : World) (hl : Nds w w.heap.size a l) (hn : l.length ≤ 1048576) (ht : NTab w) :
    Calls Tryd.prog 10 #[.slice a l.length c] w fun e w' => e = .returned (.tuple #[.int .i64 (depR l), .bool (exprB l)]) ∧ Below w.heap.size w w' := by
  have HC := Lib.hid (fun W h t => treeOf_any a l c W h hn t)
  have HL := Lib.hid hl
  have HT := Lib.hid ht
  have HE := Lib.hid (exprB_tree l)
  clear hl ht
  go_enter Tryd.func10, Tryd.ntmps10
  go_wp2_with fail
  refine (HC.out _ HL.out HT.out).mono ?_
  rintro e w1 ⟨b1, ⟨h1, rfl⟩ | ⟨t, b, h1, rfl, h2⟩⟩
  · have HB := Lib.hid b1
    have R := Lib.hid (HE.out.trans (by rw [h1]; rfl) : exprB l = false)
    have R2 := Lib.hid (show depR l = 0 by unfold depR; rw [h1])
    clear b1 h1
    go_wp2
    go_ret2
    exact ⟨by rw [R.out, R2.out]; rfl, HB.out⟩
  · have HB := Lib.hid b1
    have R := Lib.hid (HE.out.trans (by rw [h1]; rfl) : exprB l = true)
    have R2 := Lib.hid (show depR l = (t.depth : Int) by unfold depR; rw [h1])
    obtain ⟨h15, hf, _⟩ := treeT_some h1
    have HD := Lib.hid (tdepth_any t (by rw [hf]; omega) _ b w1 h2)
    clear b1 h1 h2 hf
    go_wp2_with fail
    refine HD.out.mono ?_
    rintro e w2 ⟨rfl, b2⟩
    have HB2 := Lib.hid (below_thenN HB.out b2)
    clear b2
    go_wp2
    go_ret2
    exact ⟨by rw [R.out, R2.out]; rfl, HB2.out⟩
end Go.Proofs.YtikglddifoalfaaDoor
namespace Go.Proofs.YtikglddifoalfaaDoor
open Go.RowKit
set_option linter.unusedVariables false
set_option linter.unusedSimpArgs false
/-- field j is valid and has the first one's shape -/
def likeB (wd hg : Nat → Int) (ls : Nat → List Int) (j : Nat) : Bool := goodB (wd j) (hg j) (ls j) && (decide (wd j = wd 0) && decide (hg j = hg 0))
def oneB (wd hg : Nat → Int) (ls : Nat → List Int) (n : Nat) : Bool := (List.range n).all (likeB wd hg ls)
theorem oneB_iff {wd hg : Nat → Int} {ls : Nat → List Int} {n : Nat} : oneB wd hg ls n = true ↔ ∀ j, j < n → likeB wd hg ls j = true := by unfold oneB; simp
theorem oneB_no {wd hg : Nat → Int} {ls : Nat → List Int} {n k : Nat} (hk : k < n) (h : likeB wd hg ls k = false) : oneB wd hg ls n = false := by
  cases h1 : oneB wd hg ls n with
  | false => rfl
  | true => have := oneB_iff.1 h1 k hk; rw [h] at this; cases this
/-- the row of fields at block g -/
def FldRow (w : World) (g n : Nat) (wd hg : Nat → Int) (ad : Nat → Option Addr) (ls : Nat → List Int) (cs : Nat → Nat) : Prop :=
  g < w.heap.size ∧ ∀ j, j < n → w.cell? ⟨g, j * 3, none⟩ = some (.int .i64 (wd j)) ∧ w.cell? ⟨g, j * 3 + 1, none⟩ = some (.int .i64 (hg j)) ∧ w.cell? ⟨g, j * 3 + 2, none⟩ = some (.slice (ad j) (ls j).length (cs j)) ∧ Ints .i64 w w.heap.size (ad j) (ls j) ∧ (ls j).length ≤ 1048576
theorem FldRow.below {w w' : World} {g n : Nat} {wd hg : Nat → Int} {ad : Nat → Option Addr} {ls : Nat → List Int} {cs : Nat → Nat} (h : FldRow w g n wd hg ad ls cs) (b : Below w.heap.size w w') : FldRow w' g n wd hg ad ls cs := by
  obtain ⟨h1, h2⟩ := h
  refine ⟨Nat.lt_of_lt_of_le h1 b.size, fun j hj => ?_⟩
  obtain ⟨k0, k1, k2, k3, k4⟩ := h2 j hj
  exact ⟨(b.cell (p := ⟨g, _, none⟩) h1).trans k0, (b.cell (p := ⟨g, _, none⟩) h1).trans k1, (b.cell (p := ⟨g, _, none⟩) h1).trans k2, ints_below k3 b, k4⟩
set_option maxRecDepth 100000 in
set_option maxHeartbeats 8000000 in
theorem oneShape_is (g n cap : Nat) (wd hg : Nat → Int) (ad : Nat → Option Addr) (ls : Nat → List Int) (cs : Nat → Nat) (v : Bool) (w : World) (hF : FldRow w g n wd hg ad ls cs) (h0 : 0 < n) (hn : n ≤ 1048576) (h : oneB wd hg ls n = v) :
    Calls Tryd.prog 50 #[.slice (some ⟨g, 0, none⟩) n cap] w fun e w' => e = .returned (.bool v) ∧ Below w.heap.size w w' := by
  have HF := Lib.hid hF
  have HV := Lib.hid h
  clear hF h
  go_enter Tryd.func50, Tryd.ntmps50
  go_wp2
  go_loopw [7] (fun i wr => ∃ k : Nat, k ≤ n ∧ i = .int .i64 k ∧ Below w.heap.size w wr ∧ ∀ j, j < k → likeB wd hg ls j = true) (fun i _ => n - (intOf i).toNat)
  case atStart => exact ⟨0, Nat.zero_le _, rfl, Below.refl _ _, fun j hj => by omega⟩
  case round =>
    obtain ⟨k, hk, rfl, hB, hall⟩ := hrel
    have HB := Lib.hid hB
    have HA := Lib.hid hall
    clear hB hall
    by_cases hlt : k < n
    · obtain ⟨hg1, hr⟩ := HF.out.below HB.out
      obtain ⟨c0, c1, c2, ci, cl⟩ := hr k hlt
      obtain ⟨d0, d1, d2, -, -⟩ := hr 0 h0
      have HI := Lib.hid ci
      clear hr ci d2
      simp only [Nat.zero_mul, Nat.zero_add] at d0 d1
      have hi : (k : Int) < (n : Int) := by omega
      have hi0 : (0 : Int) ≤ (k : Int) := by omega
      have hX := Box.new wr 80 (.int .i64 (wd k)) (.int .i64 (hg k)) (.slice (ad k) (ls k).length (cs k))
      have hI := ints_alloc HI.out (.cells #[.int .i64 (wd k), .int .i64 (hg k), .slice (ad k) (ls k).length (cs k)] 80)
      have hBW := HB.out.alloc HB.out.size (.cells #[.int .i64 (wd k), .int .i64 (hg k), .slice (ad k) (ls k).length (cs k)] 80)
      have hd0 := (Below.refl wr.heap.size wr).alloc (Nat.le_refl _) (.cells #[.int .i64 (wd k), .int .i64 (hg k), .slice (ad k) (ls k).length (cs k)] 80)
      go_wp2
      clear c0 c1 c2
      obtain ⟨W, hW⟩ : ∃ W, wr.alloc (.cells #[.int .i64 (wd k), .int .i64 (hg k), .slice (ad k) (ls k).length (cs k)] 80) = W := ⟨_, rfl⟩
      rw [hW] at hX hI hBW hd0 ⊢
      have e0 : W.cell? ⟨g, 0, none⟩ = some (.int .i64 (wd 0)) := (hd0.cell (p := ⟨g, 0, none⟩) hg1).trans d0
      have e1 : W.cell? ⟨g, 1, none⟩ = some (.int .i64 (hg 0)) := (hd0.cell (p := ⟨g, 1, none⟩) hg1).trans d1
      have hgW : g < W.heap.size := Nat.lt_of_lt_of_le hg1 hd0.size
      have HX := Lib.hid hX
      have HI2 := Lib.hid hI
      have HBW := Lib.hid hBW
      have HE := Lib.hid (And.intro e0 e1)
      obtain ⟨p0, p1, p2⟩ := box_later hX
      have p3 := later_cell e0 hgW
      have p4 := later_cell e1 hgW
      clear hW hX hI hBW hd0 d0 d1 HI e0 e1 HE HX
      cases hgd : goodB (wd k) (hg k) (ls k) with
      | false =>
        obtain rfl : v = false := by rw [← HV.out]; exact oneB_no hlt (by unfold likeB; rw [hgd]; rfl)
        have HC := Lib.hid (fun W h => implGood_is (wd k) (hg k) (ad k) (ls k) (cs k) _ false W h (Nat.le_refl _) cl hgd)
        clear hgd
        refine wp_region_later (by kernel_rfl) (by kernel_rfl) ?_
        repeat (quiet_step ((go_at_call 52; exact calls_later (HC.out _ (ints_below HI2.out (Later.below _))))))
        refine wpQuiet_nil ?_
        intro _ hw'
        obtain ⟨pq, hw''⟩ := hw'
        subst hw''
        have B1 := Lib.hid (HBW.out.trans (pq.below.mono HBW.out.size))
        clear p0 p1 p2 p3 p4
        go_wp2
        go_ret
        exact ⟨rfl, B1.out⟩
      | true =>
        have HC := Lib.hid (fun W h => implGood_is (wd k) (hg k) (ad k) (ls k) (cs k) _ true W h (Nat.le_refl _) cl hgd)
        by_cases hw0 : wd k = wd 0
        · have n0 : (wd k != wd 0) = false := by simp [hw0]
          by_cases hh0 : hg k = hg 0
          · have n1 : (hg k != hg 0) = false := by simp [hh0]
            have HL := Lib.hid (show likeB wd hg ls k = true by unfold likeB; rw [hgd, decide_eq_true hw0, decide_eq_true hh0]; rfl)
            clear hgd hw0 hh0
            refine wp_region_later (by kernel_rfl) (by kernel_rfl) ?_
            repeat (quiet_step ((go_at_call 52; exact calls_later (HC.out _ (ints_below HI2.out (Later.below _))))))
            refine wpQuiet_nil ?_
            intro _ hw'
            obtain ⟨pq, hw''⟩ := hw'
            subst hw''
            have B1 := Lib.hid (HBW.out.trans (pq.below.mono HBW.out.size))
            clear p0 p1 p2 p3 p4
            go_wp2
            go_roundw
            case rel => exact ⟨k + 1, by omega, by go_num, B1.out, fun j hj => by
              rcases Nat.lt_or_ge j k with h1 | h1
              · exact HA.out j h1
              · obtain rfl : j = k := by omega
                exact HL.out⟩
            case measure => simp [intOf]; omega
          · have n1 : (hg k != hg 0) = true := by simp [hh0]
            obtain rfl : v = false := by rw [← HV.out]; exact oneB_no hlt (by unfold likeB; rw [decide_eq_false hh0]; simp)
            clear hgd hw0 hh0
            refine wp_region_later (by kernel_rfl) (by kernel_rfl) ?_
            repeat (quiet_step ((go_at_call 52; exact calls_later (HC.out _ (ints_below HI2.out (Later.below _))))))
            refine wpQuiet_nil ?_
            intro _ hw'
            obtain ⟨pq, hw''⟩ := hw'
            subst hw''
            have B1 := Lib.hid (HBW.out.trans (pq.below.mono HBW.out.size))
            clear p0 p1 p2 p3 p4
            go_wp2
            go_ret
            exact ⟨rfl, B1.out⟩
        · have n0 : (wd k != wd 0) = true := by simp [hw0]
          obtain rfl : v = false := by rw [← HV.out]; exact oneB_no hlt (by unfold likeB; rw [decide_eq_false hw0]; simp)
          clear hgd hw0
          refine wp_region_later (by kernel_rfl) (by kernel_rfl) ?_
          repeat (quiet_step ((go_at_call 52; exact calls_later (HC.out _ (ints_below HI2.out (Later.below _))))))
          refine wpQuiet_nil ?_
          intro _ hw'
          obtain ⟨pq, hw''⟩ := hw'
          subst hw''
          have B1 := Lib.hid (HBW.out.trans (pq.below.mono HBW.out.size))
          clear p0 p1 p2 p3 p4
          go_wp2
          go_ret
          exact ⟨rfl, B1.out⟩
    · obtain rfl : k = n := by omega
      obtain rfl : v = true := by rw [← HV.out]; exact oneB_iff.2 (fun j hj => HA.out j hj)
      go_wp2
      go_ret
      exact ⟨rfl, HB.out⟩
end Go.Proofs.YtikglddifoalfaaDoor
namespace Go.Proofs.YtikglddifoalfaaDoor
open Go.RowKit
set_option linter.unusedVariables false
set_option linter.unusedSimpArgs false
def two {α : Type} (x y : α) (j : Nat) : α := if j = 0 then x else y
theorem oneB_two (wa ha : Int) (la : List Int) (wb hb : Int) (lb : List Int) : oneB (two wa wb) (two ha hb) (two la lb) 2 = sameB wa ha la wb hb lb := by
  have e : oneB (two wa wb) (two ha hb) (two la lb) 2 = (likeB (two wa wb) (two ha hb) (two la lb) 0 && likeB (two wa wb) (two ha hb) (two la lb) 1) := by
    unfold oneB
    rw [show List.range 2 = [0, 1] from rfl]
    simp
  have e0 : likeB (two wa wb) (two ha hb) (two la lb) 0 = goodB wa ha la := by unfold likeB two; simp
  have e1 : likeB (two wa wb) (two ha hb) (two la lb) 1 = (goodB wb hb lb && (decide (wa = wb) && decide (ha = hb))) := by
    unfold likeB two
    have h1 : decide (wb = wa) = decide (wa = wb) := by rw [decide_eq_decide]; omega
    have h2 : decide (hb = ha) = decide (ha = hb) := by rw [decide_eq_decide]; omega
    simp [h1, h2]
  rw [e, e0, e1]
  unfold sameB
  rw [Bool.and_assoc]
/-- two fields laid in a row of their own -/
theorem fldRow_two {w : World} {wa ha wb hb : Int} {aa ab : Option Addr} {la lb : List Int} {ca cb : Nat} (t : TypeId) (h1 : Ints .i64 w w.heap.size aa la) (h2 : Ints .i64 w w.heap.size ab lb) (n1 : la.length ≤ 1048576) (n2 : lb.length ≤ 1048576) :
    FldRow (w.alloc (.cells #[.int .i64 wa, .int .i64 ha, .slice aa la.length ca, .int .i64 wb, .int .i64 hb, .slice ab lb.length cb] t)) w.heap.size 2 (two wa wb) (two ha hb) (two aa ab) (two la lb) (two ca cb) := by
  have hn := heap_alloc_new w (.cells #[.int .i64 wa, .int .i64 ha, .slice aa la.length ca, .int .i64 wb, .int .i64 hb, .slice ab lb.length cb] t)
  have i1 := ints_alloc h1 (.cells #[.int .i64 wa, .int .i64 ha, .slice aa la.length ca, .int .i64 wb, .int .i64 hb, .slice ab lb.length cb] t)
  have i2 := ints_alloc h2 (.cells #[.int .i64 wa, .int .i64 ha, .slice aa la.length ca, .int .i64 wb, .int .i64 hb, .slice ab lb.length cb] t)
  have hs : w.heap.size < (w.alloc (.cells #[.int .i64 wa, .int .i64 ha, .slice aa la.length ca, .int .i64 wb, .int .i64 hb, .slice ab lb.length cb] t)).heap.size := by simp
  generalize w.alloc (.cells #[.int .i64 wa, .int .i64 ha, .slice aa la.length ca, .int .i64 wb, .int .i64 hb, .slice ab lb.length cb] t) = W at hn i1 i2 hs ⊢
  generalize w.heap.size = g at hn hs ⊢
  refine ⟨hs, fun j hj => ?_⟩
  have key : ∀ o, W.cell? ⟨g, o, none⟩ = #[Value.int .i64 wa, .int .i64 ha, .slice aa la.length ca, .int .i64 wb, .int .i64 hb, .slice ab lb.length cb][o]? := fun o => by simp [World.cell?, hn]
  rcases (by omega : j = 0 ∨ j = 1) with rfl | rfl
  · exact ⟨key 0, key 1, key 2, i1, n1⟩
  · exact ⟨key 3, key 4, key 5, i2, n2⟩
set_option maxRecDepth 100000 in
set_option maxHeartbeats 2000000 in
theorem withCells_yes (wd hg : Int) (a0 : Option Addr) (n0 c0 : Nat) (a : Option Addr) (l : List Int) (c : Nat) (w : World) (hl : Ints .i64 w w.heap.size a l) (hn : l.length ≤ 1048576) (hg' : goodB wd hg l = true) :
    Calls Tryd.prog 53 #[.agg #[.int .i64 wd, .int .i64 hg, .slice a0 n0 c0], .slice a l.length c] w fun e w' => e = .returned (.tuple #[.agg #[.int .i64 wd, .int .i64 hg, .slice a l.length c], .bool true]) ∧ Below w.heap.size w w' := by
  have HC := Lib.hid (fun W h => implGood_is wd hg a l c _ true W h (Nat.le_refl _) hn hg')
  have I0 := ints_alloc (ints_alloc (ints_alloc hl (.cells #[.int .i64 wd, .int .i64 hg, .slice a0 n0 c0] 80)) (.cells #[.int .i64 0, .int .i64 0, .slice none 0 0] 80)) (.cells #[.int .i64 wd, .int .i64 hg, .slice a l.length c] 80)
  have R0 := ((Box.new (w.alloc (.cells #[.int .i64 wd, .int .i64 hg, .slice a0 n0 c0] 80)) 80 (.int .i64 0) (.int .i64 0) (.slice none 0 0)).alloc (.cells #[.int .i64 wd, .int .i64 hg, .slice a l.length c] 80))
  have F0 := Box.new ((w.alloc (.cells #[.int .i64 wd, .int .i64 hg, .slice a0 n0 c0] 80)).alloc (.cells #[.int .i64 0, .int .i64 0, .slice none 0 0] 80)) 80 (.int .i64 wd) (.int .i64 hg) (.slice a l.length c)
  simp only [World.size_alloc] at R0 F0
  have HI := Lib.hid I0
  have HR := Lib.hid R0
  have HF := Lib.hid F0
  have b4 : ∀ o1 o2 o3, Below w.heap.size w (((w.alloc o1).alloc o2).alloc o3) := fun o1 o2 o3 => (((Below.refl _ _).alloc (Nat.le_refl _) _).alloc (by simp) _).alloc (by simp; omega) _
  have HB := Lib.hid (b4 (.cells #[.int .i64 wd, .int .i64 hg, .slice a0 n0 c0] 80) (.cells #[.int .i64 0, .int .i64 0, .slice none 0 0] 80) (.cells #[.int .i64 wd, .int .i64 hg, .slice a l.length c] 80))
  clear hl hg' I0 R0 F0 b4
  go_enter Tryd.func53, Tryd.ntmps53
  go_wp2_with fail
  refine (HC.out _ HI.out).mono ?_
  rintro e w1 ⟨rfl, b1⟩
  have R1 := HR.out.below b1
  have F1 := HF.out.below b1
  have B1 := Lib.hid (below_then HB.out b1)
  obtain ⟨r0, r1, r2⟩ := R1.cells
  obtain ⟨f0, f1, f2⟩ := F1.cells
  have g0 := R1.frozen 0
  have g1 := R1.frozen 1
  have g2 := R1.frozen 2
  clear b1 R1 F1 HI HR HF HB
  go_wp2
  refine bodyPost_ret (v := .tuple #[.agg #[.int .i64 wd, .int .i64 hg, .slice a l.length c], .bool true]) (by simp [results, Tryd.results53, go_sem, r0, r1, r2]) rfl ⟨rfl, ?_⟩
  exact ((B1.out.setCell (by simp) _).setCell (by simp) _).setCell (by simp) _
set_option maxRecDepth 100000 in
set_option maxHeartbeats 2000000 in
theorem withCells_no (wd hg : Int) (a0 : Option Addr) (n0 c0 : Nat) (a : Option Addr) (l : List Int) (c : Nat) (w : World) (hl : Ints .i64 w w.heap.size a l) (hn : l.length ≤ 1048576) (hg' : goodB wd hg l = false) :
    Calls Tryd.prog 53 #[.agg #[.int .i64 wd, .int .i64 hg, .slice a0 n0 c0], .slice a l.length c] w fun e w' => e = .returned (.tuple #[.agg #[.int .i64 0, .int .i64 0, .slice none 0 0], .bool false]) ∧ Below w.heap.size w w' := by
  have HC := Lib.hid (fun W h => implGood_is wd hg a l c _ false W h (Nat.le_refl _) hn hg')
  have I0 := ints_alloc (ints_alloc (ints_alloc hl (.cells #[.int .i64 wd, .int .i64 hg, .slice a0 n0 c0] 80)) (.cells #[.int .i64 0, .int .i64 0, .slice none 0 0] 80)) (.cells #[.int .i64 wd, .int .i64 hg, .slice a l.length c] 80)
  have R0 := ((Box.new (w.alloc (.cells #[.int .i64 wd, .int .i64 hg, .slice a0 n0 c0] 80)) 80 (.int .i64 0) (.int .i64 0) (.slice none 0 0)).alloc (.cells #[.int .i64 wd, .int .i64 hg, .slice a l.length c] 80))
  have F0 := Box.new ((w.alloc (.cells #[.int .i64 wd, .int .i64 hg, .slice a0 n0 c0] 80)).alloc (.cells #[.int .i64 0, .int .i64 0, .slice none 0 0] 80)) 80 (.int .i64 wd) (.int .i64 hg) (.slice a l.length c)
  simp only [World.size_alloc] at R0 F0
  have HI := Lib.hid I0
  have HR := Lib.hid R0
  have HF := Lib.hid F0
  have b4 : ∀ o1 o2 o3, Below w.heap.size w (((w.alloc o1).alloc o2).alloc o3) := fun o1 o2 o3 => (((Below.refl _ _).alloc (Nat.le_refl _) _).alloc (by simp) _).alloc (by simp; omega) _
  have HB := Lib.hid (b4 (.cells #[.int .i64 wd, .int .i64 hg, .slice a0 n0 c0] 80) (.cells #[.int .i64 0, .int .i64 0, .slice none 0 0] 80) (.cells #[.int .i64 wd, .int .i64 hg, .slice a l.length c] 80))
  clear hl hg' I0 R0 F0 b4
  go_enter Tryd.func53, Tryd.ntmps53
  go_wp2_with fail
  refine (HC.out _ HI.out).mono ?_
  rintro e w1 ⟨rfl, b1⟩
  have R1 := HR.out.below b1
  have F1 := HF.out.below b1
  have B1 := Lib.hid (below_then HB.out b1)
  obtain ⟨r0, r1, r2⟩ := R1.cells
  obtain ⟨f0, f1, f2⟩ := F1.cells
  have g0 := R1.frozen 0
  have g1 := R1.frozen 1
  have g2 := R1.frozen 2
  clear b1 R1 F1 HI HR HF HB
  go_wp2
  refine bodyPost_ret (v := .tuple #[.agg #[.int .i64 0, .int .i64 0, .slice none 0 0], .bool false]) (by simp [results, Tryd.results53, go_sem, r0, r1, r2]) rfl ⟨rfl, ?_⟩
  exact ((B1.out.setCell (by simp) _).setCell (by simp) _).setCell (by simp) _

theorem row_ints {w w1 : World} {a : Option Addr} {l : List Int} (h : Ints .i64 w w.heap.size a l) (b : Below w.heap.size w w1) : Ints .i64 w1 w1.heap.size a l := ints_below h b
set_option maxRecDepth 100000 in
set_option maxHeartbeats 4000000 in
theorem combCells_any (wa ha : Int) (aa : Option Addr) (la : List Int) (ca : Nat) (wb hb : Int) (ab : Option Addr) (lb : List Int) (cb g : Nat) (cap : Array Value) (r : Int → Int → Int) (w : World) (h1 : Ints .i64 w w.heap.size aa la) (h2 : Ints .i64 w w.heap.size ab lb) (n1 : la.length ≤ 1048576) (n2 : lb.length ≤ 1048576)
    (eg : Entered g) (hr : RuleAt g cap r w) :
    Calls Tryd.prog 63 #[.agg #[.int .i64 wa, .int .i64 ha, .slice aa la.length ca], .agg #[.int .i64 wb, .int .i64 hb, .slice ab lb.length cb], .func (.func g) #[] cap] w (FRet (combR r wa ha la wb hb lb) w) := by
  have F0 := Lib.hid (Fr2.new (wd0 := wa) (hg0 := ha) (c0 := ca) (wd1 := wb) (hg1 := hb) (c1 := cb) h1 h2)
  have HE := Lib.hid eg
  have HR := Lib.hid hr
  cases hs : sameB wa ha la wb hb lb with
  | false =>
    rw [combR_no hs]
    have hS := oneShape_is _ 2 2 _ _ _ _ _ false _ (fldRow_two (wa := wa) (ha := ha) (wb := wb) (hb := hb) (ca := ca) (cb := cb) 80 F0.out.i0 F0.out.i1 n1 n2) (by omega) (by omega) ((oneB_two wa ha la wb hb lb).trans hs)
    simp only [World.size_alloc] at hS
    have HS := Lib.hid hS
    clear hS
    clear h1 h2 eg hr hs
    go_enter Tryd.func63, Tryd.ntmps63
    go_wp2_with fail
    refine HS.out.mono ?_
    rintro e w1 ⟨rfl, b1⟩
    have F1 := Lib.hid ((F0.out.step (below_all _ _)).step (by simpa using b1))
    obtain ⟨r0, r1, r2⟩ := F1.out.r.cells
    have g0 := F1.out.r.frozen 0
    have g1 := F1.out.r.frozen 1
    have g2 := F1.out.r.frozen 2
    clear b1 F0
    go_wp2
    refine bodyPost_ret (v := .tuple #[.agg #[.int .i64 0, .int .i64 0, .slice none 0 0], .bool false]) (by simp [results, Tryd.results63, go_sem, r0, r1, r2]) rfl ⟨none, 0, rfl, OwnI.none_, ?_⟩
    exact ((F1.out.b.setCell (by simp <;> omega) _).setCell (by simp <;> omega) _).setCell (by simp <;> omega) _
  | true =>
    rw [combR_yes hs]
    have hS := oneShape_is _ 2 2 _ _ _ _ _ true _ (fldRow_two (wa := wa) (ha := ha) (wb := wb) (hb := hb) (ca := ca) (cb := cb) 80 F0.out.i0 F0.out.i1 n1 n2) (by omega) (by omega) ((oneB_two wa ha la wb hb lb).trans hs)
    simp only [World.size_alloc] at hS
    have HS := Lib.hid hS
    clear hS
    have hle := same_len hs
    obtain ⟨ga, gb, rfl, rfl⟩ := same_iff.1 hs
    have HP := Lib.hid (fun W i1 i2 (hb : Below w.heap.size w W) => pairI_any aa ab la lb ca cb g cap r W i1 i2 hle n1 HE.out (HR.out.later hb) (good_cell ga) (good_cell gb))
    have HZL := Lib.hid (zipR_len r hle)
    clear h1 h2 eg hr hs hle
    cases hz : goodB wa ha (zipR r la lb) with
    | false =>
      rw [cellsR_no hz]
      have HW := Lib.hid (fun a2 c2 W h => withCells_no wa ha aa la.length ca a2 (zipR r la lb) c2 W h (by rw [HZL.out]; exact n1) hz)
      clear hz
      generalize zipR r la lb = L at *
      clear HZL
      go_enter Tryd.func63, Tryd.ntmps63
      go_wp2_with fail
      refine HS.out.mono ?_
      rintro e w1 ⟨rfl, b1⟩
      have F1 := Lib.hid ((F0.out.step (below_all _ _)).step (by simpa using b1))
      have z1 := F1.out.r.lt
      obtain ⟨k0, k1, k2⟩ := F1.out.k0.cells
      obtain ⟨l0, l1, l2⟩ := F1.out.k1.cells
      clear b1 F0 HS
      have F1d := Lib.hid F1.out.drew
      have zd : w.heap.size + 3 ≤ w1.drew.heap.size := by have := F1.out.r.lt; show _ ≤ w1.heap.size; omega
      clear F1
      go_wp2_with fail
      go_region_held3 (fun w' => (w'.cell? ⟨w.heap.size, 0, none⟩ = some (.int .i64 wa) ∧ w'.cell? ⟨w.heap.size, 1, none⟩ = some (.int .i64 ha) ∧ w'.cell? ⟨w.heap.size, 2, none⟩ = some (.slice aa la.length ca)) ∧ (w'.cell? ⟨w.heap.size + 1, 0, none⟩ = some (.int .i64 wa) ∧ w'.cell? ⟨w.heap.size + 1, 1, none⟩ = some (.int .i64 ha) ∧ w'.cell? ⟨w.heap.size + 1, 2, none⟩ = some (.slice ab lb.length cb)))
        (first | exact ⟨(((F3.out.k0.other (p := ⟨w.heap.size + 1 + 1, 0, none⟩) (by show _ ≠ w.heap.size + 1 + 1; omega) _).other (p := ⟨w.heap.size + 1 + 1, 1, none⟩) (by show _ ≠ w.heap.size + 1 + 1; omega) _).other (p := ⟨w.heap.size + 1 + 1, 2, none⟩) (by show _ ≠ w.heap.size + 1 + 1; omega) _).cells, (((F3.out.k1.other (p := ⟨w.heap.size + 1 + 1, 0, none⟩) (by show _ ≠ w.heap.size + 1 + 1; omega) _).other (p := ⟨w.heap.size + 1 + 1, 1, none⟩) (by show _ ≠ w.heap.size + 1 + 1; omega) _).other (p := ⟨w.heap.size + 1 + 1, 2, none⟩) (by show _ ≠ w.heap.size + 1 + 1; omega) _).cells⟩ | exact ⟨F3.out.k0.cells, F3.out.k1.cells⟩ | exact ⟨F2.out.k0.cells, F2.out.k1.cells⟩ | go_keep)
        (first
          | (go_at_call 71; refine (HP.out _ F1d.out.i0 F1d.out.i1 F1d.out.b).mono ?_; rintro e w2 ⟨a2, c2, rfl, o2, b2⟩; have z2 := b2.size; have O2 := Lib.hid o2; have F2 := Lib.hid (F1d.out.step b2); clear o2 b2)
          | (go_at_call 53; refine (HW.out a2 c2 _ O2.out.ints).mono ?_; rintro e w3 ⟨rfl, b3⟩; have z3 := b3.size; have O3 := Lib.hid ((O2.out.below b3).more (C := w.heap.size + 3) (by omega)); have F3 := Lib.hid (F2.out.step b3); obtain ⟨r0, r1, r2⟩ := F3.out.r.cells; have g0 := F3.out.r.frozen 0; have g1 := F3.out.r.frozen 1; have g2 := F3.out.r.frozen 2; clear b3))
      rename_i hHeld
      clear hHeld
      go_wp2
      refine bodyPost_ret (v := .tuple #[.agg #[.int .i64 0, .int .i64 0, .slice none 0 0], .bool false]) (by simp [results, Tryd.results63, go_sem, r0, r1, r2]) rfl ⟨none, 0, rfl, OwnI.none_, ?_⟩
      exact ((F3.out.b.setCell (by simp <;> omega) _).setCell (by simp <;> omega) _).setCell (by simp <;> omega) _
    | true =>
      rw [cellsR_yes hz]
      have HW := Lib.hid (fun a2 c2 W h => withCells_yes wa ha aa la.length ca a2 (zipR r la lb) c2 W h (by rw [HZL.out]; exact n1) hz)
      clear hz
      generalize zipR r la lb = L at *
      clear HZL
      go_enter Tryd.func63, Tryd.ntmps63
      go_wp2_with fail
      refine HS.out.mono ?_
      rintro e w1 ⟨rfl, b1⟩
      have F1 := Lib.hid ((F0.out.step (below_all _ _)).step (by simpa using b1))
      have z1 := F1.out.r.lt
      obtain ⟨k0, k1, k2⟩ := F1.out.k0.cells
      obtain ⟨l0, l1, l2⟩ := F1.out.k1.cells
      clear b1 F0 HS
      have F1d := Lib.hid F1.out.drew
      have zd : w.heap.size + 3 ≤ w1.drew.heap.size := by have := F1.out.r.lt; show _ ≤ w1.heap.size; omega
      clear F1
      go_wp2_with fail
      go_region_held3 (fun w' => (w'.cell? ⟨w.heap.size, 0, none⟩ = some (.int .i64 wa) ∧ w'.cell? ⟨w.heap.size, 1, none⟩ = some (.int .i64 ha) ∧ w'.cell? ⟨w.heap.size, 2, none⟩ = some (.slice aa la.length ca)) ∧ (w'.cell? ⟨w.heap.size + 1, 0, none⟩ = some (.int .i64 wa) ∧ w'.cell? ⟨w.heap.size + 1, 1, none⟩ = some (.int .i64 ha) ∧ w'.cell? ⟨w.heap.size + 1, 2, none⟩ = some (.slice ab lb.length cb)))
        (first | exact ⟨(((F3.out.k0.other (p := ⟨w.heap.size + 1 + 1, 0, none⟩) (by show _ ≠ w.heap.size + 1 + 1; omega) _).other (p := ⟨w.heap.size + 1 + 1, 1, none⟩) (by show _ ≠ w.heap.size + 1 + 1; omega) _).other (p := ⟨w.heap.size + 1 + 1, 2, none⟩) (by show _ ≠ w.heap.size + 1 + 1; omega) _).cells, (((F3.out.k1.other (p := ⟨w.heap.size + 1 + 1, 0, none⟩) (by show _ ≠ w.heap.size + 1 + 1; omega) _).other (p := ⟨w.heap.size + 1 + 1, 1, none⟩) (by show _ ≠ w.heap.size + 1 + 1; omega) _).other (p := ⟨w.heap.size + 1 + 1, 2, none⟩) (by show _ ≠ w.heap.size + 1 + 1; omega) _).cells⟩ | exact ⟨F3.out.k0.cells, F3.out.k1.cells⟩ | exact ⟨F2.out.k0.cells, F2.out.k1.cells⟩ | go_keep)
        (first
          | (go_at_call 71; refine (HP.out _ F1d.out.i0 F1d.out.i1 F1d.out.b).mono ?_; rintro e w2 ⟨a2, c2, rfl, o2, b2⟩; have z2 := b2.size; have O2 := Lib.hid o2; have F2 := Lib.hid (F1d.out.step b2); clear o2 b2)
          | (go_at_call 53; refine (HW.out a2 c2 _ O2.out.ints).mono ?_; rintro e w3 ⟨rfl, b3⟩; have z3 := b3.size; have O3 := Lib.hid ((O2.out.below b3).more (C := w.heap.size + 3) (by omega)); have F3 := Lib.hid (F2.out.step b3); obtain ⟨r0, r1, r2⟩ := F3.out.r.cells; have g0 := F3.out.r.frozen 0; have g1 := F3.out.r.frozen 1; have g2 := F3.out.r.frozen 2; clear b3))
      rename_i hHeld
      clear hHeld
      go_wp2
      refine bodyPost_ret (v := .tuple #[.agg #[.int .i64 wa, .int .i64 ha, .slice a2 L.length c2], .bool true]) (by simp [results, Tryd.results63, go_sem, r0, r1, r2]) rfl ⟨a2, c2, rfl, ?_, ?_⟩
      · exact ((ownI_set (ownI_set (ownI_set O3.out (by omega) _) (by omega) _) (by omega) _)).more (by omega)
      · exact ((F3.out.b.setCell (by simp <;> omega) _).setCell (by simp <;> omega) _).setCell (by simp <;> omega) _
end Go.Proofs.YtikglddifoalfaaDoor
namespace Go.Proofs.YtikglddifoalfaaDoor
open Go.RowKit
set_option linter.unusedVariables false
set_option linter.unusedSimpArgs false
def isV (x : Int) : Prop := -9000 ≤ x ∧ x ≤ 9000
/-- at two values it hands back r of them -/
def ValAt (g : Nat) (lb : Array Value) (r : Int → Int → Int) (w : World) : Prop :=
  ∀ (W : World) (x y : Int), isV x → isV y → Below w.heap.size w W → Calls Tryd.prog g (#[.int .i64 x, .int .i64 y] ++ lb) W fun e w' => e = .returned (.int .i64 (r x y)) ∧ Below W.heap.size W w'
/-- at a value it hands back f of it -/
def OneAt (g : Nat) (lb : Array Value) (f : Int → Int) (w : World) : Prop :=
  ∀ (W : World) (x : Int), isV x → Below w.heap.size w W → Calls Tryd.prog g (#[.int .i64 x] ++ lb) W fun e w' => e = .returned (.int .i64 (f x)) ∧ Below W.heap.size W w'
theorem RuleAt.vals {g : Nat} {lb : Array Value} {r : Int → Int → Int} {w : World} (h : RuleAt g lb r w) : ValAt g lb r w :=
  fun W x y hx hy hb => h W x y (cellB_iff.2 (.inr hx)) (cellB_iff.2 (.inr hy)) hb
theorem ValAt.later {g : Nat} {lb : Array Value} {r : Int → Int → Int} {w W : World} (h : ValAt g lb r w) (hb : Below w.heap.size w W) : ValAt g lb r W :=
  fun W' x y hx hy hb' => h W' x y hx hy (below_then hb hb')
theorem OneAt.later {g : Nat} {lb : Array Value} {f : Int → Int} {w W : World} (h : OneAt g lb f w) (hb : Below w.heap.size w W) : OneAt g lb f W :=
  fun W' x hx hb' => h W' x hx (below_then hb hb')
theorem ent_ofV : Entered 72 := enters_of Tryd.func72 (by kernel_rfl) rfl
theorem ent_chV : Entered 66 := enters_of Tryd.func66 (by kernel_rfl) rfl

set_option maxHeartbeats 1000000 in
theorem ofV_rule {B g : Nat} {lb : Array Value} {r : Int → Int → Int} {w : World} (hB : B < w.heap.size) (hc : w.cell? ⟨B, 0, none⟩ = some (.func (.func g) #[] lb)) (eg : Entered g) (hr : ValAt g lb r w) :
    RuleAt 72 #[.pointer (some ⟨B, 0, none⟩)] (ofV r) w := by
  intro W x y hx hy hb
  show Calls Tryd.prog 72 #[.int .i64 x, .int .i64 y, .pointer (some ⟨B, 0, none⟩)] W _
  have hc' : W.cell? ⟨B, 0, none⟩ = some (.func (.func g) #[] lb) := (hb.cell (p := ⟨B, 0, none⟩) hB).trans hc
  unfold Entered at eg
  have HX := Lib.hid hx
  have HY := Lib.hid hy
  have HBW := Lib.hid hb
  have HR := Lib.hid hr
  clear hx hy hc hr hb
  by_cases h1 : x = -9999
  · rw [ofV_gone (.inl h1)]
    subst h1
    go_enter Tryd.func72, Tryd.ntmps72
    go_wp2
    go_ret
    exact ⟨rfl, Below.refl _ _⟩
  · have e1 : (x == -9999) = false := by rw [beq_eq_false_iff_ne]; exact h1
    by_cases h2 : y = -9999
    · rw [ofV_gone (.inr h2)]
      subst h2
      clear h1
      go_enter Tryd.func72, Tryd.ntmps72
      go_wp2
      go_ret
      exact ⟨rfl, Below.refl _ _⟩
    · have e2 : (y == -9999) = false := by rw [beq_eq_false_iff_ne]; exact h2
      have vx : isV x := by rcases cellB_iff.1 HX.out with h | h; exact absurd h h1; exact h
      have vy : isV y := by rcases cellB_iff.1 HY.out with h | h; exact absurd h h2; exact h
      have hcall := HR.out W x y vx vy HBW.out
      have HN := Lib.hid (show ¬ (x = -9999 ∨ y = -9999) by omega)
      have HC := Lib.hid hcall
      clear h1 h2 vx vy hcall HR
      cases hv : valB (r x y) with
      | true =>
        rw [ofV_yes HN.out hv]
        have HVV := Lib.hid (fun W => implValue_is (r x y) true W hv)
        clear hv
        generalize r x y = z at *
        go_enter Tryd.func72, Tryd.ntmps72
        go_wp2_with (first | (go_at_fn g; refine HC.out.mono ?_; rintro e w1 ⟨rfl, bb⟩; have BB := Lib.hid bb; clear bb) | (go_at_call 65; refine (HVV.out _).mono ?_; rintro e w2 ⟨rfl, rfl⟩))
        go_ret
        exact ⟨rfl, BB.out⟩
      | false =>
        rw [ofV_no HN.out hv]
        have HVV := Lib.hid (fun W => implValue_is (r x y) false W hv)
        clear hv
        generalize r x y = z at *
        go_enter Tryd.func72, Tryd.ntmps72
        go_wp2_with (first | (go_at_fn g; refine HC.out.mono ?_; rintro e w1 ⟨rfl, bb⟩; have BB := Lib.hid bb; clear bb) | (go_at_call 65; refine (HVV.out _).mono ?_; rintro e w2 ⟨rfl, rfl⟩))
        go_ret
        exact ⟨rfl, BB.out⟩

set_option maxHeartbeats 1000000 in
theorem one_rule {B g : Nat} {lb : Array Value} {f : Int → Int} {w : World} (hB : B < w.heap.size) (hc : w.cell? ⟨B, 0, none⟩ = some (.func (.func g) #[] lb)) (eg : Entered g) (hr : OneAt g lb f w) :
    ValAt 66 #[.pointer (some ⟨B, 0, none⟩)] (fun a _ => f a) w := by
  intro W x y hx hy hb
  show Calls Tryd.prog 66 #[.int .i64 x, .int .i64 y, .pointer (some ⟨B, 0, none⟩)] W fun e w' => e = .returned (.int .i64 (f x)) ∧ Below W.heap.size W w'
  have hc' : W.cell? ⟨B, 0, none⟩ = some (.func (.func g) #[] lb) := (hb.cell (p := ⟨B, 0, none⟩) hB).trans hc
  unfold Entered at eg
  have HC := Lib.hid (hr W x hx hb)
  clear hx hy hc hr hb
  generalize f x = z at *
  go_enter Tryd.func66, Tryd.ntmps66
  go_wp2_with (first | (go_at_fn g; refine HC.out.mono ?_; rintro e w1 ⟨rfl, bb⟩; have BB := Lib.hid bb; clear bb))
  go_ret
  exact ⟨rfl, BB.out⟩

theorem ofValues_any (g : Nat) (lb : Array Value) (w : World) :
    Calls Tryd.prog 64 #[.func (.func g) #[] lb] w fun e w' => e = .returned (.func (.func 72) #[] #[.pointer (some ⟨w.heap.size, 0, none⟩)]) ∧ w' = w.alloc (.cells #[.func (.func g) #[] lb] 95) := by
  go_enter Tryd.func64, Tryd.ntmps64
  go_wp2
  go_ret
  exact ⟨rfl, rfl⟩
end Go.Proofs.YtikglddifoalfaaDoor
namespace Go.Proofs.YtikglddifoalfaaDoor
open Go.RowKit
set_option linter.unusedVariables false
set_option linter.unusedSimpArgs false
theorem cell_below {w w' : World} {b o : Nat} {v : Value} (h : w.cell? ⟨b, o, none⟩ = some v) (hb : b < w.heap.size) (k : Below w.heap.size w w') : w'.cell? ⟨b, o, none⟩ = some v := (k.cell (p := ⟨b, o, none⟩) hb).trans h
set_option maxRecDepth 100000 in
set_option maxHeartbeats 4000000 in
theorem changeV_any (wd hg : Int) (a : Option Addr) (l : List Int) (c g : Nat) (lb : Array Value) (f : Int → Int) (w : World) (hl : Ints .i64 w w.heap.size a l) (hn : l.length ≤ 1048576) (eg : Entered g) (hr : OneAt g lb f w) :
    Calls Tryd.prog 60 #[.agg #[.int .i64 wd, .int .i64 hg, .slice a l.length c], .func (.func g) #[] lb] w (FRet (mapR f wd hg l) w) := by
  have I0 := ints_alloc (ints_alloc (ints_alloc hl (.cells #[.int .i64 wd, .int .i64 hg, .slice a l.length c] 80)) (.cells #[.func (.func g) #[] lb] 68)) (.cells #[.int .i64 0, .int .i64 0, .slice none 0 0] 80)
  have K0 := ((Box.new w 80 (.int .i64 wd) (.int .i64 hg) (.slice a l.length c)).alloc (.cells #[.func (.func g) #[] lb] 68)).alloc (.cells #[.int .i64 0, .int .i64 0, .slice none 0 0] 80)
  have C0 : (((w.alloc (.cells #[.int .i64 wd, .int .i64 hg, .slice a l.length c] 80)).alloc (.cells #[.func (.func g) #[] lb] 68)).alloc (.cells #[.int .i64 0, .int .i64 0, .slice none 0 0] 80)).cell? ⟨w.heap.size + 1, 0, none⟩ = some (.func (.func g) #[] lb) := by
    rw [World.cell?_alloc_past _ _ _ (by simp), World.cell?_alloc_at _ _ _ _ (by simp)]; rfl
  have R0 := Box.new ((w.alloc (.cells #[.int .i64 wd, .int .i64 hg, .slice a l.length c] 80)).alloc (.cells #[.func (.func g) #[] lb] 68)) 80 (.int .i64 0) (.int .i64 0) (.slice none 0 0)
  simp only [World.size_alloc] at R0
  have b3 : ∀ o1 o2 o3, Below w.heap.size w (((w.alloc o1).alloc o2).alloc o3) := fun o1 o2 o3 => (((Below.refl _ _).alloc (Nat.le_refl _) _).alloc (by simp) _).alloc (by simp; omega) _
  have B0 := b3 (.cells #[.int .i64 wd, .int .i64 hg, .slice a l.length c] 80) (.cells #[.func (.func g) #[] lb] 68) (.cells #[.int .i64 0, .int .i64 0, .slice none 0 0] 80)
  have HG := Lib.hid eg
  have HR := Lib.hid hr
  unfold mapR at *
  have HCC := Lib.hid (fun g' cap W i1 i2 e1 (e2 : RuleAt g' cap (ofV fun a _ => f a) W) => combCells_any wd hg a l c wd hg a l c g' cap (ofV fun a _ => f a) W i1 i2 hn hn e1 e2)
  have HRU := Lib.hid (fun (W : World) B (hB : B < W.heap.size) (hc : W.cell? ⟨B, 0, none⟩ = some (.func (.func 66) #[] #[.pointer (some ⟨w.heap.size + 1, 0, none⟩)])) (h1 : w.heap.size + 1 < W.heap.size) (h2 : W.cell? ⟨w.heap.size + 1, 0, none⟩ = some (.func (.func g) #[] lb)) (hb : Below w.heap.size w W) => ofV_rule (r := fun a _ => f a) hB hc ent_chV (one_rule h1 h2 HG.out (HR.out.later hb)))
  clear hl eg hr b3
  generalize (ofV fun a _ => f a) = rule at *
  generalize combR rule wd hg l wd hg l = rr at *
  obtain ⟨rw', hrW⟩ : ∃ x, rW rr = x := ⟨_, rfl⟩
  obtain ⟨rh, hrH⟩ : ∃ x, rH rr = x := ⟨_, rfl⟩
  obtain ⟨rl, hrL⟩ : ∃ x, rL rr = x := ⟨_, rfl⟩
  obtain ⟨rb, hrB⟩ : ∃ x, rB rr = x := ⟨_, rfl⟩
  unfold FRet at HCC ⊢
  rw [hrW, hrH, hrL, hrB] at HCC ⊢
  clear hrW hrH hrL hrB
  obtain ⟨W, hW⟩ : ∃ W, ((w.alloc (.cells #[.int .i64 wd, .int .i64 hg, .slice a l.length c] 80)).alloc (.cells #[.func (.func g) #[] lb] 68)).alloc (.cells #[.int .i64 0, .int .i64 0, .slice none 0 0] 80) = W := ⟨_, rfl⟩
  rw [hW] at I0 K0 C0 R0 B0
  have bd : Below W.heap.size W W.drew := ⟨rfl, rfl, rfl, Nat.le_refl _, fun _ _ => rfl⟩
  have zw : W.heap.size = w.heap.size + 1 + 1 + 1 := by rw [← hW]; simp
  have Id := Lib.hid (ints_below I0 bd)
  have Kd := Lib.hid (K0.below bd)
  have Cd := Lib.hid (cell_below C0 (by omega) bd)
  have Rd := Lib.hid (R0.below bd)
  have Bd := Lib.hid (below_then B0 bd)
  have zd : W.drew.heap.size = w.heap.size + 1 + 1 + 1 := zw
  have ZD := Lib.hid zd
  have HWW := Lib.hid hW
  obtain ⟨k0, k1, k2⟩ := K0.cells
  clear I0 K0 C0 R0 B0 bd zw zd hW
  go_enter Tryd.func60, Tryd.ntmps60
  go_wp2_with fail
  rw [HWW.out]
  go_region_held3 (fun w' => w'.cell? ⟨w.heap.size, 0, none⟩ = some (.int .i64 wd) ∧ w'.cell? ⟨w.heap.size, 1, none⟩ = some (.int .i64 hg) ∧ w'.cell? ⟨w.heap.size, 2, none⟩ = some (.slice a l.length c))
    (first | exact (((K3.out.other (p := ⟨w.heap.size + 1 + 1, 0, none⟩) (by show _ ≠ w.heap.size + 1 + 1; omega) _).other (p := ⟨w.heap.size + 1 + 1, 1, none⟩) (by show _ ≠ w.heap.size + 1 + 1; omega) _).other (p := ⟨w.heap.size + 1 + 1, 2, none⟩) (by show _ ≠ w.heap.size + 1 + 1; omega) _).cells | exact K3.out.cells | exact K2.out.cells | go_keep)
    (first
      | (go_at_call 64; refine (ofValues_any _ _ _).mono ?_; rintro e w2 ⟨rfl, hw2⟩; have b2 : Below W.drew.heap.size W.drew w2 := by rw [hw2]; exact below_all _ _
         have z2 : w2.heap.size = W.drew.heap.size + 1 := by rw [hw2]; simp
         have c2 : w2.cell? ⟨W.drew.heap.size, 0, none⟩ = some (.func (.func 66) #[] #[.pointer (some ⟨w.heap.size + 1, 0, none⟩)]) := by rw [hw2, World.cell?_alloc_at _ _ _ _ rfl]; rfl
         have I2 := Lib.hid (ints_below Id.out b2); have K2 := Lib.hid (Kd.out.below b2); have R2 := Lib.hid (Rd.out.below b2); have B2 := Lib.hid (below_then Bd.out b2)
         have RU := Lib.hid (HRU.out w2 W.drew.heap.size (by omega) c2 (by have := ZD.out; omega) (cell_below Cd.out (by have := ZD.out; omega) b2) B2.out); have Z2 := Lib.hid z2; clear hw2 b2 z2 c2)
      | (go_at_call 63; refine (HCC.out _ _ _ I2.out I2.out ent_ofV RU.out).mono ?_; rintro e w3 ⟨a3, c3, rfl, o3, b3⟩; have O3 := Lib.hid (o3.more (C := w.heap.size + 3) (by have := Z2.out; have := ZD.out; omega)); have K3 := Lib.hid (K2.out.below b3); have R3 := R2.out.below b3; have B3 := Lib.hid (below_then B2.out b3); obtain ⟨r0, r1, r2⟩ := R3.cells; have g0 := R3.frozen 0; have g1 := R3.frozen 1; have g2 := R3.frozen 2; clear o3 b3 R3))
  rename_i hHeld
  clear hHeld
  go_wp2
  refine bodyPost_ret (v := .tuple #[.agg #[.int .i64 rw', .int .i64 rh, .slice a3 rl.length c3], .bool rb]) (by simp [results, Tryd.results60, go_sem, r0, r1, r2]) rfl ⟨a3, c3, rfl, ?_, ?_⟩
  · exact (ownI_set (ownI_set (ownI_set O3.out (by show w.heap.size + 1 + 1 < _; omega) _) (by show w.heap.size + 1 + 1 < _; omega) _) (by show w.heap.size + 1 + 1 < _; omega) _).more (by omega)
  · exact ((B3.out.setCell (by simp <;> omega) _).setCell (by simp <;> omega) _).setCell (by simp <;> omega) _
end Go.Proofs.YtikglddifoalfaaDoor
namespace Go.Proofs.YtikglddifoalfaaDoor
open Go.RowKit
set_option linter.unusedVariables false
set_option linter.unusedSimpArgs false
theorem floor_low {n d : Int} (hd : 0 < d) (h : n.tmod d < 0) : n.tdiv d - 1 = n / d := by
  have h1 := Int.tmod_add_mul_tdiv n d
  have h2 := Int.lt_tmod_of_pos n hd
  have h3 : n = (n.tmod d + d) + (n.tdiv d - 1) * d := by rw [Int.sub_mul, Int.one_mul, Int.mul_comm (n.tdiv d)]; omega
  conv => rhs; rw [h3, Int.add_mul_ediv_right _ _ (by omega), Int.ediv_eq_zero_of_lt (by omega) (by omega)]
  omega
theorem floor_at {n d : Int} (hd : 0 < d) (h : 0 ≤ n.tmod d) : n.tdiv d = n / d := by
  have h1 := Int.tmod_add_mul_tdiv n d
  have h2 := Int.tmod_lt_of_pos n hd
  have h3 : n = n.tmod d + n.tdiv d * d := by rw [Int.mul_comm (n.tdiv d)]; omega
  conv => rhs; rw [h3, Int.add_mul_ediv_right _ _ (by omega), Int.ediv_eq_zero_of_lt (by omega) (by omega)]
  omega
theorem ent_exc : Entered 61 := enters_of Tryd.func61 (by kernel_rfl) rfl
set_option maxHeartbeats 1000000 in
theorem exc_one {B0 : Nat} {limit : Int} {w : World} (hlimit : B0 < w.heap.size) (climit : w.cell? ⟨B0, 0, none⟩ = some (.int .i64 limit))  : OneAt 61 #[.pointer (some ⟨B0, 0, none⟩)] (exF limit) w := by
  intro W x hx hb
  show Calls Tryd.prog 61 #[.int .i64 x, .pointer (some ⟨B0, 0, none⟩)] W fun e w' => e = .returned (.int .i64 (exF limit x)) ∧ Below W.heap.size W w'
  have dlimit := cell_below climit hlimit hb
  obtain ⟨x1, x2⟩ := hx
  clear hb climit
  by_cases h : limit < x
  · have e : exF limit x = 1 := if_pos h
    rw [e]
    clear e
    go_enter Tryd.func61, Tryd.ntmps61
    go_wp2
    go_ret
    exact ⟨rfl, Below.refl _ _⟩
  · have e : exF limit x = 0 := if_neg h
    rw [e]
    clear e
    go_enter Tryd.func61, Tryd.ntmps61
    go_wp2
    go_ret
    exact ⟨rfl, Below.refl _ _⟩
theorem scale_hi {x n : Int} (x1 : -9000 ≤ x) (x2 : x ≤ 9000) (k1 : -100 ≤ n) (k2 : n ≤ 100) : x * n ≤ 900000 := by
  rcases Int.lt_or_le n 0 with h | h
  · have h1 : (9000 + x) * -n ≥ 0 := Int.mul_nonneg (by omega) (by omega)
    rw [Int.add_mul, Int.mul_neg, Int.mul_neg] at h1
    omega
  · have h1 : (9000 - x) * n ≥ 0 := Int.mul_nonneg (by omega) (by omega)
    rw [Int.sub_mul] at h1
    omega
theorem scale_lo {x n : Int} (x1 : -9000 ≤ x) (x2 : x ≤ 9000) (k1 : -100 ≤ n) (k2 : n ≤ 100) : -900000 ≤ x * n := by
  have h := scale_hi (x := -x) (n := n) (by omega) (by omega) k1 k2
  rw [Int.neg_mul] at h
  omega
set_option maxRecDepth 100000 in
set_option maxHeartbeats 4000000 in
theorem implExceeds_any (wd hg : Int) (a : Option Addr) (l : List Int) (c : Nat) (limit : Int) (w : World) (hl : Ints .i64 w w.heap.size a l) (hn : l.length ≤ 1048576) :
    Calls Tryd.prog 56 #[.agg #[.int .i64 wd, .int .i64 hg, .slice a l.length c], .int .i64 limit] w (FRet (exceedsR wd hg l limit) w) := by
  have I0 := (ints_alloc (ints_alloc (ints_alloc hl (.cells #[.int .i64 wd, .int .i64 hg, .slice a l.length c] 80)) (.cells #[.int .i64 limit] 3)) (.cells #[.int .i64 0, .int .i64 0, .slice none 0 0] 80))
  have R0 := Box.new ((w.alloc (.cells #[.int .i64 wd, .int .i64 hg, .slice a l.length c] 80)).alloc (.cells #[.int .i64 limit] 3)) 80 (.int .i64 0) (.int .i64 0) (.slice none 0 0)
  simp only [World.size_alloc] at R0
  have B0 : Below w.heap.size w (((w.alloc (.cells #[.int .i64 wd, .int .i64 hg, .slice a l.length c] 80)).alloc (.cells #[.int .i64 limit] 3)).alloc (.cells #[.int .i64 0, .int .i64 0, .slice none 0 0] 80)) := ((((Below.refl w.heap.size w).alloc (by simp <;> omega) (.cells #[.int .i64 wd, .int .i64 hg, .slice a l.length c] 80)).alloc (by simp <;> omega) (.cells #[.int .i64 limit] 3)).alloc (by simp <;> omega) (.cells #[.int .i64 0, .int .i64 0, .slice none 0 0] 80))
  have C0 : (((w.alloc (.cells #[.int .i64 wd, .int .i64 hg, .slice a l.length c] 80)).alloc (.cells #[.int .i64 limit] 3)).alloc (.cells #[.int .i64 0, .int .i64 0, .slice none 0 0] 80)).cell? ⟨w.heap.size + 1, 0, none⟩ = some (.int .i64 limit) := by rw [World.cell?_alloc_past _ _ _ (by simp)]; rw [World.cell?_alloc_at _ _ _ _ (by simp)]; rfl
  have zw : (((w.alloc (.cells #[.int .i64 wd, .int .i64 hg, .slice a l.length c] 80)).alloc (.cells #[.int .i64 limit] 3)).alloc (.cells #[.int .i64 0, .int .i64 0, .slice none 0 0] 80)).heap.size = w.heap.size + 1 + 1 + 1 := by simp
  generalize hW : (((w.alloc (.cells #[.int .i64 wd, .int .i64 hg, .slice a l.length c] 80)).alloc (.cells #[.int .i64 limit] 3)).alloc (.cells #[.int .i64 0, .int .i64 0, .slice none 0 0] 80)) = W at I0 R0 B0 zw C0
  unfold exceedsR
  have HC := Lib.hid (changeV_any wd hg a l c 61 #[.pointer (some ⟨w.heap.size + 1, 0, none⟩)] (exF limit) W I0 hn ent_exc (exc_one (by omega) C0))
  have HW := Lib.hid hW
  have HR := Lib.hid R0
  have HB := Lib.hid B0
  have HZ := Lib.hid zw
  clear hl I0 R0 B0 zw hW C0
  generalize mapR (exF limit) wd hg l = rr at *
  go_enter Tryd.func56, Tryd.ntmps56
  go_wp2_with fail
  rw [HW.out]
  refine HC.out.mono ?_
  rintro e w1 ⟨a1, c1, rfl, o1, b1⟩
  have O1 := Lib.hid (o1.more (C := w.heap.size + 1 + 1 + 1) (by have := HZ.out; omega))
  have R1 := HR.out.below b1
  have B1 := Lib.hid (below_then HB.out b1)
  obtain ⟨r0, r1, r2⟩ := R1.cells
  have g0 := R1.frozen 0
  have g1 := R1.frozen 1
  have g2 := R1.frozen 2
  clear o1 b1 R1 HC HW HR
  go_wp2
  refine bodyPost_ret (v := .tuple #[.agg #[.int .i64 (rW rr), .int .i64 (rH rr), .slice a1 (rL rr).length c1], .bool (rB rr)]) (by simp [results, Tryd.results56, go_sem, r0, r1, r2]) rfl ⟨a1, c1, rfl, ?_, ?_⟩
  · exact (ownI_set (ownI_set (ownI_set O1.out (by show w.heap.size + 1 + 1 < _; omega) _) (by show w.heap.size + 1 + 1 < _; omega) _) (by show w.heap.size + 1 + 1 < _; omega) _).more (by omega)
  · exact ((B1.out.setCell (by show w.heap.size ≤ w.heap.size + 1 + 1; omega) _).setCell (by show w.heap.size ≤ w.heap.size + 1 + 1; omega) _).setCell (by show w.heap.size ≤ w.heap.size + 1 + 1; omega) _

end Go.Proofs.YtikglddifoalfaaDoor
namespace Go.Proofs.YtikglddifoalfaaDoor
open Go.RowKit
set_option linter.unusedVariables false
set_option linter.unusedSimpArgs false
theorem ent_op1 : Entered 67 := enters_of Tryd.func67 (by kernel_rfl) rfl
theorem ent_op2 : Entered 68 := enters_of Tryd.func68 (by kernel_rfl) rfl
theorem ent_op3 : Entered 69 := enters_of Tryd.func69 (by kernel_rfl) rfl
theorem ent_op4 : Entered 70 := enters_of Tryd.func70 (by kernel_rfl) rfl
/-- ruleOf's answer: a rule -/
def RuleRet (op : Int) (w : World) (e : Ending) (w' : World) : Prop := ∃ g, Entered g ∧ (∀ W, RuleAt g #[] (opF op) W) ∧ e = .returned (.tuple #[.func (.func g) #[] #[], .bool true]) ∧ w = w'
set_option maxHeartbeats 1000000 in
theorem ruleOf_yes (op : Int) (w : World) (h : opB op = true) : Calls Tryd.prog 62 #[.int .i64 op] w (RuleRet op w) := by
  unfold opB at h
  simp only [Bool.and_eq_true, decide_eq_true_eq] at h
  obtain ⟨h1, h2⟩ := h
  rcases (by omega : op = 1 ∨ op = 2 ∨ op = 3 ∨ op = 4) with rfl | rfl | rfl | rfl
  · clear h1 h2
    go_enter Tryd.func62, Tryd.ntmps62
    go_wp2
    go_ret2
    exact ⟨_, ent_op1, add_rule, rfl, rfl⟩
  · clear h1 h2
    go_enter Tryd.func62, Tryd.ntmps62
    go_wp2
    go_ret2
    exact ⟨_, ent_op2, sub_rule, rfl, rfl⟩
  · clear h1 h2
    go_enter Tryd.func62, Tryd.ntmps62
    go_wp2
    go_ret2
    exact ⟨_, ent_op3, least_rule, rfl, rfl⟩
  · clear h1 h2
    go_enter Tryd.func62, Tryd.ntmps62
    go_wp2
    go_ret2
    exact ⟨_, ent_op4, most_rule, rfl, rfl⟩
set_option maxHeartbeats 1000000 in
theorem ruleOf_no (op : Int) (w : World) (h : opB op = false) : Calls Tryd.prog 62 #[.int .i64 op] w fun e w' => e = .returned (.tuple #[.nilFunc, .bool false]) ∧ w = w' := by
  unfold opB at h
  rw [Bool.and_eq_false_iff, decide_eq_false_iff_not, decide_eq_false_iff_not] at h
  have e1 : (op == 1) = false := by rw [beq_eq_false_iff_ne]; omega
  have e2 : (op == 2) = false := by rw [beq_eq_false_iff_ne]; omega
  have e3 : (op == 3) = false := by rw [beq_eq_false_iff_ne]; omega
  have e4 : (op == 4) = false := by rw [beq_eq_false_iff_ne]; omega
  clear h
  go_enter Tryd.func62, Tryd.ntmps62
  go_wp2
  go_ret2
  exact ⟨rfl, rfl⟩
set_option maxRecDepth 100000 in
set_option maxHeartbeats 4000000 in
theorem implCombine_any (op wa ha : Int) (aa : Option Addr) (la : List Int) (ca : Nat) (wb hb : Int) (ab : Option Addr) (lb : List Int) (cb : Nat) (w : World) (h1 : Ints .i64 w w.heap.size aa la) (h2 : Ints .i64 w w.heap.size ab lb) (n1 : la.length ≤ 1048576) (n2 : lb.length ≤ 1048576) :
    Calls Tryd.prog 57 #[.int .i64 op, .agg #[.int .i64 wa, .int .i64 ha, .slice aa la.length ca], .agg #[.int .i64 wb, .int .i64 hb, .slice ab lb.length cb]] w (FRet (combineR op wa ha la wb hb lb) w) := by
  have F0 := Lib.hid (Fr2.new (wd0 := wa) (hg0 := ha) (c0 := ca) (wd1 := wb) (hg1 := hb) (c1 := cb) h1 h2)
  cases ho : opB op with
  | false =>
    have e : combineR op wa ha la wb hb lb = none := by unfold combineR; rw [if_neg (by rw [ho]; simp)]
    rw [e]
    have HO := Lib.hid (fun W => ruleOf_no op W ho)
    obtain ⟨r0, r1, r2⟩ := F0.out.r.cells
    have g0 := F0.out.r.frozen 0
    have g1 := F0.out.r.frozen 1
    have g2 := F0.out.r.frozen 2
    have B1 := Lib.hid F0.out.b
    clear h1 h2 ho e F0
    go_enter Tryd.func57, Tryd.ntmps57
    go_wp2_with (go_at_call 62; refine (HO.out _).mono ?_; rintro e w1 ⟨rfl, rfl⟩)
    refine bodyPost_ret (v := .tuple #[.agg #[.int .i64 0, .int .i64 0, .slice none 0 0], .bool false]) (by simp [results, Tryd.results57, go_sem, r0, r1, r2]) rfl ⟨none, 0, rfl, OwnI.none_, ?_⟩
    first | exact B1.out | exact ((B1.out.setCell (by simp <;> omega) _).setCell (by simp <;> omega) _).setCell (by simp <;> omega) _
  | true =>
    have e : combineR op wa ha la wb hb lb = combR (ofV (opF op)) wa ha la wb hb lb := by unfold combineR; rw [if_pos ho]
    rw [e]
    have HO := Lib.hid (fun W => ruleOf_yes op W ho)
    have HCC := Lib.hid (fun g' cap W i1 i2 e1 (e2 : RuleAt g' cap (ofV (opF op)) W) => combCells_any wa ha aa la ca wb hb ab lb cb g' cap (ofV (opF op)) W i1 i2 n1 n2 e1 e2)
    have HRU := Lib.hid (fun (W : World) B g (hB : B < W.heap.size) (hc : W.cell? ⟨B, 0, none⟩ = some (.func (.func g) #[] #[])) (eg : Entered g) (hr : ∀ W, RuleAt g #[] (opF op) W) => ofV_rule (r := opF op) hB hc eg (hr W).vals)
    unfold RuleRet at HO
    clear h1 h2 ho e
    generalize ofV (opF op) = rule at *
    generalize opF op = rule0 at *
    generalize combR rule wa ha la wb hb lb = rr at *
    obtain ⟨rw', hrW⟩ : ∃ x, rW rr = x := ⟨_, rfl⟩
    obtain ⟨rh, hrH⟩ : ∃ x, rH rr = x := ⟨_, rfl⟩
    obtain ⟨rl, hrL⟩ : ∃ x, rL rr = x := ⟨_, rfl⟩
    obtain ⟨rb, hrB⟩ : ∃ x, rB rr = x := ⟨_, rfl⟩
    unfold FRet at HCC ⊢
    rw [hrW, hrH, hrL, hrB] at HCC ⊢
    clear hrW hrH hrL hrB
    obtain ⟨W, hW⟩ : ∃ W, ((w.alloc (.cells #[.int .i64 wa, .int .i64 ha, .slice aa la.length ca] 80)).alloc (.cells #[.int .i64 wb, .int .i64 hb, .slice ab lb.length cb] 80)).alloc (.cells #[.int .i64 0, .int .i64 0, .slice none 0 0] 80) = W := ⟨_, rfl⟩
    rw [hW] at F0
    have zd : W.drew.heap.size = w.heap.size + 1 + 1 + 1 := by show W.heap.size = _; rw [← hW]; simp
    have Fd := Lib.hid F0.out.drew
    have ZD := Lib.hid zd
    have HWW := Lib.hid hW
    obtain ⟨k0, k1, k2⟩ := F0.out.k0.cells
    obtain ⟨l0, l1, l2⟩ := F0.out.k1.cells
    clear zd hW
    go_enter Tryd.func57, Tryd.ntmps57
    go_wp2_with fail
    rw [HWW.out]
    refine (HO.out _).mono ?_
    rintro e w1 ⟨g, eg, hr, rfl, rfl⟩
    have EG := Lib.hid eg
    have HR := Lib.hid hr
    clear eg hr
    go_wp2_with fail
    go_region_held3 (fun w' => (w'.cell? ⟨w.heap.size, 0, none⟩ = some (.int .i64 wa) ∧ w'.cell? ⟨w.heap.size, 1, none⟩ = some (.int .i64 ha) ∧ w'.cell? ⟨w.heap.size, 2, none⟩ = some (.slice aa la.length ca)) ∧ (w'.cell? ⟨w.heap.size + 1, 0, none⟩ = some (.int .i64 wb) ∧ w'.cell? ⟨w.heap.size + 1, 1, none⟩ = some (.int .i64 hb) ∧ w'.cell? ⟨w.heap.size + 1, 2, none⟩ = some (.slice ab lb.length cb)))
      (first | exact ⟨(((F3.out.k0.other (p := ⟨w.heap.size + 1 + 1, 0, none⟩) (by show _ ≠ w.heap.size + 1 + 1; omega) _).other (p := ⟨w.heap.size + 1 + 1, 1, none⟩) (by show _ ≠ w.heap.size + 1 + 1; omega) _).other (p := ⟨w.heap.size + 1 + 1, 2, none⟩) (by show _ ≠ w.heap.size + 1 + 1; omega) _).cells, (((F3.out.k1.other (p := ⟨w.heap.size + 1 + 1, 0, none⟩) (by show _ ≠ w.heap.size + 1 + 1; omega) _).other (p := ⟨w.heap.size + 1 + 1, 1, none⟩) (by show _ ≠ w.heap.size + 1 + 1; omega) _).other (p := ⟨w.heap.size + 1 + 1, 2, none⟩) (by show _ ≠ w.heap.size + 1 + 1; omega) _).cells⟩ | exact ⟨F3.out.k0.cells, F3.out.k1.cells⟩ | exact ⟨F2.out.k0.cells, F2.out.k1.cells⟩ | go_keep)
      (first
        | (go_at_call 64; refine (ofValues_any _ _ _).mono ?_; rintro e w2 ⟨rfl, hw2⟩; have b2 : Below W.drew.heap.size W.drew w2 := by rw [hw2]; exact below_all _ _
           have z2 : w2.heap.size = W.drew.heap.size + 1 := by rw [hw2]; simp
           have c2 : w2.cell? ⟨W.drew.heap.size, 0, none⟩ = some (.func (.func g) #[] #[]) := by rw [hw2, World.cell?_alloc_at _ _ _ _ rfl]; rfl
           have F2 := Lib.hid (Fd.out.step b2)
           have RU := Lib.hid (HRU.out w2 W.drew.heap.size g (by omega) c2 EG.out HR.out); have Z2 := Lib.hid z2; clear hw2 b2 z2 c2)
        | (go_at_call 63; refine (HCC.out _ _ _ F2.out.i0 F2.out.i1 ent_ofV RU.out).mono ?_; rintro e w3 ⟨a3, c3, rfl, o3, b3⟩; have O3 := Lib.hid (o3.more (C := w.heap.size + 3) (by have := Z2.out; have := ZD.out; omega)); have F3 := Lib.hid (F2.out.step b3); have B3 := Lib.hid F3.out.b; obtain ⟨r0, r1, r2⟩ := F3.out.r.cells; have g0 := F3.out.r.frozen 0; have g1 := F3.out.r.frozen 1; have g2 := F3.out.r.frozen 2; clear o3 b3))
    rename_i hHeld
    clear hHeld
    go_wp2
    refine bodyPost_ret (v := .tuple #[.agg #[.int .i64 rw', .int .i64 rh, .slice a3 rl.length c3], .bool rb]) (by simp [results, Tryd.results57, go_sem, r0, r1, r2]) rfl ⟨a3, c3, rfl, ?_, ?_⟩
    · exact (ownI_set (ownI_set (ownI_set O3.out (by show w.heap.size + 1 + 1 < _; omega) _) (by show w.heap.size + 1 + 1 < _; omega) _) (by show w.heap.size + 1 + 1 < _; omega) _).more (by omega)
    · exact ((B3.out.setCell (by simp <;> omega) _).setCell (by simp <;> omega) _).setCell (by simp <;> omega) _
end Go.Proofs.YtikglddifoalfaaDoor
namespace Go.Proofs.YtikglddifoalfaaDoor
open Go.RowKit
set_option linter.unusedVariables false
set_option linter.unusedSimpArgs false
set_option maxRecDepth 100000 in
set_option maxHeartbeats 1000000 in
theorem cloneI_any (b o : Nat) (l : List Int) (c : Nat) (w : World) (hl : Ints .i64 w w.heap.size (some ⟨b, o, none⟩) l) (hn : l.length ≤ 1048576) (h0 : 0 < l.length) :
    Calls Tryd.prog 54 #[.slice (some ⟨b, o, none⟩) l.length c] w (IntsPost l w) := by
  obtain ⟨i0, hi0', hz0, hz1, hz2⟩ := info_parts infoInt
  rcases hl with rfl | ⟨b', o', e, hb, hc⟩
  · simp at h0
  · injection e with e
    injection e with e1 e2
    subst e1 e2
    have HC : Hid (∀ j u, (iv l)[j]? = some u → (w.alloc (.cells #[] 3)).cell? ((⟨b, o, none⟩ : Addr).add j) = some u) := by
      refine Lib.hid ?_
      intro j u hu
      obtain ⟨hj, hu⟩ := List.getElem?_eq_some_iff.1 hu
      rw [iv_length] at hj
      have e : (⟨b, o, none⟩ : Addr).add j = ⟨b, o + j, none⟩ := by unfold Addr.add; split <;> simp_all
      rw [e, World.cell?_alloc_lt _ _ _ (by simpa using hb), hc j hj, ← hu, iv_get]
    have HO := Lib.hid (World.ownsRow_made (base := w.heap.size) (e := 3) (size := 1) w #[] 0 (Nat.le_refl _) (by simp) rfl)
    clear hc
    have q0 : ∀ (W : World), (binOp .eql 32 (.slice (some ⟨b, o, none⟩) l.length c) (.slice none 0 0)).run Tryd.prog W = .ok (.bool false) W := fun _ => rfl
    go_enter Tryd.func54, Tryd.ntmps54
    go_wp2_with (at_builtin; refine wpList_append_own _ rfl _ _ 32 rfl w.heap.size 3 i0 (.int .i64 0) 1 8 Tryd.underlying32 hi0' hz0 hz1 hz2 rfl (by decide) _ 0 [] rfl HO.out ⟨b, o, none⟩ l.length c (iv l) rfl (by rw [iv_length]; simp) HC.out (iv_one l) (by unfold maxLen; omega) (by omega) (by simp) ?_; intro v' w1 hown' hgrow _; rw [Nat.zero_add, List.nil_append] at hown'; have HB := Lib.hid ((below_all w _).grown hgrow (by simp) (fun k hk => (HO.out.lt k hk).1)); obtain ⟨a', c', hv, ho⟩ := ownI_of hown' rfl; subst hv; have HO1 := Lib.hid ho; clear hown' hgrow ho)
    go_ret
    exact ⟨a', c', rfl, HO1.out, HB.out⟩
end Go.Proofs.YtikglddifoalfaaDoor
namespace Go.Proofs.YtikglddifoalfaaDoor
open Go.RowKit
set_option linter.unusedVariables false
set_option linter.unusedSimpArgs false
theorem own_row {w : World} {B n size : Nat} {e : TypeId} {v : Value} {xs : List Value} (h : w.ownsRow B e size v n xs) (hn : 0 < n) (hs : 0 < size) : ∃ g cap, v = .slice (some ⟨g, 0, none⟩) n cap ∧ B ≤ g ∧ Row w g e xs := by
  obtain ⟨h1, ⟨h2, h3⟩ | ⟨g, cap, cur, h2, hb, hh, hc, _, hcs, hx⟩⟩ := h
  · omega
  · refine ⟨g, cap, h2, hb, cur, hh, fun k hk => ?_⟩
    have e : xs[k]? = cur[k]? := by
      rw [← hx, List.getElem?_take]
      rw [h1] at hk
      rw [if_pos hk]
      simp
    rw [← e]
    exact List.getElem?_eq_getElem hk
theorem own_ne_row3 {w : World} {g base e n size : Nat} {t : TypeId} {vs xs : List Value} {v : Value} (h : w.ownsRow base e size v n xs) (hr : Row w g t vs) (hne : e ≠ t) : v.ownBlock ≠ some g := by
  obtain ⟨c, h1, _⟩ := hr
  rcases h.2 with ⟨rfl, _⟩ | ⟨g', cap, cur, rfl, _, hh, _⟩
  · simp [Value.ownBlock]
  · intro he
    have : g' = g := by simpa [Value.ownBlock] using he
    subst this
    rw [h1] at hh
    injection hh with hh
    injection hh with _ ht
    exact hne ht.symm
theorem ownI_grown {w w' : World} {base e n size B : Nat} {a : Option Addr} {l : List Int} {xs : List Value} {v : Value} (ho : OwnI w B a l) (h : w.ownsRow base e size v n xs) (hg : w.grownBy w' v.ownBlock) (hne : e ≠ 3) : OwnI w' B a l := by
  obtain ⟨g, h1, h2⟩ := ho
  rcases h2 with h2 | ⟨h2, h3⟩
  · exact ⟨g, h1, .inl h2⟩
  · exact ⟨g, h1, .inr ⟨h2, h3.of_block (hg.block g h3.lt (fun e => own_ne_row3 h h3 hne e.symm))⟩⟩
/-- the values of the first arguments, in a row of the call's own -/
def Vs (w : World) (R : Nat → Option Fv) (k : Nat) (vs : Value) (wr : World) : Prop :=
  ∃ Es : List FE, Es.length = k ∧ (∀ j (h : j < Es.length), R j = some Es[j].plain) ∧ wr.ownsRow (w.heap.size + 1) 80 3 vs k (fvs Es) ∧ ∀ j (h : j < Es.length), OwnI wr (w.heap.size + 1) Es[j].ad Es[j].l
theorem Vs.snoc {w wr w1 : World} {R : Nat → Option Fv} {k : Nat} {vs vs' : Value} {Es : List FE} {r0 r1 : Int} {L : List Int} {a : Option Addr} {c : Nat} (hE : Es.length = k) (hR : ∀ j (h : j < Es.length), R j = some Es[j].plain) (hk : R k = some (r0, r1, L))
    (ho : wr.ownsRow (w.heap.size + 1) 80 3 vs k (fvs Es)) (hi : ∀ j (h : j < Es.length), OwnI wr (w.heap.size + 1) Es[j].ad Es[j].l) (hl : OwnI wr (w.heap.size + 1) a L) (hg : wr.grownBy w1 vs.ownBlock)
    (ho' : w1.ownsRow (w.heap.size + 1) 80 3 vs' (k + 1) (fvs Es ++ [.int .i64 r0, .int .i64 r1, .slice a L.length c])) : Vs w R (k + 1) vs' w1 := by
  refine ⟨Es ++ [⟨r0, r1, a, L, c, 0⟩], by simp [hE], fun j h => ?_, by rw [fvs_append]; exact ho', fun j h => ?_⟩
  all_goals
    rw [List.length_append, List.length_singleton] at h
    by_cases e : j < Es.length
  · rw [List.getElem_append_left e]; exact hR j e
  · obtain rfl : j = Es.length := by omega
    rw [List.getElem_append_right (Nat.le_refl _)]
    simp only [Nat.sub_self, List.getElem_cons_zero]
    rw [hE]; exact hk
  · rw [List.getElem_append_left e]; exact ownI_grown (hi j e) ho hg (by decide)
  · obtain rfl : j = Es.length := by omega
    rw [List.getElem_append_right (Nat.le_refl _)]
    simp only [Nat.sub_self, List.getElem_cons_zero]
    exact ownI_grown hl ho hg (by decide)
end Go.Proofs.YtikglddifoalfaaDoor
namespace Go.Proofs.YtikglddifoalfaaDoor
open Go.RowKit
set_option linter.unusedVariables false
set_option linter.unusedSimpArgs false
/-- what the case of a field knows -/
structure Vk (w : World) (u0 u1 u2 : Value) (w' : World) : Prop where
  b : Below w.heap.size w w'
  r : Box w' w.heap.size 80 (.int .i64 0) (.int .i64 0) (.slice none 0 0)
  f : Box w' (w.heap.size + 1) 80 u0 u1 u2
theorem Vk.new (w : World) (u0 u1 u2 : Value) : Vk w u0 u1 u2 ((w.alloc (.cells #[.int .i64 0, .int .i64 0, .slice none 0 0] 80)).alloc (.cells #[u0, u1, u2] 80)) := by
  refine ⟨(below_all w _).alloc (by simp) _, (Box.new w _ _ _ _).alloc _, ?_⟩
  have h := Box.new (w.alloc (.cells #[.int .i64 0, .int .i64 0, .slice none 0 0] 80)) 80 u0 u1 u2
  rw [World.size_alloc] at h
  exact h
theorem Vk.step {w w1 w2 : World} {u0 u1 u2 : Value} (h : Vk w u0 u1 u2 w1) (b : Below w1.heap.size w1 w2) : Vk w u0 u1 u2 w2 := ⟨below_then h.b b, h.r.below b, h.f.below b⟩
set_option maxRecDepth 100000 in
set_option maxHeartbeats 8000000 in
theorem vf_field (P : Nat → Prop) (n b : Nat) (af : Option Addr) (es : List FE) (cf : Nat) (w : World) (ht : TreeAt w P (.n0 1 (n : Int)) b) (hfd : Flds w w.heap.size af es) (hv : n < es.length) (hm : es.length ≤ 4) (hgd : goodB es[n].wd es[n].hg es[n].l = true) :
    Calls Tryd.prog 51 #[.pointer (some ⟨b, 0, none⟩), .slice af es.length cf] w (FRet (some (es[n].wd, es[n].hg, es[n].l)) w) := by
  obtain ⟨h1, ta, tc, h2⟩ := ht
  have d0 := h2.cell 0
  have d1 := h2.cell 1
  simp [tcells] at d0 d1
  have hbl := h2.lt
  obtain ⟨bf, of, rfl, hbf, q0, q1, q2, q3⟩ := hfd.at_ hv
  have hpos := good_pos hgd
  have hle := good_le hgd
  obtain ⟨bl, ol, el, hbl2⟩ : ∃ bl ol, es[n].ad = some ⟨bl, ol, none⟩ ∧ True := by
    rcases q3 with h | ⟨bl, ol, e, _⟩
    · rw [h] at hpos; simp at hpos
    · exact ⟨bl, ol, e, trivial⟩
  rw [el] at q2 q3
  have K0 := Lib.hid (Vk.new w (.int .i64 es[n].wd) (.int .i64 es[n].hg) (.slice (some ⟨bl, ol, none⟩) es[n].l.length es[n].c))
  have I0 := Lib.hid (ints_below (ints_alloc (ints_alloc q3 (.cells #[.int .i64 0, .int .i64 0, .slice none 0 0] 80)) (.cells #[.int .i64 es[n].wd, .int .i64 es[n].hg, .slice (some ⟨bl, ol, none⟩) es[n].l.length es[n].c] 80)) ((Drew.more (Drew.refl _) 1).below _))
  have HCL := Lib.hid (fun W (h : Ints .i64 W W.heap.size (some ⟨bl, ol, none⟩) (es[n]'hv).l) => cloneI_any bl ol (es[n]'hv).l (es[n]'hv).c W h (by omega) hpos)
  have HWC := Lib.hid (fun ax cx W (h : Ints .i64 W W.heap.size ax (es[n]'hv).l) => withCells_yes (es[n]'hv).wd (es[n]'hv).hg (some ⟨bl, ol, none⟩) (es[n]'hv).l.length (es[n]'hv).c ax (es[n]'hv).l cx W h (by omega) hgd)
  have nv1 : (n : Int) < (es.length : Int) := by omega
  have nv0 : (0 : Int) ≤ (n : Int) := by omega
  clear h1 h2 hfd q3 hgd hpos hle el hbl2
  generalize es[n].wd = x0 at *
  generalize es[n].hg = x1 at *
  generalize es[n].c = x3 at *
  generalize es[n].l = L at *
  obtain ⟨k0, k1, k2⟩ := K0.out.f.cells
  go_enter Tryd.func51, Tryd.ntmps51
  go_wp2_with fail
  have KD := Lib.hid (K0.out.step ((Drew.more (Drew.refl _) 1).below _))
  go_region_held3 (fun w' => w'.cell? ⟨w.heap.size + 1, 0, none⟩ = some (.int .i64 x0) ∧ w'.cell? ⟨w.heap.size + 1, 1, none⟩ = some (.int .i64 x1) ∧ w'.cell? ⟨w.heap.size + 1, 2, none⟩ = some (.slice (some ⟨bl, ol, none⟩) L.length x3))
    (first | exact K3.out.f.cells | exact K2.out.f.cells | exact K0.out.f.cells | exact (box_other3 K3.out.f (show w.heap.size + 1 ≠ w.heap.size by omega) _ _ _).cells | go_keep)
    (first
      | (go_at_call 54; refine (HCL.out _ I0.out).mono ?_; rintro e w2 ⟨a2, c2, rfl, o2, b2⟩; have K2 := Lib.hid (KD.out.step b2); have O2 := Lib.hid (o2.more (C := w.heap.size + 1) (Nat.le_of_lt KD.out.f.lt)); clear b2 o2)
      | (go_at_call 53; refine (HWC.out a2 c2 _ O2.out.ints).mono ?_; rintro e w3 ⟨rfl, b3⟩; have K3 := Lib.hid (K2.out.step b3); have O3 := Lib.hid (O2.out.below b3); have B9 := Lib.hid K3.out.b; obtain ⟨t0, t1, t2⟩ := K3.out.r.cells; have g0 := K3.out.r.frozen 0; have g1 := K3.out.r.frozen 1; have g2 := K3.out.r.frozen 2; clear b3))
  all_goals
    rename_i hHeld
    clear hHeld
    go_wp2
    refine bodyPost_ret (v := .tuple #[.agg #[.int .i64 x0, .int .i64 x1, .slice a2 L.length c2], .bool true]) (by simp [results, Tryd.results51, go_sem, t0, t1, t2]) rfl ?_
    exact fret_put (r := some (x0, x1, L)) B9.out O3.out rfl _ _ _
end Go.Proofs.YtikglddifoalfaaDoor
namespace Go.Proofs.YtikglddifoalfaaDoor
open Go.RowKit
set_option linter.unusedVariables false
set_option linter.unusedSimpArgs false
set_option maxRecDepth 100000 in
set_option maxHeartbeats 4000000 in
theorem vf_gone (P : Nat → Prop) (n b : Nat) (af : Option Addr) (es : List FE) (cf : Nat) (w : World) (ht : TreeAt w P (.n0 1 (n : Int)) b) (hv : ¬ n < es.length) (hn3 : n ≤ 3) :
    Calls Tryd.prog 51 #[.pointer (some ⟨b, 0, none⟩), .slice af es.length cf] w (FRet none w) := by
  obtain ⟨h1, ta, tc, h2⟩ := ht
  have d0 := h2.cell 0
  have d1 := h2.cell 1
  simp [tcells] at d0 d1
  have hbl := h2.lt
  have R0 := Box.new w 80 (.int .i64 0) (.int .i64 0) (.slice none 0 0)
  have B9 := Lib.hid (below_all w (.cells #[.int .i64 0, .int .i64 0, .slice none 0 0] 80))
  obtain ⟨t0, t1, t2⟩ := R0.cells
  have g0 := R0.frozen 0
  have g1 := R0.frozen 1
  have g2 := R0.frozen 2
  have nv1 : ¬ (n : Int) < (es.length : Int) := by omega
  clear h1 h2 R0
  go_enter Tryd.func51, Tryd.ntmps51
  go_wp2_with fail
  refine bodyPost_ret (v := .tuple #[.agg #[.int .i64 0, .int .i64 0, .slice none 0 0], .bool false]) (by simp [results, Tryd.results51, go_sem, t0, t1, t2]) rfl ?_
  first | exact ⟨none, 0, rfl, OwnI.none_, B9.out⟩ | exact fret_put (r := none) B9.out OwnI.none_ rfl _ _ _
set_option maxRecDepth 100000 in
set_option maxHeartbeats 8000000 in
theorem vf_num (P : Nat → Prop) (v : Int) (b : Nat) (af : Option Addr) (es : List FE) (cf : Nat) (w : World) (ht : TreeAt w P (.n0 2 v) b) (hfd : Flds w w.heap.size af es) (h0 : 0 < es.length) (hm : es.length ≤ 4) :
    Calls Tryd.prog 51 #[.pointer (some ⟨b, 0, none⟩), .slice af es.length cf] w (FRet (newR es[0].wd es[0].hg v) w) := by
  obtain ⟨h1, ta, tc, h2⟩ := ht
  have d0 := h2.cell 0
  have d1 := h2.cell 1
  simp [tcells] at d0 d1
  have hbl := h2.lt
  obtain ⟨bf, of, rfl, hbf, q0, q1, q2, q3⟩ := hfd.at_ h0
  simp only [Nat.zero_mul, Nat.add_zero] at q0 q1
  have R0 := Lib.hid (Box.new w 80 (.int .i64 0) (.int .i64 0) (.slice none 0 0))
  have B0 := Lib.hid (below_all w (.cells #[.int .i64 0, .int .i64 0, .slice none 0 0] 80))
  have D1 := (B0.out.cell (p := ⟨b, 1, none⟩) hbl).trans d1
  have Q0 := (B0.out.cell (p := ⟨bf, of, none⟩) hbf).trans q0
  have Q1 := (B0.out.cell (p := ⟨bf, of + 1, none⟩) hbf).trans q1
  have hbf2 : bf < (w.alloc (.cells #[.int .i64 0, .int .i64 0, .slice none 0 0] 80)).heap.size := by simp; omega
  have hbl2 : b < (w.alloc (.cells #[.int .i64 0, .int .i64 0, .slice none 0 0] 80)).heap.size := by simp; omega
  have hne : ¬ bf = w.heap.size := by omega
  have hne2 : ¬ w.heap.size = bf := by omega
  have hne3 : ¬ b = w.heap.size := by omega
  have hne4 : ¬ w.heap.size = b := by omega
  have HC := Lib.hid (fun W => implNew_any es[0].wd es[0].hg v W)
  have n01 : (0 : Int) < (es.length : Int) := by omega
  clear h1 h2 hfd q2 q3
  generalize newR es[0].wd es[0].hg v = R at *
  generalize es[0].wd = x0 at *
  generalize es[0].hg = x1 at *
  go_enter Tryd.func51, Tryd.ntmps51
  go_wp2_with fail
  have RD := Lib.hid (R0.out.below ((Drew.more (Drew.refl _) 1).below _))
  have BD := Lib.hid (below_then B0.out ((Drew.more (Drew.refl _) 1).below _))
  go_region_held3 (fun w' => w'.cell? ⟨bf, of, none⟩ = some (.int .i64 x0) ∧ w'.cell? ⟨bf, of + 1, none⟩ = some (.int .i64 x1) ∧ w'.cell? ⟨b, 1, none⟩ = some (.int .i64 v))
    (first | exact ⟨k0, k1, k2⟩ | exact ⟨Q0, Q1, D1⟩ | go_keep)
    (first | (go_at_call 55; refine (HC.out _).mono ?_; rintro e w2 ⟨a2, c2, rfl, o2, b2⟩; have R2 := RD.out.below b2; have B9 := Lib.hid (below_then BD.out b2); have O2 := Lib.hid (o2.more (C := w.heap.size + 1) (Nat.succ_le_of_lt RD.out.lt)); have k0 := (b2.cell (p := ⟨bf, of, none⟩) hbf2).trans Q0; have k1 := (b2.cell (p := ⟨bf, of + 1, none⟩) hbf2).trans Q1; have k2 := (b2.cell (p := ⟨b, 1, none⟩) hbl2).trans D1; obtain ⟨t0, t1, t2⟩ := R2.cells; have g0 := R2.frozen 0; have g1 := R2.frozen 1; have g2 := R2.frozen 2; clear o2 b2 R2))
  rename_i hHeld
  clear hHeld
  go_wp2
  refine bodyPost_ret (v := .tuple #[.agg #[.int .i64 (rW R), .int .i64 (rH R), .slice a2 (rL R).length c2], .bool (rB R)]) (by simp [results, Tryd.results51, go_sem, t0, t1, t2]) rfl ?_
  exact fret_put (r := R) B9.out O2.out rfl _ _ _
end Go.Proofs.YtikglddifoalfaaDoor
namespace Go.Proofs.YtikglddifoalfaaDoor
open Go.RowKit
set_option linter.unusedVariables false
set_option linter.unusedSimpArgs false
set_option maxRecDepth 100000 in
set_option maxHeartbeats 16000000 in
theorem vf_op (m : Nat) (k v : Int) (hmk : (m = 1 ∧ k = 7) ∨ (m = 2 ∧ 3 ≤ k ∧ k ≤ 6)) (bs : List Nat) (hbs : bs.length = m) (b ga ca : Nat) (af : Option Addr) (es : List FE) (cf : Nat) (w : World) (v0 : 0 ≤ v) (v9 : v ≤ 9000)
    (hbox : BoxC w b 74 (tcells k v (some ⟨ga, 0, none⟩) m ca)) (hptr : ∀ j (h : j < bs.length), w.cell? ⟨ga, j, none⟩ = some (.pointer (some ⟨bs[j], 0, none⟩))) (hga : ga < w.heap.size) (hfd : Flds w w.heap.size af es)
    (R : Nat → Option Fv) (hC : ∀ j (h : j < bs.length), ∀ W, Below w.heap.size w W → Flds W W.heap.size af es → Calls Tryd.prog 51 #[.pointer (some ⟨bs[j], 0, none⟩), .slice af es.length cf] W (FRet (R j) W))
    (wd hg : Int) (hG : ∀ j r, R j = some r → r.1 = wd ∧ r.2.1 = hg ∧ goodB wd hg r.2.2 = true) (Q : Option Fv) (hN : ∀ j, j < m → R j = none → Q = none)
    (h1 : m = 1 → ∀ r, R 0 = some r → Q = exceedsR r.1 r.2.1 r.2.2 v) (h2 : m = 2 → ∀ r s, R 0 = some r → R 1 = some s → Q = combineR (k - 2) r.1 r.2.1 r.2.2 s.1 s.2.1 s.2.2) :
    Calls Tryd.prog 51 #[.pointer (some ⟨b, 0, none⟩), .slice af es.length cf] w (FRet Q w) := by
  obtain ⟨i0, hi0', hz0, hz1, hz2⟩ := info_parts infoField
  have d0 := hbox.cell 0
  have d1 := hbox.cell 1
  have d5 := hbox.cell 5
  have d9 := hbox.cell 9
  simp [tcells] at d0 d1 d5 d9
  have hbl := hbox.lt
  have D := Lib.hid (And.intro d0 (And.intro d1 d5))
  have HP := Lib.hid hptr
  have HC := Lib.hid hC
  have HG := Lib.hid hG
  have HN := Lib.hid hN
  have H1 := Lib.hid h1
  have H2 := Lib.hid h2
  have HF := Lib.hid hfd
  have R0 := Box.new w 80 (.int .i64 0) (.int .i64 0) (.slice none 0 0)
  have RA := Lib.hid (R0.alloc (.cells #[] 80))
  have BA := Lib.hid ((below_all w (.cells #[.int .i64 0, .int .i64 0, .slice none 0 0] 80)).alloc (by simp) (.cells #[] 80))
  have hOA := (World.ownsRow_made (base := w.heap.size + 1) (e := 80) (size := 3) (w.alloc (.cells #[.int .i64 0, .int .i64 0, .slice none 0 0] 80)) #[] 0 (by simp) (by simp) rfl)
  rw [World.size_alloc] at hOA
  have OA := Lib.hid hOA
  clear hOA
  have n1 : ¬ k = 1 := by omega
  have n2 : ¬ k = 2 := by omega
  have q1 : (k == 1) = false := by simp [n1]
  have q2 : (k == 2) = false := by simp [n2]
  have hm2 : m ≤ 2 := by omega
  have HMK := Lib.hid hmk
  have HBS := Lib.hid hbs
  clear hbox hptr hC hG hN h1 h2 hfd R0 hmk hbs d1 d5
  go_enter Tryd.func51, Tryd.ntmps51
  go_wp2_with fail
  clear d0 d9
  go_loopw [7, 67] (fun vs i wr => ∃ q : Nat, q ≤ m ∧ i = .int .i64 q ∧ Below w.heap.size w wr ∧ Box wr w.heap.size 80 (.int .i64 0) (.int .i64 0) (.slice none 0 0) ∧ Vs w R q vs wr) (fun _ i _ => m - (intOf i).toNat)
  case atStart => exact ⟨0, Nat.zero_le _, rfl, BA.out, RA.out, [], rfl, fun j h => by simp at h, OA.out, fun j h => by simp at h⟩
  case round =>
    obtain ⟨q, hq, rfl, hB, hR, Es, hEl, hEr, hEo, hEi⟩ := hrel
    have HB := Lib.hid hB
    have HR := Lib.hid hR
    have HEr := Lib.hid hEr
    have HEo := Lib.hid hEo
    have HEi := Lib.hid hEi
    have HEl := Lib.hid hEl
    have hzr := hR.lt
    clear hR hEr hEo hEi hEl BA RA OA
    by_cases hlt : q < m
    · have hi : (q : Int) < (m : Int) := by omega
      have hi0 : (0 : Int) ≤ (q : Int) := by omega
      have hqb : q < bs.length := by rw [HBS.out]; exact hlt
      have p0 := (hB.cell (p := ⟨ga, q, none⟩) hga).trans (HP.out q hqb)
      have HCq := Lib.hid (HC.out q hqb wr hB ((HF.out.below hB (Nat.le_refl _)).more hB.size))
      clear hB
      generalize bs[q] = bq at *
      cases hr : R q with
      | none =>
        have hQ := HN.out q hlt hr
        rw [hr] at HCq
        subst hQ
        clear hr
        go_wp2_with fail
        refine HCq.out.mono ?_
        rintro e w1 ⟨a1, c1, rfl, o1, b1⟩
        simp only [rW, rH, rL, rB, List.length_nil]
        have R1 := (HR.out.below b1).alloc (.cells #[.int .i64 0, .int .i64 0, .slice a1 0 c1] 80)
        have B9 := Lib.hid ((HB.out.trans (b1.mono HB.out.size)).alloc (by have := HB.out.size; have := b1.size; omega) (.cells #[.int .i64 0, .int .i64 0, .slice a1 0 c1] 80))
        obtain ⟨t0, t1, t2⟩ := R1.cells
        have g0 := R1.frozen 0
        have g1 := R1.frozen 1
        have g2 := R1.frozen 2
        clear b1 o1 R1 p0
        go_wp2_with fail
        refine bodyPost_ret (v := .tuple #[.agg #[.int .i64 0, .int .i64 0, .slice none 0 0], .bool false]) (by simp [results, Tryd.results51, go_sem, t0, t1, t2]) rfl ?_
        first | exact ⟨none, 0, rfl, OwnI.none_, B9.out⟩ | exact fret_put (r := none) B9.out OwnI.none_ rfl _ _ _
      | some r =>
        obtain ⟨r0, r1, L⟩ := r
        rw [hr] at HCq
        have HRq := Lib.hid hr
        clear hr
        go_wp2_with fail
        refine HCq.out.mono ?_
        rintro e w1 ⟨a1, c1, rfl, o1, b1⟩
        simp only [rW, rH, rL, rB] at o1 ⊢
        have hsz1 : w.heap.size + 1 ≤ w1.heap.size := by have := b1.size; omega
        have F1 := Box.new w1 80 (.int .i64 r0) (.int .i64 r1) (.slice a1 L.length c1)
        have R1 := (HR.out.below b1).alloc (.cells #[.int .i64 r0, .int .i64 r1, .slice a1 L.length c1] 80)
        have B1 := (HB.out.trans (b1.mono HB.out.size)).alloc (by have := HB.out.size; have := b1.size; omega) (.cells #[.int .i64 r0, .int .i64 r1, .slice a1 L.length c1] 80)
        have O1 := (own2_keeps HEo.out b1).alloc (.cells #[.int .i64 r0, .int .i64 r1, .slice a1 L.length c1] 80)
        have I1 := fun j h => ((HEi.out j h).below b1).below (below_all w1 (.cells #[.int .i64 r0, .int .i64 r1, .slice a1 L.length c1] 80))
        have L1 := (o1.below (below_all w1 (.cells #[.int .i64 r0, .int .i64 r1, .slice a1 L.length c1] 80))).more (C := w.heap.size + 1) (by omega)
        have Z1 : w.heap.size + 1 ≤ (w1.alloc (.cells #[.int .i64 r0, .int .i64 r1, .slice a1 L.length c1] 80)).heap.size := by simp; omega
        obtain ⟨W1, hW1⟩ : ∃ W, w1.alloc (.cells #[.int .i64 r0, .int .i64 r1, .slice a1 L.length c1] 80) = W := ⟨_, rfl⟩
        obtain ⟨fb, hfb⟩ : ∃ x, w1.heap.size = x := ⟨_, rfl⟩
        rw [hW1] at F1 R1 B1 O1 I1 L1 Z1
        rw [hfb] at F1
        obtain ⟨f0, f1, f2⟩ := F1.cells
        have HR1 := Lib.hid (R1.alloc (.cells #[.int .i64 r0, .int .i64 r1, .slice a1 L.length c1] 80))
        have HB1 := Lib.hid (B1.alloc B1.size (.cells #[.int .i64 r0, .int .i64 r1, .slice a1 L.length c1] 80))
        have HO1 := Lib.hid (O1.alloc (.cells #[.int .i64 r0, .int .i64 r1, .slice a1 L.length c1] 80))
        have HI1 := Lib.hid (fun j h => (I1 j h).below (below_all W1 (.cells #[.int .i64 r0, .int .i64 r1, .slice a1 L.length c1] 80)))
        have HL1 := Lib.hid (L1.below (below_all W1 (.cells #[.int .i64 r0, .int .i64 r1, .slice a1 L.length c1] 80)))
        have HZ1 := Lib.hid (show w.heap.size + 1 ≤ (W1.alloc (.cells #[.int .i64 r0, .int .i64 r1, .slice a1 L.length c1] 80)).heap.size by simp; omega)
        have HT1 := Lib.hid (show ∀ u ∈ [Value.int .i64 r0, .int .i64 r1, .slice a1 L.length c1], u.oneCell' = true from fun u hu => by simp at hu; rcases hu with rfl | rfl | rfl <;> rfl)
        clear F1 R1 B1 O1 I1 L1 Z1 o1 b1 p0 hsz1
        go_wp2_with (at_builtin; refine wpList_append_own _ rfl _ _ 83 rfl (w.heap.size + 1) 80 i0 _ 3 40 Tryd.underlying83 hi0' hz0 hz1 hz2 rfl (by decide) _ q (fvs Es) rfl HO1.out ⟨W1.heap.size, 0, none⟩ 1 1 [.int .i64 r0, .int .i64 r1, .slice a1 L.length c1] rfl rfl (World.news_of_block (heap_alloc_new _ _)) HT1.out (by unfold maxLen; omega) (by omega) HZ1.out ?_; intro v' w6 hown' hgrow _; have HO6 := Lib.hid hown'; have HG6 := Lib.hid hgrow; clear hown' hgrow)
        go_roundw
        case rel =>
          refine ⟨q + 1, by omega, by go_num, HB1.out.grown HG6.out (by have := HZ1.out; omega) (fun k hk => by have := (HO1.out.lt k hk).1; omega), HR1.out.grown HG6.out (fun e => by have := (HO1.out.lt _ e.symm).1; omega), ?_⟩
          exact Vs.snoc HEl.out HEr.out HRq.out HO1.out HI1.out HL1.out HG6.out HO6.out
        case measure => simp [intOf]; omega
    · obtain rfl : q = m := by omega
      have e0 := (hB.cell (p := ⟨b, 0, none⟩) hbl).trans D.out.1
      have e1 := (hB.cell (p := ⟨b, 1, none⟩) hbl).trans D.out.2.1
      have e5 := (hB.cell (p := ⟨b, 5, none⟩) hbl).trans D.out.2.2
      have hge : ¬ (q : Int) < (q : Int) := by omega
      clear hB
      have hEl := HEl.out
      have bd : Below wr.heap.size wr wr.drew := ⟨rfl, rfl, rfl, Nat.le_refl _, fun _ _ => rfl⟩
      have RD := Lib.hid (HR.out.below bd)
      have BD := Lib.hid (HB.out.trans (bd.mono HB.out.size))
      have hne3 : ¬ b = w.heap.size := by omega
      have hne4 : ¬ w.heap.size = b := by omega
      have hbw : b < wr.heap.size := Nat.lt_of_lt_of_le hbl HB.out.size
      rcases HMK.out with ⟨hm, hk⟩ | ⟨hm, hk3, hk6⟩
      · subst hm hk
        obtain ⟨E, rfl⟩ : ∃ E, Es = [E] := by
          match Es, hEl with
          | [E], _ => exact ⟨E, rfl⟩
        have hE0 := HEr.out 0 (by simp)
        simp only [List.getElem_cons_zero] at hE0
        have hQ := H1.out rfl _ hE0
        obtain ⟨g1, g2, g3⟩ := HG.out 0 _ hE0
        have hI := HEi.out 0 (by simp)
        simp only [List.getElem_cons_zero] at hI
        obtain ⟨g, cap, hvs, hgB, hrow⟩ := own_row HEo.out (by omega) (by omega)
        have s0 := hrow.cell (k := 0) (by simp [fvs, FE.flat])
        have s1 := hrow.cell (k := 1) (by simp [fvs, FE.flat])
        have s2 := hrow.cell (k := 2) (by simp [fvs, FE.flat])
        simp [fvs, FE.flat] at s0 s1 s2
        have hgl := hrow.lt
        unfold FE.plain at hQ g1 g2 g3
        simp only at hQ g1 g2 g3
        subst hvs
        have hle := good_le g3
        have HE := Lib.hid (fun W h => implExceeds_any E.wd E.hg E.ad E.l E.c v W h (by omega))
        have HII := Lib.hid (ints_below hI.ints bd)
        have hgne : ¬ g = w.heap.size := by omega
        have hgne2 : ¬ w.heap.size = g := by omega
        subst hQ
        clear hE0 g1 g2 g3 hI hrow hle hEl HEo HEi HEr HEl H1 H2 HN HG bd
        generalize exceedsR E.wd E.hg E.l v = R at *
        generalize E.wd = x0 at *
        generalize E.hg = x1 at *
        generalize E.ad = x2 at *
        generalize E.c = x3 at *
        generalize E.l = L at *
        go_wp2_with fail
        go_region_held3 (fun w' => w'.cell? ⟨g, 0, none⟩ = some (.int .i64 x0) ∧ w'.cell? ⟨g, 1, none⟩ = some (.int .i64 x1) ∧ w'.cell? ⟨g, 2, none⟩ = some (.slice x2 L.length x3) ∧ w'.cell? ⟨b, 1, none⟩ = some (.int .i64 v))
          (first | exact ⟨k0, k1, k2, k3⟩ | exact ⟨s0, s1, s2, e1⟩ | go_keep)
          (first | (go_at_call 56; refine (HE.out _ HII.out).mono ?_; rintro e w2 ⟨a2, c2, rfl, o2, b2⟩; have R2 := RD.out.below b2; have B9 := Lib.hid (BD.out.trans (b2.mono BD.out.size)); have O2 := Lib.hid (o2.more (C := w.heap.size + 1) (Nat.succ_le_of_lt RD.out.lt)); have k0 := (b2.cell (p := ⟨g, 0, none⟩) hgl).trans s0; have k1 := (b2.cell (p := ⟨g, 1, none⟩) hgl).trans s1; have k2 := (b2.cell (p := ⟨g, 2, none⟩) hgl).trans s2; have k3 := (b2.cell (p := ⟨b, 1, none⟩) hbw).trans e1; obtain ⟨t0, t1, t2⟩ := R2.cells; have g0 := R2.frozen 0; have g1 := R2.frozen 1; have g2 := R2.frozen 2; clear o2 b2 R2))
        rename_i hHeld
        clear hHeld
        go_wp2
        refine bodyPost_ret (v := .tuple #[.agg #[.int .i64 (rW R), .int .i64 (rH R), .slice a2 (rL R).length c2], .bool (rB R)]) (by simp [results, Tryd.results51, go_sem, t0, t1, t2]) rfl ?_
        exact fret_put (r := R) B9.out O2.out rfl _ _ _
      · subst hm
        obtain ⟨E, F, rfl⟩ : ∃ E F, Es = [E, F] := by
          match Es, hEl with
          | [E, F], _ => exact ⟨E, F, rfl⟩
        have hE0 := HEr.out 0 (by simp)
        have hE1 := HEr.out 1 (by simp)
        simp only [List.getElem_cons_zero, List.getElem_cons_succ] at hE0 hE1
        have hQ := H2.out rfl _ _ hE0 hE1
        obtain ⟨g1, g2, g3⟩ := HG.out 0 _ hE0
        obtain ⟨g4, g5, g6⟩ := HG.out 1 _ hE1
        have hI := HEi.out 0 (by simp)
        have hJ := HEi.out 1 (by simp)
        simp only [List.getElem_cons_zero, List.getElem_cons_succ] at hI hJ
        obtain ⟨g, cap, hvs, hgB, hrow⟩ := own_row HEo.out (by omega) (by omega)
        have s0 := hrow.cell (k := 0) (by simp [fvs, FE.flat])
        have s1 := hrow.cell (k := 1) (by simp [fvs, FE.flat])
        have s2 := hrow.cell (k := 2) (by simp [fvs, FE.flat])
        have s3 := hrow.cell (k := 3) (by simp [fvs, FE.flat])
        have s4 := hrow.cell (k := 4) (by simp [fvs, FE.flat])
        have s5 := hrow.cell (k := 5) (by simp [fvs, FE.flat])
        simp [fvs, FE.flat] at s0 s1 s2 s3 s4 s5
        have hgl := hrow.lt
        unfold FE.plain at hQ g1 g2 g3 g4 g5 g6
        simp only at hQ g1 g2 g3 g4 g5 g6
        subst hvs
        have hle := good_le g3
        have hle2 := good_le g6
        have hfo : fmO k = k - 2 := by unfold fmO; repeat' split; all_goals omega
        rw [hfo] at e5
        have HE := Lib.hid (fun W h h' => implCombine_any (k - 2) E.wd E.hg E.ad E.l E.c F.wd F.hg F.ad F.l F.c W h h' (by omega) (by omega))
        have HII := Lib.hid (ints_below hI.ints bd)
        have HJJ := Lib.hid (ints_below hJ.ints bd)
        have hgne : ¬ g = w.heap.size := by omega
        have hgne2 : ¬ w.heap.size = g := by omega
        have n7 : ¬ k = 7 := by omega
        subst hQ
        clear hE0 hE1 g1 g2 g3 g4 g5 g6 hI hJ hrow hle hle2 hEl HEo HEi HEr HEl H1 H2 HN HG bd hfo
        generalize combineR (k - 2) E.wd E.hg E.l F.wd F.hg F.l = R at *
        generalize k - 2 = op at *
        generalize E.wd = x0 at *
        generalize E.hg = x1 at *
        generalize E.ad = x2 at *
        generalize E.c = x3 at *
        generalize E.l = L at *
        generalize F.wd = y0 at *
        generalize F.hg = y1 at *
        generalize F.ad = y2 at *
        generalize F.c = y3 at *
        generalize F.l = M at *
        go_wp2_with fail
        go_region_held3 (fun w' => w'.cell? ⟨g, 0, none⟩ = some (.int .i64 x0) ∧ w'.cell? ⟨g, 1, none⟩ = some (.int .i64 x1) ∧ w'.cell? ⟨g, 2, none⟩ = some (.slice x2 L.length x3) ∧ w'.cell? ⟨g, 3, none⟩ = some (.int .i64 y0) ∧ w'.cell? ⟨g, 4, none⟩ = some (.int .i64 y1) ∧ w'.cell? ⟨g, 5, none⟩ = some (.slice y2 M.length y3) ∧ w'.cell? ⟨b, 5, none⟩ = some (.int .i64 op))
          (first | exact ⟨k0, k1, k2, k3, k4, k5, k6⟩ | exact ⟨s0, s1, s2, s3, s4, s5, e5⟩ | go_keep)
          (first | (go_at_call 57; refine (HE.out _ HII.out HJJ.out).mono ?_; rintro e w2 ⟨a2, c2, rfl, o2, b2⟩; have R2 := RD.out.below b2; have B9 := Lib.hid (BD.out.trans (b2.mono BD.out.size)); have O2 := Lib.hid (o2.more (C := w.heap.size + 1) (Nat.succ_le_of_lt RD.out.lt)); have k0 := (b2.cell (p := ⟨g, 0, none⟩) hgl).trans s0; have k1 := (b2.cell (p := ⟨g, 1, none⟩) hgl).trans s1; have k2 := (b2.cell (p := ⟨g, 2, none⟩) hgl).trans s2; have k3 := (b2.cell (p := ⟨g, 3, none⟩) hgl).trans s3; have k4 := (b2.cell (p := ⟨g, 4, none⟩) hgl).trans s4; have k5 := (b2.cell (p := ⟨g, 5, none⟩) hgl).trans s5; have k6 := (b2.cell (p := ⟨b, 5, none⟩) hbw).trans e5; obtain ⟨t0, t1, t2⟩ := R2.cells; have g0 := R2.frozen 0; have g1 := R2.frozen 1; have g2 := R2.frozen 2; clear o2 b2 R2))
        rename_i hHeld
        clear hHeld
        go_wp2
        refine bodyPost_ret (v := .tuple #[.agg #[.int .i64 (rW R), .int .i64 (rH R), .slice a2 (rL R).length c2], .bool (rB R)]) (by simp [results, Tryd.results51, go_sem, t0, t1, t2]) rfl ?_
        exact fret_put (r := R) B9.out O2.out rfl _ _ _
end Go.Proofs.YtikglddifoalfaaDoor
namespace Go.Proofs.YtikglddifoalfaaDoor
open Go.RowKit
set_option linter.unusedVariables false
set_option linter.unusedSimpArgs false
theorem treeValue_any (af : Option Addr) (es : List FE) (cf : Nat) (wd hg : Int) (hok : OkF es wd hg) : ∀ (t : ET), t.ok → ∀ (P : Nat → Prop) (b : Nat) (w : World), TreeAt w P t b → Flds w w.heap.size af es →
    Calls Tryd.prog 51 #[.pointer (some ⟨b, 0, none⟩), .slice af es.length cf] w (FRet (evalT (plains es) t) w) := by
  have hlen := hok.n
  have h0 : 0 < es.length := by omega
  obtain ⟨hne, hall⟩ := hok.allF
  have HG := fun t (hk : ET.ok t) r hr => eval_good hne hall t hk r hr
  intro t
  induction t with
  | n0 k v =>
    intro ht P b w hta hfd
    rcases arity0 ht with ⟨rfl, v0, v3⟩ | ⟨rfl, v0, v9⟩
    · obtain ⟨n, rfl⟩ : ∃ n : Nat, v = (n : Int) := ⟨v.toNat, by omega⟩
      by_cases hv : n < es.length
      · rw [eval_n1 n hv]
        obtain ⟨e1, e2, e3⟩ := hok.e n hv
        exact vf_field P n b af es cf w hta hfd hv (by omega) (by rw [e1, e2]; exact e3)
      · rw [eval_none n hv]
        exact vf_gone P n b af es cf w hta hv (by omega)
    · have e : evalT (plains es) (.n0 2 v) = newR es[0].wd es[0].hg v := by
        unfold evalT
        rw [if_neg (by omega), plains_head es h0]
      rw [e]
      exact vf_num P v b af es cf w hta hfd h0 (by omega)
  | n1 k v x ih =>
    intro ht P b w hta hfd
    obtain ⟨rfl, v0, v9⟩ := arity1 ht.1
    obtain ⟨h1, ga, c, bx, h2, h3, h4, h5⟩ := hta
    refine vf_op 1 7 v (.inl ⟨rfl, rfl⟩) [bx] rfl b ga c af es cf w v0 v9 h3 (fun j h => ?_) (cell_lt h4) hfd (fun _ => evalT (plains es) x) (fun j h W hb hf => ?_) wd hg (fun j r hr => HG x ht.2 r hr) _ (fun j hj hr => ?_) (fun _ r hr => ?_) (fun e => by omega)
    · obtain rfl : j = 0 := by simpa using h
      exact h4
    · obtain rfl : j = 0 := by simpa using h
      exact ih ht.2 P bx W (h5.below hb) hf
    · show (evalT (plains es) x).bind _ = none
      rw [hr]; rfl
    · show (evalT (plains es) x).bind _ = _
      rw [hr]; rfl
  | n2 k v x y ih1 ih2 =>
    intro ht P b w hta hfd
    obtain ⟨k3, k6, rfl⟩ := arity2 ht.1
    obtain ⟨h1, ga, c, bx, bz, h2, h3, h4, h5, h6, h7⟩ := hta
    refine vf_op 2 k 0 (.inr ⟨rfl, k3, k6⟩) [bx, bz] rfl b ga c af es cf w (by omega) (by omega) h3 (fun j h => ?_) (cell_lt h4) hfd (fun j => if j = 0 then evalT (plains es) x else evalT (plains es) y) (fun j h W hb hf => ?_) wd hg (fun j r hr => ?_) _ (fun j hj hr => ?_) (fun e => by omega) (fun _ r s hr hs => ?_)
    · have hj : j = 0 ∨ j = 1 := by simp at h; omega
      rcases hj with rfl | rfl
      · exact h4
      · exact h5
    · have hj : j = 0 ∨ j = 1 := by simp at h; omega
      rcases hj with rfl | rfl
      · exact ih1 ht.2.1 P bx W (h6.below hb) hf
      · exact ih2 ht.2.2 P bz W (h7.below hb) hf
    · by_cases hj : j = 0
      · rw [if_pos hj] at hr; exact HG x ht.2.1 r hr
      · rw [if_neg hj] at hr; exact HG y ht.2.2 r hr
    · show (evalT (plains es) x).bind _ = none
      by_cases h0j : j = 0
      · rw [if_pos h0j] at hr; rw [hr]; rfl
      · rw [if_neg h0j] at hr; rw [hr]; cases evalT (plains es) x <;> rfl
    · rw [if_pos rfl] at hr
      rw [if_neg (by omega)] at hs
      show (evalT (plains es) x).bind _ = _
      rw [hr, Option.bind_some, hs]; rfl
/-- a row of fields at the beginning of a block, as haveOneShape takes it -/
theorem fldRow_of {w : World} {g : Nat} {es : List FE} (h : Flds w w.heap.size (some ⟨g, 0, none⟩) es) (h0 : 0 < es.length) (hs : ∀ e ∈ es, e.l.length ≤ 1048576) :
    FldRow w g es.length (fun j => (es.getD j zeroF).wd) (fun j => (es.getD j zeroF).hg) (fun j => (es.getD j zeroF).ad) (fun j => (es.getD j zeroF).l) (fun j => (es.getD j zeroF).c) := by
  rcases h with rfl | ⟨b, o, e, hb, hc⟩
  · simp at h0
  · injection e with e
    injection e with e1 e2
    subst e1 e2
    refine ⟨hb, fun j hj => ?_⟩
    have hg : es.getD j zeroF = es[j] := by simp [hj]
    obtain ⟨c0, c1, c2, c3⟩ := hc j hj
    simp only [hg]
    simp only [Nat.zero_add] at c0 c1 c2
    exact ⟨c0, c1, c2, c3, hs _ (List.getElem_mem hj)⟩
theorem fields_one {es : List FE} (h1 : 1 ≤ es.length) (h4 : es.length ≤ 4) : oneB (fun j => (es.getD j zeroF).wd) (fun j => (es.getD j zeroF).hg) (fun j => (es.getD j zeroF).l) es.length = fieldsB (plains es) := by
  have hget : ∀ j (hj : j < es.length), es.getD j zeroF = es[j] := fun j hj => by simp [hj]
  rw [Bool.eq_iff_iff, oneB_iff, fieldsB_iff, plains_len]
  constructor
  · intro h
    refine ⟨⟨h1, h4⟩, fun f hf => ?_⟩
    obtain ⟨j, hj, rfl⟩ := List.getElem_of_mem hf
    have hj2 : j < es.length := by rwa [plains_len] at hj
    rw [plains_get es j hj hj2, plains_head es (by omega)]
    have a1 := h j hj2
    have a2 := h 0 (by omega)
    unfold likeB at a1 a2
    simp only [hget j hj2, hget 0 (by omega), Bool.and_eq_true, decide_eq_true_eq] at a1 a2
    exact same_iff.2 ⟨a1.1, a2.1, a1.2.1, a1.2.2⟩
  · rintro ⟨_, h⟩ j hj
    have h2 := h _ (List.getElem_mem (h := show j < (plains es).length by rw [plains_len]; exact hj))
    rw [plains_get es j _ hj, plains_head es (by omega)] at h2
    obtain ⟨a1, a2, a3, a4⟩ := same_iff.1 h2
    unfold likeB
    simp only [hget j hj, hget 0 (by omega), Bool.and_eq_true, decide_eq_true_eq]
    exact ⟨a1, a3, a4⟩
set_option maxRecDepth 100000 in
set_option maxHeartbeats 4000000 in
theorem implEval_any (a : Option Addr) (l : List Nd) (c : Nat) (g : Nat) (es : List FE) (cf : Nat) (w : World) (hnd : Nds w w.heap.size a l) (hfd : Flds w w.heap.size (some ⟨g, 0, none⟩) es) (hn : l.length ≤ 1048576) (hm : es.length ≤ 1048576) (hs : ∀ e ∈ es, e.l.length ≤ 1048576) (htab : NTab w) :
    Calls Tryd.prog 49 #[.slice a l.length c, .slice (some ⟨g, 0, none⟩) es.length cf] w (FRet (evalR l (plains es)) w) := by
  have R0 := Lib.hid (Box.new w 80 (.int .i64 0) (.int .i64 0) (.slice none 0 0))
  have B0 := Lib.hid (below_all w (.cells #[.int .i64 0, .int .i64 0, .slice none 0 0] 80))
  have N0 := Lib.hid (nds_alloc hnd (.cells #[.int .i64 0, .int .i64 0, .slice none 0 0] 80))
  have F0 := Lib.hid (flds_alloc hfd (.cells #[.int .i64 0, .int .i64 0, .slice none 0 0] 80))
  have T0 := Lib.hid (htab.below B0.out)
  have HC := Lib.hid (fun W h t => treeOf_any a l c W h hn t)
  have HSZ := Lib.hid hs
  clear hnd hfd htab hs
  go_enter Tryd.func49, Tryd.ntmps49
  go_wp2_with fail
  refine (HC.out _ N0.out T0.out).mono ?_
  rintro e w1 ⟨b1, ⟨ht, rfl⟩ | ⟨t, b, ht, rfl, h2⟩⟩
  · have hR : evalR l (plains es) = none := by unfold evalR; rw [ht]; split <;> rfl
    have HQ := Lib.hid hR
    have R1 := R0.out.below b1
    obtain ⟨t0, t1, t2⟩ := R1.cells
    have g0 := R1.frozen 0
    have g1 := R1.frozen 1
    have g2 := R1.frozen 2
    have B9 := Lib.hid (below_then B0.out b1)
    clear b1 R1 R0 B0 ht hR
    go_wp2_with fail
    refine bodyPost_ret (v := .tuple #[.agg #[.int .i64 0, .int .i64 0, .slice none 0 0], .bool false]) (by simp [results, Tryd.results49, go_sem, t0, t1, t2]) rfl ?_
    rw [HQ.out]
    first | exact ⟨none, 0, rfl, OwnI.none_, B9.out⟩ | exact fret_put (r := none) B9.out OwnI.none_ rfl _ _ _
  · have R1 := Lib.hid (R0.out.below b1)
    have B1 := Lib.hid (below_then B0.out b1)
    have F1 := Lib.hid (flds_below F0.out b1)
    have HT := Lib.hid h2
    obtain ⟨_, _, hok⟩ := treeT_some ht
    have hRR : fieldsB (plains es) = true → evalR l (plains es) = evalT (plains es) t := by intro h; unfold evalR; rw [if_pos h, ht]; rfl
    have hRN : fieldsB (plains es) = false → evalR l (plains es) = none := by intro h; exact if_neg (by rw [h]; simp)
    have HRR := Lib.hid hRR
    have HRN := Lib.hid hRN
    clear b1 R0 B0 F0 h2 ht hRR hRN
    by_cases hlen : 1 ≤ es.length ∧ es.length ≤ 4
    · have k1 : ¬ (es.length : Int) < 1 := by omega
      have k4 : ¬ (4 : Int) < (es.length : Int) := by omega
      have hone := fields_one hlen.1 hlen.2
      cases hfb : fieldsB (plains es) with
      | false =>
        have HQ := Lib.hid (HRN.out hfb)
        rw [hfb] at hone
        have HF := Lib.hid (oneShape_is g es.length cf _ _ _ _ _ false w1 (fldRow_of F1.out hlen.1 HSZ.out) hlen.1 (by omega) hone)
        clear hone hfb
        go_wp2_with fail
        refine HF.out.mono ?_
        rintro e w2 ⟨rfl, b2⟩
        have R2 := R1.out.below b2
        obtain ⟨t0, t1, t2⟩ := R2.cells
        have g0 := R2.frozen 0
        have g1 := R2.frozen 1
        have g2 := R2.frozen 2
        have B9 := Lib.hid (below_then B1.out b2)
        clear b2 R2 R1 B1
        go_wp2_with fail
        refine bodyPost_ret (v := .tuple #[.agg #[.int .i64 0, .int .i64 0, .slice none 0 0], .bool false]) (by simp [results, Tryd.results49, go_sem, t0, t1, t2]) rfl ?_
        rw [HQ.out]
        first | exact ⟨none, 0, rfl, OwnI.none_, B9.out⟩ | exact fret_put (r := none) B9.out OwnI.none_ rfl _ _ _
      | true =>
        have HQ := Lib.hid (HRR.out hfb)
        rw [hfb] at hone
        have HF := Lib.hid (oneShape_is g es.length cf _ _ _ _ _ true w1 (fldRow_of F1.out hlen.1 HSZ.out) hlen.1 (by omega) hone)
        have hokF := okF_of hfb (by omega)
        have HV := Lib.hid (fun P b W h h' => treeValue_any (some ⟨g, 0, none⟩) es cf _ _ hokF t hok P b W h h')
        clear hone hfb hokF
        generalize evalT (plains es) t = R at HV HQ
        go_wp2_with fail
        refine HF.out.mono ?_
        rintro e w2 ⟨rfl, b2⟩
        have R2 := Lib.hid (R1.out.below b2)
        have B2 := Lib.hid (below_then B1.out b2)
        have F2 := Lib.hid (flds_below F1.out b2)
        have HT2 := Lib.hid (HT.out.below b2)
        clear b2 R1 B1 F1 HT
        go_wp2_with fail
        refine (HV.out _ _ _ HT2.out F2.out).mono ?_
        rintro e w5 ⟨a5, c5, rfl, o5, b5⟩
        have O5 := Lib.hid (o5.more (C := w.heap.size + 1) (Nat.succ_le_of_lt R2.out.lt))
        have R5 := R2.out.below b5
        have B9 := Lib.hid (below_then B2.out b5)
        obtain ⟨t0, t1, t2⟩ := R5.cells
        have g0 := R5.frozen 0
        have g1 := R5.frozen 1
        have g2 := R5.frozen 2
        clear o5 b5 R5
        go_wp2_with fail
        refine bodyPost_ret (v := .tuple #[.agg #[.int .i64 (rW R), .int .i64 (rH R), .slice a5 (rL R).length c5], .bool (rB R)]) (by simp [results, Tryd.results49, go_sem, t0, t1, t2]) rfl ?_
        rw [HQ.out]
        exact fret_put (r := R) B9.out O5.out rfl _ _ _
    · have HQ := Lib.hid (HRN.out (fieldsB_short (by rw [plains_len]; omega)))
      obtain ⟨t0, t1, t2⟩ := R1.out.cells
      have g0 := R1.out.frozen 0
      have g1 := R1.out.frozen 1
      have g2 := R1.out.frozen 2
      have B9 := Lib.hid B1.out
      by_cases k1 : es.length < 1
      · have k2 : (es.length : Int) < 1 := by omega
        go_wp2_with fail
        refine bodyPost_ret (v := .tuple #[.agg #[.int .i64 0, .int .i64 0, .slice none 0 0], .bool false]) (by simp [results, Tryd.results49, go_sem, t0, t1, t2]) rfl ?_
        rw [HQ.out]
        first | exact ⟨none, 0, rfl, OwnI.none_, B9.out⟩ | exact fret_put (r := none) B9.out OwnI.none_ rfl _ _ _
      · have k2 : ¬ (es.length : Int) < 1 := by omega
        have k4 : (4 : Int) < (es.length : Int) := by omega
        go_wp2_with fail
        refine bodyPost_ret (v := .tuple #[.agg #[.int .i64 0, .int .i64 0, .slice none 0 0], .bool false]) (by simp [results, Tryd.results49, go_sem, t0, t1, t2]) rfl ?_
        rw [HQ.out]
        first | exact ⟨none, 0, rfl, OwnI.none_, B9.out⟩ | exact fret_put (r := none) B9.out OwnI.none_ rfl _ _ _
end Go.Proofs.YtikglddifoalfaaDoor
namespace Go.Proofs.YtikglddifoalfaaDoor
open Go.RowKit
set_option linter.unusedVariables false
set_option linter.unusedSimpArgs false
theorem nums_no {l : List Nd} {k : Nat} (hk : k < l.length) (h : ¬ l[k].1 = 2) : numsB l = false := by
  unfold numsB
  have : (l.all fun q => decide (q.1 = 2)) = false := by
    rw [List.all_eq_false]
    exact ⟨l[k], List.getElem_mem hk, by simpa using h⟩
  rw [this, Bool.and_false]
theorem nums_yes {l : List Nd} (h : ∀ k (hk : k < l.length), l[k].1 = 2) : numsB l = decide (0 < l.length) := by
  unfold numsB
  have : (l.all fun q => decide (q.1 = 2)) = true := by
    rw [List.all_eq_true]
    intro q hq
    obtain ⟨k, hk, rfl⟩ := List.getElem_of_mem hq
    exact decide_eq_true (h k hk)
  rw [this, Bool.and_true]
set_option maxHeartbeats 1000000 in
theorem areNumbers_any (a : Option Addr) (l : List Nd) (c : Nat) (w : World) (hl : Nds w w.heap.size a l) (hn : l.length ≤ 1048576) :
    Calls Tryd.prog 45 #[.slice a l.length c] w fun e w' => e = .returned (.bool (numsB l)) ∧ Below w.heap.size w w' := by
  have HL := Lib.hid hl
  clear hl
  go_enter Tryd.func45, Tryd.ntmps45
  go_wp2
  go_loopw [7] (fun i wr => ∃ k : Nat, k ≤ l.length ∧ i = .int .i64 k ∧ (∀ j (hj : j < l.length), j < k → l[j].1 = 2) ∧ Below w.heap.size w wr) (fun i _ => l.length - (intOf i).toNat)
  case atStart => exact ⟨0, Nat.zero_le _, rfl, by intro j _ h; omega, Below.refl _ _⟩
  case round =>
    obtain ⟨k, hk, rfl, hno, hw⟩ := hrel
    have HW := Lib.hid hw
    have HNO := Lib.hid hno
    clear hw hno
    by_cases hlt : k < l.length
    · obtain ⟨b, o, rfl, hb, c0, c1⟩ := (HL.out.below HW.out (Nat.le_refl _)).at_ hlt
      have hi : (k : Int) < (l.length : Int) := by omega
      have hi0 : (0 : Int) ≤ (k : Int) := by omega
      have HNOK := Lib.hid (nums_no hlt)
      have HOK := Lib.hid (fun (h : l[k].1 = 2) (j : Nat) (hj : j < l.length) (hjk : j < k + 1) => (show l[j].1 = 2 from by
        by_cases hjk2 : j < k
        · exact HNO.out j hj hjk2
        · obtain rfl : j = k := by omega
          exact h))
      generalize l[k].1 = x at *
      generalize l[k].2 = y at *
      obtain ⟨tb, htb⟩ : ∃ q, wr.heap.size = q := ⟨_, rfl⟩
      obtain ⟨W5, hW5⟩ : ∃ W, wr.alloc (.cells #[.int .i64 x, .int .i64 y] 49) = W := ⟨_, rfl⟩
      have T5 := Lib.hid (show BoxC W5 tb 49 #[.int .i64 x, .int .i64 y] by rw [← hW5, ← htb]; exact BoxC.new _ _ _)
      have B5 := Lib.hid (show Below w.heap.size w W5 by rw [← hW5]; exact HW.out.alloc HW.out.size _)
      have t0 := T5.out.cell 0
      have t1 := T5.out.cell 1
      simp at t0 t1
      by_cases hx : x = 2
      · have HY := Lib.hid (HOK.out hx)
        subst hx
        go_wp2
        go_roundw
        case rel => exact ⟨k + 1, by omega, by go_num, HY.out, B5.out⟩
        case measure => simp [intOf]; omega
      · have HY := Lib.hid (HNOK.out hx)
        have hx2 : (x == 2) = false := by rw [beq_eq_false_iff_ne]; exact hx
        clear hx
        go_wp2
        go_ret
        exact ⟨by rw [HY.out]; rfl, B5.out⟩
    · have hge : ¬ (k : Int) < (l.length : Int) := by omega
      have HY := Lib.hid (nums_yes fun j hj => HNO.out j hj (by omega))
      clear hlt
      go_wp2
      go_ret
      exact ⟨by rw [HY.out]; rfl, HW.out⟩
def FE.one (g : Nat) (c : Nat) : FE := ⟨1, 1, some ⟨g, 0, none⟩, [0], c, g⟩
theorem row_zero {w : World} {q : Nat} (hq : w.heap.size = q) : Row (w.alloc (.cells #[.int .i64 0] 3)) q 3 (iv [0]) := by
  subst hq
  exact ⟨_, heap_alloc_new _ _, fun k hk => by obtain rfl : k = 0 := by simpa [iv] using hk
                                               rfl⟩
theorem flds_one {w : World} {g q : Nat} {t : TypeId} (h : Box w g t (.int .i64 1) (.int .i64 1) (.slice (some ⟨q, 0, none⟩) 1 1)) (hr : Row w q 3 (iv [0])) : Flds w w.heap.size (some ⟨g, 0, none⟩) [FE.one q 1] := by
  refine .inr ⟨g, 0, rfl, h.lt, fun j hj => ?_⟩
  obtain rfl : j = 0 := by simpa using hj
  obtain ⟨c0, c1, c2⟩ := h.cells
  exact ⟨c0, c1, c2, At.ints (.inr ⟨rfl, hr⟩)⟩
theorem own_one {w : World} {B : Nat} {a : Option Addr} {z : Int} (h : OwnI w B a [z]) : ∃ g, a = some ⟨g, 0, none⟩ ∧ Row w g 3 (iv [z]) := by
  obtain ⟨g, _, h | ⟨h, r⟩⟩ := h
  · cases h
  · exact ⟨g, h, r⟩
set_option maxRecDepth 100000 in
set_option maxHeartbeats 1000000 in
theorem numberOf_any (a : Option Addr) (l : List Nd) (c : Nat) (w : World) (hl : Nds w w.heap.size a l) (hn : l.length ≤ 1048576) (ht : NTab w) :
    Calls Tryd.prog 46 #[.slice a l.length c] w fun e w' => e = .returned (.tuple #[.int .i64 (numV l), .bool (numR l).isSome]) ∧ Below w.heap.size w w' := by
  have HE := Lib.hid (fun W g q (h : Nds W W.heap.size a l) (h2 : Flds W W.heap.size (some ⟨g, 0, none⟩) [FE.one q 1]) t => show Calls Tryd.prog 49 #[.slice a l.length c, .slice (some ⟨g, 0, none⟩) 1 1] W (FRet (evalR l hereF) W) from implEval_any a l c g [FE.one q 1] 1 W h h2 hn (by simp) (fun e he => by rw [List.mem_singleton] at he; subst he; simp [FE.one]) t)
  obtain ⟨q, hq⟩ : ∃ q, w.heap.size = q := ⟨_, rfl⟩
  obtain ⟨W3, hW3⟩ : ∃ W, (((w.alloc (.cells #[.int .i64 0] 3)).alloc (.cells #[.int .i64 1, .int .i64 1, .slice (some ⟨q, 0, none⟩) 1 1] 80)).alloc (.cells #[.int .i64 1, .int .i64 1, .slice (some ⟨q, 0, none⟩) 1 1] 80)) = W := ⟨_, rfl⟩
  have B3 := Lib.hid (show Below w.heap.size w W3 by rw [← hW3]; exact (((Below.refl w.heap.size w).alloc (by simp <;> omega) _).alloc (by simp <;> omega) _).alloc (by simp <;> omega) _)
  have K3 := Lib.hid (show Box W3 (q + 1 + 1) 80 (.int .i64 1) (.int .i64 1) (.slice (some ⟨q, 0, none⟩) 1 1) by rw [← hW3]; have h := Box.new ((w.alloc (.cells #[.int .i64 0] 3)).alloc (.cells #[.int .i64 1, .int .i64 1, .slice (some ⟨q, 0, none⟩) 1 1] 80)) 80 (.int .i64 1) (.int .i64 1) (.slice (some ⟨q, 0, none⟩) 1 1); simp only [World.size_alloc, hq] at h; exact h)
  have R3 := Lib.hid (show Row W3 q 3 (iv [0]) by rw [← hW3]; exact ((row_zero hq).alloc _).alloc _)
  have N3 := Lib.hid (nds_below hl B3.out)
  have T3 := Lib.hid (ht.below B3.out)
  have F3 := Lib.hid (flds_one K3.out R3.out)
  clear hl ht K3 R3
  rcases here_eval (l := l) with hv | ⟨z, hv, z0, z9⟩
  · have hr := numR_none hv
    have HV := Lib.hid (numV_none hr)
    have HR := Lib.hid hr
    rw [hv] at HE
    clear hv hr
    go_enter Tryd.func46, Tryd.ntmps46
    go_wp2_with fail
    refine (HE.out _ _ _ N3.out F3.out T3.out).mono ?_
    rintro e w4 ⟨a4, c4, rfl, o4, b4⟩
    have B4 := Lib.hid (below_then B3.out b4)
    clear b4 o4 B3 N3 T3 F3 hW3
    go_wp2_with fail
    first | go_quiet (fail) | go_region | skip
    all_goals go_wp2
    all_goals go_ret2
    all_goals exact ⟨by rw [HV.out, HR.out]; rfl, by first | exact B4.out.alloc B4.out.size _ | exact (B4.out.alloc B4.out.size _).drew⟩
  · have hr := numR_one hv
    rw [hv] at HE
    have HQ : Hid (∀ W g q, Nds W W.heap.size a l → Flds W W.heap.size (some ⟨g, 0, none⟩) [FE.one q 1] → NTab W → Calls Tryd.prog 49 #[.slice a l.length c, .slice (some ⟨g, 0, none⟩) 1 1] W fun e w' => ∃ g4 c4, e = .returned (.tuple #[.agg #[.int .i64 1, .int .i64 1, .slice (some ⟨g4, 0, none⟩) 1 c4], .bool true]) ∧ Row w' g4 3 (iv [z]) ∧ Below W.heap.size W w') := by
      refine Lib.hid fun W g q h1 h2 h3 => (HE.out W g q h1 h2 h3).mono ?_
      rintro e w4 ⟨a4, c4, rfl, o4, b4⟩
      obtain ⟨g4, rfl, r4⟩ := own_one o4
      exact ⟨g4, c4, rfl, r4, b4⟩
    clear HE
    clear hv
    by_cases hz : z < 0
    · rw [if_pos hz] at hr
      have HV := Lib.hid (numV_none hr)
      have HR := Lib.hid hr
      clear hr
      go_enter Tryd.func46, Tryd.ntmps46
      go_wp2_with fail
      refine (HQ.out _ _ _ N3.out F3.out T3.out).mono ?_
      rintro e w4 ⟨g4, c4, rfl, r4, b4⟩
      have B4 := Lib.hid (below_then B3.out b4)
      have R4 := Lib.hid r4
      clear b4 B3 N3 T3 F3 hW3 r4
      obtain ⟨W5, hW5⟩ : ∃ W, w4.alloc (.cells #[.int .i64 1, .int .i64 1, .slice (some ⟨g4, 0, none⟩) 1 c4] 80) = W := ⟨_, rfl⟩
      have K5 := Lib.hid (show Box W5 w4.heap.size 80 (.int .i64 1) (.int .i64 1) (.slice (some ⟨g4, 0, none⟩) 1 c4) by rw [← hW5]; exact Box.new _ _ _ _ _)
      have R5 := Lib.hid (show Row W5 g4 3 (iv [z]) by rw [← hW5]; exact R4.out.alloc _)
      have B5 := Lib.hid (show Below w.heap.size w W5 by rw [← hW5]; exact B4.out.alloc B4.out.size _)
      obtain ⟨t0, t1, t2⟩ := K5.out.cells
      have c0 := R5.out.cell (k := 0) (by simp [iv])
      simp [iv] at c0
      clear B4 R4 K5 R5
      go_wp2_with fail
      first | go_quiet (fail) | go_region | skip
      all_goals go_wp2
      all_goals go_ret2
      all_goals exact ⟨by rw [HV.out, HR.out]; rfl, by first | exact B5.out | exact B5.out.drew⟩
    · rw [if_neg hz] at hr
      have HV := Lib.hid (numV_some hr)
      have HR := Lib.hid hr
      have hzn : ¬ z < 0 := hz
      clear hr
      go_enter Tryd.func46, Tryd.ntmps46
      go_wp2_with fail
      refine (HQ.out _ _ _ N3.out F3.out T3.out).mono ?_
      rintro e w4 ⟨g4, c4, rfl, r4, b4⟩
      have B4 := Lib.hid (below_then B3.out b4)
      have R4 := Lib.hid r4
      clear b4 B3 N3 T3 F3 hW3 r4
      obtain ⟨W5, hW5⟩ : ∃ W, w4.alloc (.cells #[.int .i64 1, .int .i64 1, .slice (some ⟨g4, 0, none⟩) 1 c4] 80) = W := ⟨_, rfl⟩
      have K5 := Lib.hid (show Box W5 w4.heap.size 80 (.int .i64 1) (.int .i64 1) (.slice (some ⟨g4, 0, none⟩) 1 c4) by rw [← hW5]; exact Box.new _ _ _ _ _)
      have R5 := Lib.hid (show Row W5 g4 3 (iv [z]) by rw [← hW5]; exact R4.out.alloc _)
      have B5 := Lib.hid (show Below w.heap.size w W5 by rw [← hW5]; exact B4.out.alloc B4.out.size _)
      obtain ⟨t0, t1, t2⟩ := K5.out.cells
      have c0 := R5.out.cell (k := 0) (by simp [iv])
      simp [iv] at c0
      clear B4 R4 K5 R5
      go_wp2_with fail
      first | go_quiet (fail) | go_region | skip
      all_goals go_wp2
      all_goals go_ret2
      all_goals exact ⟨by rw [HV.out, HR.out]; rfl, by first | exact B5.out | exact B5.out.drew⟩
end Go.Proofs.YtikglddifoalfaaDoor
namespace Go.Proofs.YtikglddifoalfaaDoor
open Go.RowKit
set_option linter.unusedVariables false
set_option linter.unusedSimpArgs false
theorem repl_none {l : List Nd} {f : Int} {b : List Nd} (h : inF f = false ∨ exprB l = false ∨ exprB b = false) : replB l f b = false ∧ replL l f b = [] := by
  have e : replB l f b = false := by unfold replB; rcases h with h | h | h <;> rw [h] <;> simp
  exact ⟨e, repl_no e⟩
theorem fmOk_field (f : Int) : fmOk 1 f = inF f := by
  unfold fmOk arity inF
  rw [if_pos rfl]
  by_cases h : 0 ≤ f ∧ f ≤ 3
  · rw [if_pos h, decide_eq_true h.1, decide_eq_true h.2]; rfl
  · rw [if_neg h]
    by_cases h0 : 0 ≤ f
    · rw [decide_eq_false (fun h3 => h ⟨h0, h3⟩)]; simp
    · rw [decide_eq_false h0]; rfl
theorem box_row {w w' : World} {nb base e size n : Nat} {t : TypeId} {vs : Array Value} {v : Value} {xs : List Value} (h : BoxC w nb t vs) (ho : w.ownsRow base e size v n xs) (hg : w.grownBy w' v.ownBlock) (hb : nb < base) : BoxC w' nb t vs :=
  (hg.block nb h.lt (fun e => by have := (ho.lt nb e.symm).1; omega)).trans h
set_option maxRecDepth 100000 in
set_option maxHeartbeats 2000000 in
theorem implRepl_any (a : Option Addr) (l : List Nd) (c : Nat) (f : Int) (ab : Option Addr) (b : List Nd) (cb : Nat) (w : World) (hl : Nds w w.heap.size a l) (hb : Nds w w.heap.size ab b) (hn : l.length ≤ 1048576) (hnb : b.length ≤ 1048576) (ht : NTab w) :
    Calls Tryd.prog 7 #[.slice a l.length c, .int .i64 f, .slice ab b.length cb] w (RPost l f b w) := by
  obtain ⟨i0, hi0', hz0, hz1, hz2⟩ := info_parts infoNode
  have HL := Lib.hid hl
  have HBY := Lib.hid hb
  have HT := Lib.hid ht
  have HE1 := Lib.hid (fun W h t => implExpr_any a l c W h hn t)
  have HE2 := Lib.hid (fun W h t => implExpr_any ab b cb W h hnb t)
  have HVN := Lib.hid (repl_none (l := l) (f := f) (b := b))
  have HVE := Lib.hid (fun h1 h2 h3 => (repl_expr (l := l) (f := f) (b := b) h1 h2 h3).2)
  have HVR := Lib.hid (repl_both (l := l) (f := f) (b := b))
  have HF := Lib.hid (fun W h => formOf_any 1 f W h)
  rw [fmOk_field] at HF
  unfold RPost
  unfold formV at HF
  clear hl hb ht
  generalize replB l f b = v at *
  generalize replL l f b = rl at *
  generalize fmK 1 = y0 at *
  generalize fmT 1 = y1 at *
  generalize fmM 1 = y2 at *
  generalize fmO 1 = y3 at *
  generalize fmA 1 = y4 at *
  generalize fmB 1 = y5 at *
  generalize fmC 1 = y6 at *
  obtain ⟨nb, hnb0⟩ : ∃ q, w.heap.size = q := ⟨_, rfl⟩
  obtain ⟨W1, hW1⟩ : ∃ W, w.alloc (.cells #[.int .i64 1, .int .i64 f] 49) = W := ⟨_, rfl⟩
  have B1 := Lib.hid (show Below w.heap.size w W1 by rw [← hW1]; exact below_all _ _)
  have X1 := Lib.hid (show BoxC W1 nb 49 #[.int .i64 1, .int .i64 f] by rw [← hW1, ← hnb0]; exact BoxC.new _ _ _)
  have c0 := X1.out.cell 0
  have c1 := X1.out.cell 1
  simp at c0 c1
  go_enter Tryd.func7, Tryd.ntmps7
  go_wp2_with fail
  refine (HF.out _ (HT.out.below B1.out)).mono ?_
  rintro e w2 ⟨rfl, b2⟩
  have X2 := X1.out.below b2
  have B2 := below_then B1.out b2
  clear b2 X1 B1 c0 c1 hW1
  obtain ⟨W2, hW2⟩ : ∃ W, w2.alloc (.cells #[.int .i64 y0, .int .i64 y1, .int .i64 y2, .int .i64 y3, .string y4, .string y5, .string y6] 52) = W := ⟨_, rfl⟩
  have X2 := Lib.hid (show BoxC W2 nb 49 #[.int .i64 1, .int .i64 f] by rw [← hW2]; exact X2.alloc _)
  have B2 := Lib.hid (show Below w.heap.size w W2 by rw [← hW2]; exact below_then B2 (below_all _ _))
  cases h3 : inF f with
  | false =>
    obtain ⟨ev, el⟩ := HVN.out (.inl h3)
    subst ev el
    clear h3
    go_wp2
    go_ret2
    exact ⟨_, _, rfl, OwnN.none_, B2.out.alloc B2.out.size _⟩
  | true =>
    cases h1 : exprB l with
    | false =>
      obtain ⟨ev, el⟩ := HVN.out (.inr (.inl h1))
      subst ev el
      rw [h1] at HE1
      clear h1 h3
      go_wp2_with fail
      refine (HE1.out _ (nds_below HL.out B2.out) (HT.out.below B2.out)).mono ?_
      rintro e w3 ⟨rfl, b3⟩
      have B3 := Lib.hid (below_then B2.out b3)
      clear b3
      go_wp2
      go_ret2
      exact ⟨_, _, rfl, OwnN.none_, B3.out.alloc B3.out.size _⟩
    | true =>
      rw [h1] at HE1
      cases h2 : exprB b with
      | false =>
        obtain ⟨ev, el⟩ := HVN.out (.inr (.inr h2))
        subst ev el
        rw [h2] at HE2
        clear h1 h2 h3
        go_wp2_with fail
        refine (HE1.out _ (nds_below HL.out B2.out) (HT.out.below B2.out)).mono ?_
        rintro e w3 ⟨rfl, b3⟩
        have B3 := Lib.hid (below_then B2.out b3)
        clear b3
        go_wp2_with fail
        refine (HE2.out _ (nds_below HBY.out B3.out) (HT.out.below B3.out)).mono ?_
        rintro e w4 ⟨rfl, b4⟩
        have B4 := Lib.hid (below_then B3.out b4)
        clear b4
        go_wp2
        go_ret2
        exact ⟨_, _, rfl, OwnN.none_, B4.out.alloc B4.out.size _⟩
      | true =>
        rw [h2] at HE2
        obtain ⟨r2, r3, r4⟩ := HVE.out h1 h2 h3
        have HVR2 := Lib.hid (HVR.out r2)
        have HNE := Lib.hid (expr_ne h2)
        have HLE := Lib.hid (fun k => replR_le (f := f) r4 (l.take k))
        clear h1 h2 h3 r2 HVR HVE HVN
        go_wp2_with fail
        refine (HE1.out _ (nds_below HL.out B2.out) (HT.out.below B2.out)).mono ?_
        rintro e w3 ⟨rfl, b3⟩
        have B3 := Lib.hid (below_then B2.out b3)
        have X3 := Lib.hid (X2.out.below b3)
        clear b3 B2 X2 hW2
        go_wp2_with fail
        refine (HE2.out _ (nds_below HBY.out B3.out) (HT.out.below B3.out)).mono ?_
        rintro e w4 ⟨rfl, b4⟩
        have B4 := Lib.hid (below_then B3.out b4)
        have X4 := Lib.hid (X3.out.below b4)
        have hz4 : w.heap.size + 1 ≤ w4.heap.size := by have := X4.out.lt; omega
        clear b4 B3 X3 HE1 HE2 HF HT
        go_wp2
        go_loopw [11, 37] (fun out i wr => ∃ k : Nat, k ≤ l.length ∧ i = .int .i64 k ∧ wr.ownsRow (w.heap.size + 1) 49 2 out (replR (l.take k) f b).length (nv (replR (l.take k) f b)) ∧ BoxC wr nb 49 #[.int .i64 1, .int .i64 f] ∧ Below w.heap.size w wr) (fun _ i _ => l.length - (intOf i).toNat)
        case atStart => exact ⟨0, Nat.zero_le _, rfl, (by have h := World.ownsRow_made (base := w.heap.size + 1) (e := 49) (size := 2) w4 #[] 0 hz4 (by simp) rfl; rw [replR_zero]; exact h), X4.out.alloc _, B4.out.alloc B4.out.size _⟩
        case round =>
          obtain ⟨k, hk, rfl, hown, hbx, hB⟩ := hrel
          have HSZ := Lib.hid (show w.heap.size + 1 ≤ wr.heap.size by have := hbx.lt; omega)
          have hlen := HLE.out k
          have hlt15 : (l.take k).length ≤ 15 := by rw [List.length_take]; omega
          have HLEN := Lib.hid (show (replR (l.take k) f b).length ≤ 225 by omega)
          have HO := Lib.hid hown
          have HX := Lib.hid hbx
          have HB := Lib.hid hB
          clear hown hbx hB hlen hlt15 X4 B4
          by_cases hlt : k < l.length
          · have hi : (k : Int) < (l.length : Int) := by omega
            have hi0 : (0 : Int) ≤ (k : Int) := by omega
            obtain ⟨bk, o, rfl, hbk, q0, q1⟩ := (HL.out.below HB.out (Nat.le_refl _)).at_ hlt
            have HS := Lib.hid (replR_step (f := f) (b := b) hlt)
            generalize replR (l.take k) f b = rs at *
            have HYS := Lib.hid (oneR_yes (p := l[k]) (f := f) (b := b))
            have HNO := Lib.hid (oneR_no (p := l[k]) (f := f) (b := b))
            generalize oneR l[k] f b = one at *
            have HPP := Lib.hid (show l[k] = (l[k].1, l[k].2) from rfl)
            generalize l[k].1 = x at *
            generalize l[k].2 = y at *
            obtain ⟨tb, htb⟩ : ∃ q, wr.heap.size = q := ⟨_, rfl⟩
            obtain ⟨W5, hW5⟩ : ∃ W, wr.alloc (.cells #[.int .i64 x, .int .i64 y] 49) = W := ⟨_, rfl⟩
            have T5 := Lib.hid (show BoxC W5 tb 49 #[.int .i64 x, .int .i64 y] by rw [← hW5, ← htb]; exact BoxC.new _ _ _)
            have X5 := Lib.hid (show BoxC W5 nb 49 #[.int .i64 1, .int .i64 f] by rw [← hW5]; exact HX.out.alloc _)
            have O5 := Lib.hid (show W5.ownsRow (w.heap.size + 1) 49 2 _ rs.length (nv rs) by rw [← hW5]; exact HO.out.alloc _)
            have B5 := Lib.hid (show Below w.heap.size w W5 by rw [← hW5]; exact HB.out.alloc HB.out.size _)
            have SZ5 := Lib.hid (show w.heap.size + 1 ≤ W5.heap.size by rw [← hW5]; have := HSZ.out; simp; omega)
            have t0 := T5.out.cell 0
            have t1 := T5.out.cell 1
            have x0 := X5.out.cell 0
            have x1 := X5.out.cell 1
            simp at t0 t1 x0 x1
            clear HO HX HB
            by_cases hx : x = 1 ∧ y = f
            · obtain ⟨rfl, rfl⟩ := hx
              obtain ⟨bb, ob, rfl, _⟩ : ∃ bb ob, ab = some ⟨bb, ob, none⟩ ∧ True := by
                rcases HBY.out with hnil | ⟨bb, ob, e, _⟩
                · exact absurd hnil HNE.out
                · exact ⟨bb, ob, e, trivial⟩
              have HNW := Lib.hid (nds_news (nds_below HBY.out B5.out))
              have HY := Lib.hid (HYS.out rfl rfl)
              go_wp2_with (at_builtin; refine wpList_append_own _ rfl _ _ 24 rfl (w.heap.size + 1) 49 i0 _ 2 16 Tryd.underlying24 hi0' hz0 hz1 hz2 rfl (by decide) _ rs.length (nv rs) rfl O5.out ⟨bb, ob, none⟩ b.length cb (nv b) rfl (nv_length b) HNW.out (nv_one b) (by have := HLEN.out; unfold maxLen; omega) (by have := HLEN.out; omega) SZ5.out ?_; intro v' w6 hown' hgrow _; have HO6 := Lib.hid hown'; have HG6 := Lib.hid hgrow; clear hown' hgrow)
              go_roundw
              case rel => exact ⟨k + 1, by omega, by go_num, by rw [HS.out, HY.out, nv_append, List.length_append]; exact HO6.out, box_row X5.out O5.out HG6.out (by omega), B5.out.grown HG6.out B5.out.size (fun k hk => by have := (O5.out.lt k hk).1; omega)⟩
              case measure => simp [intOf]; omega
            · have HY := Lib.hid (HNO.out hx)
              by_cases hx1 : x = 1
              · subst hx1
                have e2 : (y == f) = false := by rw [beq_eq_false_iff_ne]; intro e; exact hx ⟨rfl, e⟩
                clear hx
                go_wp2_with (at_builtin; refine wpList_append_own _ rfl _ _ 24 rfl (w.heap.size + 1) 49 i0 _ 2 16 Tryd.underlying24 hi0' hz0 hz1 hz2 rfl (by decide) _ rs.length (nv rs) rfl (O5.out.alloc _) ⟨W5.heap.size, 0, none⟩ 1 1 [.int .i64 1, .int .i64 y] rfl rfl (World.news_of_block (heap_alloc_new _ _)) (by simp [Value.oneCell']) (by have := HLEN.out; unfold maxLen; omega) (by have := HLEN.out; omega) (by have := SZ5.out; simp; omega) ?_; intro v' w6 hown' hgrow _; have HO6 := Lib.hid hown'; have HG6 := Lib.hid hgrow; clear hown' hgrow)
                go_roundw
                case rel => exact ⟨k + 1, by omega, by go_num, by rw [HS.out, HY.out, HPP.out, nv_append, List.length_append]; exact HO6.out, box_row (X5.out.alloc _) (O5.out.alloc _) HG6.out (by omega), (B5.out.alloc B5.out.size _).grown HG6.out (by have := B5.out.size; simp; omega) (fun k hk => by have := (O5.out.lt k hk).1; omega)⟩
                case measure => simp [intOf]; omega
              · have e1 : (x == 1) = false := by rw [beq_eq_false_iff_ne]; exact hx1
                clear hx hx1
                go_wp2_with (at_builtin; refine wpList_append_own _ rfl _ _ 24 rfl (w.heap.size + 1) 49 i0 _ 2 16 Tryd.underlying24 hi0' hz0 hz1 hz2 rfl (by decide) _ rs.length (nv rs) rfl (O5.out.alloc _) ⟨W5.heap.size, 0, none⟩ 1 1 [.int .i64 x, .int .i64 y] rfl rfl (World.news_of_block (heap_alloc_new _ _)) (by simp [Value.oneCell']) (by have := HLEN.out; unfold maxLen; omega) (by have := HLEN.out; omega) (by have := SZ5.out; simp; omega) ?_; intro v' w6 hown' hgrow _; have HO6 := Lib.hid hown'; have HG6 := Lib.hid hgrow; clear hown' hgrow)
                go_roundw
                case rel => exact ⟨k + 1, by omega, by go_num, by rw [HS.out, HY.out, HPP.out, nv_append, List.length_append]; exact HO6.out, box_row (X5.out.alloc _) (O5.out.alloc _) HG6.out (by omega), (B5.out.alloc B5.out.size _).grown HG6.out (by have := B5.out.size; simp; omega) (fun k hk => by have := (O5.out.lt k hk).1; omega)⟩
                case measure => simp [intOf]; omega
          · obtain rfl : k = l.length := by omega
            rw [List.take_length] at HO HLEN
            have HVRo := HVR2.out
            clear HVR2
            obtain ⟨a5, c5, rfl, o5⟩ := ownN_of HO.out rfl
            have HO5 := Lib.hid (o5.more (show w.heap.size ≤ w.heap.size + 1 by omega))
            clear o5 HO HL HBY
            have hlq := HLEN.out
            generalize replR l f b = rs at *
            by_cases hle : rs.length ≤ 15
            · have hgt : ¬ ((15 : Int) < (rs.length : Int)) := by omega
              obtain ⟨ev, el⟩ := HVRo.1 hle
              subst ev el
              clear HVRo
              go_wp2
              go_ret2
              exact ⟨_, ⟨_, rfl⟩, by rw [← hnb0]; exact HO5.out, by rw [← hnb0]; exact HB.out⟩
            · have hgt : (15 : Int) < (rs.length : Int) := by omega
              obtain ⟨ev, el⟩ := HVRo.2 hle
              subst ev el
              clear HVRo
              go_wp2
              go_ret2
              exact ⟨_, _, rfl, OwnN.none_, HB.out.alloc HB.out.size _⟩
end Go.Proofs.YtikglddifoalfaaDoor
namespace Go.Proofs.YtikglddifoalfaaDoor
open Go.RowKit
set_option linter.unusedVariables false
set_option linter.unusedSimpArgs false
theorem own_front2 {w : World} {base e n k : Nat} {g cp : Nat} {xs : List Value} (h : w.ownsRow base e 2 (.slice (some ⟨g, 0, none⟩) n cp) n xs) (hk : k ≤ n) : w.ownsRow base e 2 (.slice (some ⟨g, 0, none⟩) k cp) k (xs.take (k * 2)) := by
  obtain ⟨hl, h | ⟨g', cap, cur, hv, h2, h3, h4, h5, h6, h7⟩⟩ := h
  · cases h.1
  · injection hv with e1 e2 e3
    injection e1 with e1
    injection e1 with e1
    subst e1 e3
    refine ⟨by rw [List.length_take, hl]; omega, .inr ⟨g, cp, cur, rfl, h2, h3, by omega, h5, h6, ?_⟩⟩
    rw [← h7, List.take_take]
    congr 1
    omega
theorem nv_take (l : List Nd) : ∀ k, nv (l.take k) = (nv l).take (k * 2) := by
  induction l with
  | nil => intro k; simp [nv]
  | cons p r ih =>
    intro k
    cases k with
    | zero => simp [nv]
    | succ k =>
      rw [List.take_succ_cons, nv_cons, nv_cons, ih k, show (k + 1) * 2 = k * 2 + 1 + 1 by omega, List.take_succ_cons, List.take_succ_cons]
/-- what appendFolded hands back: a row of its own, longer or shorter -/
def ApPost (B : Nat) (r : List Nd) (w : World) (e : Ending) (w' : World) : Prop :=
  ∃ g cp, e = .returned (.slice (some ⟨g, 0, none⟩) r.length cp) ∧ w'.ownsRow B 49 2 (.slice (some ⟨g, 0, none⟩) r.length cp) r.length (nv r) ∧ Below B w w'
theorem ap_of {w w' : World} {B n : Nat} {v : Value} {r : List Nd} (h : w'.ownsRow B 49 2 v n (nv r)) (hn : n = r.length) (h0 : 0 < n) (hb : Below B w w') : ∃ g cp, v = .slice (some ⟨g, 0, none⟩) r.length cp ∧ w'.ownsRow B 49 2 (.slice (some ⟨g, 0, none⟩) r.length cp) r.length (nv r) ∧ Below B w w' := by
  subst hn
  obtain ⟨g, cap, rfl, _⟩ := own_rowc h h0
  exact ⟨g, cap, rfl, h, hb⟩
set_option maxRecDepth 100000 in
set_option maxHeartbeats 4000000 in
theorem appendFolded_any (B g cp : Nat) (f : List Nd) (k v : Int) (o a : Nat) (w : World) (hown : w.ownsRow B 49 2 (.slice (some ⟨g, 0, none⟩) f.length cp) f.length (nv f)) (hB : B ≤ w.heap.size) (htab : ∀ w', Below B w w' → NTab w')
    (ho : opens f 0 = some o) (ha : arity k v = some a) (hle : a ≤ o) (hlen : f.length ≤ 1000) :
    Calls Tryd.prog 34 #[.slice (some ⟨g, 0, none⟩) f.length cp, .agg #[.int .i64 k, .int .i64 v]] w (ApPost B (foldX f (k, v)) w) := by
  obtain ⟨i0, hi0', hz0, hz1, hz2⟩ := info_parts infoNode
  have hfn := fold_num (p := (k, v)) ho ha hle
  have hol := opens_le _ _ _ ho
  have hfl : a ≤ f.length := by omega
  have HXN := Lib.hid (foldX_none (f := f) (p := (k, v)))
  have HXS := Lib.hid (fun n m => foldX_some (f := f) (p := (k, v)) (n := n) (m := m))
  obtain ⟨_, capf, curf, hvf, hgB, hhf, hcf, hcm⟩ : ∃ g' cap cur, Value.slice (some ⟨g, 0, none⟩) f.length cp = .slice (some ⟨g', 0, none⟩) f.length cap ∧ B ≤ g' ∧ w.heap[g']? = some (.cells cur 49 (0, 0)) ∧ f.length ≤ cap ∧ True := by
    obtain ⟨_, h | ⟨g', cap, cur, hv, h2, h3, h4, h5, h6, h7⟩⟩ := hown
    · cases h.1
    · exact ⟨g', cap, cur, hv, h2, h3, by omega, trivial⟩
  injection hvf with e1 e2 e3
  injection e1 with e1
  injection e1 with e1
  subst e1 e3
  clear hhf hcm
  obtain ⟨ht, _, _, _⟩ := arity_takes ha
  have HF := Lib.hid (fun W h => formOf_any k v W h)
  unfold formV at HF
  rw [ht] at HF
  have HA := Lib.hid (fun ad n c W (hn : n = (f.drop (f.length - a)).length) (h : Nds W W.heap.size ad (f.drop (f.length - a))) => show Calls Tryd.prog 45 #[.slice ad n c] W fun e w' => e = .returned (.bool (numsB (f.drop (f.length - a)))) ∧ Below W.heap.size W w' from by subst hn; exact areNumbers_any ad _ c W h (by rw [List.length_drop]; omega))
  have HN := Lib.hid (fun ad n c W (hn : n = (f.drop (f.length - a) ++ [(k, v)]).length) (h : Nds W W.heap.size ad (f.drop (f.length - a) ++ [(k, v)])) (t : NTab W) => show Calls Tryd.prog 46 #[.slice ad n c] W fun e w' => e = .returned (.tuple #[.int .i64 (numV (f.drop (f.length - a) ++ [(k, v)])), .bool (numR (f.drop (f.length - a) ++ [(k, v)])).isSome]) ∧ Below W.heap.size W w' from by subst hn; exact numberOf_any ad _ c W h (by simp; omega) t)
  have HNV := Lib.hid (numV_none (l := f.drop (f.length - a) ++ [(k, v)]))
  have HSV := Lib.hid (fun z => numV_some (l := f.drop (f.length - a) ++ [(k, v)]) (n := z))
  have HT := Lib.hid htab
  have HO := Lib.hid hown
  generalize fmK k = y0 at HF
  generalize fmM k = y2 at HF
  generalize fmO k = y3 at HF
  generalize fmA k = y4 at HF
  generalize fmB k = y5 at HF
  generalize fmC k = y6 at HF
  clear hown htab ht ho ha hle hol
  obtain ⟨nb, hnb0⟩ : ∃ q, w.heap.size = q := ⟨_, rfl⟩
  obtain ⟨W1, hW1⟩ : ∃ W, w.alloc (.cells #[.int .i64 k, .int .i64 v] 49) = W := ⟨_, rfl⟩
  have B1 := Lib.hid (show Below w.heap.size w W1 by rw [← hW1]; exact below_all _ _)
  have X1 := Lib.hid (show BoxC W1 nb 49 #[.int .i64 k, .int .i64 v] by rw [← hW1, ← hnb0]; exact BoxC.new _ _ _)
  have c0 := X1.out.cell 0
  have c1 := X1.out.cell 1
  simp at c0 c1
  go_enter Tryd.func34, Tryd.ntmps34
  go_wp2_with fail
  refine (HF.out _ (HT.out _ (B1.out.mono hB))).mono ?_
  rintro e w2 ⟨rfl, b2⟩
  have X2 := X1.out.below b2
  have B2 := below_then B1.out b2
  clear b2 X1 B1 c0 c1 hW1 HF
  obtain ⟨fb, hfb0⟩ : ∃ q, w2.heap.size = q := ⟨_, rfl⟩
  obtain ⟨W2, hW2⟩ : ∃ W, w2.alloc (.cells #[.int .i64 y0, .int .i64 (a : Int), .int .i64 y2, .int .i64 y3, .string y4, .string y5, .string y6] 52) = W := ⟨_, rfl⟩
  have X2 := Lib.hid (show BoxC W2 nb 49 #[.int .i64 k, .int .i64 v] by rw [← hW2]; exact X2.alloc _)
  have B2 := Lib.hid (show Below w.heap.size w W2 by rw [← hW2]; exact below_then B2 (below_all _ _))
  have M2 := Lib.hid (show BoxC W2 fb 52 #[.int .i64 y0, .int .i64 (a : Int), .int .i64 y2, .int .i64 y3, .string y4, .string y5, .string y6] by rw [← hW2, ← hfb0]; exact BoxC.new _ _ _)
  have O2 := Lib.hid (own2_keeps HO.out B2.out)
  have hB2 : B ≤ W2.heap.size := by have := B2.out.size; omega
  have BB2 := Lib.hid (B2.out.mono hB)
  have m1 := M2.out.cell 1
  have c0 := X2.out.cell 0
  have c1 := X2.out.cell 1
  simp at m1 c0 c1
  obtain ⟨fi, hfi⟩ : ∃ q, f.length - a = q := ⟨_, rfl⟩
  have hfi2 : (f.length : Int) - (a : Int) = (fi : Int) := by omega
  have hfl2 : fi ≤ f.length := by omega
  rw [hfi] at hfn HA HN HNV HSV
  have HFI := Lib.hid (show fi + a = f.length by omega)
  clear hfi HO hnb0
  by_cases h0 : a = 0
  · obtain ⟨hns, hfv⟩ : numsB (f.drop fi) = false ∧ foldV f (k, v) = none := by
      rcases hfn with h | ⟨_, h, _⟩
      · exact h
      · omega
    rw [hns] at HA
    have HX := Lib.hid (HXN.out hfv)
    clear hfn hns hfv HXN
    have HFE := Lib.hid (show fi = f.length by have := HFI.out; omega)
    have ND0 := Lib.hid (fun (W : World) ad => (show Nds W W.heap.size ad (f.drop fi) from .inl (by rw [HFE.out]; simp)))
    have kfl : (fi : Int) ≤ (f.length : Int) := by omega
    clear h0
    rcases Nat.lt_or_ge fi cp with huc | huc
    · have k1 : (fi : Int) < (cp : Int) := by omega
      have k2 : ¬ cp = fi := by omega
      go_wp2_with fail
      refine (HA.out _ _ _ _ (by first | rfl | (rw [List.length_drop]; done) | (have := HFE.out; simp; omega)) (ND0.out _ _)).mono ?_
      rintro e w3 ⟨rfl, b3⟩
      have X3 := Lib.hid (X2.out.below b3)
      have O3 := Lib.hid (own2_keeps O2.out b3)
      have BB3 := Lib.hid (BB2.out.trans (b3.mono hB2))
      have hB3 : B ≤ w3.heap.size := Nat.le_trans hB2 b3.size
      have c0 := X3.out.cell 0
      have c1 := X3.out.cell 1
      simp at c0 c1
      have O4 := Lib.hid (O3.out.alloc (.cells #[.int .i64 k, .int .i64 v] 49))
      have B4 := Lib.hid (BB3.out.alloc hB3 (.cells #[.int .i64 k, .int .i64 v] 49))
      clear b3 X2 BB2 O2 B2 M2 hW2 hfb0 X3 O3 HA HN HNV HSV HXS HFI m1
      go_wp2_with (at_builtin; refine wpList_append_own _ rfl _ _ 24 rfl B 49 i0 _ 2 16 Tryd.underlying24 hi0' hz0 hz1 hz2 rfl (by decide) _ f.length (nv f) rfl O4.out ⟨w3.heap.size, 0, none⟩ 1 1 [Value.int .i64 k, Value.int .i64 v] rfl rfl (World.news_of_block (heap_alloc_new _ _)) (by simp [Value.oneCell']) (by unfold maxLen; omega) (by omega) (by simp; omega) ?_; intro v4 w4 hown hgrow _; have HO5 := Lib.hid hown; have HB5 := Lib.hid (B4.out.grown hgrow (by simp; omega) (fun j hj => (O4.out.lt j hj).1)); clear hown hgrow)
      go_ret
      obtain ⟨g5, c5, rfl, o5, b5⟩ := ap_of (r := f ++ [(k, v)]) (by rw [nv_append]; exact HO5.out) (by simp) (by omega) HB5.out
      exact ⟨g5, c5, by rw [HX.out]; rfl, by rw [HX.out]; exact o5, b5⟩
    · have hcpe : cp = fi := by omega
      subst hcpe
      go_wp2_with fail
      refine (HA.out _ _ _ _ (by first | rfl | (rw [List.length_drop]; done) | (have := HFE.out; simp; omega)) (ND0.out _ _)).mono ?_
      rintro e w3 ⟨rfl, b3⟩
      have X3 := Lib.hid (X2.out.below b3)
      have O3 := Lib.hid (own2_keeps O2.out b3)
      have BB3 := Lib.hid (BB2.out.trans (b3.mono hB2))
      have hB3 : B ≤ w3.heap.size := Nat.le_trans hB2 b3.size
      have c0 := X3.out.cell 0
      have c1 := X3.out.cell 1
      simp at c0 c1
      have O4 := Lib.hid (O3.out.alloc (.cells #[.int .i64 k, .int .i64 v] 49))
      have B4 := Lib.hid (BB3.out.alloc hB3 (.cells #[.int .i64 k, .int .i64 v] 49))
      clear b3 X2 BB2 O2 B2 M2 hW2 hfb0 X3 O3 HA HN HNV HSV HXS HFI m1
      go_wp2_with (at_builtin; refine wpList_append_own _ rfl _ _ 24 rfl B 49 i0 _ 2 16 Tryd.underlying24 hi0' hz0 hz1 hz2 rfl (by decide) _ f.length (nv f) rfl O4.out ⟨w3.heap.size, 0, none⟩ 1 1 [Value.int .i64 k, Value.int .i64 v] rfl rfl (World.news_of_block (heap_alloc_new _ _)) (by simp [Value.oneCell']) (by unfold maxLen; omega) (by omega) (by simp; omega) ?_; intro v4 w4 hown hgrow _; have HO5 := Lib.hid hown; have HB5 := Lib.hid (B4.out.grown hgrow (by simp; omega) (fun j hj => (O4.out.lt j hj).1)); clear hown hgrow)
      go_ret
      obtain ⟨g5, c5, rfl, o5, b5⟩ := ap_of (r := f ++ [(k, v)]) (by rw [nv_append]; exact HO5.out) (by simp) (by omega) HB5.out
      exact ⟨g5, c5, by rw [HX.out]; rfl, by rw [HX.out]; exact o5, b5⟩
  · have hpos : 0 < f.length := by omega
    obtain ⟨g', cap', hv', _, hrow, _, _⟩ := own_rowc O2.out hpos
    injection hv' with e1 e2 e3
    injection e1 with e1
    injection e1 with e1
    subst e1 e3
    have ND0 := Lib.hid (Nds.drop (Nds.of_row hrow) fi)
    simp only [Nat.zero_add] at ND0
    have hfl3 : fi < f.length := by have := HFI.out; omega
    have k0 : (fi : Int) < (f.length : Int) := by omega
    have k1 : (fi : Int) < (cp : Int) := by omega
    have k2 : ¬ cp = fi := by omega
    clear hrow
    rcases hfn with ⟨hns, hfv⟩ | ⟨hns, _, hfv⟩
    · rw [hns] at HA
      have HX := Lib.hid (HXN.out hfv)
      clear hns hfv HXN
      go_wp2_with fail
      refine (HA.out _ _ _ _ (by rw [List.length_drop]) ND0.out).mono ?_
      rintro e w3 ⟨rfl, b3⟩
      have X3 := Lib.hid (X2.out.below b3)
      have O3 := Lib.hid (own2_keeps O2.out b3)
      have BB3 := Lib.hid (BB2.out.trans (b3.mono hB2))
      have hB3 : B ≤ w3.heap.size := Nat.le_trans hB2 b3.size
      have c0 := X3.out.cell 0
      have c1 := X3.out.cell 1
      simp at c0 c1
      have O4 := Lib.hid (O3.out.alloc (.cells #[.int .i64 k, .int .i64 v] 49))
      have B4 := Lib.hid (BB3.out.alloc hB3 (.cells #[.int .i64 k, .int .i64 v] 49))
      clear b3 X2 BB2 O2 B2 M2 hW2 hfb0 X3 O3 HA HN HNV HSV HXS HFI m1
      go_wp2_with (at_builtin; refine wpList_append_own _ rfl _ _ 24 rfl B 49 i0 _ 2 16 Tryd.underlying24 hi0' hz0 hz1 hz2 rfl (by decide) _ f.length (nv f) rfl O4.out ⟨w3.heap.size, 0, none⟩ 1 1 [Value.int .i64 k, Value.int .i64 v] rfl rfl (World.news_of_block (heap_alloc_new _ _)) (by simp [Value.oneCell']) (by unfold maxLen; omega) (by omega) (by simp; omega) ?_; intro v4 w4 hown hgrow _; have HO5 := Lib.hid hown; have HB5 := Lib.hid (B4.out.grown hgrow (by simp; omega) (fun j hj => (O4.out.lt j hj).1)); clear hown hgrow)
      go_ret
      obtain ⟨g5, c5, rfl, o5, b5⟩ := ap_of (r := f ++ [(k, v)]) (by rw [nv_append]; exact HO5.out) (by simp) (by omega) HB5.out
      exact ⟨g5, c5, by rw [HX.out]; rfl, by rw [HX.out]; exact o5, b5⟩
    · rw [hns] at HA
      obtain ⟨n1, hn1⟩ : ∃ q, f.length + 1 = q := ⟨_, rfl⟩
      have HN1 := Lib.hid hn1
      have h1i : (fi : Int) ≤ (n1 : Int) := by omega
      have hn1le : n1 ≤ 1001 := by omega
      have hn1fi : fi < n1 := by omega
      clear hns hn1
      go_wp2_with fail
      refine (HA.out _ _ _ _ (by rw [List.length_drop]) ND0.out).mono ?_
      rintro e w3 ⟨rfl, b3⟩
      have X3 := Lib.hid (X2.out.below b3)
      have O3 := Lib.hid (own2_keeps O2.out b3)
      have BB3 := Lib.hid (BB2.out.trans (b3.mono hB2))
      have hB3 : B ≤ w3.heap.size := Nat.le_trans hB2 b3.size
      have c0 := X3.out.cell 0
      have c1 := X3.out.cell 1
      simp at c0 c1
      have O4 := Lib.hid (O3.out.alloc (.cells #[.int .i64 k, .int .i64 v] 49))
      have B4 := Lib.hid (BB3.out.alloc hB3 (.cells #[.int .i64 k, .int .i64 v] 49))
      have HFV := Lib.hid hfv
      clear b3 X2 BB2 O2 B2 M2 hW2 hfb0 X3 O3 HA m1 k0 k1 k2 hcf ND0 hfv
      go_wp2_with (at_builtin; go_loud (refine wpList_append_own _ rfl _ _ 24 rfl B 49 i0 _ 2 16 Tryd.underlying24 hi0' hz0 hz1 hz2 rfl (by decide) _ f.length (nv f) rfl O4.out ⟨w3.heap.size, 0, none⟩ 1 1 [Value.int .i64 k, Value.int .i64 v] rfl rfl (World.news_of_block (heap_alloc_new _ _)) (by simp [Value.oneCell']) (by unfold maxLen; omega) (by omega) (by simp; omega) ?_); go_loud (intro v4 w4 hown hgrow _); go_loud (rw [HN1.out] at hown); go_loud (have hown2 : w4.ownsRow B 49 2 v4 n1 (nv (f ++ [(k, v)])) := (by rw [nv_append]; exact hown)); go_loud (obtain ⟨g4, cp4, rfl, hg4, r4, hc4, hm4⟩ := own_rowc hown2 (show 0 < n1 by omega)); go_loud (clear hown2); go_loud (have HO5 := Lib.hid hown); go_loud (have R5 := Lib.hid r4); go_loud (have HB5 := Lib.hid (B4.out.grown hgrow (by simp; omega) (fun j hj => (O4.out.lt j hj).1))); go_loud (have j1 : (n1 : Int) ≤ (cp4 : Int) := by omega); go_loud (have j2 : (fi : Int) < (cp4 : Int) := by omega); go_loud (have j3 : ¬ cp4 = fi := by omega); go_loud (clear hown hgrow r4 O4 B4 BB3 c0 c1))
      have NT5 := Lib.hid (HT.out _ HB5.out)
      have hd5 : (f ++ [(k, v)]).drop fi = f.drop fi ++ [(k, v)] := by rw [List.drop_append_of_le_length hfl2]
      have ND5 := Nds.drop (Nds.of_row R5.out) fi
      rw [hd5] at ND5
      simp only [Nat.zero_add] at ND5
      have ND5 := Lib.hid ND5
      clear hd5
      refine (HN.out _ _ _ _ (by rw [List.length_append, List.length_drop, List.length_singleton]; have := HN1.out; omega) ND5.out NT5.out).mono ?_
      rintro e w6 ⟨rfl, b6⟩
      have hB5 : B ≤ w4.heap.size := by have := HO5.out.lt g4 rfl; omega
      have O6 := Lib.hid (own2_keeps HO5.out b6)
      have BB6 := Lib.hid (HB5.out.trans (b6.mono hB5))
      have hB6 : B ≤ w6.heap.size := Nat.le_trans hB5 b6.size
      clear b6 HO5 HB5 R5 ND5 NT5
      cases hnum : numR (f.drop fi ++ [(k, v)]) with
      | none =>
        have HX := Lib.hid (HXN.out (by rw [HFV.out, hnum]; rfl))
        clear hnum
        go_wp2
        go_ret
        obtain ⟨g7, c7, e7, o7, b7⟩ := ap_of (r := f ++ [(k, v)]) (by rw [nv_append]; exact O6.out) (by have := HN1.out; simp; omega) (by omega) BB6.out
        injection e7 with q1 q2 q3
        injection q1 with q1
        injection q1 with q1
        subst q1 q3
        exact ⟨g4, cp4, by rw [HX.out, q2]; rfl, by rw [HX.out]; exact o7, b7⟩
      | some n =>
        have HX := HXS.out n a (by rw [HFV.out, hnum]; rfl)
        rw [show f.length - a = fi by have := HFI.out; omega] at HX
        have HX := Lib.hid HX
        have HV := HSV.out n hnum
        have O7 := own_front2 (k := fi) O6.out (by omega)
        rw [List.take_append_of_le_length (by rw [nv_length]; omega), ← nv_take] at O7
        have O8 := Lib.hid (O7.alloc (.cells #[.int .i64 2, .int .i64 n] 49))
        have B8 := Lib.hid (BB6.out.alloc hB6 (.cells #[.int .i64 2, .int .i64 n] 49))
        have hf1 : (fi : Int) ≤ (cp4 : Int) := by omega
        rw [HV]
        clear hnum O6 BB6 O7 HV
        go_wp2_with (at_builtin; go_loud (refine wpList_append_own _ rfl _ _ 24 rfl B 49 i0 _ 2 16 Tryd.underlying24 hi0' hz0 hz1 hz2 rfl (by decide) _ fi (nv (f.take fi)) rfl O8.out ⟨w6.heap.size, 0, none⟩ 1 1 [Value.int .i64 2, Value.int .i64 n] rfl rfl (World.news_of_block (heap_alloc_new _ _)) (by simp [Value.oneCell']) (by unfold maxLen; omega) (by omega) (by simp; omega) ?_); go_loud (intro v9 w9 hown hgrow _); go_loud (have HO9 := Lib.hid hown); go_loud (have HB9 := Lib.hid (B8.out.grown hgrow (by simp; omega) (fun j hj => (O8.out.lt j hj).1))); clear hown hgrow)
        go_ret
        obtain ⟨g10, c10, rfl, o10, b10⟩ := ap_of (r := f.take fi ++ [(2, n)]) (by rw [nv_append]; exact HO9.out) (by simp; omega) (by omega) HB9.out
        exact ⟨g10, c10, by rw [HX.out]; rfl, by rw [HX.out]; exact o10, b10⟩
end Go.Proofs.YtikglddifoalfaaDoor
namespace Go.Proofs.YtikglddifoalfaaDoor
open Go.RowKit
set_option linter.unusedVariables false
set_option linter.unusedSimpArgs false
theorem opens_here {l : List Nd} {m k : Nat} (h : opens l 0 = some m) (hk : k < l.length) : ∃ n a, opens (foldL (l.take k)) 0 = some n ∧ arity l[k].1 l[k].2 = some a ∧ a ≤ n := by
  obtain ⟨n, hn, hn2⟩ := opens_take (k := k) h
  rw [List.drop_eq_getElem_cons hk] at hn2
  have h1 : opens ([l[k]] ++ l.drop (k + 1)) n = some m := hn2
  rw [opens_append, opens_one] at h1
  cases ha : arity l[k].1 l[k].2 with
  | none => rw [ha] at h1; cases h1
  | some a =>
    rw [ha] at h1
    by_cases hle : a ≤ n
    · exact ⟨n, a, by rw [foldL_opens h k (by omega)]; exact hn, rfl, hle⟩
    · simp only [hle, if_false] at h1; cases h1
set_option maxRecDepth 100000 in
set_option maxHeartbeats 2000000 in
theorem implFold_any (a : Option Addr) (l : List Nd) (c : Nat) (w : World) (hl : Nds w w.heap.size a l) (hn : l.length ≤ 1048576) (ht : NTab w) :
    Calls Tryd.prog 17 #[.slice a l.length c] w (FlPost l w) := by
  have HL := Lib.hid hl
  have HT := Lib.hid (fun w' (h : Below w.heap.size w w') => ht.below h)
  have HE1 := Lib.hid (fun W h t => implExpr_any a l c W h hn t)
  have HC := Lib.hid (fun W h t => HE1.out W h t)
  have HT0 := Lib.hid ht
  cases he : exprB l with
  | false =>
    have HR := Lib.hid (show foldR l = [] from if_neg (by rw [he]; simp))
    have HE := Lib.hid he
    rw [he] at HC
    clear hl he ht HE1
    go_enter Tryd.func17, Tryd.ntmps17
    go_wp2_with fail
    refine (HC.out _ HL.out HT0.out).mono ?_
    rintro e w1 ⟨rfl, b1⟩
    have B1 := Lib.hid b1
    clear b1
    go_wp2
    go_ret2
    exact ⟨_, _, by rw [HR.out, HE.out]; rfl, by rw [HR.out]; exact OwnN.none_, B1.out.alloc B1.out.size _⟩
  | true =>
    have HR := Lib.hid (show foldR l = foldL l from if_pos he)
    have HE := Lib.hid he
    rw [he] at HC
    have hx := he
    unfold exprB at hx
    simp only [Bool.and_eq_true, decide_eq_true_eq] at hx
    obtain ⟨h15, ho⟩ := hx
    have HO := Lib.hid (fun k (hk : k < l.length) => opens_here ho hk)
    have HLN := Lib.hid (fun k => foldL_len l k)
    have HST := Lib.hid (fun k (hk : k < l.length) => foldL_step hk)
    clear hl he ho ht HE1
    go_enter Tryd.func17, Tryd.ntmps17
    go_wp2_with fail
    refine (HC.out _ HL.out HT0.out).mono ?_
    rintro e w1 ⟨rfl, b1⟩
    have B1 := Lib.hid b1
    have O1 := Lib.hid (World.ownsRow_made (base := w.heap.size) (e := 49) (size := 2) w1 #[] 0 b1.size (by simp) rfl)
    clear b1
    go_wp2
    go_loopw [4, 14] (fun out i wr => ∃ k g cp : Nat, k ≤ l.length ∧ i = .int .i64 k ∧ out = .slice (some ⟨g, 0, none⟩) (foldL (l.take k)).length cp ∧ wr.ownsRow w.heap.size 49 2 (.slice (some ⟨g, 0, none⟩) (foldL (l.take k)).length cp) (foldL (l.take k)).length (nv (foldL (l.take k))) ∧ Below w.heap.size w wr) (fun _ i _ => l.length - (intOf i).toNat)
    case atStart => exact ⟨0, w1.heap.size, 0, Nat.zero_le _, rfl, rfl, O1.out, B1.out.alloc B1.out.size _⟩
    case round =>
      obtain ⟨k, g, cp, hk, rfl, rfl, hown, hB⟩ := hrel
      have HO2 := Lib.hid hown
      have HB := Lib.hid hB
      clear hown hB B1 O1
      by_cases hlt : k < l.length
      · obtain ⟨o, ar, h1, h2, h3⟩ := HO.out k hlt
        have HS := Lib.hid (HST.out k hlt)
        have hi : (k : Int) < (l.length : Int) := by omega
        have hi0 : (0 : Int) ≤ (k : Int) := by omega
        have hlk := HLN.out k
        obtain ⟨bk, ob, rfl, hbk, q0, q1⟩ := (HL.out.below HB.out (Nat.le_refl _)).at_ hlt
        have HPP := Lib.hid (show l[k] = (l[k].1, l[k].2) from rfl)
        generalize foldL (l.take k) = f at *
        generalize l[k].1 = x at *
        generalize l[k].2 = y at *
        have HA := Lib.hid (fun W (h : W.ownsRow w.heap.size 49 2 (.slice (some ⟨g, 0, none⟩) f.length cp) f.length (nv f)) hb ht => appendFolded_any w.heap.size g cp f x y o ar W h hb ht h1 h2 h3 (by omega))
        obtain ⟨tb, htb⟩ : ∃ q, wr.heap.size = q := ⟨_, rfl⟩
        obtain ⟨W5, hW5⟩ : ∃ W, wr.alloc (.cells #[.int .i64 x, .int .i64 y] 49) = W := ⟨_, rfl⟩
        have T5 := Lib.hid (show BoxC W5 tb 49 #[.int .i64 x, .int .i64 y] by rw [← hW5, ← htb]; exact BoxC.new _ _ _)
        have O5 := Lib.hid (show W5.ownsRow w.heap.size 49 2 (.slice (some ⟨g, 0, none⟩) f.length cp) f.length (nv f) by rw [← hW5]; exact HO2.out.alloc _)
        have B5 := Lib.hid (show Below w.heap.size w W5 by rw [← hW5]; exact HB.out.alloc HB.out.size _)
        have t0 := T5.out.cell 0
        have t1 := T5.out.cell 1
        simp at t0 t1
        clear HO2 HB h1 h2 h3
        go_wp2_with fail
        refine (HA.out _ O5.out B5.out.size (fun w' h => HT.out w' (B5.out.trans h))).mono ?_
        rintro e w6 ⟨g6, c6, rfl, o6, b6⟩
        have O6 := Lib.hid o6
        have B6 := Lib.hid (B5.out.trans b6)
        clear o6 b6 O5 B5 hW5 htb T5 t0 t1 q0 q1
        go_wp2
        go_roundw
        case rel => exact ⟨k + 1, g6, c6, by omega, by go_num, by rw [HS.out, HPP.out], by rw [HS.out, HPP.out]; exact O6.out, B6.out⟩
        case measure => simp [intOf]; omega
      · obtain rfl : k = l.length := by omega
        rw [List.take_length] at HO2 ⊢
        obtain ⟨a9, c9, e9, o9⟩ := ownN_of HO2.out rfl
        injection e9 with e1 e2 e3
        subst e1 e3
        have HO9 := Lib.hid o9
        clear o9
        go_wp2
        go_ret2
        exact ⟨_, _, by rw [HR.out, HE.out]; rfl, by rw [HR.out]; exact HO9.out, HB.out⟩
end Go.Proofs.YtikglddifoalfaaDoor
namespace Go.Proofs.YtikglddifoalfaaDoor
open Go.RowKit
set_option linter.unusedVariables false
set_option linter.unusedSimpArgs false
/-- own memory below U -/
def OwnU (w : World) (B U : Nat) (a : Option Addr) (l : List Nd) : Prop := ∃ g, B ≤ g ∧ (l = [] ∨ g < U) ∧ AtN w a g l
theorem OwnU.of {w : World} {B : Nat} {a : Option Addr} {l : List Nd} (h : OwnN w B a l) : OwnU w B w.heap.size a l := by
  obtain ⟨g, h1, h2⟩ := h
  refine ⟨g, h1, ?_, h2⟩
  rcases h2 with h2 | ⟨_, h2⟩
  · exact .inl h2
  · exact .inr h2.lt
theorem OwnU.below {w w' : World} {B U : Nat} {a : Option Addr} {l : List Nd} (h : OwnU w B U a l) (hb : Below w.heap.size w w') : OwnU w' B U a l := by
  obtain ⟨g, h1, h2, h3⟩ := h
  exact ⟨g, h1, h2, h3.below hb⟩
theorem OwnU.only {w w' : World} {B U g : Nat} {a : Option Addr} {l : List Nd} (h : OwnU w B U a l) (o : Only g w w') (hg : U ≤ g) : OwnU w' B U a l := by
  obtain ⟨g', h1, h2, h3⟩ := h
  rcases h2 with h2 | h2
  · exact ⟨g', h1, .inl h2, .inl h2⟩
  · exact ⟨g', h1, .inr h2, h3.only o (by omega)⟩
theorem OwnU.nds {w : World} {B U : Nat} {a : Option Addr} {l : List Nd} (h : OwnU w B U a l) : Nds w w.heap.size a l := by
  obtain ⟨g, _, _, h⟩ := h
  exact h.nds
theorem below_only {w w1 w2 : World} {g : Nat} (h : Below w.heap.size w w1) (o : Only g w1 w2) (hg : w.heap.size ≤ g) : Below w.heap.size w w2 :=
  h.grown o.1 h.size (fun j e => by injection e with e; omega)
end Go.Proofs.YtikglddifoalfaaDoor
namespace Go.Proofs.YtikglddifoalfaaDoor
open Go.RowKit
set_option linter.unusedVariables false
set_option linter.unusedSimpArgs false
set_option maxRecDepth 100000 in
set_option maxHeartbeats 8000000 in
theorem walk_FoldNumbers (a : Option Addr) (l : List Nd) (c : Nat) (w : World) (hl : Nds w w.heap.size a l) (hm : l.length ≤ maxLen) (ht : NTab w) :
    Calls Tryd.prog 4 #[.slice a l.length c] w fun e w' => e = .returned (.bool true) ∧ Below w.heap.size w w' := by
  have HZ1 := Lib.hid (fun W => szNodes_any a l.length c 1048576 W hm (by omega) (by omega))
  unfold maxLen at hm
  by_cases hn : (l.length : Int) ≤ 1048576
  · have q1 : l.length ≤ 1048576 := by omega
    rw [if_pos hn] at HZ1
    have HL := Lib.hid hl
    have HTB := Lib.hid ht
    have HT1 := Lib.hid (fun W (G : Below w.heap.size w W) => toNodes_any a l c W ((hl.below G (Nat.le_refl _)).more G.size) q1)
    have HS := Lib.hid (fun p W h => specFold_any (some ⟨p, 0, none⟩) l l.length W h q1)
    have HI := Lib.hid (fun p W h (G : Below w.heap.size w W) => implFold_any (some ⟨p, 0, none⟩) l l.length W h q1 (ht.below G))
    have hr := foldR_len l
    unfold FlPost at HS HI
    generalize exprB l = v at *
    generalize foldR l = rl at *
    have hvv : (v != v) = false := by cases v <;> rfl
    have hq3 : ¬ (1048576 - (l.length : Int) < 0) := by omega
    have G0 := Lib.hid (Below.refl w.heap.size w)
    clear hl ht
    go_enter Tryd.func4, Tryd.ntmps4
    go_wp2_with fail
    refine (HZ1.out _).mono ?_
    rintro e w1 ⟨rfl, rfl⟩
    go_wp2_with fail
    refine (HT1.out _ G0.out).mono ?_
    rintro e w11 ⟨rfl, r1, b1, z1⟩
    have G1 := Lib.hid (below_then G0.out b1)
    have P1 := Lib.hid (show AtN w11 (some ⟨w.heap.size, 0, none⟩) w.heap.size l from .inr ⟨rfl, r1⟩)
    have s1 := G1.out.size
    clear r1
    clear b1 G0
    go_wp2_with fail
    refine (HS.out _ _ P1.out.nds).mono ?_
    rintro e w12 ⟨a2, c2, rfl, o2, b2⟩
    have u2 := b2.size
    have G2 := Lib.hid (below_then G1.out b2)
    have P2 := Lib.hid (P1.out.below b2)
    have V2 := Lib.hid (OwnU.of o2)
    clear o2
    clear b2 G1 P1
    go_wp2_with fail
    clear P2
    refine (HT1.out _ G2.out).mono ?_
    rintro e w13 ⟨rfl, r3, b3, z3⟩
    have G3 := Lib.hid (below_then G2.out b3)
    have V3 := Lib.hid (V2.out.below b3)
    have X3 := Lib.hid (show AtN w13 (some ⟨w12.heap.size, 0, none⟩) w12.heap.size l from .inr ⟨rfl, r3⟩)
    have s3 := G3.out.size
    clear r3
    clear b3 G2 V2
    go_wp2_with fail
    refine (HI.out _ _ X3.out.nds G3.out).mono ?_
    rintro e w14 ⟨a4, c4, rfl, o4, b4⟩
    have u4 := b4.size
    have G4 := Lib.hid (below_then G3.out b4)
    have V4 := Lib.hid (V3.out.below b4)
    have X4 := Lib.hid (X3.out.below b4)
    have R4 := Lib.hid o4
    clear o4
    clear b4 G3 V3 X3
    go_wp2_with fail
    refine (eqNodes_yes _ _ rl _ _ _ R4.out.nds V4.out.nds (by omega)).mono ?_
    rintro e w15 ⟨rfl, b5⟩
    have G5 := Lib.hid (below_then G4.out b5)
    have V5 := Lib.hid (V4.out.below b5)
    have X5 := Lib.hid (X4.out.below b5)
    have R5 := Lib.hid (R4.out.below b5)
    clear b5 G4 V4 X4 R4
    go_wp2_with fail
    refine (HT1.out _ G5.out).mono ?_
    rintro e w16 ⟨rfl, r6, b6, z6⟩
    have G6 := Lib.hid (below_then G5.out b6)
    have V6 := Lib.hid (V5.out.below b6)
    have X6 := Lib.hid (X5.out.below b6)
    have R6 := Lib.hid (R5.out.below b6)
    have E6 := Lib.hid (show AtN w16 (some ⟨w15.heap.size, 0, none⟩) w15.heap.size l from .inr ⟨rfl, r6⟩)
    have s6 := G6.out.size
    clear r6
    clear b6 G5 V5 X5 R5
    go_wp2_with fail
    refine (eqNodes_yes _ _ l _ _ _ X6.out.nds E6.out.nds q1).mono ?_
    rintro e w17 ⟨rfl, b7⟩
    have G7 := Lib.hid (below_then G6.out b7)
    have V7 := Lib.hid (V6.out.below b7)
    have X7 := Lib.hid (X6.out.below b7)
    have R7 := Lib.hid (R6.out.below b7)
    have E7 := Lib.hid (E6.out.below b7)
    clear b7 G6 V6 X6 R6 E6
    clear E7
    go_wp2_with fail
    refine (markNodes_any _ l _ _ 1 w17 X7.out (by omega) (by omega) (by omega)).mono ?_
    rintro e w18 ⟨rfl, t8, o8⟩
    have G8 := Lib.hid (below_only G7.out o8 (by omega))
    have V8 := Lib.hid (V7.out.only o8 (by omega))
    have X8 := Lib.hid t8
    have R8 := Lib.hid (R7.out.only o8 (by omega))
    clear t8 o8 G7 V7 X7 R7
    go_wp2_with fail
    clear X8
    refine (eqNodes_yes _ _ rl _ _ _ R8.out.nds V8.out.nds (by omega)).mono ?_
    rintro e w19 ⟨rfl, b9⟩
    have G9 := Lib.hid (below_then G8.out b9)
    have V9 := Lib.hid (V8.out.below b9)
    have R9 := Lib.hid (R8.out.below b9)
    clear b9 G8 V8 R8
    have hk0 : ¬ (1 + 2 * (l.length : Int) < 0) := by omega
    go_wp2_with fail
    obtain ⟨gr, hgr, hat⟩ := R9.out
    have R_9 := Lib.hid hat
    clear R9 hat
    refine (markNodes_any _ rl _ gr 1 w19 R_9.out (by omega) (by omega) (by omega)).mono ?_
    rintro e w20 ⟨rfl, t10, o10⟩
    have R10 := Lib.hid t10
    have G10 := Lib.hid (below_only G9.out o10 (by omega))
    have V10 := Lib.hid (V9.out.only o10 (by omega))
    clear t10 o10 R_9 G9 V9
    have hh10 : ¬ (1 + 2 * (rl.length : Int) < 0) := by omega
    go_wp2_with fail
    refine (heldNodes_any _ rl.length _ 1 w20 R10.out.nds (by omega) (by omega) (by omega)).mono ?_
    rintro e w910 ⟨rfl, rfl⟩
    go_wp2_with fail
    refine (HT1.out _ G10.out).mono ?_
    rintro e w21 ⟨rfl, r11, b11, z11⟩
    have G11 := Lib.hid (below_then G10.out b11)
    have V11 := Lib.hid (V10.out.below b11)
    have R11 := Lib.hid (R10.out.below b11)
    have P11 := Lib.hid (show AtN w21 (some ⟨w20.heap.size, 0, none⟩) w20.heap.size l from .inr ⟨rfl, r11⟩)
    have s11 := G11.out.size
    clear r11
    clear b11 G10 V10 R10
    go_wp2_with fail
    refine (HI.out _ _ P11.out.nds G11.out).mono ?_
    rintro e w22 ⟨a12, c12, rfl, o12, b12⟩
    have u12 := b12.size
    have G12 := Lib.hid (below_then G11.out b12)
    have V12 := Lib.hid (V11.out.below b12)
    have R12 := Lib.hid (R11.out.below b12)
    have P12 := Lib.hid (P11.out.below b12)
    have H12 := Lib.hid o12
    clear o12
    clear b12 G11 V11 R11 P11
    go_wp2_with fail
    clear P12
    refine (eqNodes_yes _ _ rl _ _ _ H12.out.nds V12.out.nds (by omega)).mono ?_
    rintro e w23 ⟨rfl, b13⟩
    have G13 := Lib.hid (below_then G12.out b13)
    have V13 := Lib.hid (V12.out.below b13)
    have R13 := Lib.hid (R12.out.below b13)
    have H13 := Lib.hid (H12.out.below b13)
    clear b13 G12 V12 R12 H12
    have hh13 : ¬ (1 + 2 * (rl.length : Int) < 0) := by omega
    go_wp2_with fail
    refine (heldNodes_any _ rl.length _ 1 w23 R13.out.nds (by omega) (by omega) (by omega)).mono ?_
    rintro e w913 ⟨rfl, rfl⟩
    go_wp2_with fail
    go_ret
    exact ⟨rfl, G13.out⟩
  · rw [if_neg hn] at HZ1
    go_enter Tryd.func4, Tryd.ntmps4
    go_wp2_with (go_at_call 14; refine (HZ1.out _).mono ?_; rintro e w1 ⟨rfl, rfl⟩)
    go_ret
    exact ⟨rfl, Below.refl _ _⟩
end Go.Proofs.YtikglddifoalfaaDoor
