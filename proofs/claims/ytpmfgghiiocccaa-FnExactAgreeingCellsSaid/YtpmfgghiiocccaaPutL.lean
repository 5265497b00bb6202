/- The model's l1Put: a number into a list in order. -/
import Derived.Test.YtpmfgghiiocccaaFieldLaw
import Derived.Test.YtpmfgghiiocccaaBox
import Derived.Test.YtpmfgghiiocccaaMake
import Derived.Deep.AppendLies
import Derived.Deep.RegionLaw
import Derived.Deep.QuietTactic
import Derived.BigQuiet
import Derived.WalkKit
namespace Go.Proofs.Ytpmfgghiiocccaa
open Go.RowKit
set_option linter.unusedVariables false
set_option linter.unusedSimpArgs false
/-- an append onto a row of the call's own, as a step of a region; the source may be empty -/
theorem step_put {P : Program} {w : World} {ops : Array Oper} {o : Oper} {a : Act} {K : Act → World → Prop} {Q : Exit → Act → World → Prop} {E : Prop} (hgd : o.guard = none) (s x : Operand) (t : TypeId)
    (ho : o.op = .call { callee := .builtin .append, args := #[s, x], argTypes := #[t, t] })
    (base : Nat) (e : TypeId) (i : TypeInfo) (z : Value) (ht : P.underlying t = some (.slice e)) (hi : P.info? e = some i) (hz : i.zero = some z)
    (hsize : i.size = 1) (hby : i.bytes = 8) (hzs : z.cells.size = 1)
    (v : Value) (n : Nat) (xs : List Value) (hs : a.eval s = v) (hown : w.ownsRow base e 1 v n xs)
    (ad : Addr) (m c : Nat) (news : List Value) (hx : a.eval x = .slice (some ad) m c) (hl : news.length = m) (hnews : ∀ j u, news[j]? = some u → w.cell? (ad.add j) = some u) (h1 : ∀ u ∈ news, u.oneCell' = true)
    (h63 : n + m ≤ 1048576) (hbase : base ≤ w.heap.size)
    (h : ∀ v' w', w'.ownsRow base e 1 v' (n + m) (xs ++ news) → w.grownBy w' v.ownBlock → K (a.put o.dst v') w') :
    if Region.wanted o (yielded ops a.tmps) = true then Oper.wp P o a w K Q else E := by
  rw [if_pos (by simp [Region.wanted, hgd])]
  exact wp_append_own w s x t ho base e i z 1 8 ht hi hz hsize hby hzs (by omega) v n xs hs hown ad m c news hx (by omega) hnews h1 (by unfold maxLen; omega) (by omega) hbase fun v' w' h2 h3 _ => h v' w' h2 h3
def putK (l : List Int) (n : Int) : Nat := (l.takeWhile fun z => decide (z < n)).length
theorem put_take {w W : World} {g : Nat} {l : List Int} {k : Nat} (h : ∀ j (h : j < l.length), w.cell? ⟨g, j, none⟩ = some (.int .i64 l[j])) (hg : g < w.heap.size) (hb : Below w.heap.size w W) : ∀ (j : Nat) (u : Value), (iv (l.take k))[j]? = some u → W.cell? ((⟨g, 0, none⟩ : Addr).add j) = some u := by
  intro j u hu
  have hadd : (⟨g, 0, none⟩ : Addr).add j = ⟨g, j, none⟩ := by unfold Addr.add; split <;> simp_all
  obtain ⟨hj, e⟩ := List.getElem?_eq_some_iff.1 hu
  rw [iv_get, List.getElem_take] at e
  rw [iv_length, List.length_take] at hj
  rw [hadd, hb.cell (p := ⟨g, j, none⟩) hg, h j (by omega), e]
theorem put_drop {w W : World} {g : Nat} {l : List Int} {k : Nat} (h : ∀ j (h : j < l.length), w.cell? ⟨g, j, none⟩ = some (.int .i64 l[j])) (hg : g < w.heap.size) (hb : Below w.heap.size w W) : ∀ (j : Nat) (u : Value), (iv (l.drop k))[j]? = some u → W.cell? ((⟨g, k, none⟩ : Addr).add j) = some u := by
  intro j u hu
  have hadd : (⟨g, k, none⟩ : Addr).add j = ⟨g, k + j, none⟩ := by unfold Addr.add; split <;> simp_all
  obtain ⟨hj, e⟩ := List.getElem?_eq_some_iff.1 hu
  rw [iv_get, List.getElem_drop] at e
  rw [iv_length, List.length_drop] at hj
  rw [hadd, hb.cell (p := ⟨g, k + j, none⟩) hg, h (k + j) (by omega), e]
theorem lit_grown {W W1 : World} {B g : Nat} {x : Value} (h : ∀ (j : Nat) (u : Value), [x][j]? = some u → W.cell? ((⟨B, 0, none⟩ : Addr).add j) = some u) (hg : W.grownBy W1 (some g)) (hB : B < W.heap.size) (hne : B ≠ g) : ∀ (j : Nat) (u : Value), [x][j]? = some u → W1.cell? ((⟨B, 0, none⟩ : Addr).add j) = some u := by
  intro j u hu
  have e := h j u hu
  have hadd : (⟨B, 0, none⟩ : Addr).add j = ⟨B, j, none⟩ := by unfold Addr.add; split <;> simp_all
  rw [hadd] at e ⊢
  unfold World.cell? at e ⊢
  rw [hg.block B hB (by intro q; injection q with q; exact hne q)]
  exact e
theorem lit_below {W W1 : World} {B : Nat} {x : Value} (h : ∀ (j : Nat) (u : Value), [x][j]? = some u → W.cell? ((⟨B, 0, none⟩ : Addr).add j) = some u) (hb : Below W.heap.size W W1) (hB : B < W.heap.size) : ∀ (j : Nat) (u : Value), [x][j]? = some u → W1.cell? ((⟨B, 0, none⟩ : Addr).add j) = some u := by
  intro j u hu
  have e := h j u hu
  have hadd : (⟨B, 0, none⟩ : Addr).add j = ⟨B, j, none⟩ := by unfold Addr.add; split <;> simp_all
  rw [hadd] at e ⊢
  rw [hb.cell (p := ⟨B, j, none⟩) hB]
  exact e
def PutPost (g : Nat) (l : List Int) (c : Nat) (n : Int) (w : World) (e : Ending) (w' : World) : Prop :=
  ∃ (k : Nat) (v : Value) (L : List Int), k ≤ l.length ∧ (∀ j (h : j < l.length), j < k → l[j] < n) ∧ ((∃ h : k < l.length, l[k] = n ∧ L = l) ∨ ((∀ h : k < l.length, ¬ l[k] < n ∧ ¬ l[k] = n) ∧ L = l.take k ++ [n] ++ l.drop k)) ∧
    e = .returned v ∧ ((v = .slice (some ⟨g, 0, none⟩) l.length c ∧ L = l) ∨ w'.ownsRow w.heap.size 3 1 v L.length (iv L)) ∧ Below w.heap.size w w'
theorem put_own {w w' : World} {v : Value} {l r : List Int} {k q : Nat} {n : Int} (h : w'.ownsRow w.heap.size 3 1 v q ([] ++ iv (l.take k) ++ [.int .i64 n] ++ iv r)) (hq : q = (l.take k ++ [n] ++ r).length) : w'.ownsRow w.heap.size 3 1 v (l.take k ++ [n] ++ r).length (iv (l.take k ++ [n] ++ r)) := by
  subst hq
  have e : iv (l.take k ++ [n] ++ r) = [] ++ iv (l.take k) ++ [.int .i64 n] ++ iv r := by simp [iv]
  rw [e]
  exact h
end Go.Proofs.Ytpmfgghiiocccaa
