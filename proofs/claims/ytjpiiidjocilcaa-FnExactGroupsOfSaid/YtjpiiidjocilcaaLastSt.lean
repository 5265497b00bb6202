/- A region that draws its order, whose loads read cells that its last store alone overwrites: the condition S is asked behind each operation but that store. -/
import Derived.OrdersHeld
import Derived.WalkKit
namespace Go.Proofs.Ytjpiiidjocilcaa
open Go.RowKit
set_option linter.unusedVariables false
variable {P : Program} {ops : Array Oper} {Q : Exit → Act → World → Prop} {md : Region.Mode} {S : World → Prop} {s : Nat}
/-- as wpAnyH, but behind the operation s nothing is asked of the world -/
def AnyBut (P : Program) (md : Region.Mode) (ops : Array Oper) (Q : Exit → Act → World → Prop) (S : World → Prop) (s : Nat) : Nat → Array Bool → Act → World → Prop
  | 0, l, a, w => Region.ready md ops l = [] ∧ Q .normal a w
  | n + 1, l, a, w => (Region.ready md ops l = [] → Q .normal a w) ∧ ∀ i ∈ Region.ready md ops l, wpOp P ops Q i (fun b x => (i ≠ s → S x) ∧ AnyBut P md ops Q S s n (l.setIfInBounds i true) b x) a w
theorem AnyBut.any : ∀ (n : Nat) (l : Array Bool) (a : Act) (w : World), AnyBut P md ops Q S s n l a w → wpAny P md ops Q n l a w
  | 0, _, _, _, h => h
  | n + 1, l, a, w, ⟨h1, h2⟩ => ⟨h1, fun i hi => wpOp_mono (fun b x hb => AnyBut.any n _ b x hb.2) (h2 i hi)⟩
/-- s waits for i -/
def waits (md : Region.Mode) (ops : Array Oper) (s i : Nat) : Bool := match ops[s]? with | some o => o.after.any fun e => Region.binds md e && e.on == i | none => false
theorem waits_not {i : Nat} {l : Array Bool} (h : waits md ops s i = true) (hu : l.getD i true = false) : s ∉ Region.ready md ops l := by
  intro hs
  obtain ⟨_, o, ho, hall⟩ := mem_ready.1 hs
  unfold waits at h
  rw [ho] at h
  obtain ⟨e, he, hb⟩ := Array.any_eq_true'.1 h
  rw [Bool.and_eq_true, beq_iff_eq] at hb
  have h2 := hall e he hb.1
  rw [hb.2] at h2
  rcases Nat.lt_or_ge i l.size with h' | h'
  · simp [h'] at hu h2; rw [hu] at h2; cases h2
  · simp [Array.getElem?_eq_none h'] at hu
theorem AnyBut.front {i : Nat} {o : Oper} {v : Value} (hi : ops[i]? = some o) (hsel : ∀ (j : Nat) (o : Oper) cs b, ops[j]? = some o → o.op ≠ .select cs b) (hQ : ∀ c a w, Q (.panic c) (a.put o.dst v) w → Q (.panic c) a w) (hw : waits md ops s i = true) (n : Nat) :
    ∀ (l : Array Bool) (a : Act) (w : World), (∀ j p, ops[j]? = some p → j ≠ i → l.getD j true = false → (∀ e ∈ p.after, Region.binds md e = true → e.on ≠ i) → o.apart ops p = true) →
      i ∈ Region.ready md ops l → YieldsIf P ops S o v a → S w → i ≠ s → AnyBut P md ops Q S s n (l.setIfInBounds i true) (a.put o.dst v) w → AnyBut P md ops Q S s (n + 1) l a w := by
  induction n with
  | zero =>
    intro l a w _ hr hy hS _ H
    refine ⟨fun h0 => (by rw [h0] at hr; cases hr), fun j hj => ?_⟩
    rcases Nat.decEq j i with hne | rfl
    · have hm := ready_mono hj hne
      rw [H.1] at hm
      cases hm
    · exact hy.wpOp hi hS ⟨fun _ => hS, H⟩
  | succ n ih =>
    intro l a w hap hr hy hS his H
    refine ⟨fun h0 => (by rw [h0] at hr; cases hr), fun j hj => ?_⟩
    have hun : l.getD i true = false := (mem_ready.1 hr).1
    have hjs : j ≠ s := fun e => waits_not hw hun (e ▸ hj)
    rcases Nat.decEq j i with hne | rfl
    · obtain ⟨hjl, p, hp, hall⟩ := mem_ready.1 hj
      have hfar : ∀ e ∈ p.after, Region.binds md e = true → e.on ≠ i := by
        intro e he hb heq
        have h2 := hall e he hb
        rw [heq] at h2
        rcases Nat.lt_or_ge i l.size with h' | h'
        · simp [h'] at hun h2; rw [hun] at h2; cases h2
        · simp [Array.getElem?_eq_none h'] at hun
      have hstep := wpOp_putIf hp (hap j p hp hne hjl hfar) (fun cs b => hsel i o cs b hi) (fun cs b => hsel j p cs b hp) hQ hy (H.2 j (ready_mono hj hne))
      refine wpOp_mono (fun b x hb => ⟨fun _ => hb.2.1 hjs, ?_⟩) hstep
      refine ih _ b x (fun k q hq hki hkl hno => ?_) (ready_mono hr (Ne.symm hne)) hb.1 (hb.2.1 hjs) his ?_
      · rcases Nat.decEq j k with hjk | rfl
        · exact hap k q hq hki (by rw [getD_set_ne true hjk] at hkl; exact hkl) hno
        · exact hap j q hq hki hjl hno
      · rw [Array.setIfInBounds_comm _ _ hne]
        exact hb.2.2
    · exact hy.wpOp hi hS ⟨fun _ => hS, H⟩
theorem AnyBut.take {i : Nat} {o : Oper} {v : Value} {n : Nat} {l : Array Bool} {a : Act} {w : World} (hi : ops[i]? = some o) (h1 : Region.noSelect ops = true) (h2 : Region.free md ops l i = true) (h3 : (Region.ready md ops l).contains i = true)
    (h4 : waits md ops s i = true) (h5 : i ≠ s) (hQ : ∀ c a w, Q (.panic c) (a.put o.dst v) w → Q (.panic c) a w) (hy : YieldsIf P ops S o v a) (hS : S w)
    (h : AnyBut P md ops Q S s n (l.setIfInBounds i true) (a.put o.dst v) w) : AnyBut P md ops Q S s (n + 1) l a w :=
  AnyBut.front hi (Region.noSelect_spec h1) hQ h4 n l a w (Region.free_spec hi h2) (by simpa using h3) hy hS h5 h
/-- one operation alone may come up: it is carried out -/
theorem AnyBut.one {i : Nat} {o : Oper} {n : Nat} {l : Array Bool} {a : Act} {w : World} (hr : Region.ready md ops l = [i]) (hi : ops[i]? = some o)
    (h : ∀ K : Act → World → Prop, (∀ b x, ((i ≠ s → S x) ∧ AnyBut P md ops Q S s n (l.setIfInBounds i true) b x) → K b x) → if Region.wanted o (yielded ops a.tmps) = true then Oper.wp P o a w K Q else K (a.put o.dst undef) w) : AnyBut P md ops Q S s (n + 1) l a w :=
  ⟨fun h0 => (by rw [hr] at h0; cases h0), fun j hj => by
    rw [hr, List.mem_singleton] at hj
    subst hj
    exact wpOp_step hi (fun K hK => h K hK)⟩
theorem AnyBut.done {n : Nat} {l : Array Bool} {a : Act} {w : World} (hr : Region.ready md ops l = []) (h : Q .normal a w) : AnyBut P md ops Q S s n l a w := by
  cases n with
  | zero => exact ⟨hr, h⟩
  | succ n => exact ⟨fun _ => h, fun i hi => (by rw [hr] at hi; cases hi)⟩
theorem AnyBut.region {id : Nat} {a : Act} {w : World} (hm : P.follows .mixedOrders = true) (h : AnyBut P .any ops Q S s ops.size (Array.replicate ops.size false) a w.drew) : (Code.region id ops true).wp P Q a w :=
  wp_region_any hm (AnyBut.any _ _ _ _ h)
end Go.Proofs.Ytjpiiidjocilcaa
