/- Plain mathematics of chapter 5: expressions as lists of nodes, the stack of arguments, trees. -/
namespace Go.Proofs.YtnomcnlmlignbaaDoor
set_option linter.unusedVariables false
/-- how many arguments a node takes; none: it is not valid -/
def arity (k v : Int) : Option Nat :=
  if k = 1 then (if 0 ≤ v ∧ v ≤ 3 then some 0 else none)
  else if k = 2 then (if 0 ≤ v ∧ v ≤ 9000 then some 0 else none)
  else if k = 7 then (if 0 ≤ v ∧ v ≤ 9000 then some 1 else none)
  else if 3 ≤ k ∧ k ≤ 6 then (if v = 0 then some 2 else none) else none
theorem arity_le {k v : Int} {a : Nat} (h : arity k v = some a) : a ≤ 2 := by
  unfold arity at h
  (repeat' split at h) <;> first | (injection h with h; omega) | cases h
abbrev Nd := Int × Int
/-- how many expressions stand after a list -/
def opens : List Nd → Nat → Option Nat
  | [], n => some n
  | p :: r, n => match arity p.1 p.2 with
    | none => none
    | some a => if a ≤ n then opens r (n - a + 1) else none
def exprB (l : List Nd) : Bool := decide (l.length ≤ 15) && decide (opens l 0 = some 1)
theorem opens_append (l r : List Nd) : ∀ n, opens (l ++ r) n = (opens l n).bind (opens r) := by
  induction l with
  | nil => intro n; rfl
  | cons p l ih =>
    intro n
    show opens (p :: (l ++ r)) n = _
    unfold opens
    cases arity p.1 p.2 with
    | none => rfl
    | some a =>
      simp only
      by_cases h : a ≤ n
      · rw [if_pos h, if_pos h]; exact ih _
      · rw [if_neg h, if_neg h]; rfl
theorem opens_one (p : Nd) (n : Nat) : opens [p] n = match arity p.1 p.2 with | none => none | some a => if a ≤ n then some (n - a + 1) else none := rfl
theorem takeN_snoc (l : List Nd) (k : Nat) (h : k < l.length) : l.take (k + 1) = l.take k ++ [l[k]] := by rw [List.take_succ_eq_append_getElem h]
theorem opens_step {l : List Nd} {k n a : Nat} (h : k < l.length) (ho : opens (l.take k) 0 = some n) (ha : arity l[k].1 l[k].2 = some a) (hn : a ≤ n) : opens (l.take (k + 1)) 0 = some (n - a + 1) := by
  rw [takeN_snoc l k h, opens_append, ho]
  show opens [l[k]] n = _
  rw [opens_one, ha]
  simp only
  rw [if_pos hn]
theorem opens_stop {l : List Nd} {k n : Nat} (h : k < l.length) (ho : opens (l.take k) 0 = some n) (ha : ∀ a, arity l[k].1 l[k].2 = some a → n < a) : opens l 0 = none := by
  have e : l = l.take (k + 1) ++ l.drop (k + 1) := (List.take_append_drop _ _).symm
  rw [e, opens_append, takeN_snoc l k h, opens_append, ho]
  show (opens [l[k]] n).bind _ = none
  rw [opens_one]
  cases hh : arity l[k].1 l[k].2 with
  | none => rfl
  | some a =>
    have := ha a hh
    simp only
    rw [if_neg (by omega)]
    rfl
theorem opens_le (l : List Nd) : ∀ n m, opens l n = some m → m ≤ n + l.length := by
  induction l with
  | nil => intro n m h; injection h with h; simp; omega
  | cons p r ih =>
    intro n m h
    unfold opens at h
    cases ha : arity p.1 p.2 with
    | none => rw [ha] at h; cases h
    | some a =>
      rw [ha] at h
      simp only at h
      by_cases hn : a ≤ n
      · rw [if_pos hn] at h
        have := ih _ _ h
        simp; omega
      · rw [if_neg hn] at h; cases h
theorem exprB_long {l : List Nd} (h : ¬ l.length ≤ 15) : exprB l = false := by unfold exprB; rw [decide_eq_false h]; rfl
theorem exprB_short {l : List Nd} (h : l.length ≤ 15) : exprB l = decide (opens l 0 = some 1) := by unfold exprB; rw [decide_eq_true h]; rfl
theorem exprB_none {l : List Nd} (h : opens l 0 = none) : exprB l = false := by unfold exprB; rw [h]; simp

/-! trees -/
inductive ET where
  | n0 (k v : Int) : ET
  | n1 (k v : Int) (x : ET) : ET
  | n2 (k v : Int) (x y : ET) : ET
def ET.flat : ET → List Nd
  | .n0 k v => [(k, v)]
  | .n1 k v x => x.flat ++ [(k, v)]
  | .n2 k v x y => x.flat ++ y.flat ++ [(k, v)]
/-- every node has the arguments that it takes -/
def ET.ok : ET → Prop
  | .n0 k v => arity k v = some 0
  | .n1 k v x => arity k v = some 1 ∧ x.ok
  | .n2 k v x y => arity k v = some 2 ∧ x.ok ∧ y.ok
def ET.depth : ET → Nat
  | .n0 _ _ => 1
  | .n1 _ _ x => x.depth + 1
  | .n2 _ _ x y => max x.depth y.depth + 1
def ET.kind : ET → Int
  | .n0 k _ => k
  | .n1 k _ _ => k
  | .n2 k _ _ _ => k
def ET.val : ET → Int
  | .n0 _ v => v
  | .n1 _ v _ => v
  | .n2 _ v _ _ => v
def ET.args : ET → List ET
  | .n0 _ _ => []
  | .n1 _ _ x => [x]
  | .n2 _ _ x y => [x, y]
def mkT (k v : Int) : List ET → ET
  | [] => .n0 k v
  | [x] => .n1 k v x
  | x :: y :: _ => .n2 k v x y
theorem mkT_flat (k v : Int) (l : List ET) (h : l.length ≤ 2) : (mkT k v l).flat = l.flatMap ET.flat ++ [(k, v)] := by
  match l, h with
  | [], _ => rfl
  | [x], _ => simp [mkT, ET.flat]
  | [x, y], _ => simp [mkT, ET.flat]
  | _ :: _ :: _ :: _, h => simp at h
theorem mkT_args (k v : Int) (l : List ET) (h : l.length ≤ 2) : (mkT k v l).args = l ∧ (mkT k v l).kind = k ∧ (mkT k v l).val = v := by
  match l, h with
  | [], _ => exact ⟨rfl, rfl, rfl⟩
  | [x], _ => exact ⟨rfl, rfl, rfl⟩
  | [x, y], _ => exact ⟨rfl, rfl, rfl⟩
  | _ :: _ :: _ :: _, h => simp at h
theorem mkT_ok {k v : Int} {l : List ET} (h : arity k v = some l.length) (hl : ∀ x ∈ l, x.ok) : (mkT k v l).ok := by
  have h2 := arity_le h
  match l, h, hl, h2 with
  | [], h, _, _ => exact h
  | [x], h, hl, _ => exact ⟨h, hl x (by simp)⟩
  | [x, y], h, hl, _ => exact ⟨h, hl x (by simp), hl y (by simp)⟩
  | _ :: _ :: _ :: _, _, _, h2 => simp at h2
/-- one more node on the stack: it takes its arguments from the end -/
def pushT (st : List ET) (p : Nd) (a : Nat) : List ET := st.take (st.length - a) ++ [mkT p.1 p.2 (st.drop (st.length - a))]
theorem pushT_len (st : List ET) (p : Nd) (a : Nat) (h : a ≤ st.length) : (pushT st p a).length = st.length - a + 1 := by
  unfold pushT; rw [List.length_append, List.length_take]; simp
def run : List Nd → List ET → Option (List ET)
  | [], st => some st
  | p :: r, st => match arity p.1 p.2 with
    | none => none
    | some a => if a ≤ st.length then run r (pushT st p a) else none
theorem run_append (l r : List Nd) : ∀ st, run (l ++ r) st = (run l st).bind (run r) := by
  induction l with
  | nil => intro st; rfl
  | cons p l ih =>
    intro st
    show run (p :: (l ++ r)) st = _
    unfold run
    cases arity p.1 p.2 with
    | none => rfl
    | some a =>
      simp only
      by_cases h : a ≤ st.length
      · rw [if_pos h, if_pos h]; exact ih _
      · rw [if_neg h, if_neg h]; rfl
theorem run_opens (l : List Nd) : ∀ st, (run l st).map List.length = opens l st.length := by
  induction l with
  | nil => intro st; rfl
  | cons p r ih =>
    intro st
    unfold run opens
    cases arity p.1 p.2 with
    | none => rfl
    | some a =>
      simp only
      by_cases h : a ≤ st.length
      · rw [if_pos h, if_pos h, ih, pushT_len st p a h]
      · rw [if_neg h, if_neg h]; rfl
theorem run_step {l : List Nd} {k a : Nat} {st : List ET} (h : k < l.length) (ho : run (l.take k) [] = some st) (ha : arity l[k].1 l[k].2 = some a) (hn : a ≤ st.length) : run (l.take (k + 1)) [] = some (pushT st l[k] a) := by
  rw [takeN_snoc l k h, run_append, ho]
  show run [l[k]] st = _
  unfold run
  rw [ha]
  simp only
  rw [if_pos hn]
  rfl
theorem run_open {l : List Nd} {st : List ET} (h : run l [] = some st) : opens l 0 = some st.length := by
  have := run_opens l []
  rw [h] at this
  exact this.symm
theorem run_ok (l : List Nd) : ∀ st st', run l st = some st' → (∀ x ∈ st, ET.ok x) → ∀ x ∈ st', ET.ok x := by
  induction l with
  | nil => intro st st' h hs; injection h with h; subst h; exact hs
  | cons p r ih =>
    intro st st' h hs
    unfold run at h
    cases ha : arity p.1 p.2 with
    | none => rw [ha] at h; cases h
    | some a =>
      rw [ha] at h
      simp only at h
      by_cases hn : a ≤ st.length
      · rw [if_pos hn] at h
        refine ih _ _ h ?_
        intro x hx
        unfold pushT at hx
        rcases List.mem_append.1 hx with hx | hx
        · exact hs x (List.mem_of_mem_take hx)
        · obtain rfl := List.mem_singleton.1 hx
          refine mkT_ok (by rw [ha, List.length_drop]; congr 1; omega) (fun y hy => hs y (List.mem_of_mem_drop hy))
      · rw [if_neg hn] at h; cases h
theorem run_flat (l : List Nd) : ∀ st st', run l st = some st' → st'.flatMap ET.flat = st.flatMap ET.flat ++ l := by
  induction l with
  | nil => intro st st' h; injection h with h; subst h; simp
  | cons p r ih =>
    intro st st' h
    unfold run at h
    cases ha : arity p.1 p.2 with
    | none => rw [ha] at h; cases h
    | some a =>
      rw [ha] at h
      simp only at h
      have h2 := arity_le ha
      by_cases hn : a ≤ st.length
      · rw [if_pos hn] at h
        rw [ih _ _ h]
        unfold pushT
        rw [List.flatMap_append, List.flatMap_singleton, mkT_flat _ _ _ (by rw [List.length_drop]; omega), ← List.append_assoc, ← List.flatMap_append, List.take_append_drop]
        simp
      · rw [if_neg hn] at h; cases h
/-- the tree of a list, if it is an expression -/
def treeT (l : List Nd) : Option ET := if l.length ≤ 15 then (match run l [] with | some [t] => some t | _ => none) else none
theorem treeT_long {l : List Nd} (h : ¬ l.length ≤ 15) : treeT l = none := if_neg h
theorem treeT_one {l : List Nd} {t : ET} (h : l.length ≤ 15) (hr : run l [] = some [t]) : treeT l = some t := by unfold treeT; rw [if_pos h, hr]
theorem treeT_not {l : List Nd} {st : List ET} (hr : run l [] = some st) (h1 : st.length ≠ 1) : treeT l = none := by
  unfold treeT
  split
  · rw [hr]
    match st, h1 with
    | [], _ => rfl
    | [x], h1 => exact absurd rfl h1
    | _ :: _ :: _, _ => rfl
  · rfl
theorem treeT_none {l : List Nd} (hr : run l [] = none) : treeT l = none := by
  unfold treeT
  split
  · rw [hr]
  · rfl
theorem treeT_stop {l : List Nd} {k : Nat} {st : List ET} (h : k < l.length) (ho : run (l.take k) [] = some st) (ha : ∀ a, arity l[k].1 l[k].2 = some a → st.length < a) : treeT l = none := by
  apply treeT_none
  have h1 := opens_stop h (run_open ho) ha
  have h2 := run_opens l []
  cases hr : run l [] with
  | none => rfl
  | some x => rw [hr] at h2; rw [show opens l ([] : List ET).length = none from h1] at h2; cases h2
theorem treeT_some {l : List Nd} {t : ET} (h : treeT l = some t) : l.length ≤ 15 ∧ t.flat = l ∧ t.ok := by
  unfold treeT at h
  by_cases hl : l.length ≤ 15
  · rw [if_pos hl] at h
    cases hr : run l [] with
    | none => rw [hr] at h; cases h
    | some st =>
      rw [hr] at h
      match st, hr, h with
      | [], _, h => cases h
      | [x], hr, h =>
        injection h with h
        subst h
        have h1 := run_flat l [] [x] hr
        have h2 := run_ok l [] [x] hr (by simp)
        exact ⟨hl, by simpa using h1, h2 x (by simp)⟩
      | _ :: _ :: _, _, h => cases h
  · rw [if_neg hl] at h; cases h
theorem exprB_tree (l : List Nd) : exprB l = (treeT l).isSome := by
  by_cases hl : l.length ≤ 15
  · rw [exprB_short hl]
    cases hr : run l [] with
    | none =>
      have h2 := run_opens l []
      rw [hr] at h2
      rw [treeT_none hr, ← (show none = opens l 0 from h2)]
      rfl
    | some st =>
      rw [run_open hr]
      by_cases h1 : st.length = 1
      · match st, h1, hr with
        | [x], _, hr => rw [treeT_one hl hr]; rfl
      · rw [treeT_not hr h1]
        simp [h1]
  · rw [exprB_long hl, treeT_long hl]; rfl
def depR (l : List Nd) : Int := match treeT l with | some t => (t.depth : Int) | none => 0
theorem flat_pos (t : ET) : 0 < t.flat.length := by cases t <;> simp [ET.flat] <;> omega
theorem depth_le (t : ET) : t.depth ≤ t.flat.length ∧ 1 ≤ t.depth := by
  induction t with
  | n0 k v => simp [ET.depth, ET.flat]
  | n1 k v x ih => simp [ET.depth, ET.flat]; omega
  | n2 k v x y ih1 ih2 => simp [ET.depth, ET.flat]; omega
end Go.Proofs.YtnomcnlmlignbaaDoor
