/- impl.SplitString: a range over the program's own iterator. -/
import Derived.Test.YtgfgimpglaepaabDoorStops
import Derived.Test.YtgfgimpglaepaabDoorMemRow
import Derived.Shelf.RegionOpen
import Derived.Deep.AppendLies
namespace Go.Proofs.YtgfgimpglaepaabDoor
open Go.RowKit Go.Shelf
set_option linter.unusedVariables false
attribute [local go_sem] Oper.semAt_some
theorem infoString : (Tryd.prog.info? 9).map (fun i => (i.zero, i.size, i.bytes)) = some (some (.string ⟨#[]⟩), 1, 16) := by kernel_rfl
/-- the row so far, in its box; the two boxes of the iterator -/
def Hold (H : Nat) (s : ByteArray) (c : Int) (w : World) (pre : List ByteArray) (W : World) : Prop :=
  (∃ v, Boxed W (H + 1) 71 v ∧ W.ownsRow H 9 1 v pre.length (pre.map Value.string) ∧ (∀ g, v.ownBlock = some g → g = H ∨ H + 4 ≤ g)) ∧
  W.cell? ⟨H + 2, 0, none⟩ = some (.string s) ∧ W.cell? ⟨H + 3, 0, none⟩ = some (.int .u8 c) ∧ Below H w W ∧ H + 4 ≤ W.heap.size

/-- append at a step of a region inside a fence: where the new row lies -/
theorem step_append_in {F : Fence} {N : Nat} {P : Program} (w : World) {ops : Array Oper} {o : Oper} {a : Act} {K : Act → World → Prop} {Q : Exit → Act → World → Prop} {E : Prop} (hgd : o.guard = none) (s x : Operand) (t : TypeId)
    (ho : o.op = .call { callee := .builtin .append, args := #[s, x], argTypes := #[t, t] })
    (base : Nat) (e : TypeId) (i : TypeInfo) (z : Value) (size bytes : Nat) (ht : P.underlying t = some (.slice e)) (hi : P.info? e = some i) (hz : i.zero = some z)
    (hsize : i.size = size) (hby : i.bytes = bytes) (hzs : z.cells.size = size) (hsz : 0 < size)
    (v : Value) (n : Nat) (xs : List Value) (hs : a.eval s = v) (hown : w.ownsRow base e size v n xs)
    (ad : Addr) (m c : Nat) (news : List Value) (hx : a.eval x = .slice (some ad) m c) (hl : news.length = m * size) (hnews : ∀ j u, news[j]? = some u → w.cell? (ad.add j) = some u) (h1 : ∀ u ∈ news, u.oneCell' = true)
    (hm : 0 < m) (h63 : n + m ≤ maxLen) (hbytes : (n + m) * bytes ≤ 140737488355328) (hbase : base ≤ w.heap.size)
    (h : ∀ g cap w', w'.ownsRow base e size (.slice (some ⟨g, 0, none⟩) (n + m) cap) (n + m) (xs ++ news) → w.grownBy w' v.ownBlock → (v.ownBlock = some g ∨ g = w.heap.size) → g < w'.heap.size → K (a.put o.dst (.slice (some ⟨g, 0, none⟩) (n + m) cap)) w') :
    if Region.wanted o (yielded ops a.tmps) = true then Oper.wpIn F N P o a w K Q else E := by
  have hw : Region.wanted o (yielded ops a.tmps) = true := by simp [Region.wanted, hgd]
  rw [if_pos hw]
  obtain ⟨g, cap, w', hr, h2, h3, h4, h5⟩ := run_append_lies (P := P) w t o.type base e i z size bytes ht hi hz hsize hby hzs hsz v n xs hown ad m c news hl hnews h1 hm h63 hbytes hbase _ rfl
  unfold Oper.wpIn
  refine ⟨by simp [Oper.about, ho, resolve, Target.leads, Sem.run_pure], ?_⟩
  rw [Oper.semAt_plain F _ _ (by rw [ho]; intro c hc'; cases hc')]
  simp [execOp, ho, resolve, invoke, builtin, hs, hx, hr, Result.andThen]
  exact h g cap w' h2 h3 h4 h5

theorem owns_below {W w1 : World} {H n : Nat} {e : TypeId} {v : Value} {xs : List Value} (h : W.ownsRow H e 1 v n xs) (hb : Below W.heap.size W w1) : w1.ownsRow H e 1 v n xs := by
  refine ⟨h.1, ?_⟩
  rcases h.2 with hn | ⟨g, cap, cur, hv, hbs, hg, rest⟩
  · exact .inl hn
  · refine .inr ⟨g, cap, cur, hv, hbs, ?_, rest⟩
    have hlt := (Array.getElem?_eq_some_iff.1 hg).1
    rw [hb.block g hlt]; exact hg

set_option maxRecDepth 100000 in
set_option maxHeartbeats 4000000 in
theorem body_in (l : Nat) (W : World) (H : Nat) (x : ByteArray) (v : Value) (n : Nat) (xs : List Value) (hm : Tryd.prog.follows .mixedOrders = true) (hb : Boxed W (H + 1) 71 v)
    (hrow : W.ownsRow H 9 1 v n xs) (hne : ∀ g, v.ownBlock = some g → g = H ∨ H + 4 ≤ g) (hH : H ≤ W.heap.size) (hn : n ≤ 4001)
    (HC : ∀ W, Calls Tryd.prog 67 #[.string x] W fun e w' => e = .returned (.string x) ∧ Below W.heap.size W w')
    (a1 a0 a2 a3 a4 a5 b8 b9 b10 b11 b12 b13 b14 b15 b16 b17 b18 b19 b20 b21 b22 b23 b24 b25 b26 b27 b28 : Value) (Q : Exit → Act → World → Prop)
    (hQ : ∀ a' w1 g cap w2, Below W.heap.size W w1 → w2.ownsRow H 9 1 (.slice (some ⟨g, 0, none⟩) (n + 1) cap) (n + 1) (xs ++ [.string x]) → (w1.alloc (.cells #[.string x] 9)).grownBy w2 v.ownBlock → (v.ownBlock = some g ∨ g = (w1.alloc (.cells #[.string x] 9)).heap.size) → g < w2.heap.size →
      Q .normal a' (w2.setCell ⟨H + 1, 0, none⟩ (.slice (some ⟨g, 0, none⟩) (n + 1) cap))) :
    Code.wpIn (Fence.wide.inRound l) 7 Tryd.prog
        (Code.region 6
          #[{ dst := some 23, op := Op.load 71 (Operand.tmp 6), type := 71, pos := "l1_strings.go:57", after := #[],
              guard := none },
            { dst := some 24, op := Op.move (Operand.tmp 7), type := 9, pos := "l1_strings.go:57", after := #[],
              guard := none },
            { dst := some 25,
              op := Op.call { callee := Callee.value (Operand.func 67), args := #[Operand.tmp 24], argTypes := #[9] },
              type := 9, pos := "l1_strings.go:57", after := #[{ on := 1, ground := Ground.data }], guard := none },
            { dst := some 26, op := Op.buildSlice 71 1 #[(0, Operand.tmp 25)], type := 71, pos := "l1_strings.go:57",
              after := #[{ on := 2, ground := Ground.data }], guard := none },
            { dst := some 27,
              op :=
                Op.call
                  { callee := Callee.builtin Builtin.append, args := #[Operand.tmp 23, Operand.tmp 26],
                    argTypes := #[71, 71] },
              type := 71, pos := "l1_strings.go:57",
              after :=
                #[{ on := 0, ground := Ground.data }, { on := 3, ground := Ground.data },
                  { on := 2, ground := Ground.chain }],
              guard := none },
            { dst := none, op := Op.store 71 (Operand.tmp 6) (Operand.tmp 27), type := 0, pos := "l1_strings.go:57",
              after :=
                #[{ on := 4, ground := Ground.data }, { on := 4, ground := Ground.chain },
                  { on := 0, ground := Ground.phase }, { on := 1, ground := Ground.phase },
                  { on := 2, ground := Ground.phase }, { on := 3, ground := Ground.phase },
                  { on := 4, ground := Ground.phase }],
              guard := none }]
          true) Q { tmps := #[a0, a1, a2, a3, a4, a5, .pointer (some ⟨H + 1, 0, none⟩), .string x, b8, b9, b10, b11, b12, b13, b14, b15, b16, b17, b18, b19, b20, b21, b22, b23, b24, b25, b26, b27, b28], defers := [] } W := by
  obtain ⟨i0, hi, hz0, hz1, hz2⟩ := info_parts infoString
  have c0 : W.drew.cell? ⟨H + 1, 0, none⟩ = some v := hb.cell
  have hlt := hb.lt
  have HQ := Lib.hid hQ
  clear hQ
  -- behind the first four operations, in whatever order
  have tail : ∀ w1, Below W.heap.size W w1 → wpAnyIn (Fence.wide.inRound l) 7 Tryd.prog .any
          #[{ dst := some 23, op := Op.load 71 (Operand.tmp 6), type := 71, pos := "l1_strings.go:57", after := #[],
              guard := none },
            { dst := some 24, op := Op.move (Operand.tmp 7), type := 9, pos := "l1_strings.go:57", after := #[],
              guard := none },
            { dst := some 25,
              op := Op.call { callee := Callee.value (Operand.func 67), args := #[Operand.tmp 24], argTypes := #[9] },
              type := 9, pos := "l1_strings.go:57", after := #[{ on := 1, ground := Ground.data }], guard := none },
            { dst := some 26, op := Op.buildSlice 71 1 #[(0, Operand.tmp 25)], type := 71, pos := "l1_strings.go:57",
              after := #[{ on := 2, ground := Ground.data }], guard := none },
            { dst := some 27,
              op :=
                Op.call
                  { callee := Callee.builtin Builtin.append, args := #[Operand.tmp 23, Operand.tmp 26],
                    argTypes := #[71, 71] },
              type := 71, pos := "l1_strings.go:57",
              after :=
                #[{ on := 0, ground := Ground.data }, { on := 3, ground := Ground.data },
                  { on := 2, ground := Ground.chain }],
              guard := none },
            { dst := none, op := Op.store 71 (Operand.tmp 6) (Operand.tmp 27), type := 0, pos := "l1_strings.go:57",
              after :=
                #[{ on := 4, ground := Ground.data }, { on := 4, ground := Ground.chain },
                  { on := 0, ground := Ground.phase }, { on := 1, ground := Ground.phase },
                  { on := 2, ground := Ground.phase }, { on := 3, ground := Ground.phase },
                  { on := 4, ground := Ground.phase }],
              guard := none }]
      Q 2 #[true, true, true, true, false, false] { tmps := #[a0, a1, a2, a3, a4, a5, .pointer (some ⟨H + 1, 0, none⟩), .string x, b8, b9, b10, b11, b12, b13, b14, b15, b16, b17, b18, b19, b20, b21, b22, v, .string x, .string x, .slice (some ⟨w1.heap.size, 0, none⟩) 1 1, b27, b28], defers := [] } (w1.alloc (.cells #[.string x] 9)) := by
    intro w1 hB1
    have hb1 : Boxed (w1.alloc (.cells #[.string x] 9)) (H + 1) 71 v := ((hB1.block _ hlt).trans hb : w1.heap[H + 1]? = _) |> fun h => Boxed.alloc h _
    have hrow1 : (w1.alloc (.cells #[.string x] 9)).ownsRow H 9 1 v n xs := owns_below (owns_below hrow hB1) ((Below.refl _ _).alloc (Nat.le_refl _) _)
    have hs1 := hB1.size
    refine wpAnyIn_ready (rs := [4]) (by kernel_rfl) (by simp) ?_
    refine AllReadyIn.cons rfl (fun K hK => ?_) AllReadyIn.nil
    refine step_append_in _ rfl _ _ 71 rfl H 9 i0 (.string ⟨#[]⟩) 1 16 Tryd.underlying71 hi hz0 hz1 hz2 rfl (by decide) v n xs rfl hrow1 ⟨w1.heap.size, 0, none⟩ 1 1 [.string x] rfl rfl (cell_one_new _ _ _) (by simp [Value.oneCell']) (by decide) (by unfold maxLen; omega) (by omega) (by simp; omega) ?_
    intro g cap w2 hown hgrow hat hglt
    refine hK _ _ ?_
    clear hK K
    have hb2 : Boxed w2 (H + 1) 71 v := hb1.kept hgrow (fun e => by
      rcases hne _ e.symm with h | h <;> omega)
    have c2 := hb2.cell
    have f2 := hb2.frozen
    refine wpAnyIn_ready (rs := [5]) (by kernel_rfl) (by simp) ?_
    refine AllReadyIn.cons rfl (fun K hK => ?_) AllReadyIn.nil
    go_simp
    refine hK _ _ ?_
    clear hK K
    refine wpAnyIn_done (by kernel_rfl) ?_ _
    exact HQ.out _ w1 g cap w2 hB1 hown hgrow hat hglt
  have TL := Lib.hid tail
  have CC := Lib.hid (fun W' => (callsIn_wide (n := 6)).2 (HC W') |> CallsIn.inRound l)
  clear tail HC
  have hBd : Below W.heap.size W W.drew := ⟨rfl, rfl, rfl, Nat.le_refl _, fun _ _ => rfl⟩
  refine wpIn_region_any (by assumption) ?_
  change wpAnyIn _ _ _ _ _ _ _ _ _ (World.drew _)
  refine wpAnyIn_ready (rs := [0, 1]) (by kernel_rfl) (by simp) ?_
  refine AllReadyIn.cons rfl (fun K hK => ?_) ?_
  · go_simp
    refine hK _ _ ?_
    clear hK K
    refine wpAnyIn_ready (rs := [1]) (by kernel_rfl) (by simp) ?_
    refine AllReadyIn.cons rfl (fun K hK => ?_) AllReadyIn.nil
    go_simp
    refine hK _ _ ?_
    clear hK K
    refine wpAnyIn_ready (rs := [2]) (by kernel_rfl) (by simp) ?_
    refine AllReadyIn.cons rfl (fun K hK => ?_) AllReadyIn.nil
    go_simp
    refine ⟨trivial, ?_⟩
    refine (CC.out _).mono ?_
    rintro e w1 ⟨rfl, b1⟩
    have hB1 := hBd.trans b1
    refine hK _ _ ?_
    clear hK K
    refine wpAnyIn_ready (rs := [3]) (by kernel_rfl) (by simp) ?_
    refine AllReadyIn.cons rfl (fun K hK => ?_) AllReadyIn.nil
    go_simp
    refine hK _ _ ?_
    clear hK K
    exact TL.out w1 hB1
  · refine AllReadyIn.cons rfl (fun K hK => ?_) AllReadyIn.nil
    go_simp
    refine hK _ _ ?_
    clear hK K
    refine wpAnyIn_ready (rs := [0, 2]) (by kernel_rfl) (by simp) ?_
    refine AllReadyIn.cons rfl (fun K hK => ?_) ?_
    · go_simp
      refine hK _ _ ?_
      clear hK K
      refine wpAnyIn_ready (rs := [2]) (by kernel_rfl) (by simp) ?_
      refine AllReadyIn.cons rfl (fun K hK => ?_) AllReadyIn.nil
      go_simp
      refine ⟨trivial, ?_⟩
      refine (CC.out _).mono ?_
      rintro e w1 ⟨rfl, b1⟩
      have hB1 := hBd.trans b1
      refine hK _ _ ?_
      clear hK K
      refine wpAnyIn_ready (rs := [3]) (by kernel_rfl) (by simp) ?_
      refine AllReadyIn.cons rfl (fun K hK => ?_) AllReadyIn.nil
      go_simp
      refine hK _ _ ?_
      clear hK K
      exact TL.out w1 hB1
    · refine AllReadyIn.cons rfl (fun K hK => ?_) AllReadyIn.nil
      go_simp
      refine ⟨trivial, ?_⟩
      refine (CC.out _).mono ?_
      rintro e w1 ⟨rfl, b1⟩
      have hB1 := hBd.trans b1
      have c1 : w1.cell? ⟨H + 1, 0, none⟩ = some v := (hB1.cell (p := ⟨H + 1, 0, none⟩) hlt).trans hb.cell
      have hlt1 : H + 1 < w1.heap.size := by have := hB1.size; omega
      refine hK _ _ ?_
      clear hK K
      refine wpAnyIn_ready (rs := [0, 3]) (by kernel_rfl) (by simp) ?_
      refine AllReadyIn.cons rfl (fun K hK => ?_) ?_
      · go_simp
        refine hK _ _ ?_
        clear hK K
        refine wpAnyIn_ready (rs := [3]) (by kernel_rfl) (by simp) ?_
        refine AllReadyIn.cons rfl (fun K hK => ?_) AllReadyIn.nil
        go_simp
        refine hK _ _ ?_
        clear hK K
        exact TL.out w1 hB1
      · refine AllReadyIn.cons rfl (fun K hK => ?_) AllReadyIn.nil
        go_simp
        refine hK _ _ ?_
        clear hK K
        refine wpAnyIn_ready (rs := [0]) (by kernel_rfl) (by simp) ?_
        refine AllReadyIn.cons rfl (fun K hK => ?_) AllReadyIn.nil
        go_simp
        refine hK _ _ ?_
        clear hK K
        exact TL.out w1 hB1

theorem pieces_len (s : ByteArray) (c : Int) (hs : s.size ≤ 4000) : (pieces s c).length ≤ 4001 := by
  have h : ∀ (l : List UInt8) (st : List (List UInt8) × List UInt8), (l.foldl (spStep c) st).1.length ≤ st.1.length + l.length := by
    intro l
    induction l with
    | nil => intro st; simp
    | cons x r ih =>
      intro st
      rw [List.foldl_cons]
      have := ih (spStep c st x)
      have h2 : (spStep c st x).1.length ≤ st.1.length + 1 := by unfold spStep; split <;> simp
      simp only [List.length_cons]
      omega
  have h2 := h s.data.toList ([], [])
  have h3 : s.data.toList.length = s.size := Array.length_toList
  unfold pieces splitL spSt
  simp
  simp at h2
  omega
theorem hold_own (H : Nat) (s : ByteArray) (c : Int) (w : World) (hH : H ≤ w.heap.size) : OwnFrom (H + 4) (Hold H s c w) := by
  rintro pre W W' row ⟨⟨v, hb, hrow, hne⟩, h2, h3, hB, hz⟩ hg hr
  have hn1 : ∀ k, k < H + 4 → some k ≠ row := fun k hk e => by
    have := (hr k e.symm).1; omega
  have hsz := hB.size
  refine ⟨⟨v, hb.kept hg (hn1 _ (by omega)), hrow.kept hg ?_, hne⟩, ?_, ?_, hB.grown hg (by omega) (fun k e => by have := (hr k e).1; omega), by have := hg.size; omega⟩
  · cases hv : v.ownBlock with
    | none => exact .inl rfl
    | some g =>
      refine .inr fun e => ?_
      obtain ⟨_, o, ho, hoc⟩ := hr g e.symm
      rcases hrow.2 with ⟨rfl, _⟩ | ⟨g', cap, cur, rfl, _, hgb, _⟩
      · simp [Value.ownBlock] at hv
      · simp [Value.ownBlock] at hv
        subst hv
        rw [hgb] at ho
        injection ho with ho
        subst ho
        simp [Obj.isCells] at hoc
  · rw [← h2]; exact World.cell?_of_block (hg.block (H + 2) (by omega) (hn1 _ (by omega)))
  · rw [← h3]; exact World.cell?_of_block (hg.block (H + 3) (by omega) (hn1 _ (by omega)))

set_option maxRecDepth 100000 in
set_option maxHeartbeats 4000000 in
theorem splitIn (s sep : ByteArray) (w : World) (hs : s.size ≤ 4000) (hp : sep.size = 1) (HC : ∀ x : ByteArray, x.size ≤ 4000 → ∀ W, Calls Tryd.prog 67 #[.string x] W fun e w' => e = .returned (.string x) ∧ Below W.heap.size W w') :
    CallsIn Fence.wide 9 Tryd.prog 43 #[.string s, .string sep] w fun e W' => ∃ v, e = .returned (.tuple #[v, .bool true]) ∧ W'.ownsRow w.heap.size 9 1 v (pieces s (sep[0].toNat : Int)).length ((pieces s (sep[0].toNat : Int)).map Value.string) ∧ Below w.heap.size w W' := by
  obtain ⟨i0, hi, hz0, hz1, hz2⟩ := info_parts infoString
  have d1 : decide (4000 < s.size) = false := decide_eq_false (by omega)
  have d2 : (sep.size != 1) = false := by simp [hp]
  obtain ⟨c, hc⟩ : ∃ c, (sep[0].toNat : Int) = c := ⟨_, rfl⟩
  rw [hc]
  have CL := Lib.hid HC
  clear HC
  refine callsIn_of_wp_marks Tryd.func43 rfl trivial ?_ rfl
  simp only [Tryd.ntmps43, List.size_toArray, List.length_cons, List.length_nil, Nat.reduceAdd, Nat.reduceSub, Array.replicate_succ, Array.replicate_zero, List.push_toArray, List.append_toArray, List.nil_append, List.cons_append]
  gi_wp2
  refine ⟨trivial, ?_⟩
  refine (pieces_in Fence.wide _ trivial rfl _ _ _).mono ?_
  rintro e w' ⟨rfl, rfl⟩
  gi_wp2
  have bO := Boxed.new (w.alloc (.cells #[] 9)) 71 (.slice (some ⟨w.heap.size, 0, none⟩) 0 0)
  have bS := Boxed.new ((w.alloc (.cells #[] 9)).alloc (.cells #[.slice (some ⟨w.heap.size, 0, none⟩) 0 0] 71)) 9 (.string s)
  have bC := Boxed.new (((w.alloc (.cells #[] 9)).alloc (.cells #[.slice (some ⟨w.heap.size, 0, none⟩) 0 0] 71)).alloc (.cells #[.string s] 9)) 5 (.int .u8 c)
  rw [World.size_alloc] at bO
  rw [World.size_alloc, World.size_alloc] at bS
  rw [World.size_alloc, World.size_alloc, World.size_alloc] at bC
  have hB0 : Below w.heap.size w ((((w.alloc (.cells #[] 9)).alloc (.cells #[.slice (some ⟨w.heap.size, 0, none⟩) 0 0] 71)).alloc (.cells #[.string s] 9)).alloc (.cells #[.int .u8 c] 5)) :=
    ((((Below.refl _ w).alloc (Nat.le_refl _) _).alloc (by simp) _).alloc (by simp; omega) _).alloc (by simp; omega) _
  have hsz : ((((w.alloc (.cells #[] 9)).alloc (.cells #[.slice (some ⟨w.heap.size, 0, none⟩) 0 0] 71)).alloc (.cells #[.string s] 9)).alloc (.cells #[.int .u8 c] 5)).heap.size = w.heap.size + 4 := by simp
  have r0 : ((((w.alloc (.cells #[] 9)).alloc (.cells #[.slice (some ⟨w.heap.size, 0, none⟩) 0 0] 71)).alloc (.cells #[.string s] 9)).alloc (.cells #[.int .u8 c] 5)).ownsRow w.heap.size 9 1 (.slice (some ⟨w.heap.size, 0, none⟩) 0 0) 0 [] := by
    have h1 := World.ownsRow_lit (base := w.heap.size) (e := 9) (size := 1) w #[] 0 (Nat.le_refl _) (by decide) rfl
    exact ((h1.alloc _).alloc _).alloc _
  have k2 := (bS.alloc (.cells #[.int .u8 c] 5)).cell
  have k3 := bC.cell
  have b1 := (bO.alloc (.cells #[.string s] 9)).alloc (.cells #[.int .u8 c] 5)
  generalize ((((w.alloc (.cells #[] 9)).alloc (.cells #[.slice (some ⟨w.heap.size, 0, none⟩) 0 0] 71)).alloc (.cells #[.string s] 9)).alloc (.cells #[.int .u8 c] 5)) = w9 at *
  clear bO bS bC
  have hh0 : Hold w.heap.size s c w [] w9 := ⟨⟨_, b1, r0, fun g e => .inl (by simp [Value.ownBlock] at e; omega)⟩, k2, k3, hB0, by omega⟩
  have hown := hold_own w.heap.size s c w (Nat.le_refl _)
  rw [← hsz] at hown
  clear b1 r0 hB0
  refine wpIn_rangeFunc_ownG rfl (by decide) (gf := 85) (lb := #[.pointer (some ⟨w.heap.size + 2, 0, none⟩), .pointer (some ⟨w.heap.size + 3, 0, none⟩)]) rfl trivial (enters_of Tryd.func85 (by kernel_rfl) rfl)
    (pieces_stops Fence.wide 8 trivial rfl (by decide) (w.heap.size + 2) (w.heap.size + 3) s c w9 (by omega) (by omega) hs k2 k3) KpB.trans
    (fun W l o o' hl ho h1 h2 => KpB.below (belowK_b (w := w9) (n₀ := w9.heap.size) (Nat.le_refl _) W l o o' hl ho h1 h2) (by omega) (by omega)) (Below.refl _ _) (fun _ => rfl)
    (fun pre W => Hold w.heap.size s c w (longs pre) W) (fun _ _ _ => False)
    (fun pre W W' row h hg hr => hown (longs pre) W W' row h hg hr) (fun _ _ _ _ _ hs _ _ => hs) hh0
    (fun x => { tmps := #[.string s, .string sep, undef, undef, .slice none 0 0, .bool false, .pointer (some ⟨w.heap.size + 1, 0, none⟩), .string x.1, .string s, .int .i64 (s.size : Int), .bool (decide (4000 < (s.size : Int))), .bool (decide (4000 < (s.size : Int))), .string sep, .int .i64 1, .bool false, .bool (decide (4000 < (s.size : Int))), undef, .slice (some ⟨w.heap.size, 0, none⟩) 0 0, .string s, .string sep, .int .u8 c, .func (.func 85) #[] #[.pointer (some ⟨w.heap.size + 1 + 1, 0, none⟩), .pointer (some ⟨w.heap.size + 1 + 1 + 1, 0, none⟩)], .string x.1, undef, undef, undef, undef, undef, undef], defers := [] }) ?assign ?body ?done ?stop
  case assign =>
    intro l x W K hK
    gi_wp2
    exact hK
  case body =>
    rintro l pre x W ⟨⟨v, hv, hrow, hne⟩, q2, q3, hB, hz⟩ hlt
    gi_wp2
    refine body_in l W w.heap.size x.1 v (longs pre).length _ (by kernel_rfl) hv hrow hne (by omega) (by have := longs_len pre; have := pieces_len s c hs; omega) (CL.out x.1 x.2) _ _ _ _ _ _ _ _ _ _ _ _ _ _ _ _ _ _ _ _ _ _ _ _ _ _ _ _ ?_
    intro a' w1 g cap w2 b1 hown2 hgrow hat hglt
    have z1 := b1.size
    have e1 : ∀ k, k < W.heap.size → some k ≠ v.ownBlock → w2.heap[k]? = W.heap[k]? := fun k hk hne2 =>
      (hgrow.block k (by simp; omega) hne2).trans ((Below.heap_alloc w1 _ k (by omega)).trans (b1.block k hk))
    have n1 : ∀ k, w.heap.size < k → k < w.heap.size + 4 → some k ≠ v.ownBlock := fun k h0 h1 e => by
      rcases hne k e.symm with h | h <;> omega
    have n9 : g = w.heap.size ∨ w.heap.size + 4 ≤ g := by
      rcases hat with h | h
      · exact hne g h
      · right; rw [h]; simp; omega
    have hb2 : Boxed w2 (w.heap.size + 1) 71 v := (e1 (w.heap.size + 1) (by omega) (n1 (w.heap.size + 1) (by omega) (by omega))).trans hv
    have x2 : (w2.setCell ⟨w.heap.size + 1, 0, none⟩ (.slice (some ⟨g, 0, none⟩) ((longs pre).length + 1) cap)).cell? ⟨w.heap.size + 2, 0, none⟩ = W.cell? ⟨w.heap.size + 2, 0, none⟩ := by
      rw [World.cell?_setCell_other _ _ _ _ (by intro h; injection h with h; omega)]
      exact World.cell?_of_block (e1 (w.heap.size + 2) (by omega) (n1 (w.heap.size + 2) (by omega) (by omega)))
    have x3 : (w2.setCell ⟨w.heap.size + 1, 0, none⟩ (.slice (some ⟨g, 0, none⟩) ((longs pre).length + 1) cap)).cell? ⟨w.heap.size + 3, 0, none⟩ = W.cell? ⟨w.heap.size + 3, 0, none⟩ := by
      rw [World.cell?_setCell_other _ _ _ _ (by intro h; injection h with h; omega)]
      exact World.cell?_of_block (e1 (w.heap.size + 3) (by omega) (n1 (w.heap.size + 3) (by omega) (by omega)))
    have zg := hgrow.size
    simp at zg
    have HBW : Below w.heap.size w w2 := ((hB.trans (b1.mono (by omega))).alloc (by omega) _).grown hgrow (by simp; omega) (fun k e => (hrow.lt k e).1)
    refine ⟨?_, ⟨x2, x3⟩, ⟨⟨_, hb2.set _, ?_, ?_⟩, x2.trans q2, x3.trans q3, HBW.setCell (by simp) _, by simp; omega⟩⟩
    · refine ⟨by simp; omega, fun k o _ hk ho => ?_⟩
      have hk1 : k < W.heap.size := (Array.getElem?_eq_some_iff.1 hk).1
      have hnb : some k ≠ v.ownBlock := fun e => by
        rcases hrow.2 with ⟨rfl, _⟩ | ⟨g', cap', cur, rfl, _, hgb, _⟩
        · simp [Value.ownBlock] at e
        · simp [Value.ownBlock] at e
          subst e
          rw [hgb] at hk
          injection hk with hk
          subst hk
          simp [Obj.isCells] at ho
      have hn1 : k ≠ w.heap.size + 1 := fun e => by
        subst e
        have hk' := hk
        rw [show W.heap[w.heap.size + 1]? = _ from hv] at hk'
        injection hk' with hk'
        subst hk'
        simp [Obj.isCells] at ho
      rw [Below.heap_setCell _ _ _ k hn1, e1 k hk1 hnb]
      exact hk
    · rw [longs_snoc]
      have := hown2.kept (grownBy_setCell' w2 (w.heap.size + 1) (.slice (some ⟨g, 0, none⟩) ((longs pre).length + 1) cap)) (.inr (by simp [Value.ownBlock]; omega))
      simpa using this
    · intro g2 e
      simp [Value.ownBlock] at e
      subst e
      exact n9
  case done =>
    rintro D ys W hD hys ⟨⟨v, hv, hrow, hne⟩, q2, q3, hB, hz⟩ hK
    have hc9 := hv.cell
    gi_wp2
    refine ⟨by simp, .inl ⟨_, _, rfl, run_takeDeferred hK, ?_⟩⟩
    rw [hys] at hrow
    exact ⟨_, by simp [results, Tryd.results43, go_sem], v, rfl, ownsRow_putObj hrow _ hK rfl, hB.trans (belowK_b (w := w) (Nat.le_refl _) W D _ _ (by omega) hK rfl rfl)⟩
  case stop =>
    rintro D c pre W _ _ h _
    exact h.elim
end Go.Proofs.YtgfgimpglaepaabDoor
