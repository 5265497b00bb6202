/- impl.treeOf: the tree of an expression. -/
import Derived.Test.YtnomcnlmlignbaaDoorTreeMem
import Derived.Deep.RegionHeld3
import Derived.Test.YtnomcnlmlignbaaDoorMake
namespace Go.Proofs.YtnomcnlmlignbaaDoor
open Go.RowKit
set_option linter.unusedVariables false
set_option linter.unusedSimpArgs false
/-- a tree or none is returned -/
def TPost (r : Option ET) (w : World) (e : Ending) (w' : World) : Prop :=
  Below w.heap.size w w' ∧ ((r = none ∧ e = .returned (.tuple #[.pointer none, .bool false])) ∨ ∃ t b, r = some t ∧ e = .returned (.tuple #[.pointer (some ⟨b, 0, none⟩), .bool true]) ∧ TreeAt w' (fun i => w.heap.size ≤ i) t b)
def Av (B g : Nat) (i : Nat) : Prop := B ≤ i ∧ i ≠ g
/-- the node that has just been laid, with its row of arguments -/
theorem tree_made {w3 w4 : World} {B g : Nat} {x y : Int} {st : List ET} {bs : List Nat} {m fi : Nat} {a4 : Option Addr} {c4 : Nat} (hB : B ≤ g) (hg : g < w3.heap.size) (hm : m ≤ st.length) (hm2 : m ≤ 2) (hfi : st.length - m = fi) (hs : SK w3 (Av B g) st bs) (hK : fmT x = (m : Int) ∧ fmK x = x)
    (hb : Below w3.heap.size w3 w4) (ho : w4.ownsRow w3.heap.size 115 1 (.slice a4 m c4) m (ptrs (bs.drop fi))) :
    TreeAt (w4.alloc (.cells #[.int .i64 x, .int .i64 y, .int .i64 x, .int .i64 (m : Int), .int .i64 (fmM x), .int .i64 (fmO x), .string (fmA x), .string (fmB x), .string (fmC x), .slice a4 m c4] 142)) (Av B g) (mkT x y (st.drop fi)) w4.heap.size := by
  have hz := hb.size
  have hl : (st.drop fi).length = m := by rw [List.length_drop]; omega
  have hbl : (bs.drop fi).length = m := by rw [List.length_drop, hs.1]; omega
  have hs5 := (hs.below hb).below (below_all w4 (.cells #[.int .i64 x, .int .i64 y, .int .i64 x, .int .i64 (m : Int), .int .i64 (fmM x), .int .i64 (fmO x), .string (fmA x), .string (fmB x), .string (fmC x), .slice a4 m c4] 142))
  refine treeAt_mk (a := a4) (c := c4) (bs := bs.drop fi) (by omega) (by rw [hl, hbl]) ⟨by omega, by omega⟩ ?_ ?_ ?_
  · unfold tcells
    rw [hl, hK.1, hK.2]
    exact BoxC.new _ _ _
  · rcases Nat.eq_zero_or_pos m with h0 | h0
    · exact .inl (by omega)
    · right
      obtain ⟨cap, ga, hv, hga, hrow, _⟩ := Row.of_own ho h0
      injection hv with e1 e2 e3
      refine ⟨ga, e1, ⟨by omega, by omega⟩, fun j hj => ?_⟩
      rw [(hrow.alloc _).cell (k := j) (by rw [ptrs_len]; exact hj), ptrs_get]
  · intro j h1 h2
    rw [List.getElem_drop, List.getElem_drop]
    rw [List.length_drop] at h1 h2
    exact hs5.2 (fi + j) (by omega) (by omega)
/-- the stack behind the append -/
theorem stack_next {w5 w6 : World} {o : Obj} {B g g' : Nat} {p : Nd} {st : List ET} {bs : List Nat} {m tb : Nat} (hs : SK w5 (Av B g) st bs) (ht : TreeAt w5 (Av B g) (mkT p.1 p.2 (st.drop (st.length - m))) tb) (hg : (w5.alloc o).grownBy w6 (some g)) (hat : g' = g ∨ g' = (w5.alloc o).heap.size) :
    SK w6 (Av B g') (pushT st p m) (bs.take (st.length - m) ++ [tb]) := by
  refine (hs.push ht).keep (fun i hi hlt => ?_) (fun i hi hlt => ⟨hi.1, ?_⟩)
  · rw [hg.block i (by rw [World.size_alloc]; omega) (by intro e; injection e with e; exact hi.2 e)]
    exact Below.heap_alloc w5 o i hlt
  · rcases hat with rfl | rfl
    · exact hi.2
    · rw [World.size_alloc]; omega
set_option maxRecDepth 100000 in
set_option maxHeartbeats 8000000 in
theorem treeOf_any (a : Option Addr) (l : List Nd) (c : Nat) (w : World) (hl : Nds w w.heap.size a l) (hn : l.length ≤ 1048576) (htab : NTab w) :
    Calls Tryd.prog 92 #[.slice a l.length c] w (TPost (treeT l) w) := by
  by_cases h15 : (15 : Int) < (l.length : Int)
  · have R := Lib.hid (treeT_long (l := l) (by omega))
    go_enter Tryd.func92, Tryd.ntmps92
    go_wp2
    go_ret2
    exact ⟨Below.refl _ _, .inl ⟨R.out, rfl⟩⟩
  · obtain ⟨i0, hi0', hz0, hz1, hz2⟩ := info_parts infoPtr
    have hl15 : l.length ≤ 15 := by omega
    have HL := Lib.hid hl
    have HT := Lib.hid htab
    have HO0 := Lib.hid (World.ownsRow_made (base := w.heap.size) (e := 115) (size := 1) w #[] 0 (Nat.le_refl _) (by simp) rfl)
    clear hl htab
    go_enter Tryd.func92, Tryd.ntmps92
    go_wp2
    go_loopw [4, 17] (fun f i wr => ∃ (k g cp : Nat) (st : List ET) (bs : List Nat), k ≤ l.length ∧ i = .int .i64 k ∧ f = .slice (some ⟨g, 0, none⟩) st.length cp ∧ st.length ≤ k ∧ run (l.take k) [] = some st ∧
        wr.ownsRow w.heap.size 115 1 (.slice (some ⟨g, 0, none⟩) st.length cp) st.length (ptrs bs) ∧ SK wr (Av w.heap.size g) st bs ∧ Below w.heap.size w wr) (fun _ i _ => l.length - (intOf i).toNat)
    case atStart => exact ⟨0, w.heap.size, 0, [], [], Nat.zero_le _, rfl, rfl, Nat.le_refl _, by simp [run], HO0.out, ⟨rfl, fun j h => by simp at h⟩, below_all _ _⟩
    case round =>
      obtain ⟨k, g, cp, st, bs, hk, rfl, rfl, hstk, hrun, hown, hsk, hB⟩ := hrel
      have HRUN := Lib.hid hrun
      have HO := Lib.hid hown
      have HS := Lib.hid hsk
      have HB := Lib.hid hB
      have hbl : bs.length = st.length := hsk.1
      have hcp : st.length ≤ cp := by
        obtain ⟨_, h | ⟨g', cap, cur, hv, h2, h3, h4, _⟩⟩ := hown
        · cases h.1
        · injection hv with e1 e2 e3
          omega
      have hgw : w.heap.size ≤ g := (hown.lt g rfl).1
      have hgl : g < wr.heap.size := (hown.lt g rfl).2
      have hBz := hB.size
      clear hrun hown hsk hB
      by_cases hlt : k < l.length
      · obtain ⟨b, o, rfl, hb, q0, q1⟩ := (HL.out.below HB.out (Nat.le_refl _)).at_ hlt
        have hi : (k : Int) < (l.length : Int) := by omega
        have hi0 : (0 : Int) ≤ (k : Int) := by omega
        have HSTOP := Lib.hid (fun h => treeT_stop hlt HRUN.out h)
        have HSTEP := Lib.hid (fun a ha hn => run_step (a := a) hlt HRUN.out ha hn)
        obtain ⟨x, hx⟩ : ∃ x, l[k].1 = x := ⟨_, rfl⟩
        obtain ⟨y, hy⟩ : ∃ y, l[k].2 = y := ⟨_, rfl⟩
        have hxy : l[k] = (x, y) := by rw [← hx, ← hy]
        rw [hx] at q0 HSTOP HSTEP
        rw [hy] at q1 HSTOP HSTEP
        rw [hxy] at HSTEP
        clear hx hy hxy
        have hlr : k < l.length := hlt
        have HF := Lib.hid (fun W (h : Below w.heap.size w W) => formOf_any x y W (HT.out.below h))
        obtain ⟨nb, hnb⟩ : ∃ q, wr.heap.size = q := ⟨_, rfl⟩
        obtain ⟨W1, hW1⟩ : ∃ W, wr.alloc (.cells #[.int .i64 x, .int .i64 y] 112) = W := ⟨_, rfl⟩
        have bW1 : Below wr.heap.size wr W1 := by rw [← hW1]; exact below_all _ _
        have hgn : g < nb := by omega
        have XN1 := Lib.hid (show BoxC W1 nb 112 #[.int .i64 x, .int .i64 y] by rw [← hW1, ← hnb]; exact BoxC.new _ _ _)
        have HO1 := Lib.hid (own_keeps HO.out bW1)
        have HS1 := Lib.hid (HS.out.below bW1)
        have HB1 := Lib.hid (below_then HB.out bW1)
        clear bW1 HO HS
        have nc0 := XN1.out.cell 0
        have nc1 := XN1.out.cell 1
        simp at nc0 nc1
        go_wp2_with fail
        refine (HF.out _ HB1.out).mono ?_
        rintro e w2 ⟨rfl, b2⟩
        have XN2 := Lib.hid (XN1.out.below b2)
        have HO2 := Lib.hid (own_keeps HO1.out b2)
        have HS2 := Lib.hid (HS1.out.below b2)
        have HB2 := Lib.hid (below_then HB1.out b2)
        have hs2 : nb < w2.heap.size := (XN1.out.below b2).lt
        clear b2 XN1 HO1 HS1 HB1 hW1 hnb q0 q1 nc0 nc1
        unfold formV
        cases ha : arity x y with
        | none =>
          have hok : fmOk x y = false := by unfold fmOk; rw [ha]; rfl
          rw [hok]
          have R := Lib.hid (HSTOP.out (by intro a' h; rw [ha] at h; cases h))
          clear ha hok HSTOP HSTEP
          go_wp2
          go_ret2
          exact ⟨below_then HB2.out (below_all _ _), .inl ⟨R.out, rfl⟩⟩
        | some m =>
          have hok : fmOk x y = true := by unfold fmOk; rw [ha]; rfl
          have hm2 := arity_le ha
          obtain ⟨hmT, hmK, hx1, hx7⟩ := arity_takes ha
          rw [hok, hmT, hmK]
          obtain ⟨fb, hfb⟩ : ∃ q, w2.heap.size = q := ⟨_, rfl⟩
          obtain ⟨W3, hW3⟩ : ∃ W, w2.alloc (.cells #[.int .i64 x, .int .i64 (m : Int), .int .i64 (fmM x), .int .i64 (fmO x), .string (fmA x), .string (fmB x), .string (fmC x)] 137) = W := ⟨_, rfl⟩
          have bW3 : Below w2.heap.size w2 W3 := by rw [← hW3]; exact below_all _ _
          have XF3 := Lib.hid (show BoxC W3 fb 137 #[.int .i64 x, .int .i64 (m : Int), .int .i64 (fmM x), .int .i64 (fmO x), .string (fmA x), .string (fmB x), .string (fmC x)] by rw [← hW3, ← hfb]; exact BoxC.new _ _ _)
          have XN3 := Lib.hid (XN2.out.below bW3)
          have HO3 := Lib.hid (own_keeps HO2.out bW3)
          have HS3 := Lib.hid (HS2.out.below bW3)
          have HB3 := Lib.hid (below_then HB2.out bW3)
          have hs3' : W3.heap.size = fb + 1 := by rw [← hW3, ← hfb]; simp
          have hnf : nb < fb := by omega
          have HK := Lib.hid (And.intro hmT hmK)
          clear bW3 XN2 HO2 HS2 HB2 hok hmT hmK
          have fc0 := XF3.out.cell 0
          have fc1 := XF3.out.cell 1
          have fc2 := XF3.out.cell 2
          have fc3 := XF3.out.cell 3
          have fc4 := XF3.out.cell 4
          have fc5 := XF3.out.cell 5
          have fc6 := XF3.out.cell 6
          have nc0 := XN3.out.cell 0
          have nc1 := XN3.out.cell 1
          simp at fc0 fc1 fc2 fc3 fc4 fc5 fc6 nc0 nc1
          by_cases hmn : m ≤ st.length
          · have hmn' : (m : Int) ≤ (st.length : Int) := by omega
            have HRUN2 := Lib.hid (HSTEP.out m ha hmn)
            clear HSTOP HSTEP
            obtain ⟨fi, hfi⟩ : ∃ q : Nat, st.length - m = q := ⟨_, rfl⟩
            have hfi2 : wrap64 ((st.length : Int) - (m : Int)) = (fi : Int) := by rw [← hfi]; rw [IntWalk.wrap64_in _ (by omega)]; omega
            have hfi3 : (st.length : Int) - (m : Int) = (fi : Int) := by omega
            have hsm : st.length - fi = m := by omega
            obtain ⟨cc, hcc⟩ : ∃ q, cp - fi = q := ⟨_, rfl⟩
            have hfc : (fi : Int) ≤ (cp : Int) := by omega
            have hfs : (fi : Int) ≤ (st.length : Int) := by omega
            have hsc : (st.length : Int) ≤ (cp : Int) := by omega
            have hf0 : (0 : Int) ≤ (fi : Int) := by omega
            rcases Nat.lt_or_ge fi cp with hcf | hcf
            · have hne : ¬ cp = fi := by omega
              have hbm : (bs.drop fi).length = m := by rw [List.length_drop]; omega
              have hcl : ∀ j u, (ptrs (bs.drop fi))[j]? = some u → W3.cell? ((⟨g, fi, none⟩ : Addr).add j) = some u := by
                intro j u hu
                obtain ⟨hj, hu⟩ := List.getElem?_eq_some_iff.1 hu
                rw [ptrs_len, hbm] at hj
                have e : (⟨g, fi, none⟩ : Addr).add j = ⟨g, fi + j, none⟩ := by unfold Addr.add; split <;> simp_all
                rw [e, HO3.out.cellAt (fi + j) (by omega), ← hu, List.getElem?_eq_getElem (by rw [ptrs_len]; omega), ptrs_get, ptrs_get]
                simp only [List.getElem_drop]
              have HCL := Lib.hid (fun (W : World) (e : W.heap = W3.heap) => cloneT_any ⟨g, fi, none⟩ (bs.drop fi) cc W (fun j u h => by rw [show W.cell? ((⟨g, fi, none⟩ : Addr).add j) = W3.cell? ((⟨g, fi, none⟩ : Addr).add j) by simp only [World.cell?, e]]; exact hcl j u h) (by rw [hbm]; omega))
              rw [hbm] at HCL
              clear hcl
              go_wp2_with fail
              go_region_held3 (fun w' => (w'.cell? ⟨nb, 0, none⟩ = some (.int .i64 x) ∧ w'.cell? ⟨nb, 1, none⟩ = some (.int .i64 y)) ∧ w'.cell? ⟨fb, 0, none⟩ = some (.int .i64 x) ∧ w'.cell? ⟨fb, 1, none⟩ = some (.int .i64 (m : Int)) ∧ w'.cell? ⟨fb, 2, none⟩ = some (.int .i64 (fmM x)) ∧ w'.cell? ⟨fb, 3, none⟩ = some (.int .i64 (fmO x)) ∧ w'.cell? ⟨fb, 4, none⟩ = some (.string (fmA x)) ∧ w'.cell? ⟨fb, 5, none⟩ = some (.string (fmB x)) ∧ w'.cell? ⟨fb, 6, none⟩ = some (.string (fmC x)))
                (first | (with_reducible exact ⟨⟨ec0, ec1⟩, gc0, gc1, gc2, gc3, gc4, gc5, gc6⟩) | (with_reducible exact ⟨⟨nc0, nc1⟩, fc0, fc1, fc2, fc3, fc4, fc5, fc6⟩) | go_keep)
                (first | (go_at_call 119; (with_reducible refine (HCL.out _ ?_).mono ?_); (exact rfl); rintro e w4 ⟨a4, c4, rfl, o4, b4⟩; have hb4 := Lib.hid (show Below W3.heap.size W3 w4 from ((Drew.more (Drew.refl W3) 1).below _).trans b4); have hO4 := Lib.hid o4; have XF4 := XF3.out.below hb4.out; have XN4 := XN3.out.below hb4.out; have gc0 := XF4.cell 0; have gc1 := XF4.cell 1; have gc2 := XF4.cell 2; have gc3 := XF4.cell 3; have gc4 := XF4.cell 4; have gc5 := XF4.cell 5; have gc6 := XF4.cell 6; have ec0 := XN4.cell 0; have ec1 := XN4.cell 1; simp at gc0 gc1 gc2 gc3 gc4 gc5 gc6 ec0 ec1; clear o4 b4 XF4 XN4))
              have hz4 := hb4.out.size
              have HT5 := Lib.hid (tree_made (y := y) hgw (show g < W3.heap.size by omega) hmn hm2 hfi HS3.out HK.out hb4.out hO4.out)
              have HS5 := Lib.hid ((HS3.out.below hb4.out).below (below_all w4 (.cells #[.int .i64 x, .int .i64 y, .int .i64 x, .int .i64 (m : Int), .int .i64 (fmM x), .int .i64 (fmO x), .string (fmA x), .string (fmB x), .string (fmC x), .slice a4 m c4] 142)))
              have HO5 := Lib.hid (own_front (own_keeps (own_keeps HO3.out hb4.out) (below_all w4 (.cells #[.int .i64 x, .int .i64 y, .int .i64 x, .int .i64 (m : Int), .int .i64 (fmM x), .int .i64 (fmO x), .string (fmA x), .string (fmB x), .string (fmC x), .slice a4 m c4] 142))) (k := fi) (by omega))
              have HB5 := Lib.hid (below_then (below_then HB3.out hb4.out) (below_all w4 (.cells #[.int .i64 x, .int .i64 y, .int .i64 x, .int .i64 (m : Int), .int .i64 (fmM x), .int .i64 (fmO x), .string (fmA x), .string (fmB x), .string (fmC x), .slice a4 m c4] 142)))
              obtain ⟨tb, htb⟩ : ∃ q, w4.heap.size = q := ⟨_, rfl⟩
              have hs5 : (w4.alloc (.cells #[.int .i64 x, .int .i64 y, .int .i64 x, .int .i64 (m : Int), .int .i64 (fmM x), .int .i64 (fmO x), .string (fmA x), .string (fmB x), .string (fmC x), .slice a4 m c4] 142)).heap.size = tb + 1 := by rw [World.size_alloc, htb]
              obtain ⟨W5, hW5⟩ : ∃ W, w4.alloc (.cells #[.int .i64 x, .int .i64 y, .int .i64 x, .int .i64 (m : Int), .int .i64 (fmM x), .int .i64 (fmO x), .string (fmA x), .string (fmB x), .string (fmC x), .slice a4 m c4] 142) = W := ⟨_, rfl⟩
              rw [hW5] at HT5 HS5 HO5 HB5 hs5
              rw [htb] at HT5
              rw [hW5, htb]
              have HZ5 := Lib.hid hs5
              clear hs5 hW5
              clear hO4 hb4 HS3 HO3 HB3 gc0 gc1 gc2 gc3 gc4 gc5 gc6 ec0 ec1 fc0 fc1 fc2 fc3 fc4 fc5 fc6 nc0 nc1 HCL
              go_wp2_with (at_builtin; refine wpList_append_own_at _ rfl _ _ 135 rfl w.heap.size 115 i0 (.pointer none) 1 8 Tryd.underlying135 hi0' hz0 hz1 hz2 rfl (by decide) (.slice (some ⟨g, 0, none⟩) fi cp) fi ((ptrs bs).take fi) rfl (HO5.out.alloc _) ⟨W5.heap.size, 0, none⟩ 1 1 [.pointer (some ⟨tb, 0, none⟩)] rfl rfl (cell_one_new _ _ _) (by simp [Value.oneCell']) (by unfold maxLen; omega) (by omega) (by have := HZ5.out; rw [World.size_alloc]; omega) ?_; intro v' w6 hown' hgrow _ hat; obtain ⟨g', cap', rfl⟩ := own_slice hown' (by omega); have HO6 := Lib.hid hown'; have HG6 := Lib.hid hgrow; have hat' : Hid (g' = g ∨ g' = (W5.alloc (.cells #[.pointer (some ⟨tb, 0, none⟩)] 115)).heap.size) := Lib.hid (by simpa [Value.ownBlock] using hat); clear hown' hgrow hat)
              go_roundw
              case rel =>
                have hpl := pushT_len st (x, y) m hmn
                rw [hfi] at hpl
                have hSK := stack_next (p := (x, y)) (m := m) HS5.out (by rw [hfi]; exact HT5.out) HG6.out hat'.out
                rw [hfi] at hSK
                refine ⟨k + 1, g', cap', pushT st (x, y) m, bs.take fi ++ [tb], by omega, by go_num, by rw [hpl], by omega, HRUN2.out, ?_, hSK, ?_⟩
                · rw [hpl, ptrs_snoc, ptrs_take]
                  exact HO6.out
                · exact (HB5.out.alloc HB5.out.size _).grown HG6.out (by have := HB5.out.size; rw [World.size_alloc]; omega) (fun j e => by have e' : g = j := (by simpa [Value.ownBlock] using e); omega)
              case measure => simp [intOf]; omega
            · have hcpf : cp = fi := by omega
              subst hcpf
              obtain rfl : cc = 0 := by omega
              have hbm : (bs.drop cp).length = m := by rw [List.length_drop]; omega
              have hcl : ∀ j u, (ptrs (bs.drop cp))[j]? = some u → W3.cell? ((⟨g, 0, none⟩ : Addr).add j) = some u := by
                intro j u hu
                obtain ⟨hj, hu⟩ := List.getElem?_eq_some_iff.1 hu
                rw [ptrs_len, hbm] at hj
                omega
              have HCL := Lib.hid (fun (W : World) (e : W.heap = W3.heap) => cloneT_any ⟨g, 0, none⟩ (bs.drop cp) 0 W (fun j u h => by rw [show W.cell? ((⟨g, 0, none⟩ : Addr).add j) = W3.cell? ((⟨g, 0, none⟩ : Addr).add j) by simp only [World.cell?, e]]; exact hcl j u h) (by rw [hbm]; omega))
              rw [hbm] at HCL
              clear hcl
              go_wp2_with fail
              go_region_held3 (fun w' => (w'.cell? ⟨nb, 0, none⟩ = some (.int .i64 x) ∧ w'.cell? ⟨nb, 1, none⟩ = some (.int .i64 y)) ∧ w'.cell? ⟨fb, 0, none⟩ = some (.int .i64 x) ∧ w'.cell? ⟨fb, 1, none⟩ = some (.int .i64 (m : Int)) ∧ w'.cell? ⟨fb, 2, none⟩ = some (.int .i64 (fmM x)) ∧ w'.cell? ⟨fb, 3, none⟩ = some (.int .i64 (fmO x)) ∧ w'.cell? ⟨fb, 4, none⟩ = some (.string (fmA x)) ∧ w'.cell? ⟨fb, 5, none⟩ = some (.string (fmB x)) ∧ w'.cell? ⟨fb, 6, none⟩ = some (.string (fmC x)))
                (first | (with_reducible exact ⟨⟨ec0, ec1⟩, gc0, gc1, gc2, gc3, gc4, gc5, gc6⟩) | (with_reducible exact ⟨⟨nc0, nc1⟩, fc0, fc1, fc2, fc3, fc4, fc5, fc6⟩) | go_keep)
                (first | (go_at_call 119; (with_reducible refine (HCL.out _ ?_).mono ?_); (exact rfl); rintro e w4 ⟨a4, c4, rfl, o4, b4⟩; have hb4 := Lib.hid (show Below W3.heap.size W3 w4 from ((Drew.more (Drew.refl W3) 1).below _).trans b4); have hO4 := Lib.hid o4; have XF4 := XF3.out.below hb4.out; have XN4 := XN3.out.below hb4.out; have gc0 := XF4.cell 0; have gc1 := XF4.cell 1; have gc2 := XF4.cell 2; have gc3 := XF4.cell 3; have gc4 := XF4.cell 4; have gc5 := XF4.cell 5; have gc6 := XF4.cell 6; have ec0 := XN4.cell 0; have ec1 := XN4.cell 1; simp at gc0 gc1 gc2 gc3 gc4 gc5 gc6 ec0 ec1; clear o4 b4 XF4 XN4))
              have hz4 := hb4.out.size
              have HT5 := Lib.hid (tree_made (y := y) hgw (show g < W3.heap.size by omega) hmn hm2 hfi HS3.out HK.out hb4.out hO4.out)
              have HS5 := Lib.hid ((HS3.out.below hb4.out).below (below_all w4 (.cells #[.int .i64 x, .int .i64 y, .int .i64 x, .int .i64 (m : Int), .int .i64 (fmM x), .int .i64 (fmO x), .string (fmA x), .string (fmB x), .string (fmC x), .slice a4 m c4] 142)))
              have HO5 := Lib.hid (own_front (own_keeps (own_keeps HO3.out hb4.out) (below_all w4 (.cells #[.int .i64 x, .int .i64 y, .int .i64 x, .int .i64 (m : Int), .int .i64 (fmM x), .int .i64 (fmO x), .string (fmA x), .string (fmB x), .string (fmC x), .slice a4 m c4] 142))) (k := cp) (by omega))
              have HB5 := Lib.hid (below_then (below_then HB3.out hb4.out) (below_all w4 (.cells #[.int .i64 x, .int .i64 y, .int .i64 x, .int .i64 (m : Int), .int .i64 (fmM x), .int .i64 (fmO x), .string (fmA x), .string (fmB x), .string (fmC x), .slice a4 m c4] 142)))
              obtain ⟨tb, htb⟩ : ∃ q, w4.heap.size = q := ⟨_, rfl⟩
              have hs5 : (w4.alloc (.cells #[.int .i64 x, .int .i64 y, .int .i64 x, .int .i64 (m : Int), .int .i64 (fmM x), .int .i64 (fmO x), .string (fmA x), .string (fmB x), .string (fmC x), .slice a4 m c4] 142)).heap.size = tb + 1 := by rw [World.size_alloc, htb]
              obtain ⟨W5, hW5⟩ : ∃ W, w4.alloc (.cells #[.int .i64 x, .int .i64 y, .int .i64 x, .int .i64 (m : Int), .int .i64 (fmM x), .int .i64 (fmO x), .string (fmA x), .string (fmB x), .string (fmC x), .slice a4 m c4] 142) = W := ⟨_, rfl⟩
              rw [hW5] at HT5 HS5 HO5 HB5 hs5
              rw [htb] at HT5
              rw [hW5, htb]
              have HZ5 := Lib.hid hs5
              clear hs5 hW5
              clear hO4 hb4 HS3 HO3 HB3 gc0 gc1 gc2 gc3 gc4 gc5 gc6 ec0 ec1 fc0 fc1 fc2 fc3 fc4 fc5 fc6 nc0 nc1 HCL
              go_wp2_with (at_builtin; refine wpList_append_own_at _ rfl _ _ 135 rfl w.heap.size 115 i0 (.pointer none) 1 8 Tryd.underlying135 hi0' hz0 hz1 hz2 rfl (by decide) (.slice (some ⟨g, 0, none⟩) cp cp) cp ((ptrs bs).take cp) rfl (HO5.out.alloc _) ⟨W5.heap.size, 0, none⟩ 1 1 [.pointer (some ⟨tb, 0, none⟩)] rfl rfl (cell_one_new _ _ _) (by simp [Value.oneCell']) (by unfold maxLen; omega) (by omega) (by have := HZ5.out; rw [World.size_alloc]; omega) ?_; intro v' w6 hown' hgrow _ hat; obtain ⟨g', cap', rfl⟩ := own_slice hown' (by omega); have HO6 := Lib.hid hown'; have HG6 := Lib.hid hgrow; have hat' : Hid (g' = g ∨ g' = (W5.alloc (.cells #[.pointer (some ⟨tb, 0, none⟩)] 115)).heap.size) := Lib.hid (by simpa [Value.ownBlock] using hat); clear hown' hgrow hat)
              go_roundw
              case rel =>
                have hpl := pushT_len st (x, y) m hmn
                rw [hfi] at hpl
                have hSK := stack_next (p := (x, y)) (m := m) HS5.out (by rw [hfi]; exact HT5.out) HG6.out hat'.out
                rw [hfi] at hSK
                refine ⟨k + 1, g', cap', pushT st (x, y) m, bs.take cp ++ [tb], by omega, by go_num, by rw [hpl], by omega, HRUN2.out, ?_, hSK, ?_⟩
                · rw [hpl, ptrs_snoc, ptrs_take]
                  exact HO6.out
                · exact (HB5.out.alloc HB5.out.size _).grown HG6.out (by have := HB5.out.size; rw [World.size_alloc]; omega) (fun j e => by have e' : g = j := (by simpa [Value.ownBlock] using e); omega)
              case measure => simp [intOf]; omega
          · have hmn' : (st.length : Int) < (m : Int) := by omega
            have R := Lib.hid (HSTOP.out (by intro a' h; rw [ha] at h; injection h with h; omega))
            clear HSTOP HSTEP
            go_wp2
            go_ret2
            exact ⟨HB3.out, .inl ⟨R.out, rfl⟩⟩
      · obtain rfl : k = l.length := by omega
        have hR := HRUN.out
        rw [List.take_length] at hR
        by_cases h1 : st.length = 1
        · obtain ⟨t, rfl⟩ : ∃ t, st = [t] := by
            match st, h1 with
            | [t], _ => exact ⟨t, rfl⟩
          obtain ⟨tb, rfl⟩ : ∃ tb, bs = [tb] := by
            match bs, hbl with
            | [tb], _ => exact ⟨tb, rfl⟩
          have R := Lib.hid (treeT_one hl15 hR)
          have hT := HS.out.2 0 (by simp) (by simp)
          have HTT := Lib.hid (TreeAt.keep (w' := wr) (P' := fun i => w.heap.size ≤ i) (fun i _ _ => rfl) (fun i h _ => h.1) _ _ hT)
          have hc0 := HO.out.cellAt 0 (by simp)
          simp [ptrs] at hc0
          clear hR HRUN HS hT
          simp only [List.length_singleton] at *
          go_wp2
          go_ret2
          exact ⟨HB.out, .inr ⟨t, tb, R.out, rfl, HTT.out⟩⟩
        · have R := Lib.hid (treeT_not hR h1)
          have e1 : ((st.length : Int) == 1) = false := by rw [beq_eq_false_iff_ne]; omega
          clear hR HRUN
          go_wp2
          go_ret2
          exact ⟨HB.out, .inl ⟨R.out, rfl⟩⟩
end Go.Proofs.YtnomcnlmlignbaaDoor
