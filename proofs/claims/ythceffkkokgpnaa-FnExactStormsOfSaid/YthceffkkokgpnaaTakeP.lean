/- The program's takePart. -/
import Derived.Test.YthceffkkokgpnaaRpQu
import Derived.Test.YthceffkkokgpnaaShelfSort
import Derived.Test.YthceffkkokgpnaaAppF
import Derived.Test.YthceffkkokgpnaaNbIx
import Derived.Sort.OwnSortedInts
import Derived.Deep.LoopGhost
namespace Go.Proofs.Ythceffkkokgpnaa
open Go.RowKit Go.Sort
set_option linter.unusedVariables false
set_option linter.unusedSimpArgs false
def TakePost (wd : Int) (R : List Int) (f : Int) (mb : Nat) (w : World) (e : Ending) (w' : World) : Prop :=
  ∃ (g c : Nat) (L : List Int), e = .returned (.slice (some ⟨g, 0, none⟩) (compL wd R f).length c) ∧ w'.ownsRow w.heap.size 3 1 (.slice (some ⟨g, 0, none⟩) (compL wd R f).length c) (compL wd R f).length (iv (compL wd R f)) ∧ PSet w' mb 64 (inP wd L) ∧ (∀ b, b ∈ L ↔ b ∈ R ∧ b ∉ compL wd R f) ∧ w.grownBy w' (some mb)
/-- a cell of a grid of at most 8 by 8 -/
def celB (wd z : Int) : Prop := (0 ≤ z ∧ z ≤ 63) ∧ (0 ≤ z % wd ∧ z % wd ≤ 7) ∧ 0 ≤ z / wd ∧ z / wd ≤ 7
theorem okI_small {x : Int} (h : -1 ≤ x ∧ x ≤ 9) : okI x := by unfold okI; omega
theorem gb_below' {w w1 w2 : World} {g : Nat} (h : Below w.heap.size w w1) (k : w1.grownBy w2 (some g)) : w.grownBy w2 (some g) :=
  ⟨k.os.trans h.os, k.tape.trans h.tape, k.output.trans h.output, Nat.le_trans h.size k.size, fun i hi hne => (k.block i (Nat.lt_of_lt_of_le hi h.size) hne).trans (h.block i hi)⟩
theorem qu_new (w : World) (B : Nat) (x y : Int) (hB : B ≤ w.heap.size) : Qu (w.alloc (.cells #[.int .i64 x, .int .i64 y] 152)) B w.heap.size 0 1 [(x, y)] :=
  ⟨hB, ⟨_, heap_alloc_new w _, by simp⟩, by simp, fun j u hj => by
    have h9 := World.news_of_block (cs := #[.int .i64 x, .int .i64 y]) (heap_alloc_new w (.cells #[.int .i64 x, .int .i64 y] 152)) j u hj
    rw [Addr.add_lit] at h9
    exact h9⟩
/-- behind the sort -/
theorem take_end {wd : Int} {R P L : List Int} {f : Int} {mb g o c gp cp n : Nat} {os : Array Obj} {w wr : World} (h : Rp w w.heap.size mb wd P [] L (.slice (some ⟨gp, 0, none⟩) P.length cp) g o c wr) (hk : Tk wd R f P [] L) (ha : R.Pairwise (· < ·)) :
    TakePost wd R f mb w (.returned (.slice (some ⟨gp, 0, none⟩) P.length cp)) (grow (putRow (Value.int .i64) (Sort.ahead wr n) gp 0 (P.mergeSort fun x y => decide (x ≤ y)).toArray) os) := by
  have hs := hk.sorted ha
  have hl : (compL wd R f).length = P.length := by rw [← hs, List.length_mergeSort]
  rcases h.own.2 with ⟨h1, _⟩ | ⟨g', cap, cur, h1, h2, h3, h4, h5, h6, h7⟩
  · cases h1
  · cases h1
    have hgr := grownBy_sortedI (w := wr) (g := gp) (n := n) (os := os) (P.mergeSort fun x y => decide (x ≤ y)).toArray
    have hown := ownsRow_sortedI (w := wr) (base := w.heap.size) (n := n) (os := os) (ss := P) (ts := P.mergeSort fun x y => decide (x ≤ y)) (by rw [List.length_mergeSort]) h2 h3 h4 h5 h6
    rw [hs] at hgr hown ⊢
    refine ⟨gp, cp, L, by rw [hl], by rw [hl]; exact hown, h.m.kept hgr (fun e => by injection e with e; have := h.lt; omega), hk.left, gb_then h.t hgr (fun j e => by injection e with e; omega)⟩
/-- 'queue = append(queue, p)' -/
theorem wpList_append_rp {ops : Array Oper} {rest : List Oper} {o : Oper} {a : Act} {X : Exit → Act → World → Prop} (hgd : o.guard = none) (s x : Operand)
    (hop : o.op = Op.call { callee := Callee.builtin Builtin.append, args := #[s, x], argTypes := #[179, 179] })
    {w w1 : World} {B mb : Nat} {wd : Int} {P Q L : List Int} {v : Value} {g oq c n : Nat} (hs : a.eval s = .slice (some ⟨g, oq, none⟩) n c) (hn : n = Q.length) (hn8 : n ≤ 64) (h : Rp w B mb wd P Q L v g oq c w1)
    (ad : Addr) (c' px py : Int) (hx : a.eval x = .slice (some ad) 1 1) (hc : ∀ j u, [Value.int .i64 px, .int .i64 py][j]? = some u → w1.cell? (ad.add j) = some u) (e1 : c' % wd = px) (e2 : c' / wd = py)
    (hK : ∀ g' o2 c2 w', Rp w B mb wd P (Q ++ [c']) L v g' o2 c2 w' → wpList Try.prog ops X rest (a.put o.dst (.slice (some ⟨g', o2, none⟩) (n + 1) c2)) w') : wpList Try.prog ops X (o :: rest) a w1 := by
  obtain ⟨iP, hP', hPz, hP1, hP2⟩ := info_parts infoPt
  have e3 : pv (ptL wd (Q ++ [c'])) = pv (ptL wd Q) ++ [.int .i64 px, .int .i64 py] := by simp [ptL, pv, e1, e2]
  refine wpList_append_arg _ hgd s x 179 hop 152 iP (.agg #[.int .i64 0, .int .i64 0]) 2 16 Try.underlying179 hP' hPz hP1 hP2 rfl (by decide) g oq n c (pv (ptL wd Q)) hs (by rw [pv_length, ptL_len, hn]) h.q.at_ ad 1 1 [.int .i64 px, .int .i64 py] hx rfl hc (by simp [Value.oneCell']) (fun hr j hj => ?_) (by unfold maxLen; omega) (by omega) (fun hr => ?_) (fun hr v' w6 ho hgw => ?_)
  · have h9 := h.q.spare (by rw [ptL_len]; omega) j hj
    rw [ptL_len, ← hn] at h9
    exact h9
  · have h9 := h.room (c' := c') (by omega)
    rw [e1, e2, ← hn] at h9
    exact hK _ _ _ _ h9
  · rw [← e3] at ho
    obtain ⟨g', c2, rfl, h9⟩ := h.grow (c' := c') hgw ho (by omega)
    exact hK _ _ _ _ h9
set_option maxRecDepth 100000 in
set_option maxHeartbeats 8000000 in
theorem takePart_any (wd : Int) (R : List Int) (f : Int) (mb : Nat) (w : World) (h1 : 1 ≤ wd) (h8 : wd ≤ 8) (hb : ∀ z ∈ R, celB wd z) (ha : R.Pairwise (· < ·)) (hl : R.length ≤ 64) (hf : f ∈ R) (hm : PSet w mb 64 (inP wd R)) :
    Calls Try.prog 138 #[.int .i64 wd, .map (some mb), .agg #[.int .i64 (f % wd), .int .i64 (f / wd)]] w (TakePost wd R f mb w) := by
  obtain ⟨i0, hi0', hz0, hz1, hz2⟩ := info_parts infoInt
  obtain ⟨iP, hP', hPz, hP1, hP2⟩ := info_parts infoPt
  have HB := Lib.hid hb
  have HA := Lib.hid ha
  have hmlt := hm.lt
  have T0 := Lib.hid (Tk.start (wd := wd) hf (asc_nodup ha))
  have HND := Lib.hid (asc_nodup ha)
  have hfb := (hb f hf).2
  have HXE := Lib.hid (inP_erase (wd := wd) (c := f) (asc_nodup ha))
  obtain ⟨x, hx⟩ : ∃ x, f % wd = x := ⟨_, rfl⟩
  obtain ⟨y, hy⟩ : ∃ y, f / wd = y := ⟨_, rfl⟩
  rw [hx, hy] at hfb HXE ⊢
  have HX := Lib.hid hx
  have HY := Lib.hid hy
  have o0 := Lib.hid (okI_small (show -1 ≤ x ∧ x ≤ 9 by omega))
  have o1 := Lib.hid (okI_small (show -1 ≤ y ∧ y ≤ 9 by omega))
  have M1 := Lib.hid ((hm.alloc (.cells #[.int .i64 x, .int .i64 y] 152)).alloc (.cells #[] 3))
  have X1 := Lib.hid ((Below.heap_alloc (w.alloc (.cells #[.int .i64 x, .int .i64 y] 152)) (.cells #[] 3) w.heap.size (by simp)).trans (heap_alloc_new w (.cells #[.int .i64 x, .int .i64 y] 152)))
  have OW := Lib.hid (World.ownsRow_made (base := w.heap.size) (e := 3) (size := 1) (w.alloc (.cells #[.int .i64 x, .int .i64 y] 152)) #[] 0 (by simp) (by unfold maxLen; omega) rfl)
  have BA := Lib.hid (((below_all w (.cells #[.int .i64 x, .int .i64 y] 152)).alloc (by simp) (.cells #[] 3)))
  obtain ⟨WA, hWA⟩ : ∃ W, (w.alloc (.cells #[.int .i64 x, .int .i64 y] 152)).alloc (.cells #[] 3) = W := ⟨_, rfl⟩
  have sWA : WA.heap.size = w.heap.size + 2 := by rw [← hWA]; simp
  rw [hWA] at M1 X1 OW BA
  simp only [World.size_alloc] at OW
  have a0 : WA.cell? ⟨w.heap.size, 0, none⟩ = some (.int .i64 x) := by simp [World.cell?, X1.out]
  have a1 : WA.cell? ⟨w.heap.size, 1, none⟩ = some (.int .i64 y) := by simp [World.cell?, X1.out]
  clear hm hb ha hx hy
  go_enter Try.func138, Try.ntmps138
  go_wp2_with (at_delete; refine wpList_del_set _ rfl _ _ 162 rfl Try.underlying162 mb 64 (inP wd R) rfl M1.out x y rfl o0.out o1.out ?_; intro w2 h2 g2 s2; have M2 := Lib.hid h2; have G2 := Lib.hid g2; have t2 := (g2.block w.heap.size (by omega) (by intro e; injection e with e; omega)).trans X1.out; have t0 : w2.cell? ⟨w.heap.size, 0, none⟩ = some (.int .i64 x) := (by simp [World.cell?, t2]); have t1 : w2.cell? ⟨w.heap.size, 1, none⟩ = some (.int .i64 y) := (by simp [World.cell?, t2]); clear h2 g2 t2)
  clear a0 a1
  have O2 := OW.out.kept G2.out (.inr (by simp [Value.ownBlock]; omega))
  have hs2 : w2.heap.size = w.heap.size + 2 := by omega
  have EQ := Lib.hid (show ptL wd [f] = [(x, y)] by simp [ptL, HX.out, HY.out])
  have R2 := Lib.hid (show Rp w w.heap.size mb wd [] [f] (R.erase f) (.slice (some ⟨w.heap.size + 1, 0, none⟩) 0 0) (w.heap.size + 2) 0 1 (w2.alloc (.cells #[.int .i64 x, .int .i64 y] 152)) from
    ⟨O2.alloc _, by rw [EQ.out, ← hs2]; exact qu_new w2 _ x y (by omega),
      (M2.out.congr (fun p q _ _ => by rw [HXE.out]; by_cases e : p = x ∧ q = y; rw [if_pos e, decide_eq_true e]; simp; rw [if_neg e, decide_eq_false e]; simp)).alloc _,
      gb_below (gb_below' BA.out G2.out) (below_all _ _), hmlt, Nat.le_refl _, by simp; omega⟩)
  clear O2 M2 G2 X1 M1 OW BA HXE t0 t1
  clear hWA sWA
  go_loopg [7, 8] R.length (fun g pv qv wr => ∃ (P Q L : List Int) (n gq oq cq : Nat), g + P.length = R.length ∧ Tk wd R f P Q L ∧ qv = .slice (some ⟨gq, oq, none⟩) n cq ∧ n = Q.length ∧ Rp w w.heap.size mb wd P Q L pv gq oq cq wr)
  case atStart => exact ⟨[], [f], R.erase f, 1, w.heap.size + 2, 0, 1, by simp, T0.out, rfl, rfl, R2.out⟩
  case round =>
    obtain ⟨P, Q, L, n, gq, oq, cq, hg, hk, rfl, hn, hr⟩ := hrel
    have HG := Lib.hid hg
    have HK := Lib.hid hk
    have HR := Lib.hid hr
    clear hg hk hr R2 T0
    cases Q with
    | nil =>
      obtain rfl : n = 0 := hn
      have hP0 : 0 < P.length := List.length_pos_of_mem (by simpa using HK.out.fst)
      have hPl3 : P.length ≤ 64 := by have := HK.out.len; simp at this; omega
      obtain ⟨gp, cp, rfl, _, _⟩ := HR.out.own.form hP0
      have hHo : Holds (Value.int .i64) wr gp 0 P.toArray := by
        rcases HR.out.own.2 with ⟨h1, _⟩ | ⟨g', cap, cur, h1, h2, h3, h4, h5, h6, h7⟩
        · cases h1
        · cases h1
          exact holds_of_blockI h3 (by rw [Nat.mul_one] at h7; exact h7)
      have hgw : gp < wr.heap.size := (HR.out.own.lt gp rfl).2
      have HS := Lib.hid (Try.slices_Sort_int gp 0 cp P wr hHo hgw (by omega))
      clear hHo
      go_wp2_with fail
      refine HS.out.mono ?_
      rintro e w9 ⟨rfl, n9, os9, h9⟩
      have H9 := Lib.hid h9
      clear h9 HS
      go_wp2
      go_ret
      rw [H9.out]
      exact take_end HR.out HK.out HA.out
    | cons c Q =>
      have HN := Lib.hid hn
      have hn0 : (0 : Int) < (n : Int) := by rw [hn]; simp
      have hPl := HK.out.len
      have hcR := (HK.out.all c).2 (.inr (.inl (by simp)))
      have hcb := HB.out c hcR
      unfold celB at hcb
      obtain ⟨q0, q1⟩ := HR.out.q.head
      have HJ := Lib.hid HK.out.pop
      clear hn HK hcR
      have hcb2 := cell_back (wd := wd) (i := c)
      simp only at q0 q1
      obtain ⟨cx, hcx⟩ : ∃ x, c % wd = x := ⟨_, rfl⟩
      obtain ⟨cy, hcy⟩ : ∃ x, c / wd = x := ⟨_, rfl⟩
      rw [hcx] at hcb hcb2 q0
      rw [hcy] at hcb hcb2 q1
      have HCX := Lib.hid hcx
      have HCY := Lib.hid hcy
      clear hcx hcy
      obtain ⟨p, hp⟩ : ∃ p : Nat, cy * wd = (p : Int) := ⟨(cy * wd).toNat, by have := Int.mul_nonneg (a := cy) (b := wd) (by omega) (by omega); omega⟩
      rw [hp] at hcb2
      have hp64 : p ≤ 64 := by omega
      have HNB := Lib.hid (fun W => neighbors_any cx cy W (by omega) (by omega))
      have hPl2 : P.length ≤ 64 := by simp at hPl; omega
      have hzz := HR.out.z
      have hql := HR.out.q.lt
      clear hPl
      go_wp2_with (at_builtin; refine wpList_append_own _ rfl _ _ 30 rfl w.heap.size 3 i0 (.int .i64 0) 1 8 Try.underlying30 hi0' hz0 hz1 hz2 rfl (by decide) _ P.length (iv P) rfl (HR.out.own.alloc _ |>.alloc _) ⟨wr.heap.size + 1, 0, none⟩ 1 1 [.int .i64 c] rfl rfl (by have := cell_one_new (wr.alloc (.cells #[.int .i64 cx, .int .i64 cy] 152)) (.int .i64 c) 3; rw [World.size_alloc] at this; exact this) (by simp [Value.oneCell']) (by unfold maxLen; omega) (by omega) (by simp; omega) ?_; intro v9 w9 hown9 hgrow9 _; have X9 := (hgrow9.block wr.heap.size (by simp; omega) (fun e => by have := (HR.out.own.lt wr.heap.size e.symm).2; omega)).trans ((Below.heap_alloc (wr.alloc (.cells #[.int .i64 cx, .int .i64 cy] 152)) (.cells #[.int .i64 c] 3) wr.heap.size (by simp)).trans (heap_alloc_new wr (.cells #[.int .i64 cx, .int .i64 cy] 152))); have k0 : w9.cell? ⟨wr.heap.size, 0, none⟩ = some (.int .i64 cx) := (by simp [World.cell?, X9]); have k1 : w9.cell? ⟨wr.heap.size, 1, none⟩ = some (.int .i64 cy) := (by simp [World.cell?, X9]); have R9 := Lib.hid (((HR.out.step (below_all _ _)).step (below_all _ _)).part (P' := P ++ [c]) hgrow9 (by rw [iv_snoc, List.length_append]; exact hown9)); clear hown9 hgrow9 X9)
      refine (HNB.out _).mono ?_
      rintro e w10 ⟨rfl, b10⟩
      have R10 := Lib.hid (R9.out.step b10)
      clear k0 k1 q0 q1 R9 b10 HR HNB
      clear hcb2 hp hzz hql
      go_wp2
      go_loopg [8, 37] 4 (fun g qv i wr2 => ∃ (j : Nat) (Q2 L2 : List Int) (n2 gq2 oq2 cq2 : Nat), j ≤ 4 ∧ g + j = 4 ∧ i = .int .i64 j ∧ Tj wd R f P c Q2 L2 j ∧ qv = .slice (some ⟨gq2, oq2, none⟩) n2 cq2 ∧ n2 = Q2.length + 1 ∧ Rp w w.heap.size mb wd (P ++ [c]) (c :: Q2) L2 v9 gq2 oq2 cq2 wr2)
      case atStart => exact ⟨0, Q, L, n, gq, oq, cq, by omega, rfl, rfl, HJ.out, rfl, by rw [HN.out]; rfl, R10.out⟩
      case round =>
        obtain ⟨j, Q2, L2, n2, gq2, oq2, cq2, hj, hg2, rfl, hk2, rfl, hn2, hr2⟩ := hrel
        have HG2 := Lib.hid hg2
        have HK2 := Lib.hid hk2
        have HN2 := Lib.hid hn2
        have HR2 := Lib.hid hr2
        clear hg2 hk2 hn2 hr2 R10 HJ HN
        by_cases hj4 : j < 4
        · have hij : (j : Int) < 4 := by omega
          have hij0 : (0 : Int) ≤ (j : Int) := by omega
          have hrun := fun W => nb_index cx cy j hj4 W
          have hbx : -1 ≤ nbX cx j ∧ nbX cx j ≤ 9 := by unfold nbX; (repeat' split) <;> omega
          have hby : -1 ≤ nbY cy j ∧ nbY cy j ≤ 9 := by unfold nbY; (repeat' split) <;> omega
          have HMISS := Lib.hid (fun h => HK2.out.miss h)
          have HHIT := Lib.hid (fun c' hc h1 h2 => HK2.out.hit (c' := c') hj4 hc h1 h2)
          rw [HCX.out, HCY.out] at HMISS HHIT
          have hlen2 := HK2.out.len
          have hnd2 := Lib.hid HK2.out.ndL
          generalize nbX cx j = px at *
          generalize nbY cy j = py at *
          have p0 := Lib.hid (okI_small hbx)
          have p1 := Lib.hid (okI_small hby)
          have H7 := Lib.hid (HR2.out.step (below_all wr (.cells #[.int .i64 px, .int .i64 py] 152)))
          clear hbx hby
          cases hv : inP wd L2 px py with
          | false =>
            have HV := Lib.hid hv
            have HE := Lib.hid (HMISS.out hv)
            clear hv
            go_wp2_with (at_lookup; refine wpList_look_set _ rfl _ _ 162 rfl Try.underlying162 mb 64 (inP wd L2) rfl H7.out.m px py rfl p0.out p1.out false HV.out ?_)
            go_roundg (gk - 1)
            case rel => exact ⟨j + 1, Q2, L2, n2, gq2, oq2, cq2, by omega, by have := HG2.out; omega, by go_num, HE.out, rfl, HN2.out, H7.out⟩
            case measure => have := HG2.out; omega
          | true =>
            obtain ⟨c', hc', e1, e2⟩ := inP_iff.1 hv
            have HV := Lib.hid hv
            have HE := Lib.hid (HHIT.out c' hc' e1 e2)
            have E1 := Lib.hid e1
            have E2 := Lib.hid e2
            have HN3 := Lib.hid (show n2 = (c :: Q2).length from HN2.out)
            have hn264 : n2 ≤ 64 := by have := HN2.out; omega
            have hmw : mb < wr.heap.size := HR2.out.m.lt
            clear hv e1 e2 hc'
            go_wp2_with (first | (at_lookup; refine wpList_look_set _ rfl _ _ 162 rfl Try.underlying162 mb 64 (inP wd L2) rfl H7.out.m px py rfl p0.out p1.out true HV.out ?_) | (at_delete; refine wpList_del_set _ rfl _ _ 162 rfl Try.underlying162 mb 64 (inP wd L2) rfl H7.out.m px py rfl p0.out p1.out ?_; intro w5 h5 g5 s5; have X5 := (g5.block wr.heap.size (by simp) (by intro e; injection e with e; omega)).trans (heap_alloc_new wr (.cells #[.int .i64 px, .int .i64 py] 152)); have k0 : w5.cell? ⟨wr.heap.size, 0, none⟩ = some (.int .i64 px) := (by simp [World.cell?, X5]); have k1 : w5.cell? ⟨wr.heap.size, 1, none⟩ = some (.int .i64 py) := (by simp [World.cell?, X5]); have R5 := Lib.hid ((H7.out.del (c' := c') hnd2.out g5 (by rw [E1.out, E2.out]; exact h5)).step (below_all _ (.cells #[.int .i64 px, .int .i64 py] 152))); clear h5 g5 s5 X5) | (at_builtin; refine wpList_append_rp rfl _ _ rfl rfl HN3.out hn264 R5.out ⟨w5.heap.size, 0, none⟩ c' px py rfl (World.news_of_block (heap_alloc_new _ _)) E1.out E2.out ?_; intro g8 o8 c8 w8 h8; have R8 := Lib.hid h8; clear h8 R5))
            go_roundg (gk - 1)
            case rel => exact ⟨j + 1, Q2 ++ [c'], L2.erase c', n2 + 1, g8, o8, c8, by omega, by have := HG2.out; omega, by go_num, HE.out, rfl, by rw [HN2.out]; simp, R8.out⟩
            case measure => have := HG2.out; omega
        · obtain rfl : j = 4 := by omega
          have HD := Lib.hid HK2.out.done
          have HL := Lib.hid HD.out.len
          have hn21 : 1 ≤ n2 := by have := HN2.out; omega
          have hn2c : n2 ≤ cq2 := by have := HR2.out.q.len; rw [ptL_len, List.length_cons] at this; have := HN2.out; omega
          have hn2i : (1 : Int) ≤ (n2 : Int) := by omega
          have hn2j : (n2 : Int) ≤ (cq2 : Int) := by omega
          have hcq1 : 1 ≤ cq2 := by omega
          by_cases hcq : cq2 = 1
          · have HP1 := Lib.hid (HR2.out.pop1 hcq)
            subst hcq
            go_wp2
            go_roundg (R.length - (P.length + 1))
            case rel => exact ⟨P ++ [c], Q2, L2, 0, gq2, oq2, 0, by have := HL.out; simp at this ⊢; omega, HD.out, rfl, by rw [HP1.out.1]; rfl, HP1.out.2⟩
            case measure => have h1 := HG.out; have h2 := HL.out; simp only [List.length_append, List.length_singleton] at h2; omega
          · have HP1 := Lib.hid (HR2.out.pop)
            have hcq' : ¬ 1 = cq2 := fun e => hcq e.symm
            go_wp2
            go_roundg (R.length - (P.length + 1))
            case rel => exact ⟨P ++ [c], Q2, L2, n2 - 1, gq2, oq2 + 2, cq2 - 1, by have := HL.out; simp at this ⊢; omega, HD.out, rfl, by have := HN2.out; omega, HP1.out⟩
            case measure => have h1 := HG.out; have h2 := HL.out; simp only [List.length_append, List.length_singleton] at h2; omega
end Go.Proofs.Ythceffkkokgpnaa
