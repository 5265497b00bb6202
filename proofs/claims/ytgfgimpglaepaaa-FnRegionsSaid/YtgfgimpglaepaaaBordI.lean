/- The sides of a region, the program's (sidesOf). -/
import Derived.Test.YtgfgimpglaepaaaBordS
namespace Go.Proofs.Ytgfgimpglaepaaa
open Go.RowKit
set_option linter.unusedVariables false
set_option linter.unusedSimpArgs false
/-- the program's cells of sides: the cell, where the side begins, where it ends -/
def sw (wd : Int) (S : List (Int × Nat)) : List Value := S.flatMap fun s =>
  [.int .i64 (s.1 % wd), .int .i64 (s.1 / wd), .int .i64 (cnX (s.1 % wd) s.2), .int .i64 (cnY (s.1 / wd) s.2), .int .i64 (cnX (s.1 % wd) ((s.2 + 1) % 4)), .int .i64 (cnY (s.1 / wd) ((s.2 + 1) % 4))]
theorem sw_snoc (wd : Int) (S : List (Int × Nat)) (z : Int) (d : Nat) : sw wd (S ++ [(z, d)]) = sw wd S ++ [.int .i64 (z % wd), .int .i64 (z / wd), .int .i64 (cnX (z % wd) d), .int .i64 (cnY (z / wd) d), .int .i64 (cnX (z % wd) ((d + 1) % 4)), .int .i64 (cnY (z / wd) ((d + 1) % 4))] := by
  unfold sw; rw [List.flatMap_append]; rfl
theorem infoIside : (Try.prog.info? 89).map (fun i => (i.zero, i.size, i.bytes)) = some (some (.agg #[.int .i64 0, .int .i64 0, .int .i64 0, .int .i64 0, .int .i64 0, .int .i64 0]), 6, 48) := by kernel_rfl
/-- the sides so far, in own memory; the set of the cells -/
structure Sw (w : World) (B mb : Nat) (wd : Int) (l : List Int) (S : List (Int × Nat)) (q : Value) (wr : World) : Prop where
  o : wr.ownsRow B 89 6 q S.length (sw wd S)
  m : PSet wr mb 64 (inP wd l)
  b : Below w.heap.size w wr
  z : B < wr.heap.size
  lt : mb < B
  lo : w.heap.size ≤ B
section
variable {w w1 w2 : World} {B mb : Nat} {wd : Int} {l : List Int} {S : List (Int × Nat)} {q q' : Value}
theorem own_step {base e n size : Nat} {v : Value} {xs : List Value} (h : w1.ownsRow base e size v n xs) (k : Below w1.heap.size w1 w2) : w2.ownsRow base e size v n xs :=
  h.kept (row := none) ⟨k.os, k.tape, k.output, k.size, fun i hi _ => k.block i hi⟩ (by cases h1 : v.ownBlock with | none => exact .inl rfl | some k => exact .inr (by simp))
theorem Sw.step (h : Sw w B mb wd l S q w1) (k : Below w1.heap.size w1 w2) : Sw w B mb wd l S q w2 :=
  ⟨own_step h.o k, h.m.below k h.m.lt, h.b.trans (k.mono h.b.size), Nat.lt_of_lt_of_le h.z k.size, h.lt, h.lo⟩
theorem Sw.put (h : Sw w B mb wd l S q w1) (k : w1.grownBy w2 q.ownBlock) {S' : List (Int × Nat)} (ho : w2.ownsRow B 89 6 q' S'.length (sw wd S')) : Sw w B mb wd l S' q' w2 :=
  ⟨ho, h.m.kept k (by intro e; have := (h.o.lt mb e.symm).1; have := h.lt; omega), h.b.grown k h.b.size (fun j e => by have := (h.o.lt j e).1; have := h.lo; omega), Nat.lt_of_lt_of_le h.z k.size, h.lt, h.lo⟩
end
theorem own_ne_blk {w : World} {b base e n size : Nat} {t : TypeId} {cs : Array Value} {fr : Nat × Nat} {v : Value} {xs : List Value} (h : w.ownsRow base e size v n xs) (hb : w.heap[b]? = some (.cells cs t fr)) (hne : e ≠ t) : v.ownBlock ≠ some b := by
  rcases h.2 with ⟨rfl, _⟩ | ⟨g', cap, cur, rfl, _, hh, _⟩
  · simp [Value.ownBlock]
  · intro he
    have : g' = b := by simpa [Value.ownBlock] using he
    subst this
    rw [hb] at hh
    injection hh with hh
    injection hh with _ ht
    exact hne ht.symm
theorem nb_index (x y : Int) (j : Nat) (hj : j < 4) (W : World) :
    (Instr.index 80 (.agg #[.int .i64 x, .int .i64 (y - 1), .int .i64 (x + 1), .int .i64 y, .int .i64 x, .int .i64 (y + 1), .int .i64 (x - 1), .int .i64 y]) (.int .i64 (j : Int))).run Try.prog W = .ok (.agg #[.int .i64 (nbX x j), .int .i64 (nbY y j)]) W := by
  rcases (by omega : j = 0 ∨ j = 1 ∨ j = 2 ∨ j = 3) with rfl | rfl | rfl | rfl <;> kernel_rfl
/-- the corner d of four in memory -/
theorem cn_cell {W : World} {b : Nat} {x y : Int} (h : W.heap[b]? = some (.cells #[.int .i64 x, .int .i64 y, .int .i64 (x + 1), .int .i64 y, .int .i64 (x + 1), .int .i64 (y + 1), .int .i64 x, .int .i64 (y + 1)] 80 (0, 0))) {j : Nat} (hj : j < 4) :
    W.cell? ⟨b, j * 2, none⟩ = some (.int .i64 (cnX x j)) ∧ W.cell? ⟨b, j * 2 + 1, none⟩ = some (.int .i64 (cnY y j)) := by
  rcases (by omega : j = 0 ∨ j = 1 ∨ j = 2 ∨ j = 3) with rfl | rfl | rfl | rfl <;> simp [World.cell?, h, cnX, cnY]
/-- the program's sides are returned -/
def IsidesPost (wd : Int) (S : List (Int × Nat)) (w : World) (e : Ending) (w' : World) : Prop := ∃ a c, e = .returned (.slice a S.length c) ∧ w'.ownsRow w.heap.size 89 6 (.slice a S.length c) S.length (sw wd S) ∧ Below w.heap.size w w'
set_option maxRecDepth 100000 in
set_option maxHeartbeats 8000000 in
theorem implSides_any (wd hg : Int) (a : Option Addr) (l : List Int) (c : Nat) (w : World) (hl : Ints .i64 w w.heap.size a l) (hr : regB wd hg l = true) :
    Calls Try.prog 74 #[.int .i64 wd, .slice a l.length c] w (IsidesPost wd (sidesL wd l l) w) := by
  obtain ⟨iS, hS, hSz, hS1, hS2⟩ := info_parts infoIside
  have HL := Lib.hid hl
  have hs := shapeB_iff.1 (reg_shape hr)
  have hp := prod_bd (reg_shape hr)
  have hll := reg_len hr
  have HBD := Lib.hid (reg_bd hr)
  have HS := Lib.hid (reg_shape hr)
  have C2 := Lib.hid (fun W h => cellsOf_any wd hg a l c W h hr)
  clear hl hr
  go_enter Try.func74, Try.ntmps74
  go_wp2_with fail
  refine (C2.out _ HL.out).mono ?_
  rintro e w2 ⟨mb, rfl, hmb, hm, b2⟩
  have M2 := Lib.hid hm
  have B2 := Lib.hid b2
  have z2 := b2.size
  have zm := hm.lt
  clear hm b2
  have hcap := Lib.hid (World.ownsRow_made (base := w2.heap.size) (e := 89) (size := 6) w2 #[] 0 (Nat.le_refl _) (by unfold maxLen; omega) rfl)
  have HGR := Lib.hid (fun W (h : Below w2.heap.size w2 W) (ho : W.ownsRow w2.heap.size 89 6 (.slice (some ⟨w2.heap.size, 0, none⟩) 0 0) 0 []) (hz : w2.heap.size < W.heap.size) => (⟨ho, M2.out.below h zm, B2.out.trans (h.mono B2.out.size), hz, zm, B2.out.size⟩ : Sw w w2.heap.size mb wd l [] (.slice (some ⟨w2.heap.size, 0, none⟩) 0 0) W))
  go_wp2
  go_loopg [6, 19] l.length (fun g q i wr => ∃ k : Nat, k ≤ l.length ∧ g + k = l.length ∧ i = .int .i64 k ∧ Sw w w2.heap.size mb wd l (sidesL wd l (l.take k)) q wr)
  case atStart => exact ⟨0, Nat.zero_le _, rfl, rfl, HGR.out _ (below_all _ _) hcap.out (by simp)⟩
  case round =>
    obtain ⟨k, hk, hg2, rfl, hsw⟩ := hrel
    have HG := Lib.hid hg2
    have H0 := Lib.hid hsw
    clear hg2 hsw
    by_cases hlt : k < l.length
    · obtain ⟨b, o, rfl, hb, hc⟩ := (HL.out.below H0.out.b (Nat.le_refl _)).at_ hlt
      have hi : (k : Int) < (l.length : Int) := by omega
      have hi0 : (0 : Int) ≤ (k : Int) := by omega
      have hz := HBD.out _ (List.getElem_mem hlt)
      have HTK := Lib.hid (List.take_succ_eq_append_getElem hlt)
      obtain ⟨z, hzz⟩ : ∃ z, l[k] = z := ⟨_, rfl⟩
      rw [hzz] at hc hz HTK
      clear hzz
      have hin := cell_in HS.out hz.1 hz.2
      have HYES := Lib.hid (fun d h => sidesOne_yes (wd := wd) (l := l) (i := z) (n := d) h)
      have HNO := Lib.hid (fun d h => sidesOne_no (wd := wd) (l := l) (i := z) (n := d) h)
      have HLO := Lib.hid (fun d => sidesOne_len wd l z d)
      have HZ0 := Lib.hid (sidesOne_zero wd l z)
      have hPlen := sidesL_len wd l (l.take k)
      rw [List.length_take] at hPlen
      have HSN := Lib.hid (sidesL_snoc wd l (l.take k) z)
      obtain ⟨P, hP⟩ : ∃ P, sidesL wd l (l.take k) = P := ⟨_, rfl⟩
      rw [hP] at H0 hPlen HSN
      have hPl : P.length ≤ 256 := by omega
      clear hP hPlen
      have HPT := Lib.hid (fun W => pointAt_any wd z W (by omega) (by omega) (by omega) (by omega))
      obtain ⟨x, hx⟩ : ∃ x, z % wd = x := ⟨_, rfl⟩
      obtain ⟨y, hy⟩ : ∃ y, z / wd = y := ⟨_, rfl⟩
      have HX := Lib.hid hx
      have HY := Lib.hid hy
      rw [hx, hy] at hin HYES HNO HPT
      have HCN := Lib.hid (fun W => corners_any x y W (by omega) (by omega))
      have HNB := Lib.hid (fun W => neighbors_any x y W (by omega) (by omega))
      clear hx hy
      go_wp2_with fail
      refine (HPT.out _).mono ?_
      rintro e w3 ⟨rfl, b3⟩
      have H3 := Lib.hid (H0.out.step b3)
      clear b3 H0 hc
      go_wp2_with fail
      refine (HCN.out _).mono ?_
      rintro e w4 ⟨rfl, b4⟩
      have X3 := heap_alloc_new w3 (.cells #[.int .i64 x, .int .i64 y] 48)
      have X4 := (b4.block w3.heap.size (by simp)).trans X3
      have H4 := Lib.hid (H3.out.step (below_then (below_all w3 _) b4))
      have z4 := b4.size
      simp only [World.size_alloc] at z4
      have q0 : w4.cell? ⟨w3.heap.size, 0, none⟩ = some (.int .i64 x) := by simp [World.cell?, X4]
      have q1 : w4.cell? ⟨w3.heap.size, 1, none⟩ = some (.int .i64 y) := by simp [World.cell?, X4]
      have z34 : w3.heap.size < w4.heap.size := by omega
      have n34 : ¬ w3.heap.size = w4.heap.size := by omega
      have HX4 := Lib.hid X4
      clear b4 X3 X4 H3
      go_wp2_with fail
      refine (HNB.out _).mono ?_
      rintro e w5 ⟨rfl, b5⟩
      have Y4 := heap_alloc_new w4 (.cells #[.int .i64 x, .int .i64 y, .int .i64 (x + 1), .int .i64 y, .int .i64 (x + 1), .int .i64 (y + 1), .int .i64 x, .int .i64 (y + 1)] 80)
      have HY5 := Lib.hid ((b5.block w4.heap.size (by simp)).trans Y4)
      have HX5 := Lib.hid ((b5.block w3.heap.size (by simp; omega)).trans ((Below.heap_alloc w4 _ w3.heap.size (by omega)).trans HX4.out))
      have H5 := Lib.hid (H4.out.step (below_then (below_all w4 _) b5))
      clear b5 Y4 q0 q1 HX4 H4
      rw [show P = P ++ sidesOne wd l z 0 by rw [HZ0.out, List.append_nil]] at H5
      go_wp2
      have z5 : w4.heap.size < w5.heap.size := (Array.getElem?_eq_some_iff.1 HY5.out).1
      go_loopg [6, 30] 4 (fun g q i wr => ∃ j : Nat, j ≤ 4 ∧ g + j = 4 ∧ i = .int .i64 j ∧ wr.heap[w3.heap.size]? = some (.cells #[.int .i64 x, .int .i64 y] 48 (0, 0)) ∧ wr.heap[w4.heap.size]? = some (.cells #[.int .i64 x, .int .i64 y, .int .i64 (x + 1), .int .i64 y, .int .i64 (x + 1), .int .i64 (y + 1), .int .i64 x, .int .i64 (y + 1)] 80 (0, 0)) ∧ w5.heap.size ≤ wr.heap.size ∧ Sw w w2.heap.size mb wd l (P ++ sidesOne wd l z j) q wr)
      case atStart => exact ⟨0, by omega, rfl, rfl, HX5.out, HY5.out, Nat.le_refl _, H5.out⟩
      case round =>
        obtain ⟨j, hj, hg3, rfl, hx4, hy4, hz5, hsw⟩ := hrel
        have HG3 := Lib.hid hg3
        have H6 := Lib.hid hsw
        have HXw := Lib.hid hx4
        have HYw := Lib.hid hy4
        clear hg3 hsw hx4 hy4
        by_cases hj4 : j < 4
        · have hij : (j : Int) < 4 := by omega
          have hij0 : (0 : Int) ≤ (j : Int) := by omega
          have hrun := fun W => nb_index x y j hj4 W
          have hbx : -1 ≤ nbX x j ∧ nbX x j ≤ 9 := by unfold nbX; (repeat' split) <;> omega
          have hby : -1 ≤ nbY y j ∧ nbY y j ≤ 9 := by unfold nbY; (repeat' split) <;> omega
          have HYJ := Lib.hid (HYES.out j)
          have HNJ := Lib.hid (HNO.out j)
          generalize nbX x j = px at *
          generalize nbY y j = py at *
          have o0 := Lib.hid (show okI px by unfold okI; omega)
          have o1 := Lib.hid (show okI py by unfold okI; omega)
          have hlen : (P ++ sidesOne wd l z j).length ≤ 300 := by have := HLO.out j; rw [List.length_append]; omega
          have hSNC := Lib.hid (sw_snoc wd (P ++ sidesOne wd l z j) z j)
          have hASC := Lib.hid (List.append_assoc P (sidesOne wd l z j) [(z, j)])
          clear hbx hby
          have H7 := Lib.hid (H6.out.step (below_all wr (.cells #[.int .i64 px, .int .i64 py] 48)))
          have X7 := Lib.hid ((Below.heap_alloc wr (.cells #[.int .i64 px, .int .i64 py] 48) w3.heap.size (by omega)).trans HXw.out)
          have Y7 := Lib.hid ((Below.heap_alloc wr (.cells #[.int .i64 px, .int .i64 py] 48) w4.heap.size (by omega)).trans HYw.out)
          clear H6 HXw HYw
          cases hv : inP wd l px py with
          | true =>
            have HE := Lib.hid (HYJ.out hv)
            have HV := Lib.hid hv
            clear hv
            go_wp2_with (at_lookup; refine wpList_look_set _ rfl _ _ 73 rfl Try.underlying73 mb 64 (inP wd l) rfl H7.out.m px py rfl o0.out o1.out true HV.out ?_)
            go_roundg (gk - 1)
            case rel => exact ⟨j + 1, by omega, by have := HG3.out; omega, by go_num, X7.out, Y7.out, by simp; omega, by rw [HE.out]; exact H7.out⟩
            case measure => have := HG3.out; omega
          | false =>
            have HE := Lib.hid (HNJ.out hv)
            have HV := Lib.hid hv
            clear hv
            obtain ⟨m, hm⟩ : ∃ m, (j + 1) % 4 = m := ⟨_, rfl⟩
            have hm4 : m < 4 := by omega
            have k1 := cn_cell Y7.out hj4
            have k2 := cn_cell Y7.out hm4
            have hm1 : (0 : Int) ≤ (m : Int) := by omega
            have hm2 : (m : Int) < 4 := by omega
            have ht : ((j : Int) + 1).tmod 4 = (m : Int) := by rw [Int.tmod_eq_emod_of_nonneg (by omega)]; omega
            have ht2 : ((j : Int) + 1) % 4 = (m : Int) := by omega
            rw [HX.out, HY.out, hm] at hSNC
            have HM := Lib.hid hm
            clear hm
            generalize cnX x j = cx at *
            generalize cnY y j = cy at *
            generalize cnX x m = ex at *
            generalize cnY y m = ey at *
            obtain ⟨S, hS_⟩ : ∃ S, P ++ sidesOne wd l z j = S := ⟨_, rfl⟩
            rw [hS_] at H7 hlen hSNC hASC
            have HSS := Lib.hid hS_
            clear hS_
            have q0 : (wr.alloc (.cells #[.int .i64 px, .int .i64 py] 48)).cell? ⟨w3.heap.size, 0, none⟩ = some (.int .i64 x) := by simp only [World.cell?, X7.out]; rfl
            have q1 : (wr.alloc (.cells #[.int .i64 px, .int .i64 py] 48)).cell? ⟨w3.heap.size, 1, none⟩ = some (.int .i64 y) := by simp only [World.cell?, X7.out]; rfl
            have HK := Lib.hid (And.intro q0 (And.intro q1 (And.intro k1 k2)))
            have HT := Lib.hid (And.intro ht ht2)
            clear q0 q1 k1 k2 ht ht2
            have sz7 : w5.heap.size < (wr.alloc (.cells #[.int .i64 px, .int .i64 py] 48)).heap.size := by simp; omega
            go_wp2_with (at_lookup; refine wpList_look_set _ rfl _ _ 73 rfl Try.underlying73 mb 64 (inP wd l) rfl H7.out.m px py rfl o0.out o1.out false HV.out ?_)
            clear hrun
            obtain ⟨W7, hW7⟩ : ∃ W7, wr.alloc (.cells #[.int .i64 px, .int .i64 py] 48) = W7 := ⟨_, rfl⟩
            rw [hW7] at H7 X7 Y7 HK sz7 ⊢
            clear hW7
            obtain ⟨q0, q1, ⟨q2, q3⟩, q4, q5⟩ := HK.out
            obtain ⟨t1, t2⟩ := HT.out
            have hw1 : IntKind.i64.wrap ((j : Int) + 1) = (j : Int) + 1 := IntWalk.i64_in _ (by omega)
            have hw2 : IntKind.i64.wrap (m : Int) = (m : Int) := IntWalk.i64_in _ (by omega)
            have zA : w3.heap.size < W7.heap.size := by omega
            have zB : w4.heap.size < W7.heap.size := by omega
            have n3 := Lib.hid (Ne.symm (own_ne_blk H7.out.o X7.out (by decide)))
            have n4 := Lib.hid (Ne.symm (own_ne_blk H7.out.o Y7.out (by decide)))
            go_region_held3 (fun w' => w'.cell? ⟨w3.heap.size, 0, none⟩ = some (.int .i64 x) ∧ w'.cell? ⟨w3.heap.size, 1, none⟩ = some (.int .i64 y) ∧ (w'.cell? ⟨w4.heap.size, j * 2, none⟩ = some (.int .i64 cx) ∧ w'.cell? ⟨w4.heap.size, j * 2 + 1, none⟩ = some (.int .i64 cy)) ∧ w'.cell? ⟨w4.heap.size, m * 2, none⟩ = some (.int .i64 ex) ∧ w'.cell? ⟨w4.heap.size, m * 2 + 1, none⟩ = some (.int .i64 ey))
              (first | exact kk | go_keep)
              ((refine step_append_lies _ (by rfl) _ _ _ (by rfl) w2.heap.size 89 iS _ 6 48 Try.underlying87 hS hSz hS1 hS2 rfl (by omega) _ S.length (sw wd S) (by rfl) (own_step H7.out.o (by first | exact (below_all _ _).drew | exact below_all _ _ | exact (Below.refl _ _).drew)) ⟨W7.heap.size, 0, none⟩ 1 1 [.int .i64 x, .int .i64 y, .int .i64 cx, .int .i64 cy, .int .i64 ex, .int .i64 ey] (by rfl) (by rfl) (World.news_of_block (heap_alloc_new _ _)) (by simp [Value.oneCell']) (by omega) (by unfold maxLen; omega) (by omega) (by have := H7.out.z; first | omega | (simp; omega)) (W7.heap.size + 1) (by simp) ?_; intro gg cap8 w8 hown8 hgrow8 hat8 hlt8; have H8 := Lib.hid ((H7.out.step (by first | exact (below_all _ _).drew | exact below_all _ _)).put (S' := S ++ [(z, j)]) hgrow8 (by rw [hSNC.out, List.length_append]; exact hown8)); have KF : ∀ (p : Addr) v, p.block < W7.heap.size → some p.block ≠ u6.ownBlock → W7.cell? p = some v → w8.cell? p = some v := fun p v h1 h2 h3 => (hgrow8.cell_far p (by simp; omega) h2).trans (((below_all W7 _).cell h1).trans h3); have X8 := Lib.hid ((hgrow8.block w3.heap.size (by simp; omega) n3.out).trans ((Below.heap_alloc W7 (.cells #[.int .i64 x, .int .i64 y, .int .i64 cx, .int .i64 cy, .int .i64 ex, .int .i64 ey] 89) w3.heap.size (by omega)).trans X7.out)); have Y8 := Lib.hid ((hgrow8.block w4.heap.size (by simp; omega) n4.out).trans ((Below.heap_alloc W7 (.cells #[.int .i64 x, .int .i64 y, .int .i64 cx, .int .i64 cy, .int .i64 ex, .int .i64 ey] 89) w4.heap.size (by omega)).trans Y7.out)); have z8 := hgrow8.size; have kk := And.intro (KF ⟨w3.heap.size, 0, none⟩ _ zA n3.out q0) (And.intro (KF ⟨w3.heap.size, 1, none⟩ _ zA n3.out q1) (And.intro (And.intro (KF ⟨w4.heap.size, j * 2, none⟩ _ zB n4.out q2) (KF ⟨w4.heap.size, j * 2 + 1, none⟩ _ zB n4.out q3)) (And.intro (KF ⟨w4.heap.size, m * 2, none⟩ _ zB n4.out q4) (KF ⟨w4.heap.size, m * 2 + 1, none⟩ _ zB n4.out q5))))))
            clear kk KF q0 q1 q2 q3 q4 q5 t1 t2 hw1 hw2 hown8 hgrow8 hat8
            rename_i hHeld
            clear hHeld
            go_wp2
            go_roundg (gk - 1)
            case rel => exact ⟨j + 1, by omega, by have := HG3.out; omega, by go_num, X8.out, Y8.out, by simp at z8; omega, by rw [HE.out, ← hASC.out]; exact H8.out⟩
            case measure => have := HG3.out; omega
        · obtain rfl : j = 4 := by omega
          go_wp2
          go_roundg (l.length - (k + 1))
          case rel => exact ⟨k + 1, by omega, by omega, by go_num, by rw [HTK.out, HSN.out]; exact H6.out⟩
          case measure => have := HG.out; omega
    · obtain rfl : k = l.length := by omega
      rw [List.take_length] at H0
      obtain ⟨a', c', rfl⟩ := own_value H0.out.o
      have HO := Lib.hid (H0.out.o)
      have HB := Lib.hid H0.out.b
      have hlo := H0.out.lo
      clear H0
      go_wp2
      go_ret
      refine ⟨a', c', rfl, ?_, HB.out⟩
      have h := HO.out
      exact ⟨h.1, h.2.imp_right fun ⟨g, cap, cur, e, h1, h2⟩ => ⟨g, cap, cur, e, by omega, h2⟩⟩
end Go.Proofs.Ytgfgimpglaepaaa
