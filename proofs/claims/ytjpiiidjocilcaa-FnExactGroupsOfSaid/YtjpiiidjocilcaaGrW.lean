/- The walk of the model's l10Groups. -/
import Derived.Test.YtjpiiidjocilcaaGrS
import Derived.Test.YtjpiiidjocilcaaLastSt
import Derived.Deep.DeepCutAuto
namespace Go.Proofs.Ytjpiiidjocilcaa
open Go.RowKit
set_option linter.unusedVariables false
set_option linter.unusedSimpArgs false
set_option maxRecDepth 100000 in
set_option maxHeartbeats 16000000 in
theorem specGroups_any (a b : Option Addr) (l r : List Int) (c d : Nat) (w : World) (hl : Ints .i64 w w.heap.size a l) (hr : Ints .i64 w w.heap.size b r) (ht : tlB l r = true) :
    Calls Try.prog 69 #[.agg #[.slice a l.length c, .slice b r.length d]] w (GrPost (calG l r 11) w) := by
  obtain ⟨iP, hP', hPz, hP1, hP2⟩ := info_parts infoGr
  obtain ⟨i0, hi0', hn0, hn1, hn2⟩ := info_parts infoInt
  obtain ⟨hl11, hr11⟩ := tl_len ht
  have HT := Lib.hid ht
  have HL := Lib.hid (ints_alloc hl (.cells #[.slice a l.length c, .slice b r.length d] 27))
  have HR := Lib.hid (ints_alloc hr (.cells #[.slice a l.length c, .slice b r.length d] 27))
  have H11 := Lib.hid hl11
  have R11 := Lib.hid hr11
  have c0 : (w.alloc (.cells #[.slice a l.length c, .slice b r.length d] 27)).cell? ⟨w.heap.size, 0, none⟩ = some (.slice a l.length c) := by simp [go_sem]
  have c1 : (w.alloc (.cells #[.slice a l.length c, .slice b r.length d] 27)).cell? ⟨w.heap.size, 1, none⟩ = some (.slice b r.length d) := by simp [go_sem]
  have B0 := Lib.hid (below_all w (.cells #[.slice a l.length c, .slice b r.length d] 27))
  have hs0 : (w.alloc (.cells #[.slice a l.length c, .slice b r.length d] 27)).heap.size = w.heap.size + 1 := by simp
  clear hl hr ht hl11 hr11
  go_enter Try.func69, Try.ntmps69
  go_wp2
  have HS0 := Lib.hid hs0
  have C0 := Lib.hid c0
  have C1 := Lib.hid c1
  generalize w.alloc (.cells #[.slice a l.length c, .slice b r.length d] 27) = w0 at *
  have I0 := Lib.hid (show GrI w0.heap.size w0 [] (.slice (some ⟨w0.heap.size, 0, none⟩) 0 0) (w0.alloc (.cells #[] 92)) from
    ⟨fun x hx => by simp at hx, by simp [sumC], by simp [flatC], by simp, World.ownsRow_made (base := w0.heap.size) (e := 92) (size := 3) w0 #[] 0 (Nat.le_refl _) (by unfold maxLen; omega) rfl, fun e he => (by cases he), (Below.refl _ _).alloc (Nat.le_refl _) _⟩)
  have Z0 := Lib.hid (show w0.heap.size ≤ (w0.alloc (.cells #[] 92)).heap.size by simp)
  rw [HS0.out] at I0
  clear hs0 c0 c1
  go_loopw [4, 3] (fun i v wr => ∃ (k : Nat) (S : List GE), k ≤ 11 ∧ i = .int .i64 k ∧ S.map GE.g = calG l r k ∧ GrI (w.heap.size + 1) w0 S v wr ∧ w.heap.size + 1 ≤ wr.heap.size) (fun i _ _ => 11 - (intOf i).toNat)
  case atStart => exact ⟨0, [], by omega, rfl, rfl, I0.out, by have := Z0.out; have := HS0.out; omega⟩
  case round =>
    obtain ⟨k, S, hk, rfl, hSG, hI, hz⟩ := hrel
    have HSG := Lib.hid hSG
    have HI := Lib.hid hI
    clear hI I0 Z0 hSG
    have hbel : Below w0.heap.size w0 wr := by rw [HS0.out]; exact HI.out.bel
    have HBEL := Lib.hid hbel
    have e0 := (hbel.cell (p := ⟨w.heap.size, 0, none⟩) (by have := HS0.out; show w.heap.size < _; omega)).trans C0.out
    have e1 := (hbel.cell (p := ⟨w.heap.size, 1, none⟩) (by have := HS0.out; show w.heap.size < _; omega)).trans C1.out
    clear hbel
    by_cases hlt : k < 11
    · have hk1 : k < l.length := by have := H11.out; omega
      have hk2 : k < r.length := by have := R11.out; omega
      have gl := getD_at l hk1
      have gr := getD_at r hk2
      have HA := Lib.hid ((HL.out.below HBEL.out (Nat.le_refl _)).more HBEL.out.size)
      have HB := Lib.hid ((HR.out.below HBEL.out (Nat.le_refl _)).more HBEL.out.size)
      obtain ⟨b1, o1, ea, hb1, hc1⟩ := HA.out.at_ hk1
      obtain ⟨b2, o2, eb, hb2, hc2⟩ := HB.out.at_ hk2
      have hi : (k : Int) < (l.length : Int) := by omega
      have hi2 : (k : Int) < (r.length : Int) := by omega
      have hi0 : (0 : Int) ≤ (k : Int) := by omega
      have HST := Lib.hid (show calG l r (k + 1) = if l.getD k 0 = 0 then calG l r k else pushG (calG l r k) (oneG l r k) from rfl)
      have HON := Lib.hid (show l.getD k 0 ≠ 0 → okG (oneG l r k) ∧ (oneG l r k).ca ≤ 1000 from fun h => one_ok HT.out (by omega) h)
      have HOG := Lib.hid (show oneG l r k = ⟨[(k : Int)], l.getD k 0, r.getD k 0⟩ from rfl)
      have HLE := Lib.hid (cal_ok HT.out k (by omega)).2
      have HLN := Lib.hid (cal_len l r k)
      have HFL := Lib.hid (show (flatC (calG l r k)).length ≤ k by rw [cal_flat]; exact used_len l k)
      rw [gl] at HST HON HOG
      rw [gr] at HOG
      clear gl gr
      obtain ⟨T, hT⟩ : ∃ T, calG l r (k + 1) = T := ⟨_, rfl⟩
      have HTT := Lib.hid hT
      rw [hT] at HST
      clear hT
      rw [← HSG.out] at HST HLE HLN HFL
      generalize oneG l r k = g0 at *
      generalize l[k] = x at *
      generalize r[k] = y at *
      have m1 : ¬ w.heap.size = wr.heap.size := by omega
      have m2 : w.heap.size < wr.heap.size := by omega
      subst ea
      subst eb
      by_cases hx : x = 0
      · have HT0 := Lib.hid (show T = S.map GE.g by rw [HST.out, if_pos hx])
        subst hx
        go_wp2
        go_roundw
        case rel => exact ⟨k + 1, S, by omega, by go_num, by rw [HTT.out, HT0.out], HI.out, hz⟩
        case measure => simp [intOf]; omega
      · have HT1 := Lib.hid (show T = pushG (S.map GE.g) g0 by rw [HST.out, if_neg hx])
        have HO1 := Lib.hid (HON.out hx)
        have hx2 : (x == 0) = false := by simp [hx]
        have HCS := Lib.hid (show g0.cs.length = 1 by rw [HOG.out]; rfl)
        clear HST HON
        go_upto_region 6 with fail
        go_cut [5] (fun p wx => ∃ bx bg cg : Nat, p = .pointer (some ⟨bx, 0, none⟩) ∧ GrJ (w.heap.size + 1) bx w0 S g0 bg cg u3 wx ∧ bx < wx.heap.size ∧ w.heap.size + 1 ≤ wx.heap.size ∧ Below wr.heap.size wr wx)
        case first =>
          have HSU := Lib.hid (show g0.ca + sumC (S.map GE.g) ≤ 11000 by have h1 := HO1.out.2; have h2 := HLE.out; omega)
          have HFU := Lib.hid (show (flatC (S.map GE.g)).length + 1 ≤ 11 by have h1 := HFL.out; omega)
          have HLU := Lib.hid (show S.length ≤ 10 by have h1 := HLN.out; rw [List.length_map] at h1; omega)
          go_region
          all_goals
            go_wp2
            go_meet
          · exact ⟨_, _, 1, rfl, grj_a HI.out hz HOG.out HO1.out.1 HSU.out HFU.out HLU.out, by show wr.heap.size + 1 < ((wr.alloc _).alloc _).heap.size; simp, by show w.heap.size + 1 ≤ ((wr.alloc _).alloc _).heap.size; simp; omega, (((Below.refl _ _).alloc (Nat.le_refl _) _).alloc (by simp) _).drew⟩
          · exact ⟨_, _, 1, rfl, grj_b HI.out hz HOG.out HO1.out.1 HSU.out HFU.out HLU.out, by show wr.heap.size < ((wr.alloc _).alloc _).heap.size; simp; omega, by show w.heap.size + 1 ≤ ((wr.alloc _).alloc _).heap.size; simp; omega, (((Below.refl _ _).alloc (Nat.le_refl _) _).alloc (by simp) _).drew⟩
        case rest =>
          obtain ⟨bx, bg, cg, rfl, hJ, hbx, hzx, hbw⟩ := hcut
          have HJ := Lib.hid hJ
          clear hJ hbw HI HBEL HA HB e0 e1 hb1 hc1 hb2 hc2 hx hx2 hi hi2 hi0 m1 m2
          go_wp2_with fail
          go_loopg [3] S.length (fun gk v wi => ∃ (Q : List GE) (gr : Gr) (bg cg : Nat), gk = Q.length ∧ pushG (Q.map GE.g) gr = T ∧ GrJ (w.heap.size + 1) bx w0 Q gr bg cg v wi ∧ bx < wi.heap.size ∧ w.heap.size + 1 ≤ wi.heap.size)
          case atStart => exact ⟨S, g0, bg, cg, rfl, HT1.out.symm, HJ.out, hbx, hzx⟩
          case round =>
            obtain ⟨Q, gr, bg, cg, hgk, hp, hJ2, hbx2, hz2⟩ := hrel
            have HGK := Lib.hid hgk
            have HP := Lib.hid hp
            have HQ := Lib.hid hJ2
            clear hgk hp hJ2 HJ HT1
            cases Q with
            | nil =>
              have HE := Lib.hid (show T = [gr] by rw [← HP.out]; rfl)
              obtain ⟨av, cv, ev⟩ := own_form HQ.out.st.own
              have ev : u3 = .slice av 0 cv := ev
              obtain ⟨t0, t1, t2⟩ := HQ.out.box.cells
              subst ev
              go_wp2_with fail
              refine wp_region_later (by kernel_rfl) (by kernel_rfl) ?_
              repeat (go_big_quiet_step (fail))
              refine wpQuiet_nil ?_
              intro _ hw'
              obtain ⟨pq, hw''⟩ := hw'
              subst hw''
              have B1 := Lib.hid pq.below
              have J1 := Lib.hid (HQ.out.later hz2 pq.below)
              have hz3 : w.heap.size + 1 ≤ pq.world.heap.size := Nat.le_trans hz2 pq.below.size
              clear t0 t1 t2
              obtain ⟨t0, t1, t2⟩ := J1.out.box.cells
              go_wp2_with (at_builtin; refine wpList_append_own _ rfl _ _ 89 rfl (w.heap.size + 1) 92 iP (.agg #[.slice none 0 0, .int .i64 0, .int .i64 0]) 3 40 Try.underlying89 hP' hPz hP1 hP2 rfl (by decide) (.slice av 0 cv) 0 [] rfl (J1.out.st.own.alloc _) ⟨pq.world.heap.size, 0, none⟩ 1 1 [.slice (some ⟨bg, 0, none⟩) gr.cs.length cg, .int .i64 gr.ca, .int .i64 gr.hi] rfl rfl (World.news_of_block (heap_alloc_new _ _)) (by simp [Value.oneCell']) (by unfold maxLen; omega) (by omega) (by simp; omega) ?_; intro v2 w2 hown2 hgrow2 _; have O2 := Lib.hid hown2; have G2 := Lib.hid hgrow2; clear hown2 hgrow2)
              go_roundw
              case rel => exact ⟨k + 1, [⟨gr, bg, cg⟩], by omega, by go_num, by rw [HTT.out, HE.out]; rfl, J1.out.push hz3 O2.out _ G2.out, by have := G2.out.size; simp at this; omega⟩
              case measure => simp [intOf]; omega
            | cons q Q =>
              obtain ⟨n, hn⟩ : ∃ n, Q.length = n := ⟨_, rfl⟩
              have hn10 : n + 1 ≤ 10 := by have := HQ.out.n; simp at this; omega
              obtain ⟨go, cap, ev, hgo, k0, k1, k2⟩ := HQ.out.last hn
              obtain ⟨t0, t1, t2⟩ := HQ.out.box.cells
              have oq := HQ.out.st.ok q.g (by simp)
              have sq := sum_mem _ HQ.out.st.ok q.g (by simp)
              have ss := HQ.out.st.sum
              have og := HQ.out.ok
              have sg := HQ.out.small
              have hgl : go < wr.heap.size := by omega
              have hpush : pushG ((q :: Q).map GE.g) gr = if fallB q.g gr = true then pushG (Q.map GE.g) (q.g.join gr) else gr :: q.g :: Q.map GE.g := rfl
              rw [HP.out] at hpush
              have HPU := Lib.hid hpush
              have HFB := Lib.hid (show fallB q.g gr = decide (gr.hi * q.g.ca < q.g.hi * gr.ca) from rfl)
              unfold okG at oq og
              have p1 : 0 ≤ q.g.hi * gr.ca := Int.mul_nonneg (by omega) (by omega)
              have p2 : 0 ≤ gr.hi * q.g.ca := Int.mul_nonneg (by omega) (by omega)
              have q1 : q.g.hi * gr.ca ≤ 11000 * 11000 := Int.mul_le_mul (by omega) (by omega) (by omega) (by omega)
              have q2 : gr.hi * q.g.ca ≤ 11000 * 11000 := Int.mul_le_mul (by omega) (by omega) (by omega) (by omega)
              have a1 : IntKind.i64.wrap (q.g.ca + gr.ca) = q.g.ca + gr.ca := IntWalk.i64_in _ (by omega)
              have a2 : IntKind.i64.wrap (q.g.hi + gr.hi) = q.g.hi + gr.hi := IntWalk.i64_in _ (by omega)
              obtain ⟨xx, hxx⟩ : ∃ z, q.g.hi * gr.ca = z := ⟨_, rfl⟩
              obtain ⟨yy, hyy⟩ : ∃ z, gr.hi * q.g.ca = z := ⟨_, rfl⟩
              rw [hxx] at p1 q1 HFB
              rw [hyy] at p2 q2 HFB
              have wx : IntKind.i64.wrap xx = xx := IntWalk.i64_in xx (by omega)
              have wy : IntKind.i64.wrap yy = yy := IntWalk.i64_in yy (by omega)
              have HCG := Lib.hid (show 0 < q.g.cs.length by have := oq.2.2.2; exact List.length_pos_iff.2 this)
              have HFL2 := Lib.hid (show q.g.cs.length + gr.cs.length ≤ 11 by
                have h1 : (flatC (Q.map GE.g) ++ q.g.cs).length + gr.cs.length ≤ 11 := HQ.out.flat
                rw [List.length_append] at h1
                omega)
              have HRQ := Lib.hid (HQ.out.st.rows q (by simp))
              have HN := Lib.hid hn
              have i1 : (n : Int) < ((n + 1 : Nat) : Int) := by omega
              have i2 : (0 : Int) ≤ (n : Int) := by omega
              have i3 : IntKind.i64.wrap (((n + 1 : Nat) : Int) - 1) = (n : Int) := by rw [show ((n + 1 : Nat) : Int) - 1 = (n : Int) by omega]; exact IntWalk.i64_in _ (by omega)
              have i4 : (0 : Int) < ((n + 1 : Nat) : Int) := by omega
              have i5 : (n : Int) ≤ (cap : Int) := by
                have ho := HQ.out.st.own
                rw [ev] at ho
                have e1 : (q :: Q).length = n + 1 := by simp [hn]
                rw [e1] at ho
                rcases ho.2 with ⟨h1, _⟩ | ⟨g', cap', cur, h1, h2, h3, h4, _⟩
                · cases h1
                · cases h1; omega
              have p_0 := later_cell k0 hgl
              have p_1 := later_cell k1 hgl
              have p_2 := later_cell k2 hgl
              have p_3 := later_cell t0 hbx2
              have p_4 := later_cell t1 hbx2
              have p_5 := later_cell t2 hbx2
              have j1 : n < n + 1 := by omega
              have j2 : 0 < n + 1 := by omega
              have j3 : n ≤ cap := by omega
              generalize hNN : n + 1 = N at *
              have HNN := Lib.hid hNN
              clear hpush oq sq ss og sg hn p1 p2 q1 q2 hNN
              subst ev
              by_cases hf : yy < xx
              · have HE := Lib.hid (show pushG (Q.map GE.g) (q.g.join gr) = T by rw [HPU.out, HFB.out, decide_eq_true hf]; rfl)
                have hf2 : xx > yy := hf
                clear HPU HFB
                go_wp2_with fail
                refine wp_region_later (by kernel_rfl) (by kernel_rfl) ?_
                repeat (go_big_quiet_step (fail))
                refine wpQuiet_nil ?_
                intro _ hw'
                obtain ⟨pq, hw''⟩ := hw'
                subst hw''
                have B1 := Lib.hid pq.below
                have k0' := p_0 pq
                have k1' := p_1 pq
                have k2' := p_2 pq
                clear p_0 p_1 p_2 p_3 p_4 p_5 k0 k1 k2 t0 t1 t2
                have hgl2 : go < pq.world.heap.size := Nat.lt_of_lt_of_le hgl pq.below.size
                have hz3 : w.heap.size + 1 ≤ pq.world.heap.size := Nat.le_trans hz2 pq.below.size
                have hbx3 : bx < pq.world.heap.size := Nat.lt_of_lt_of_le hbx2 pq.below.size
                have J1 := Lib.hid (HQ.out.later hz2 pq.below)
                have R1 := Lib.hid (Row.grown HRQ.out.1 (gb_none pq.below) (by simp))
                generalize pq.world = W1 at *
                go_upto_region 9 with fail
                have QL := Box.new W1 92 (.slice (some ⟨q.b, 0, none⟩) q.g.cs.length q.c) (.int .i64 q.g.ca) (.int .i64 q.g.hi)
                have J8 := Lib.hid (J1.out.later hz3 (below_all W1 (.cells #[.slice (some ⟨q.b, 0, none⟩) q.g.cs.length q.c, .int .i64 q.g.ca, .int .i64 q.g.hi] 92)))
                have R8 := Lib.hid (Row.grown R1.out (World.grownBy_alloc W1 (.cells #[.slice (some ⟨q.b, 0, none⟩) q.g.cs.length q.c, .int .i64 q.g.ca, .int .i64 q.g.hi] 92) none) (by simp))
                have hs8 : (W1.alloc (.cells #[.slice (some ⟨q.b, 0, none⟩) q.g.cs.length q.c, .int .i64 q.g.ca, .int .i64 q.g.hi] 92)).heap.size = W1.heap.size + 1 := by simp
                have HS8 := Lib.hid hs8
                clear hs8 k0' k1' k2'
                generalize W1.alloc (.cells #[.slice (some ⟨q.b, 0, none⟩) q.g.cs.length q.c, .int .i64 q.g.ca, .int .i64 q.g.hi] 92) = W8 at *
                go_cut [] (fun wx => ∃ b2 c2 : Nat, GrJ (w.heap.size + 1) bx w0 Q (q.g.join gr) b2 c2 (.slice (some ⟨go, 0, none⟩) n cap) wx ∧ bx < wx.heap.size ∧ w.heap.size + 1 ≤ wx.heap.size)
                case first =>
                  have HQL := Lib.hid QL
                  have hz8 : w.heap.size + 1 ≤ W8.heap.size := by have := HS8.out; omega
                  have hbx8 : bx < W8.heap.size := by have := HS8.out; omega
                  have hbq8 : W1.heap.size < W8.heap.size := by have := HS8.out; omega
                  have HOW := Lib.hid (fun W (h : GeR W q.b q.g.cs) => l1OwnR_any q.b q.g.cs q.c W h (by have := HFL2.out; omega) HCG.out)
                  have k8 : W8.drew.cell? ⟨W1.heap.size, 0, none⟩ = some (.slice (some ⟨q.b, 0, none⟩) q.g.cs.length q.c) ∧ W8.drew.cell? ⟨W1.heap.size, 1, none⟩ = some (.int .i64 q.g.ca) ∧ W8.drew.cell? ⟨W1.heap.size, 2, none⟩ = some (.int .i64 q.g.hi) := QL.cells
                  have t8 : W8.drew.cell? ⟨bx, 0, none⟩ = some (.slice (some ⟨bg, 0, none⟩) gr.cs.length cg) ∧ W8.drew.cell? ⟨bx, 1, none⟩ = some (.int .i64 gr.ca) ∧ W8.drew.cell? ⟨bx, 2, none⟩ = some (.int .i64 gr.hi) := J8.out.box.cells
                  have n1 : ¬ bx = W1.heap.size := by omega
                  have n2 : ¬ W1.heap.size = bx := by omega
                  obtain ⟨t0, t1, t2⟩ := t8
                  obtain ⟨k0, k1, k2⟩ := k8
                  clear QL
                  have HS0 := And.intro (And.intro k0 (And.intro k1 k2)) (And.intro t0 (And.intro t1 t2))
                  clear k0 k1 k2 t0 t1 t2
                  refine AnyBut.region (s := 17) (S := fun x => (x.cell? ⟨W1.heap.size, 0, none⟩ = some (.slice (some ⟨q.b, 0, none⟩) q.g.cs.length q.c) ∧ x.cell? ⟨W1.heap.size, 1, none⟩ = some (.int .i64 q.g.ca) ∧ x.cell? ⟨W1.heap.size, 2, none⟩ = some (.int .i64 q.g.hi)) ∧ (x.cell? ⟨bx, 0, none⟩ = some (.slice (some ⟨bg, 0, none⟩) gr.cs.length cg) ∧ x.cell? ⟨bx, 1, none⟩ = some (.int .i64 gr.ca) ∧ x.cell? ⟨bx, 2, none⟩ = some (.int .i64 gr.hi))) (by kernel_rfl) ?_
                  refine AnyBut.take (i := 0) (v := ?_) rfl (by kernel_rfl) (by kernel_rfl) (by kernel_rfl) (by kernel_rfl) (by decide) (fun _ _ _ h => h) (Or.inl ⟨by rfl, ?_⟩) HS0 ?_
                  rotate_left
                  · (intro x hx; obtain ⟨⟨k0, k1, k2⟩, t0, t1, t2⟩ := hx; go_simp; try with_reducible rfl)
                  try simp only [Act.put, List.setIfInBounds_toArray, List.set_cons_zero, List.set_cons_succ]
                  refine AnyBut.take (i := 1) (v := ?_) rfl (by kernel_rfl) (by kernel_rfl) (by kernel_rfl) (by kernel_rfl) (by decide) (fun _ _ _ h => h) (Or.inl ⟨by rfl, ?_⟩) HS0 ?_
                  rotate_left
                  · (intro x hx; obtain ⟨⟨k0, k1, k2⟩, t0, t1, t2⟩ := hx; go_simp; try with_reducible rfl)
                  try simp only [Act.put, List.setIfInBounds_toArray, List.set_cons_zero, List.set_cons_succ]
                  refine AnyBut.take (i := 3) (v := ?_) rfl (by kernel_rfl) (by kernel_rfl) (by kernel_rfl) (by kernel_rfl) (by decide) (fun _ _ _ h => h) (Or.inl ⟨by rfl, ?_⟩) HS0 ?_
                  rotate_left
                  · (intro x hx; obtain ⟨⟨k0, k1, k2⟩, t0, t1, t2⟩ := hx; go_simp; try with_reducible rfl)
                  try simp only [Act.put, List.setIfInBounds_toArray, List.set_cons_zero, List.set_cons_succ]
                  refine AnyBut.take (i := 4) (v := ?_) rfl (by kernel_rfl) (by kernel_rfl) (by kernel_rfl) (by kernel_rfl) (by decide) (fun _ _ _ h => h) (Or.inl ⟨by rfl, ?_⟩) HS0 ?_
                  rotate_left
                  · (intro x hx; obtain ⟨⟨k0, k1, k2⟩, t0, t1, t2⟩ := hx; go_simp; try with_reducible rfl)
                  try simp only [Act.put, List.setIfInBounds_toArray, List.set_cons_zero, List.set_cons_succ]
                  refine AnyBut.take (i := 6) (v := ?_) rfl (by kernel_rfl) (by kernel_rfl) (by kernel_rfl) (by kernel_rfl) (by decide) (fun _ _ _ h => h) (Or.inl ⟨by rfl, ?_⟩) HS0 ?_
                  rotate_left
                  · (intro x hx; obtain ⟨⟨k0, k1, k2⟩, t0, t1, t2⟩ := hx; go_simp; try with_reducible rfl)
                  try simp only [Act.put, List.setIfInBounds_toArray, List.set_cons_zero, List.set_cons_succ]
                  refine AnyBut.take (i := 7) (v := ?_) rfl (by kernel_rfl) (by kernel_rfl) (by kernel_rfl) (by kernel_rfl) (by decide) (fun _ _ _ h => h) (Or.inl ⟨by rfl, ?_⟩) HS0 ?_
                  rotate_left
                  · (intro x hx; obtain ⟨⟨k0, k1, k2⟩, t0, t1, t2⟩ := hx; go_simp; try with_reducible rfl)
                  try simp only [Act.put, List.setIfInBounds_toArray, List.set_cons_zero, List.set_cons_succ]
                  refine AnyBut.take (i := 8) (v := ?_) rfl (by kernel_rfl) (by kernel_rfl) (by kernel_rfl) (by kernel_rfl) (by decide) (fun _ _ _ h => h) (Or.inl ⟨by rfl, ?_⟩) HS0 ?_
                  rotate_left
                  · (intro x hx; obtain ⟨⟨k0, k1, k2⟩, t0, t1, t2⟩ := hx; go_simp; try with_reducible rfl)
                  try simp only [Act.put, List.setIfInBounds_toArray, List.set_cons_zero, List.set_cons_succ]
                  refine AnyBut.take (i := 9) (v := ?_) rfl (by kernel_rfl) (by kernel_rfl) (by kernel_rfl) (by kernel_rfl) (by decide) (fun _ _ _ h => h) (Or.inl ⟨by rfl, ?_⟩) HS0 ?_
                  rotate_left
                  · (intro x hx; obtain ⟨⟨k0, k1, k2⟩, t0, t1, t2⟩ := hx; go_simp; try with_reducible rfl)
                  try simp only [Act.put, List.setIfInBounds_toArray, List.set_cons_zero, List.set_cons_succ]
                  refine AnyBut.take (i := 10) (v := ?_) rfl (by kernel_rfl) (by kernel_rfl) (by kernel_rfl) (by kernel_rfl) (by decide) (fun _ _ _ h => h) (Or.inl ⟨by rfl, ?_⟩) HS0 ?_
                  rotate_left
                  · (intro x hx; obtain ⟨⟨k0, k1, k2⟩, t0, t1, t2⟩ := hx; go_simp; try with_reducible rfl)
                  try simp only [Act.put, List.setIfInBounds_toArray, List.set_cons_zero, List.set_cons_succ]
                  refine AnyBut.take (i := 11) (v := ?_) rfl (by kernel_rfl) (by kernel_rfl) (by kernel_rfl) (by kernel_rfl) (by decide) (fun _ _ _ h => h) (Or.inl ⟨by rfl, ?_⟩) HS0 ?_
                  rotate_left
                  · (intro x hx; obtain ⟨⟨k0, k1, k2⟩, t0, t1, t2⟩ := hx; go_simp; try with_reducible rfl)
                  try simp only [Act.put, List.setIfInBounds_toArray, List.set_cons_zero, List.set_cons_succ]
                  refine AnyBut.take (i := 12) (v := ?_) rfl (by kernel_rfl) (by kernel_rfl) (by kernel_rfl) (by kernel_rfl) (by decide) (fun _ _ _ h => h) (Or.inl ⟨by rfl, ?_⟩) HS0 ?_
                  rotate_left
                  · (intro x hx; obtain ⟨⟨k0, k1, k2⟩, t0, t1, t2⟩ := hx; go_simp; try with_reducible rfl)
                  try simp only [Act.put, List.setIfInBounds_toArray, List.set_cons_zero, List.set_cons_succ]
                  refine AnyBut.take (i := 13) (v := ?_) rfl (by kernel_rfl) (by kernel_rfl) (by kernel_rfl) (by kernel_rfl) (by decide) (fun _ _ _ h => h) (Or.inl ⟨by rfl, ?_⟩) HS0 ?_
                  rotate_left
                  · (intro x hx; obtain ⟨⟨k0, k1, k2⟩, t0, t1, t2⟩ := hx; go_simp; try with_reducible rfl)
                  try simp only [Act.put, List.setIfInBounds_toArray, List.set_cons_zero, List.set_cons_succ]
                  refine AnyBut.take (i := 14) (v := ?_) rfl (by kernel_rfl) (by kernel_rfl) (by kernel_rfl) (by kernel_rfl) (by decide) (fun _ _ _ h => h) (Or.inl ⟨by rfl, ?_⟩) HS0 ?_
                  rotate_left
                  · (intro x hx; obtain ⟨⟨k0, k1, k2⟩, t0, t1, t2⟩ := hx; go_simp; try with_reducible rfl)
                  try simp only [Act.put, List.setIfInBounds_toArray, List.set_cons_zero, List.set_cons_succ]
                  refine AnyBut.take (i := 15) (v := ?_) rfl (by kernel_rfl) (by kernel_rfl) (by kernel_rfl) (by kernel_rfl) (by decide) (fun _ _ _ h => h) (Or.inl ⟨by rfl, ?_⟩) HS0 ?_
                  rotate_left
                  · (intro x hx; obtain ⟨⟨k0, k1, k2⟩, t0, t1, t2⟩ := hx; go_simp; try with_reducible rfl)
                  try simp only [Act.put, List.setIfInBounds_toArray, List.set_cons_zero, List.set_cons_succ]
                  refine AnyBut.one (i := 2) (by kernel_rfl) rfl (fun K hK => ?_)
                  have HK := Lib.hid hK
                  clear hK
                  go_simp
                  go_at_call 70
                  refine (HOW.out W8.drew R8.out).mono ?_
                  rintro e w3 ⟨g3, c3, rfl, ho3, b3⟩
                  have O3 := Lib.hid (show w3.ownsRow W8.heap.size 3 1 (.slice (some ⟨g3, 0, none⟩) q.g.cs.length c3) q.g.cs.length (iv q.g.cs) from ho3)
                  have B3 := Lib.hid (show Below W8.heap.size W8 w3 from (Below.refl W8.heap.size W8).drew.trans b3)
                  have J3 := Lib.hid (J8.out.later hz8 B3.out)
                  have HS3 := And.intro (HQL.out.below B3.out).cells J3.out.box.cells
                  clear ho3 b3 HS0
                  refine HK.out _ _ ⟨fun _ => HS3, ?_⟩
                  clear HK K
                  try simp only [Act.put, List.setIfInBounds_toArray, List.set_cons_zero, List.set_cons_succ]
                  refine AnyBut.one (i := 5) (by kernel_rfl) rfl (fun K hK => ?_)
                  have HK := Lib.hid hK
                  clear hK
                  refine step_own (by rfl) _ _ _ (by rfl) W8.heap.size 3 i0 (.int .i64 0) 1 8 Try.underlying22 hi0' hn0 hn1 hn2 rfl (by decide) (.slice (some ⟨g3, 0, none⟩) q.g.cs.length c3) q.g.cs.length (iv q.g.cs) (by rfl) O3.out ⟨bg, 0, none⟩ gr.cs.length cg (iv gr.cs) (by rfl) (by rw [iv_length]; omega) (GeR.cells J3.out.row) (iv_one _) (by have := HFL2.out; unfold maxLen; omega) (by have := HFL2.out; omega) (by have := B3.out.size; exact this) ?_
                  intro v4 w4 hown4 hgrow4
                  obtain ⟨g4, c4, rfl, hb4, _⟩ := hown4.form (by have := HCG.out; omega)
                  have O4 := Lib.hid hown4
                  have L4 := Lib.hid hb4
                  have B4 := Lib.hid (B3.out.grown hgrow4 B3.out.size (fun j hj => (O3.out.lt j hj).1))
                  have J4 := Lib.hid (J8.out.later hz8 B4.out)
                  have HS4 := And.intro (HQL.out.below B4.out).cells J4.out.box.cells
                  clear hown4 hgrow4 hb4 HS3
                  refine HK.out _ _ ⟨fun _ => HS4, ?_⟩
                  clear HK K
                  try simp only [Act.put, List.setIfInBounds_toArray, List.set_cons_zero, List.set_cons_succ]
                  refine AnyBut.take (i := 16) (v := ?_) rfl (by kernel_rfl) (by kernel_rfl) (by kernel_rfl) (by kernel_rfl) (by decide) (fun _ _ _ h => h) (Or.inl ⟨by rfl, ?_⟩) HS4 ?_
                  rotate_left
                  · (intro x hx; obtain ⟨⟨k0, k1, k2⟩, t0, t1, t2⟩ := hx; go_simp; try with_reducible rfl)
                  try simp only [Act.put, List.setIfInBounds_toArray, List.set_cons_zero, List.set_cons_succ]
                  obtain ⟨t0, t1, t2⟩ := J4.out.box.cells
                  have f0 := J4.out.box.frozen 0
                  have f1 := J4.out.box.frozen 1
                  have f2 := J4.out.box.frozen 2
                  have z4 := J4.out.box.lt
                  refine AnyBut.one (i := 17) (by kernel_rfl) rfl (fun K hK => ?_)
                  have HK := Lib.hid hK
                  clear hK HS4
                  go_simp
                  refine HK.out _ _ ⟨fun h => absurd rfl h, ?_⟩
                  clear HK K
                  try simp only [Act.put, List.setIfInBounds_toArray, List.set_cons_zero, List.set_cons_succ]
                  refine AnyBut.done (by kernel_rfl) ?_
                  go_wp2
                  go_meet
                  have J5 : GrJ (w.heap.size + 1) bx w0 (q :: Q) gr bg cg (.slice (some ⟨go, 0, none⟩) (n + 1) cap) w4 := by rw [HNN.out]; exact J4.out
                  exact ⟨g4, c4, J5.join HN.out (Nat.le_trans hz8 B4.out.size) (by have h9 := O4.out; rw [show iv q.g.cs ++ iv gr.cs = iv (q.g.cs ++ gr.cs) by simp [iv]] at h9; exact geR_of_own h9) (Nat.le_trans hz8 L4.out) _ _ _ (by show _ = Value.slice _ (q.g.cs ++ gr.cs).length _; rw [List.length_append]) rfl rfl, by simp only [World.size_setCell]; exact z4, by simp only [World.size_setCell]; exact Nat.le_trans hz8 B4.out.size⟩
                case rest =>
                  obtain ⟨b2, c2, J9, hbx9, hz9⟩ := hcut
                  have HJ9 := Lib.hid J9
                  clear J9 J8 R8 J1 R1 QL
                  go_wp2
                  go_roundg Q.length
                  case rel => exact ⟨Q, q.g.join gr, b2, c2, rfl, HE.out, HJ9.out, hbx9, hz9⟩
                  case measure => have h9 := HGK.out; simp only [List.length_cons] at h9; omega
              · have HE := Lib.hid (show T = gr :: q.g :: Q.map GE.g by rw [HPU.out, HFB.out, decide_eq_false hf]; rfl)
                have hf2 : ¬ xx > yy := hf
                clear HPU HFB
                go_wp2_with fail
                refine wp_region_later (by kernel_rfl) (by kernel_rfl) ?_
                repeat (go_big_quiet_step (fail))
                refine wpQuiet_nil ?_
                intro _ hw'
                obtain ⟨pq, hw''⟩ := hw'
                subst hw''
                have J1 := Lib.hid (HQ.out.later hz2 pq.below)
                have hz3 : w.heap.size + 1 ≤ pq.world.heap.size := Nat.le_trans hz2 pq.below.size
                clear t0 t1 t2 p_0 p_1 p_2 p_3 p_4 p_5 k0 k1 k2
                obtain ⟨t0, t1, t2⟩ := J1.out.box.cells
                have hql : (q :: Q).length = N := by have := HN.out; have := HNN.out; simp; omega
                have hO := J1.out.st.own.alloc (.cells #[.slice (some ⟨bg, 0, none⟩) gr.cs.length cg, .int .i64 gr.ca, .int .i64 gr.hi] 92)
                rw [hql] at hO
                have HO := Lib.hid hO
                have HQL := Lib.hid hql
                clear hO hql
                go_wp2_with (at_builtin; refine wpList_append_own _ rfl _ _ 89 rfl (w.heap.size + 1) 92 iP (.agg #[.slice none 0 0, .int .i64 0, .int .i64 0]) 3 40 Try.underlying89 hP' hPz hP1 hP2 rfl (by decide) (.slice (some ⟨go, 0, none⟩) N cap) N (gev (q :: Q).reverse) rfl HO.out ⟨pq.world.heap.size, 0, none⟩ 1 1 [.slice (some ⟨bg, 0, none⟩) gr.cs.length cg, .int .i64 gr.ca, .int .i64 gr.hi] rfl rfl (World.news_of_block (heap_alloc_new _ _)) (by simp [Value.oneCell']) (by unfold maxLen; omega) (by omega) (by simp; omega) ?_; intro v2 w2 hown2 hgrow2 _; have O2 := Lib.hid hown2; have G2 := Lib.hid hgrow2; clear hown2 hgrow2)
                go_roundw
                case rel => exact ⟨k + 1, ⟨gr, bg, cg⟩ :: q :: Q, by omega, by go_num, by rw [HTT.out, HE.out]; rfl, J1.out.push hz3 (by rw [HQL.out]; exact O2.out) _ G2.out, by have := G2.out.size; simp at this; omega⟩
                case measure => simp [intOf]; omega
    · obtain rfl : k = 11 := by omega
      have hi : ¬ ((11 : Nat) : Int) < (l.length : Int) := by have := H11.out; omega
      obtain ⟨av, cv, ev⟩ := own_form HI.out.own
      have HPS := Lib.hid (show S = [] ∨ ∃ g, av = some ⟨g, 0, none⟩ ∧ w.heap.size ≤ g ∧ ∃ cur, wr.heap[g]? = some (.cells cur 92 (0, 0)) ∧ ∀ k (h : k < (gev S.reverse).length), cur[k]? = some (gev S.reverse)[k] by
        have how := HI.out.own
        rw [ev] at how
        rcases how.2 with ⟨h1, h2⟩ | ⟨g, cap, cur, h1, h2, h3, h4, h5, h6, h7⟩
        · exact .inl (List.eq_nil_of_length_eq_zero h2)
        · injection h1 with h1 _ _
          right
          refine ⟨g, h1, by omega, cur, h3, fun k hk => ?_⟩
          have hk2 : k < (cur.toList.take (S.length * 3)).length := by rw [h7]; exact hk
          have h8 : (cur.toList.take (S.length * 3))[k]? = some (gev S.reverse)[k] := by rw [h7, List.getElem?_eq_getElem hk]
          rw [List.getElem?_take] at h8
          split at h8
          · rw [← h8]; simp
          · cases h8)
      subst ev
      go_wp2
      go_ret
      exact ⟨S, av, cv, rfl, HSG.out, HPS.out, fun e he => ⟨(HI.out.rows e he).1, by have := (HI.out.rows e he).2; omega⟩, B0.out.trans (HBEL.out.mono (by have := HS0.out; omega))⟩
end Go.Proofs.Ytjpiiidjocilcaa
