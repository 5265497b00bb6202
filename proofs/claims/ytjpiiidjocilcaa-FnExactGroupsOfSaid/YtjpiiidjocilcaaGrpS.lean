/- The model's GroupsOf. -/
import Derived.Test.YtjpiiidjocilcaaGrpM2
import Derived.Deep.RegionLaw
namespace Go.Proofs.Ytjpiiidjocilcaa
open Go.RowKit
set_option linter.unusedVariables false
set_option linter.unusedSimpArgs false
set_option maxRecDepth 100000 in
set_option maxHeartbeats 16000000 in
theorem specGrpOf_any (a b : Option Addr) (l r : List Int) (c d : Nat) (w : World) (hl : Ints .i64 w w.heap.size a l) (hr : Ints .i64 w w.heap.size b r) :
    Calls Try.prog 32 #[.agg #[.slice a l.length c, .slice b r.length d]] w (TabPost (grpR l r) (tlB l r) w) := by
  obtain ⟨i0, hi0', hn0, hn1, hn2⟩ := info_parts infoInt
  obtain ⟨iP, hP', hPz, hP1, hP2⟩ := info_parts infoSl
  have hlW := ints_alloc (ints_alloc hl (.cells #[.slice a l.length c, .slice b r.length d] 27)) (.cells #[] 22)
  have hrW := ints_alloc (ints_alloc hr (.cells #[.slice a l.length c, .slice b r.length d] 27)) (.cells #[] 22)
  have HV := Lib.hid (specTl_is a b l r c d _ _ hlW hrW rfl)
  have B0 := Lib.hid (below_all w (.cells #[.slice a l.length c, .slice b r.length d] 27))
  have HL := Lib.hid hlW
  have HR := Lib.hid hrW
  have hlt0 : w.heap.size < ((w.alloc (.cells #[.slice a l.length c, .slice b r.length d] 27)).alloc (.cells #[] 22)).heap.size := by simp; omega
  have X0 := Lib.hid (show (w.alloc (.cells #[.slice a l.length c, .slice b r.length d] 27)).cell? ⟨w.heap.size, 0, none⟩ = some (.slice a l.length c) ∧ (w.alloc (.cells #[.slice a l.length c, .slice b r.length d] 27)).cell? ⟨w.heap.size, 1, none⟩ = some (.slice b r.length d) by constructor <;> simp [go_sem])
  have X1 := Lib.hid (show ((w.alloc (.cells #[.slice a l.length c, .slice b r.length d] 27)).alloc (.cells #[] 22)).cell? ⟨w.heap.size, 0, none⟩ = some (.slice a l.length c) ∧ ((w.alloc (.cells #[.slice a l.length c, .slice b r.length d] 27)).alloc (.cells #[] 22)).cell? ⟨w.heap.size, 1, none⟩ = some (.slice b r.length d) from
    ⟨(World.cell?_alloc_lt _ _ _ (by simp)).trans X0.out.1, (World.cell?_alloc_lt _ _ _ (by simp)).trans X0.out.2⟩)
  have T0 := Lib.hid (show Tg (w.heap.size + 1) (w.alloc (.cells #[.slice a l.length c, .slice b r.length d] 27)) [] [] (.slice (some ⟨w.heap.size + 1, 0, none⟩) 0 0) ((w.alloc (.cells #[.slice a l.length c, .slice b r.length d] 27)).alloc (.cells #[] 22)) from by
    have h := World.ownsRow_made (base := w.heap.size + 1) (e := 22) (size := 1) (w.alloc (.cells #[.slice a l.length c, .slice b r.length d] 27)) #[] 0 (by simp) (by unfold maxLen; omega) rfl
    rw [World.size_alloc] at h
    exact ⟨h, Tb.nil, fun E0 g c R0 s e1 _ => by simp at e1, (Below.refl _ _).alloc (by simp) _, by simp⟩)
  clear hl hr hlW hrW
  cases ht : tlB l r with
  | false =>
    have eL : grpR l r = [] := by unfold grpR; rw [ht]; rfl
    rw [eL]
    rw [ht] at HV
    clear ht eL
    go_enter Try.func32, Try.ntmps32
    go_wp2_with (go_at_call 54; refine HV.out.mono ?_; rintro e w1 ⟨rfl, b1⟩; have T1 := Lib.hid (T0.out.later b1); clear b1)
    go_ret2
    exact T1.out.post B0.out (by omega)
  | true =>
    have HG := Lib.hid (fun W (h : Ints .i64 W W.heap.size a l) (h' : Ints .i64 W W.heap.size b r) => (specGroups_any a b l r c d W h h' ht).mono fun e w' h => h.out2)
    obtain ⟨hok, hsum⟩ := cal_ok ht 11 (by omega)
    have hca := ca_sum _ hok
    have hfl : (flatC (calG l r 11).reverse.reverse).length ≤ 11 := by rw [List.reverse_reverse, cal_flat]; exact used_len l 11
    have hend : grpR l r = rT (calG l r 11).reverse (calG l r 11).reverse.length := by rw [rT_end, List.reverse_reverse]; unfold grpR; rw [if_pos ht]
    have hokR : ∀ g ∈ (calG l r 11).reverse, okG g ∧ g.ca ≤ 11000 := fun g hg => by
      have h1 := List.mem_reverse.1 hg
      have := hca g h1
      exact ⟨hok g h1, by omega⟩
    rw [hend]
    rw [ht] at HV
    unfold GrOut2 at HG
    clear hca hsum hok hend ht
    generalize (calG l r 11).reverse = Ls at *
    have HOK := Lib.hid hokR
    have HL11 := Lib.hid (show Ls.length ≤ 11 by
      rw [flatC_rev] at hfl
      have h := flat_ge (Ls.map Gr.cs) (fun s hs => by obtain ⟨g, h1, rfl⟩ := List.mem_map.1 hs; exact (hokR g h1).1.2.2.2)
      rw [List.length_map] at h
      omega)
    have HSM := Lib.hid (rT_small (fun g hg => (hokR g hg).1) hfl)
    clear hokR hfl
    go_enter Try.func32, Try.ntmps32
    go_wp2_with (first
      | (go_at_call 54; refine HV.out.mono ?_; rintro e w1 ⟨rfl, b1⟩; have T1 := Lib.hid (T0.out.later b1); have y0 := (b1.cell (p := ⟨w.heap.size, 0, none⟩) hlt0).trans X1.out.1; have y1 := (b1.cell (p := ⟨w.heap.size, 1, none⟩) hlt0).trans X1.out.2; have LA := Lib.hid (ints_below HL.out b1); have RA := Lib.hid (ints_below HR.out b1); clear b1)
      | (go_at_call 69; refine (HG.out _ LA.out RA.out).mono ?_; rintro e w2 ⟨E, ga, gc, gt, rfl, hEL, hgr, hin, b2⟩; have T2 := Lib.hid (T1.out.later b2); have HEL := Lib.hid hEL; have HGR := Lib.hid hgr; have HIN0 := Lib.hid hin; have HEB := Lib.hid (show ∀ e ∈ E, e.b < w2.heap.size from fun e he => Row.lt (hin e he)); clear hEL hgr hin b2 y0 y1))
    have hlen : Ls.length = E.length := by rw [← HEL.out, List.length_map]
    have HE11 := Lib.hid (show E.length ≤ 1048576 by have := HL11.out; omega)
    rw [hlen]
    have HLEN := Lib.hid hlen
    clear hlen T0 T1 HL HR LA RA HV HG X0 X1
    go_loopw [6, 4] (fun i v wr => ∃ (k : Nat) (E' : List (Nat × Nat)), k ≤ E.length ∧ i = .int .i64 k ∧ Tg (w.heap.size + 1) (w.alloc (.cells #[.slice a l.length c, .slice b r.length d] 27)) E' (rT Ls k) v wr ∧ (∀ j (hj : j < E'.length), w2.heap.size ≤ E'[j].1) ∧ (E = [] ∨ (ga = some ⟨gt, 0, none⟩ ∧ Row wr gt 92 (gev E))) ∧ (∀ e ∈ E, GeR wr e.b e.g.cs) ∧ w2.heap.size ≤ wr.heap.size) (fun i _ _ => E.length - (intOf i).toNat)
    case atStart => exact ⟨0, [], Nat.zero_le _, rfl, T2.out, fun j hj => by simp at hj, HGR.out, HIN0.out, Nat.le_refl _⟩
    case round =>
      obtain ⟨k, E', hkn, rfl, hT, hge, hrw, hin, hsz⟩ := hrel
      have HT := Lib.hid hT
      have HGE := Lib.hid hge
      have HIN := Lib.hid hin
      have HSZ := Lib.hid hsz
      by_cases hk : k < E.length
      · have hrow : Row wr gt 92 (gev E) ∧ ga = some ⟨gt, 0, none⟩ := by
          rcases hrw with h | ⟨h1, h2⟩
          · rw [h] at hk; simp at hk
          · exact ⟨h2, h1⟩
        have HRW := Lib.hid hrow.1
        have hga := hrow.2
        clear hrow hT hge hrw hin hsz T2 HGR HIN0
        subst hga
        have hkL : k < Ls.length := by rw [HLEN.out]; exact hk
        have hkg : Ls[k] = E[k].g := by have h := HEL.out; subst h; simp
        have hokk := HOK.out _ (List.getElem_mem hkL)
        rw [hkg] at hokk
        have hki : (k : Int) < (E.length : Int) := by omega
        have hki0 : (0 : Int) ≤ (k : Int) := by omega
        have HCP := Lib.hid (List.length_pos_iff.2 hokk.1.2.2.2)
        have HS1 := Lib.hid (HSM.out k)
        have HS2 := Lib.hid (HSM.out (k + 1))
        obtain ⟨c0, c1, c2⟩ := gr_cells HRW.out hk
        have hgl := HRW.out.lt
        by_cases h0 : k = 0
        · subst h0
          obtain ⟨f1, f2⟩ := rT_first hkL
          rw [hkg] at f2
          have HNX := Lib.hid (show rT Ls (0 + 1) = rT Ls 0 ++ [E[0].g.cs] by rw [f2, f1])
          have HC11 := Lib.hid (show E[0].g.cs.length ≤ 11 by have h := HS2.out.1; rw [HNX.out] at h; simp at h; omega)
          have HRL := Lib.hid (show (rT Ls 0).length = 0 from rfl)
          have HK1 := Lib.hid (show 0 + 1 ≤ E.length ∧ True from ⟨hk, trivial⟩)
          obtain ⟨av, cv, ev⟩ := own_form HT.out.o
          rw [HRL.out] at ev
          subst ev
          have HM11 := Lib.hid (show 0 ≤ 11 by omega)
          clear f1 f2 hkg hokk c0 c1 c2
          generalize hRI : rT Ls 0 = RI at *
          clear hRI
          go_wp2_with fail
          refine wp_region_later (by kernel_rfl) (by kernel_rfl) ?_
          repeat (go_big_quiet_step (fail))
          refine wpQuiet_nil ?_
          intro _ hw'
          obtain ⟨pq, hw''⟩ := hw'
          subst hw''
          have TX := Lib.hid (HT.out.later pq.below)
          have HRX := Lib.hid (Row.grown HRW.out (gb_none pq.below) (by simp))
          have HIX := Lib.hid (show ∀ e ∈ E, GeR pq.world e.b e.g.cs from fun e he => Row.grown (HIN.out e he) (gb_none pq.below) (by simp))
          have HSX := Lib.hid (show w2.heap.size ≤ pq.world.heap.size from Nat.le_trans HSZ.out pq.below.size)
          have q0 := (gr_cells HRX.out hk).1
          have RWX := Lib.hid (HIX.out _ (List.getElem_mem hk))
          generalize pq.world = WX at *
          generalize hcs : E[0].g.cs = cs at *
          generalize E[0].b = eb at *
          generalize E[0].c = ec at *
          clear hcs
          have hkb : 0 + 1 ≤ 1048576 := by have h1 := HE11.out; have h2 := HK1.out.1; omega
          go_wp2_with (first
            | (go_at_call 70; refine (l1OwnR_any eb cs ec _ RWX.out (by have := HC11.out; omega) HCP.out).mono ?_; rintro e w3 ⟨g3, c3, rfl, ho3, b3⟩; have O3 := Lib.hid ho3; have T3 := Lib.hid (TX.out.later b3); have B3 := Lib.hid b3; clear ho3 b3)
            | (at_builtin; refine wpList_append_own _ rfl _ _ 48 rfl (w.heap.size + 1) 22 iP (.slice none 0 0) 1 24 Try.underlying48 hP' hPz hP1 hP2 rfl (by decide) (.slice av 0 cv) 0 (tabV E' RI) rfl ((show w3.ownsRow (w.heap.size + 1) 22 1 (.slice av 0 cv) 0 (tabV E' RI) from by have h9 := T3.out.o; rw [HRL.out] at h9; exact h9).alloc _) ⟨w3.heap.size, 0, none⟩ 1 1 [.slice (some ⟨g3, 0, none⟩) cs.length c3] rfl rfl (World.news_of_block (heap_alloc_new _ _)) (by simp [Value.oneCell']) (by have := HM11.out; unfold maxLen; omega) (by have := HM11.out; omega) (by have := T3.out.z; simp; omega) ?_; intro v4 w4 hown4 hgrow4 _; have O4 := Lib.hid hown4; have G4 := Lib.hid hgrow4; clear hown4 hgrow4))
          have NE := Lib.hid (show ∀ j (hj : j < E'.length), E'[j].1 ≠ g3 from fun j hj => by
            have h1 := (TX.out.t.row j hj (by have := TX.out.t.len; omega)).2.1
            have h2 := (O3.out.lt g3 rfl).1
            omega)
          have T4 := Lib.hid (T3.out.put (s := cs) (own_baseN O3.out TX.out.z) NE.out HCP.out G4.out (by have h9 := O4.out; rw [HRL.out]; exact h9))
          have HGE4 := Lib.hid (show ∀ j (hj : j < (E' ++ [(g3, c3)]).length), w2.heap.size ≤ (E' ++ [(g3, c3)])[j].1 from by
            intro j hj
            by_cases h : j < E'.length
            · rw [List.getElem_append_left h]; exact HGE.out j h
            · rw [List.getElem_append_right (by omega)]
              have e : j - E'.length = 0 := by simp at hj; omega
              simp only [e, List.getElem_cons_zero]
              have h2 := (O3.out.lt g3 rfl).1
              have h3 := HSX.out
              omega)
          have FAR := Lib.hid (fun k vs t (hk : Row w3 k t vs) (hne : 22 ≠ t) => own_ne_row (T3.out.o) hk (by exact hne))
          have HRW4 := Lib.hid (show Row w4 gt 92 (gev E) from by
            have h1 := Row.grown HRX.out (gb_none B3.out) (by simp)
            have h2 := Row.grown h1 (gb_none (below_all w3 (.cells #[.slice (some ⟨g3, 0, none⟩) cs.length c3] 22))) (by simp)
            exact Row.grown h2 G4.out (FAR.out _ _ _ h1 (by decide)))
          have HIN4 := Lib.hid (show ∀ e ∈ E, GeR w4 e.b e.g.cs from fun e he => by
            have h1 := Row.grown (HIX.out e he) (gb_none B3.out) (by simp)
            have h2 := Row.grown h1 (gb_none (below_all w3 (.cells #[.slice (some ⟨g3, 0, none⟩) cs.length c3] 22))) (by simp)
            exact Row.grown h2 G4.out (FAR.out _ _ _ h1 (by decide)))
          have HS4 := Lib.hid (show w2.heap.size ≤ w4.heap.size from by have h1 := HSX.out; have h2 := B3.out.size; have h3 := G4.out.size; rw [World.size_alloc] at h3; omega)
          go_roundw
          case rel => exact ⟨0 + 1, E' ++ [(g3, c3)], by have := HK1.out.1; omega, by go_num, by rw [HNX.out]; exact T4.out, HGE4.out, .inr ⟨by trivial, HRW4.out⟩, HIN4.out, HS4.out⟩
          case measure => have := HK1.out.1; simp [intOf]; omega
        · obtain ⟨j, hj⟩ : ∃ j, j + 1 = k := ⟨k - 1, by omega⟩
          have hjE : j < E.length := by omega
          have hjL : j < Ls.length := by omega
          have hjg : Ls[j] = E[j].g := by have h := HEL.out; subst h; simp
          have hokj := HOK.out _ (List.getElem_mem hjL)
          rw [hjg] at hokj
          have f : rT Ls (k + 1) = if Ls[j].hi * Ls[k].ca = Ls[k].hi * Ls[j].ca then apL (rT Ls k) Ls[k].cs else rT Ls k ++ [Ls[k].cs] := by subst hj; exact rT_next hkL
          rw [hkg, hjg] at f
          have hne : rT Ls k ≠ [] := by subst hj; exact rT_cons hjL
          obtain ⟨d0, d1, d2⟩ := gr_cells HRW.out hjE
          obtain ⟨X, hX⟩ : ∃ X, E[j].g.hi * E[k].g.ca = X := ⟨_, rfl⟩
          obtain ⟨Y, hY⟩ : ∃ Y, E[k].g.hi * E[j].g.ca = Y := ⟨_, rfl⟩
          have wX : IntKind.i64.wrap (E[j].g.hi * E[k].g.ca) = X := by
            have h1 := hokj.1.2.1; have h2 := hokj.1.2.2.1; have h3 := hokj.2; have h4 := hokk.1.1; have h5 := hokk.2
            have m1 : 0 ≤ E[j].g.hi * E[k].g.ca := Int.mul_nonneg h1 (by omega)
            have m2 : E[j].g.hi * E[k].g.ca ≤ 11000 * 11000 := Int.mul_le_mul (by omega) h5 (by omega) (by omega)
            rw [← hX]
            exact IntWalk.i64_in _ (by omega)
          have wY : IntKind.i64.wrap (E[k].g.hi * E[j].g.ca) = Y := by
            have h1 := hokk.1.2.1; have h2 := hokk.1.2.2.1; have h3 := hokk.2; have h4 := hokj.1.1; have h5 := hokj.2
            have m1 : 0 ≤ E[k].g.hi * E[j].g.ca := Int.mul_nonneg h1 (by omega)
            have m2 : E[k].g.hi * E[j].g.ca ≤ 11000 * 11000 := Int.mul_le_mul (by omega) h5 (by omega) (by omega)
            rw [← hY]
            exact IntWalk.i64_in _ (by omega)
          rw [hX, hY] at f
          have HF := Lib.hid f
          have HK1 := Lib.hid (show k + 1 ≤ E.length ∧ True from ⟨hk, trivial⟩)
          have hkN : 0 < k := by omega
          have hk0 : (k : Int) > 0 := by omega
          have hk0' : (0 : Int) < (k : Int) := by omega
          have jw : IntKind.i64.wrap ((k : Int) - 1) = (j : Int) := by
            have h1 := hkn; have h2 := HLEN.out; have h3 := HS1.out.2.1
            rw [show (k : Int) - 1 = (j : Int) by omega]
            exact IntWalk.i64_in _ (by have := HE11.out; omega)
          have p_1 := later_cell d2 hgl
          have p_2 := later_cell c1 hgl
          have p_3 := later_cell c2 hgl
          have p_4 := later_cell d1 hgl
          clear hkg hjg hokk hokj c0 c1 c2 d0 d1 d2 f hX hY hj h0
          generalize E[j].g.hi = hi0 at *
          generalize E[j].g.ca = ca0 at *
          generalize E[k].g.hi = hi1 at *
          generalize E[k].g.ca = ca1 at *
          by_cases hq : X = Y
          · have hq2 : (X == Y) = true := by simp [hq]
            obtain ⟨E0, g, c', R0, s, go, cap, eE, eR, eo, k0, hgo, hgl2, hgg, hrw, hfz, hown⟩ := HT.out.lastrow hne
            have HNX := Lib.hid (show rT Ls (k + 1) = R0 ++ [s ++ E[k].g.cs] by rw [HF.out, if_pos hq, eR, apL_snoc])
            have HN11 := Lib.hid (show s.length + E[k].g.cs.length ≤ 11 ∧ R0.length ≤ 11 by
              have h := HS2.out.1
              have h2 := HS2.out.2.1
              rw [HNX.out] at h h2
              simp at h h2
              omega)
            have HT9 := Lib.hid (show Tg (w.heap.size + 1) (w.alloc (.cells #[.slice a l.length c, .slice b r.length d] 27)) (E0 ++ [(g, c')]) (R0 ++ [s]) (.slice (some ⟨go, 0, none⟩) (R0.length + 1) cap) wr by rw [← eE, ← eR, ← eo]; exact HT.out)
            have HGE9 := Lib.hid (show ∀ j (hj : j < (E0 ++ [(g, c')]).length), w2.heap.size ≤ (E0 ++ [(g, c')])[j].1 by rw [← eE]; exact HGE.out)
            have p_5 := later_cell k0 hgo
            clear hrw hown hfz hgg hgl2 HT HGE HF eE eR HS1 HS2 hne k0 HSM
            subst eo
            generalize hm : R0.length = m at *
            have HM0 := Lib.hid hm
            have HM1 := Lib.hid (show m ≤ 11 from HN11.out.2)
            have j1 : m < m + 1 := by omega
            have j2 : (0 : Int) ≤ (m : Int) := by omega
            have jw2 : IntKind.i64.wrap (((m + 1 : Nat) : Int) - 1) = (m : Int) := by
              rw [show (((m + 1 : Nat) : Int) - 1) = (m : Int) by omega]
              exact IntWalk.i64_in _ (by have := HM1.out; omega)
            generalize hMM : m + 1 = M at *
            have HMM := Lib.hid hMM
            clear hm hMM
            go_wp2_with fail
            refine wp_region_later (by kernel_rfl) (by kernel_rfl) ?_
            repeat (go_big_quiet_step (fail))
            refine wpQuiet_nil ?_
            intro _ hw'
            obtain ⟨pq, hw''⟩ := hw'
            subst hw''
            have HT := HT9
            have HGE := HGE9
            clear HT9 HGE9
            have kt := p_5 pq
            clear p_1 p_2 p_3 p_4 p_5 wX wY jw
            have TX := Lib.hid (HT.out.later pq.below)
            have HRX := Lib.hid (Row.grown HRW.out (gb_none pq.below) (by simp))
            have HIX := Lib.hid (show ∀ e ∈ E, GeR pq.world e.b e.g.cs from fun e he => Row.grown (HIN.out e he) (gb_none pq.below) (by simp))
            have HSX := Lib.hid (show w2.heap.size ≤ pq.world.heap.size from Nat.le_trans HSZ.out pq.below.size)
            have q0 := (gr_cells HRX.out hk).1
            have RWX := Lib.hid (HIX.out _ (List.getElem_mem hk))
            generalize pq.world = WX at *
            generalize hcs : E[k].g.cs = cs at *
            generalize E[k].b = eb at *
            generalize E[k].c = ec at *
            have TXD := Lib.hid (TX.out.later ((Below.refl _ WX).drew))
            have LO := Lib.hid (show WX.drew.ownsRow (w.heap.size + 1) 3 1 (.slice (some ⟨g, 0, none⟩) s.length c') s.length (iv s) from TXD.out.l E0 g c' R0 s rfl rfl)
            have RWD := Lib.hid (show GeR WX.drew eb cs from RWX.out)
            have NB := Lib.hid (show w.heap.size + 1 ≤ WX.drew.heap.size from TXD.out.z)
            have NF := Lib.hid (show (.slice (some ⟨g, 0, none⟩) s.length c' : Value).ownBlock ≠ some gt from own_ne_row LO.out (show Row WX.drew gt _ _ from HRX.out) (by decide))
            have HGG := Lib.hid (show w2.heap.size ≤ g from by have h := HGE.out E0.length (by simp); simpa using h)
            have HSL := Lib.hid (show s.length + cs.length ≤ 11 from HN11.out.1)
            generalize hsl : s.length = sl at *
            have HSL0 := Lib.hid hsl
            clear hcs hsl HN11
            go_wp2_with fail
            go_region_law (first
              | (refine step_own_at (by rfl) _ _ _ (by rfl) (w.heap.size + 1) 3 i0 (.int .i64 0) 1 8 Try.underlying22 hi0' hn0 hn1 hn2 rfl (by decide) (.slice (some ⟨g, 0, none⟩) sl c') sl (iv s) (by rfl) LO.out ⟨eb, 0, none⟩ cs.length ec (iv cs) (by rfl) (by rw [iv_length]; omega) (GeR.cells RWD.out) (iv_one _) (by have := HSL.out; unfold maxLen; omega) (by have := HSL.out; omega) NB.out ?_; intro v4 w4 hown4 hgrow4 hat4; obtain ⟨g2, c2, rfl⟩ := own_slice hown4 (by have := HCP.out; omega); have O4 := Lib.hid hown4; have G4 := Lib.hid hgrow4; have A4 := Lib.hid (show g2 = g ∨ g2 = WX.drew.heap.size by simpa [Value.ownBlock] using hat4); clear hown4 hgrow4 hat4; obtain ⟨kc, kf⟩ : w4.cell? ⟨go, m, none⟩ = some (.slice (some ⟨g, 0, none⟩) sl c') ∧ w4.frozen? ⟨go, m, none⟩ = false := (by have h1 := HM0.out; have h2 := HSL0.out; have h3 := HMM.out; have h4 := TXD.out; subst h3 h1 h2; exact h4.after G4.out)))
            all_goals
              have T4 := Lib.hid (show Tg (w.heap.size + 1) (w.alloc (.cells #[.slice a l.length c, .slice b r.length d] 27)) (E0 ++ [(g2, c2)]) (R0 ++ [s ++ cs]) (.slice (some ⟨go, 0, none⟩) M cap) (w4.setCell ⟨go, m, none⟩ (.slice (some ⟨g2, 0, none⟩) (sl + cs.length) c2)) by
                have h1 := HM0.out; have h2 := HSL0.out; have h3 := HMM.out; have h4 := TXD.out; have h5 := O4.out; have h6 := A4.out; have h7 := G4.out; have h8 := HCP.out
                subst h3 h1 h2
                exact h4.add (x := cs) (by omega) h7 (by rw [show iv (s ++ cs) = iv s ++ iv cs by simp [iv]]; exact h5) h6)
              have HGO := Lib.hid (fun k vs t (hk : Row WX k t vs) (hne : 22 ≠ t) => (show k ≠ go from by
                intro e
                exact own_ne_row TX.out.o hk (by exact hne) (by simp only [Value.ownBlock]; rw [e])))
              have HRW4 := Lib.hid (show Row (w4.setCell ⟨go, m, none⟩ (.slice (some ⟨g2, 0, none⟩) (sl + cs.length) c2)) gt 92 (gev E) from
                (Row.grown (show Row WX.drew gt _ _ from HRX.out) G4.out NF.out).other (p := ⟨go, m, none⟩) (HGO.out _ _ _ HRX.out (by decide)) _)
              have HIN4 := Lib.hid (show ∀ e ∈ E, GeR (w4.setCell ⟨go, m, none⟩ (.slice (some ⟨g2, 0, none⟩) (sl + cs.length) c2)) e.b e.g.cs from fun e he =>
                (Row.grown (show Row WX.drew e.b _ _ from HIX.out e he) G4.out (by have h1 := HEB.out e he; have h2 := HGG.out; simp only [Value.ownBlock]; intro h3; injection h3 with h3; omega)).other (p := ⟨go, m, none⟩) (HGO.out _ _ _ (HIX.out e he) (by decide)) _)
              have HSD := Lib.hid (show w2.heap.size ≤ WX.drew.heap.size from HSX.out)
              have HS4 := Lib.hid (show w2.heap.size ≤ (w4.setCell ⟨go, m, none⟩ (.slice (some ⟨g2, 0, none⟩) (sl + cs.length) c2)).heap.size from by rw [World.size_setCell]; exact Nat.le_trans HSD.out G4.out.size)
              have HGE4 := Lib.hid (show ∀ j (hj : j < (E0 ++ [(g2, c2)]).length), w2.heap.size ≤ (E0 ++ [(g2, c2)])[j].1 from by
                intro j hj
                by_cases h : j < E0.length
                · rw [List.getElem_append_left h]
                  have h9 := HGE.out j (by simp; omega)
                  rw [List.getElem_append_left h] at h9
                  exact h9
                · rw [List.getElem_append_right (by omega)]
                  have e : j - E0.length = 0 := by simp at hj; omega
                  simp only [e, List.getElem_cons_zero]
                  rcases A4.out with h1 | h1
                  · rw [h1]; exact HGG.out
                  · rw [h1]; exact HSD.out)
              have hkb : k + 1 ≤ 1048576 := by have h1 := HE11.out; have h2 := HK1.out.1; omega
              go_wp2
              go_roundw
              case rel => exact ⟨k + 1, E0 ++ [(g2, c2)], by have := HK1.out.1; omega, by go_num, by rw [HNX.out]; exact T4.out, HGE4.out, .inr ⟨by trivial, HRW4.out⟩, HIN4.out, HS4.out⟩
              case measure => have := HK1.out.1; simp [intOf]; omega
          · have hq2 : (X == Y) = false := by simp [hq]
            have HNX := Lib.hid (show rT Ls (k + 1) = rT Ls k ++ [E[k].g.cs] by rw [HF.out, if_neg hq])
            have HC11 := Lib.hid (show E[k].g.cs.length ≤ 11 by have h := HS2.out.1; rw [HNX.out] at h; simp at h; omega)
            have HM11 := Lib.hid HS1.out.2.1
            obtain ⟨av, cv, ev⟩ := own_form HT.out.o
            subst ev
            clear HS1 HS2 HSM HF hne
            generalize hRI : rT Ls k = RI at *
            clear hRI
            generalize hrl : RI.length = rl at *
            have HRL := Lib.hid hrl
            clear hrl
            go_wp2_with fail
            refine wp_region_later (by kernel_rfl) (by kernel_rfl) ?_
            repeat (go_big_quiet_step (fail))
            refine wpQuiet_nil ?_
            intro _ hw'
            obtain ⟨pq, hw''⟩ := hw'
            subst hw''
            clear p_1 p_2 p_3 p_4 wX wY jw
            have TX := Lib.hid (HT.out.later pq.below)
            have HRX := Lib.hid (Row.grown HRW.out (gb_none pq.below) (by simp))
            have HIX := Lib.hid (show ∀ e ∈ E, GeR pq.world e.b e.g.cs from fun e he => Row.grown (HIN.out e he) (gb_none pq.below) (by simp))
            have HSX := Lib.hid (show w2.heap.size ≤ pq.world.heap.size from Nat.le_trans HSZ.out pq.below.size)
            have q0 := (gr_cells HRX.out hk).1
            have RWX := Lib.hid (HIX.out _ (List.getElem_mem hk))
            generalize pq.world = WX at *
            generalize hcs : E[k].g.cs = cs at *
            generalize E[k].b = eb at *
            generalize E[k].c = ec at *
            clear hcs
            have hkb : k + 1 ≤ 1048576 := by have h1 := HE11.out; have h2 := HK1.out.1; omega
            go_wp2_with (first
              | (go_at_call 70; refine (l1OwnR_any eb cs ec _ RWX.out (by have := HC11.out; omega) HCP.out).mono ?_; rintro e w3 ⟨g3, c3, rfl, ho3, b3⟩; have O3 := Lib.hid ho3; have T3 := Lib.hid (TX.out.later b3); have B3 := Lib.hid b3; clear ho3 b3)
              | (at_builtin; refine wpList_append_own _ rfl _ _ 48 rfl (w.heap.size + 1) 22 iP (.slice none 0 0) 1 24 Try.underlying48 hP' hPz hP1 hP2 rfl (by decide) (.slice av rl cv) rl (tabV E' RI) rfl ((show w3.ownsRow (w.heap.size + 1) 22 1 (.slice av rl cv) rl (tabV E' RI) from by have h9 := T3.out.o; rw [HRL.out] at h9; exact h9).alloc _) ⟨w3.heap.size, 0, none⟩ 1 1 [.slice (some ⟨g3, 0, none⟩) cs.length c3] rfl rfl (World.news_of_block (heap_alloc_new _ _)) (by simp [Value.oneCell']) (by have := HM11.out; unfold maxLen; omega) (by have := HM11.out; omega) (by have := T3.out.z; simp; omega) ?_; intro v4 w4 hown4 hgrow4 _; have O4 := Lib.hid hown4; have G4 := Lib.hid hgrow4; clear hown4 hgrow4))
            have NE := Lib.hid (show ∀ j (hj : j < E'.length), E'[j].1 ≠ g3 from fun j hj => by
              have h1 := (TX.out.t.row j hj (by have := TX.out.t.len; omega)).2.1
              have h2 := (O3.out.lt g3 rfl).1
              omega)
            have T4 := Lib.hid (T3.out.put (s := cs) (own_baseN O3.out TX.out.z) NE.out HCP.out G4.out (by have h9 := O4.out; rw [HRL.out]; exact h9))
            have HGE4 := Lib.hid (show ∀ j (hj : j < (E' ++ [(g3, c3)]).length), w2.heap.size ≤ (E' ++ [(g3, c3)])[j].1 from by
              intro j hj
              by_cases h : j < E'.length
              · rw [List.getElem_append_left h]; exact HGE.out j h
              · rw [List.getElem_append_right (by omega)]
                have e : j - E'.length = 0 := by simp at hj; omega
                simp only [e, List.getElem_cons_zero]
                have h2 := (O3.out.lt g3 rfl).1
                have h3 := HSX.out
                omega)
            have FAR := Lib.hid (fun k vs t (hk : Row w3 k t vs) (hne : 22 ≠ t) => own_ne_row (T3.out.o) hk (by exact hne))
            have HRW4 := Lib.hid (show Row w4 gt 92 (gev E) from by
              have h1 := Row.grown HRX.out (gb_none B3.out) (by simp)
              have h2 := Row.grown h1 (gb_none (below_all w3 (.cells #[.slice (some ⟨g3, 0, none⟩) cs.length c3] 22))) (by simp)
              exact Row.grown h2 G4.out (FAR.out _ _ _ h1 (by decide)))
            have HIN4 := Lib.hid (show ∀ e ∈ E, GeR w4 e.b e.g.cs from fun e he => by
              have h1 := Row.grown (HIX.out e he) (gb_none B3.out) (by simp)
              have h2 := Row.grown h1 (gb_none (below_all w3 (.cells #[.slice (some ⟨g3, 0, none⟩) cs.length c3] 22))) (by simp)
              exact Row.grown h2 G4.out (FAR.out _ _ _ h1 (by decide)))
            have HS4 := Lib.hid (show w2.heap.size ≤ w4.heap.size from by have h1 := HSX.out; have h2 := B3.out.size; have h3 := G4.out.size; rw [World.size_alloc] at h3; omega)
            go_roundw
            case rel => exact ⟨k + 1, E' ++ [(g3, c3)], by have := HK1.out.1; omega, by go_num, by rw [HNX.out]; exact T4.out, HGE4.out, .inr ⟨by trivial, HRW4.out⟩, HIN4.out, HS4.out⟩
            case measure => have := HK1.out.1; simp [intOf]; omega
      · obtain rfl : k = E.length := by omega
        have hki : ¬ (E.length : Int) < (E.length : Int) := by omega
        obtain ⟨av, cv, ev⟩ := own_form HT.out.o
        have HP := Lib.hid (HT.out.post (b := true) B0.out (by omega))
        subst ev
        go_wp2
        go_ret2
        rw [HLEN.out]
        exact HP.out
end Go.Proofs.Ytjpiiidjocilcaa
