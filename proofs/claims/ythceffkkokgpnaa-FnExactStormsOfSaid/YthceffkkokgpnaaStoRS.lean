/- The model's StormsOf. -/
import Derived.Test.YthceffkkokgpnaaStoS
import Derived.Test.YthceffkkokgpnaaStoRI
import Derived.Test.YthceffkkokgpnaaRpSpec2
import Derived.Test.YthceffkkokgpnaaGood
import Derived.Deep.RegionLaw
import Derived.Deep.AppendLies
import Derived.Deep.RegionHeld3
import Derived.Deep.DeepCutAuto
namespace Go.Proofs.Ythceffkkokgpnaa
open Go.RowKit
set_option linter.unusedVariables false
set_option linter.unusedSimpArgs false
theorem own_keepsY {w w' : World} {base e size n : Nat} {v : Value} {xs : List Value} (h : w.ownsRow base e size v n xs) (hb : Below w.heap.size w w') : w'.ownsRow base e size v n xs :=
  h.kept (row := none) ⟨hb.os, hb.tape, hb.output, hb.size, fun i hi _ => hb.block i hi⟩ (by cases h1 : v.ownBlock with | none => exact .inl rfl | some k => exact .inr (by simp))
theorem OwnSt.of_own {w : World} {B n cap : Nat} {a : Option Addr} {l : List StT} (h : w.ownsRow B 26 4 (.slice a n cap) n (stv l)) : OwnSt w B a l := by
  rcases h.2 with ⟨h1, h2⟩ | ⟨g, cap', cur, h1, h2, h3, h4, h5, h6, h7⟩
  · have h9 := h.1
    rw [h2, stv_length] at h9
    have : l = [] := List.eq_nil_of_length_eq_zero (by omega)
    subst this
    exact ⟨_, Nat.le_refl _, .inl rfl⟩
  · injection h1 with h1 _ _
    subst h1
    refine ⟨g, h2, .inr ⟨rfl, cur, h3, fun k hk => ?_⟩⟩
    have e : cur.toList.take (n * 4) = stv l := h7
    have hk2 : k < (cur.toList.take (n * 4)).length := by rw [e]; exact hk
    have h8 : (cur.toList.take (n * 4))[k]? = some (stv l)[k] := by rw [e, List.getElem?_eq_getElem hk]
    rw [List.getElem?_take] at h8
    split at h8
    · rw [← h8]; simp
    · cases h8
theorem own_ne_rowS {w : World} {g base e n size : Nat} {t : TypeId} {vs xs : List Value} {v : Value} (h : w.ownsRow base e size v n xs) (hr : Row w g t vs) (hne : e ≠ t) : v.ownBlock ≠ some g := by
  obtain ⟨c, h1, _⟩ := hr
  rcases h.2 with ⟨rfl, _⟩ | ⟨g', cap, cur, rfl, _, hh, _⟩
  · simp [Value.ownBlock]
  · intro he
    have : g' = g := by simpa [Value.ownBlock] using he
    subst this
    rw [h1] at hh
    injection hh with hh
    injection hh with _ ht
    exact hne ht.symm
theorem Tabl.grownS {w w' : World} {B U base n size : Nat} {a : Option Addr} {E : List (Nat × Nat)} {R : List (List Int)} {v : Value} {xs : List Value} (h : Tabl w B U a E R) (o : w.ownsRow base 26 size v n xs) (k : w.grownBy w' v.ownBlock) : Tabl w' B U a E R :=
  ⟨h.t.keep fun g _ _ h3 ⟨vs, hr⟩ => k.block g h3 (Ne.symm (own_ne_rowS o hr (by decide))), h.o.imp_right fun ⟨g, h1, h2, h3, h4⟩ => ⟨g, h1, h2, h3, h4.of_block (k.block g h4.lt (Ne.symm (own_ne_rowS o h4 (by decide))))⟩⟩
theorem grown_cell {w w' : World} {o : Option Nat} {b i : Nat} {v : Value} (k : w.grownBy w' o) (h : w.cell? ⟨b, i, none⟩ = some v) (hb : b < w.heap.size) (hne : o ≠ some b) : w'.cell? ⟨b, i, none⟩ = some v := by
  unfold World.cell? at *
  rw [k.block b hb (Ne.symm hne)]
  exact h
theorem Tabl.blk {w : World} {B U : Nat} {a : Option Addr} {E : List (Nat × Nat)} {R : List (List Int)} (h : Tabl w B U a E R) (h0 : 0 < R.length) : ∃ g vs, a = some ⟨g, 0, none⟩ ∧ Row w g 30 vs := by
  rcases h.o with e | ⟨g, h1, _, _, h4⟩
  · rw [e] at h0; simp at h0
  · exact ⟨g, _, h1, h4⟩
theorem take_map_succ {α β : Type} (f : α → β) (R : List α) {k : Nat} (h : k < R.length) : (R.take (k + 1)).map f = (R.take k).map f ++ [f R[k]] := by
  rw [List.take_succ_eq_append_getElem h, List.map_append]; rfl
set_option maxRecDepth 100000 in
set_option maxHeartbeats 8000000 in
theorem specSO_any (wd hg : Int) (a : Option Addr) (l : List Int) (c : Nat) (lim : Int) (w : World) (hl : Ints .i64 w w.heap.size a l) (hn : l.length ≤ 1048576) :
    Calls Try.prog 35 #[.agg #[.int .i64 wd, .int .i64 hg, .slice a l.length c], .int .i64 lim] w (StRet (stoR wd hg l lim) (stoB wd hg l lim) w) := by
  obtain ⟨iP, hP', hPz, hP1, hP2⟩ := info_parts infoSt
  have HFB := Lib.hid (fbox w wd hg a l.length c)
  obtain ⟨wz, hwz⟩ : ∃ q, w.alloc (.cells #[.int .i64 wd, .int .i64 hg, .slice a l.length c] 54) = q := ⟨_, rfl⟩
  rw [hwz] at HFB
  have hzz : wz.heap.size = w.heap.size + 1 := by rw [← hwz]; simp
  have BZ : Below w.heap.size w wz := by rw [← hwz]; exact below_all _ _
  have C0 : Below wz.heap.size wz (wz.alloc (.cells #[] 26)) := below_all _ _
  have O0 := World.ownsRow_made (base := wz.heap.size) (e := 26) (size := 4) wz #[] 0 (Nat.le_refl _) (by unfold maxLen; omega) rfl
  rw [hzz] at O0
  have HO0 := Lib.hid O0
  obtain ⟨w0, hw0⟩ : ∃ q, wz.alloc (.cells #[] 26) = q := ⟨_, rfl⟩
  rw [hw0] at HO0 C0
  have D0 := Lib.hid C0
  have BZZ := Lib.hid BZ
  have HW := Lib.hid (show (w.alloc (.cells #[.int .i64 wd, .int .i64 hg, .slice a l.length c] 54)).alloc (.cells #[] 26) = w0 by rw [hwz]; exact hw0)
  have HI := Lib.hid (fun W (G : Below wz.heap.size wz W) => show Ints .i64 W W.heap.size a l from ((hl.below (below_then BZ G) (Nat.le_refl _)).more (below_then BZ G).size))
  have HZ := Lib.hid (And.intro hzz trivial)
  clear hwz hzz BZ C0 O0 hw0 hl
  obtain ⟨k0, k1, k2⟩ := HFB.out _ D0.out
  cases hg' : goodB wd hg l with
  | false =>
    have HE := Lib.hid (stoB_bad (lim := lim) hg')
    rw [stoR_no HE.out, HE.out]
    have HA := Lib.hid (fun W h => specGood_is wd hg a l c W.heap.size false W h (Nat.le_refl _) hn hg')
    clear hg'
    go_enter Try.func35, Try.ntmps35
    go_wp2_with fail
    rw [HW.out]
    go_wp2_with fail
    refine (HA.out _ (HI.out _ D0.out)).mono ?_
    rintro e w1 ⟨rfl, b1⟩
    have B1 := Lib.hid (below_then BZZ.out (below_then D0.out b1))
    clear b1 k0 k1 k2
    go_wp2
    refine bodyPost_ret (v := .tuple #[.slice (some ⟨w.heap.size + 1, 0, none⟩) 0 0, .bool false]) (by simp [results, Try.results35, go_sem]) rfl ?_
    exact ⟨_, _, rfl, ⟨_, Nat.le_refl _, .inl rfl⟩, B1.out⟩
  | true =>
    have HA := Lib.hid (fun W h => specGood_is wd hg a l c W.heap.size true W h (Nat.le_refl _) hn hg')
    have hwd := (shapeB_iff.1 (good_shape hg')).1
    have hl64 := (good_le hg').2
    have HAB := Lib.hid (fun W h => above_any wd hg a l c lim W h hn)
    have HP := Lib.hid (fun a1 c1 W h => l8Parts_any wd hg a1 (aboP l lim l.length) c1 W h (abo_reg hg'))
    unfold IntsPost at HAB
    unfold TabOne at HP
    have HPO := Lib.hid (fun r (hr : r ∈ prtR wd l lim) => prt_pos (lim := lim) hg' hr)
    have HPL := Lib.hid (fun r (hr : r ∈ prtR wd l lim) => prt_len hr)
    have HPB := Lib.hid (fun r (hr : r ∈ prtR wd l lim) => prt_bd hr)
    have HMANY := Lib.hid (fun h => stoB_many (wd := wd) (hg := hg) (l := l) (lim := lim) h)
    have HYES := Lib.hid (fun h => stoB_yes (wd := wd) (hg := hg) (l := l) (lim := lim) hg' h)
    have HNO := Lib.hid (fun h => stoR_no (wd := wd) (hg := hg) (l := l) (lim := lim) h)
    have HRY := Lib.hid (fun h => stoR_yes (wd := wd) (hg := hg) (l := l) (lim := lim) h)
    have HRE := Lib.hid (show partsP wd (aboP l lim l.length) (aboP l lim l.length).length = prtR wd l lim from rfl)
    rw [HRE.out] at HP
    generalize prtR wd l lim = R at *
    generalize aboP l lim l.length = rg at *
    clear hg' HRE
    go_enter Try.func35, Try.ntmps35
    go_wp2_with fail
    rw [HW.out]
    go_wp2_with fail
    refine (HA.out _ (HI.out _ D0.out)).mono ?_
    rintro e w1 ⟨rfl, b1⟩
    have D1 := Lib.hid (below_then D0.out b1)
    have O1 := Lib.hid (own_keepsY HO0.out b1)
    clear b1 k0 k1 k2 HA
    go_upto_region 4 with fail
    go_cut [7] (fun p wx => ∃ a3 c3 E, p = .slice a3 R.length c3 ∧ Tabl wx 0 wx.heap.size a3 E R ∧ Below w1.heap.size w1 wx)
    case first =>
      have Dq := Lib.hid D1.out.drew
      have Wq := Lib.hid (Below.refl w1.heap.size w1).drew
      obtain ⟨k0, k1, k2⟩ := HFB.out _ Dq.out
      go_region_held3 (fun w' => w'.cell? ⟨w.heap.size, 0, none⟩ = some (.int .i64 wd) ∧ w'.cell? ⟨w.heap.size, 1, none⟩ = some (.int .i64 hg) ∧ w'.cell? ⟨w.heap.size, 2, none⟩ = some (.slice a l.length c))
        (first | exact HFB.out _ D3.out | exact HFB.out _ D2.out | exact HFB.out _ Dq.out | go_keep)
        (first
          | (go_at_call 87; refine (HAB.out _ (HI.out _ Dq.out)).mono ?_; rintro e w2 ⟨a2, c2, rfl, o2, b2⟩; have D2 := Lib.hid (below_then Dq.out b2); have W2 := Lib.hid (below_then Wq.out b2); have P2 := Lib.hid o2.ints; clear o2 b2)
          | (go_at_call 86; refine (HP.out _ _ _ P2.out).mono ?_; rintro e w3 ⟨a3, c3, E, rfl, t3, b3⟩; have D3 := Lib.hid (below_then D2.out b3); have W3 := Lib.hid (below_then W2.out b3); have T3 := Lib.hid (t3.more (Nat.zero_le _) (Nat.le_refl _)); clear t3 b3))
      all_goals
        go_wp2
        go_meet
        exact ⟨_, _, _, rfl, T3.out, W3.out⟩
    case rest =>
      obtain ⟨a3, c3, E, rfl, T3', W3'⟩ := hcut
      have T3 := Lib.hid T3'
      have W3 := Lib.hid W3'
      have D3 := Lib.hid (below_then D1.out W3')
      have O3 := Lib.hid (own_keepsY O1.out W3')
      clear T3' W3' D1 O1 HAB HP
      by_cases h5 : R.length ≤ 5
      · have HB := Lib.hid (HYES.out h5)
        have HRR := Lib.hid (HRY.out HB.out)
        have hn5 : ¬ (R.length : Int) > 5 := by omega
        clear HMANY HNO HYES HRY
        go_wp2
        clear hn5
        go_loopw [6, 8] (fun v i wr => ∃ k : Nat, k ≤ R.length ∧ i = .int .i64 k ∧ wr.ownsRow (w.heap.size + 1) 26 4 v k (stv ((R.take k).map (stO wd l))) ∧ Tabl wr 0 wr.heap.size a3 E R ∧ Below wz.heap.size wz wr) (fun _ i _ => R.length - (intOf i).toNat)
        case atStart => exact ⟨0, Nat.zero_le _, rfl, O3.out, T3.out, D3.out⟩
        case round =>
          obtain ⟨k, hk, rfl, hown, hT, hD⟩ := hrel
          have HO := Lib.hid hown
          have HT := Lib.hid hT
          have HD := Lib.hid hD
          clear hown hT hD
          by_cases hlt : k < R.length
          · have hi : (k : Int) < (R.length : Int) := by omega
            have hi0 : (0 : Int) ≤ (k : Int) := by omega
            obtain ⟨gb, vsb, hgb, hrb⟩ := HT.out.blk (by omega)
            obtain ⟨gp, he, rfl, hgp, hcp⟩ := HT.out.at_ hlt
            injection hgb with hgb
            injection hgb with hgb hgb2 hgb3
            subst hgb
            clear hgb2 hgb3
            have HNE := Lib.hid (And.intro (show u6.ownBlock ≠ some w.heap.size from fun e => by have := (HO.out.lt _ e).1; omega) (own_ne_rowS HO.out hrb (by decide)))
            clear hrb
            have HIN := Lib.hid (HT.out.ints he hlt)
            have hmem := List.getElem_mem hlt
            have hp0 := HPO.out _ hmem
            have hp1 := HPL.out _ hmem
            have hpb := HPB.out _ hmem
            have HST := Lib.hid (take_map_succ (stO wd l) R hlt)
            have HC := Lib.hid (fun W h1 h2 => specSto_any wd hg a l c (some ⟨(E[k]'he).1, 0, none⟩) (R[k]'hlt) (E[k]'he).2 W h1 h2 hwd hl64 hp0 (by omega) hpb)
            unfold entV at hcp
            generalize R[k] = r at *
            obtain ⟨⟨x0, x1, x2, x3⟩, hx⟩ : ∃ s, stO wd l r = s := ⟨_, rfl⟩
            rw [hx] at HC HST
            clear hx hmem hp0 hp1 hpb
            have HFW := Lib.hid (HFB.out _ HD.out)
            have hfz : w.heap.size < wr.heap.size := by have := HD.out.size; have := HZ.out.1; omega
            have HKP := Lib.hid (fun W (G : Below wr.heap.size wr W) => show (W.cell? ⟨w.heap.size, 0, none⟩ = some (.int .i64 wd) ∧ W.cell? ⟨w.heap.size, 1, none⟩ = some (.int .i64 hg) ∧ W.cell? ⟨w.heap.size, 2, none⟩ = some (.slice a l.length c)) ∧ W.cell? ⟨gp, k, none⟩ = some (.slice (some ⟨(E[k]'he).1, 0, none⟩) r.length (E[k]'he).2) from ⟨HFB.out _ (HD.out.trans (G.mono HD.out.size)), (G.cell (p := ⟨gp, k, none⟩) hgp).trans hcp⟩)
            have Gq := Lib.hid (Below.refl wr.heap.size wr).drew
            have HO4 := Lib.hid (own_keepsY HO.out Gq.out)
            have hk5 : k ≤ 5 := by omega
            obtain ⟨⟨k0, k1, k2⟩, k3⟩ := HKP.out _ Gq.out
            go_wp2_with fail
            go_region_held3 (fun w' => (w'.cell? ⟨w.heap.size, 0, none⟩ = some (.int .i64 wd) ∧ w'.cell? ⟨w.heap.size, 1, none⟩ = some (.int .i64 hg) ∧ w'.cell? ⟨w.heap.size, 2, none⟩ = some (.slice a l.length c)) ∧ w'.cell? ⟨gp, k, none⟩ = some (.slice (some ⟨(E[k]'he).1, 0, none⟩) r.length (E[k]'he).2))
              (first | exact S9.out | exact HKP.out _ (G5.out.alloc G5.out.size _) | exact HKP.out _ G5.out | exact HKP.out _ Gq.out | go_keep)
              (first
                | (refine step_append_lies _ (by rfl) _ _ _ (by rfl) (w.heap.size + 1) 26 iP _ 4 32 Try.underlying33 hP' hPz hP1 hP2 rfl (by omega) _ k (stv ((R.take k).map (stO wd l))) (by rfl) (O5.out.alloc _) ⟨w5.heap.size, 0, none⟩ 1 1 [.int .i64 x0, .int .i64 x1, .int .i64 x2, .int .i64 x3] (by rfl) (by rfl) (World.news_of_block (heap_alloc_new _ _)) (by simp [Value.oneCell']) (by omega) (by unfold maxLen; omega) (by omega) (by have := G5.out.size; simp; omega) _ rfl ?_; intro gg cap8 w9 hown9 hgrow9 hat9 hlt9; have HO9 := Lib.hid hown9; have HG9 := Lib.hid hgrow9; have SW := HKP.out _ (G5.out.alloc G5.out.size (.cells #[.int .i64 x0, .int .i64 x1, .int .i64 x2, .int .i64 x3] 26)); have zz5 := G5.out.size; have S9 := Lib.hid (And.intro (And.intro (grown_cell hgrow9 SW.1.1 (by rw [World.size_alloc]; omega) HNE.out.1) (And.intro (grown_cell hgrow9 SW.1.2.1 (by rw [World.size_alloc]; omega) HNE.out.1) (grown_cell hgrow9 SW.1.2.2 (by rw [World.size_alloc]; omega) HNE.out.1))) (grown_cell hgrow9 SW.2 (by rw [World.size_alloc]; omega) HNE.out.2)); clear SW; clear hown9 hgrow9 hat9 hlt9)
                | (go_at_call 88; refine (HC.out _ (HI.out _ (HD.out.trans (Gq.out.mono HD.out.size))) (HIN.out.below Gq.out (Nat.le_refl _))).mono ?_; rintro e w5 ⟨rfl, b5⟩; have G5 := Lib.hid (below_then Gq.out b5); have O5 := Lib.hid (own_keepsY HO4.out b5); have T5 := Lib.hid (((HT.out.below Gq.out (Nat.le_refl _)).more (Nat.le_refl _) (show wr.heap.size ≤ wr.drew.heap.size from Nat.le_refl _)).below b5 (Nat.le_refl _)); clear b5))
            all_goals
              have T9 := Lib.hid (Tabl.grownS ((T5.out.more (Nat.le_refl _) (show wr.drew.heap.size ≤ w5.heap.size from G5.out.size)).below (below_all w5 (.cells #[.int .i64 x0, .int .i64 x1, .int .i64 x2, .int .i64 x3] 26)) (Nat.le_refl _)) (O5.out.alloc _) HG9.out)
              have D9 := Lib.hid (((HD.out.trans (G5.out.mono HD.out.size)).alloc (Nat.le_trans HD.out.size G5.out.size) (.cells #[.int .i64 x0, .int .i64 x1, .int .i64 x2, .int .i64 x3] 26)).grown HG9.out (by have := G5.out.size; have := HD.out.size; simp; omega) (fun j hj => by have := (HO.out.lt j hj).1; have := HZ.out.1; omega))
              have zz9 := HG9.out.size
              clear k0 k1 k2 k3
              go_wp2
              go_roundw
              case rel => exact ⟨k + 1, by omega, by go_num, by rw [HST.out, stv_append]; exact HO9.out, T9.out.more (Nat.le_refl _) (by rw [World.size_alloc] at zz9; omega), D9.out⟩
              case measure => simp [intOf]; omega
          · obtain rfl : k = R.length := by omega
            rw [List.take_length] at HO
            have HLM := Lib.hid (show (R.map (stO wd l)).length = R.length by simp)
            obtain ⟨a', c', rfl⟩ : ∃ a' c', u6 = .slice a' R.length c' := by
              rcases HO.out.2 with ⟨h1, h2⟩ | ⟨g, cap', cur, h1, _⟩
              · exact ⟨_, _, by rw [h1, h2]⟩
              · exact ⟨_, _, h1⟩
            have HOO := Lib.hid (OwnSt.of_own HO.out)
            have B9 := Lib.hid (below_then BZZ.out HD.out)
            clear HO
            go_wp2
            refine bodyPost_ret (v := .tuple #[.slice a' R.length c', .bool true]) (by simp [results, Try.results35, go_sem]) rfl ?_
            rw [HB.out, HRR.out]
            exact ⟨a', c', by rw [HLM.out], HOO.out.more (Nat.le_succ _), B9.out⟩
      · have HB := Lib.hid (HMANY.out h5)
        have HRR := Lib.hid (HNO.out HB.out)
        have hn5 : (R.length : Int) > 5 := by omega
        have B3 := Lib.hid (below_then BZZ.out D3.out)
        clear HMANY HNO HYES HRY
        go_wp2
        refine bodyPost_ret (v := .tuple #[.slice (some ⟨w.heap.size + 1, 0, none⟩) 0 0, .bool false]) (by simp [results, Try.results35, go_sem]) rfl ?_
        rw [HB.out, HRR.out]
        exact ⟨_, _, rfl, ⟨_, Nat.le_refl _, .inl rfl⟩, B3.out⟩
end Go.Proofs.Ythceffkkokgpnaa
