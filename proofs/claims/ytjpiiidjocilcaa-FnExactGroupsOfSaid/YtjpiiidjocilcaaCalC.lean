/- The program's CalibrationOf. -/
import Derived.Test.YtjpiiidjocilcaaCalR
import Derived.Maps.AppendAt
namespace Go.Proofs.Ytjpiiidjocilcaa
open Go.RowKit
set_option linter.unusedVariables false
set_option linter.unusedSimpArgs false
theorem own_form {w : World} {base e size n : Nat} {v : Value} {xs : List Value} (h : w.ownsRow base e size v n xs) : ∃ a c, v = .slice a n c := by
  rcases h.2 with ⟨h1, h2⟩ | ⟨g, cap, cur, h1, _⟩
  · exact ⟨none, 0, by rw [h1, h2]⟩
  · exact ⟨_, cap, h1⟩
/-- the shares' row while it grows: nothing else of what lay in w1 turns -/
structure ShI (b0 : Nat) (w1 : World) (S : List ShT) (v : Value) (wr : World) : Prop where
  own : wr.ownsRow b0 38 2 v S.length (shv S)
  far : ∀ k, v.ownBlock = some k → k = b0 ∨ w1.heap.size ≤ k
  gap : w1.grownBy wr (some b0)
theorem ShI.later {b0 : Nat} {w1 wr w' : World} {S : List ShT} {v : Value} (h : ShI b0 w1 S v wr) (hb : Below wr.heap.size wr w') : ShI b0 w1 S v w' :=
  ⟨h.own.kept (gb_none hb) (by rcases e : v.ownBlock with _ | k; exact .inl rfl; exact .inr (by simp)), h.far,
    ⟨hb.os.trans h.gap.os, hb.tape.trans h.gap.tape, hb.output.trans h.gap.output, Nat.le_trans h.gap.size hb.size, fun i hi hne => (hb.block i (Nat.lt_of_lt_of_le hi h.gap.size)).trans (h.gap.block i hi hne)⟩⟩
theorem ShI.turn {b0 : Nat} {w1 wr w' : World} {S S' : List ShT} {v v' : Value} (h : ShI b0 w1 S v wr) (hg : wr.grownBy w' v.ownBlock) (ho : w'.ownsRow b0 38 2 v' S'.length (shv S'))
    (hat : v'.ownBlock = v.ownBlock ∨ v'.ownBlock = some wr.heap.size) : ShI b0 w1 S' v' w' := by
  refine ⟨ho, fun k hk => ?_, hg.os.trans h.gap.os, hg.tape.trans h.gap.tape, hg.output.trans h.gap.output, Nat.le_trans h.gap.size hg.size, fun i hi hne => ?_⟩
  · rcases hat with e | e
    · exact h.far k (by rw [← e]; exact hk)
    · rw [e] at hk
      injection hk with hk
      have := h.gap.size
      omega
  · refine (hg.block i (Nat.lt_of_lt_of_le hi h.gap.size) fun e => ?_).trans (h.gap.block i hi hne)
    rcases h.far i e.symm with e2 | e2
    · exact hne (by rw [e2])
    · omega
set_option maxRecDepth 100000 in
set_option maxHeartbeats 8000000 in
theorem implCal_any (a b : Option Addr) (l r : List Int) (c d : Nat) (w : World) (hl : Ints .i64 w w.heap.size a l) (hr : Ints .i64 w w.heap.size b r) :
    Calls Try.prog 28 #[.agg #[.slice a l.length c, .slice b r.length d]] w (SRet (calL l r) (calB l r) w) := by
  obtain ⟨iP, hP', hPz, hP1, hP2⟩ := info_parts infoSh
  have hlW := ints_alloc hl (.cells #[.slice a l.length c, .slice b r.length d] 27)
  have hrW := ints_alloc hr (.cells #[.slice a l.length c, .slice b r.length d] 27)
  have HV := Lib.hid (implTlIs_any a b l r c d _ hlW hrW)
  have B0 := Lib.hid (below_all w (.cells #[.slice a l.length c, .slice b r.length d] 27))
  have HL := Lib.hid hlW
  have HR := Lib.hid hrW
  have hlt0 : w.heap.size < (w.alloc (.cells #[.slice a l.length c, .slice b r.length d] 27)).heap.size := by simp
  have X0 := Lib.hid (show (w.alloc (.cells #[.slice a l.length c, .slice b r.length d] 27)).cell? ⟨w.heap.size, 0, none⟩ = some (.slice a l.length c) ∧ (w.alloc (.cells #[.slice a l.length c, .slice b r.length d] 27)).cell? ⟨w.heap.size, 1, none⟩ = some (.slice b r.length d) by constructor <;> simp [go_sem])
  clear hl hr hlW hrW
  cases ht : tlB l r with
  | false =>
    have eL : calL l r = [] := by unfold calL; rw [ht]; rfl
    have eB : calB l r = false := by unfold calB; rw [ht]; rfl
    rw [eL, eB]
    rw [ht] at HV
    clear ht eL eB
    go_enter Try.func28, Try.ntmps28
    go_wp2_with fail
    refine HV.out.mono ?_
    rintro e w1 ⟨rfl, b1⟩
    have HB := Lib.hid (B0.out.trans (b1.mono B0.out.size))
    clear b1
    go_wp2
    go_ret2
    exact ⟨_, 0, rfl, OwnSh.none_, HB.out.alloc HB.out.size _⟩
  | true =>
    have HOK := Lib.hid (cg_ok ht)
    have HAS := Lib.hid (cg_asc ht)
    have HRI := Lib.hid (fun W (h : Ints .i64 W W.heap.size a l) (h' : Ints .i64 W W.heap.size b r) => rising_any a b l r c d W h h' ht)
    have eL : calL l r = if (calG l r 11).length = 0 then [] else calS (cgL (calG l r 11)) 11 := by unfold calL; rw [if_pos ht]
    have eB : calB l r = !((calG l r 11).length == 0) := by unfold calB; rw [ht]; rfl
    have hnl := cal_len l r 11
    have hgl := cgL_len (calG l r 11)
    rw [ht] at HV
    rw [eL, eB]
    clear ht eL eB
    unfold RisePost at HRI
    generalize cgL (calG l r 11) = G at *
    generalize (calG l r 11).length = n at *
    have hS : (if n = 0 then [] else calS G 11) = calS G (endI G n) := by
      by_cases h0 : n = 0
      · rw [if_pos h0, h0]; rfl
      · rw [if_neg h0]; unfold endI; rw [if_neg h0, if_neg (by omega)]
    obtain ⟨S, hS2⟩ : ∃ S, calS G (endI G n) = S := ⟨_, rfl⟩
    obtain ⟨vb, hvb⟩ : ∃ v, (!(n == 0)) = v := ⟨_, rfl⟩
    rw [hS, hS2, hvb]
    have HS := Lib.hid hS2
    have HVB := Lib.hid hvb
    have HGL := Lib.hid hgl
    clear hgl hS hS2 hvb
    go_enter Try.func28, Try.ntmps28
    go_wp2_with fail
    refine HV.out.mono ?_
    rintro e w1 ⟨rfl, b1⟩
    have y0 := (b1.cell (p := ⟨w.heap.size, 0, none⟩) hlt0).trans X0.out.1
    have y1 := (b1.cell (p := ⟨w.heap.size, 1, none⟩) hlt0).trans X0.out.2
    have LA := Lib.hid (ints_alloc (ints_below HL.out b1) (.cells #[] 38))
    have RA := Lib.hid (ints_alloc (ints_below HR.out b1) (.cells #[] 38))
    have hlt1 : w.heap.size < w1.heap.size := Nat.lt_of_lt_of_le hlt0 b1.size
    have B1 := Lib.hid ((B0.out.trans (b1.mono B0.out.size)).alloc (Nat.le_of_lt hlt1) (.cells #[] 38))
    have OW := Lib.hid (World.ownsRow_made (base := w1.heap.size) (e := 38) (size := 2) w1 #[] 0 (Nat.le_refl _) (by unfold maxLen; omega) rfl)
    clear b1 HV HL HR
    go_wp2_with (go_at_call 68; refine (HRI.out _ LA.out RA.out).mono ?_; rintro e w2 ⟨ga, gc, rfl, hg2, hgb, b2⟩; have HG := Lib.hid hg2; have HGB := Lib.hid hgb; have HB2 := Lib.hid b2; clear hg2 hgb b2)
    have hb0 : (w1.alloc (.cells #[] 38)).heap.size = w1.heap.size + 1 := by simp
    have I0 := Lib.hid (show ShI w1.heap.size w2 (calS G (endI G 0)) (.slice (some ⟨w1.heap.size, 0, none⟩) 0 0) w2 from
      ⟨by have h9 := OW.out.kept (gb_none HB2.out) (.inr (by simp [Value.ownBlock])); exact h9, fun k hk => .inl (by simp [Value.ownBlock] at hk; omega), turn_refl _ _⟩)
    have B2 := Lib.hid (B1.out.trans (HB2.out.mono B1.out.size))
    have HGN := Lib.hid (show ∀ x, ga = some x → x.block ≠ w1.heap.size from fun x hx => by have := HGB.out x hx; omega)
    have HB1 := Lib.hid (show w1.heap.size < w2.heap.size by have := HB2.out.size; omega)
    clear y0 y1 LA RA B1 OW HB2 HGB hb0 HRI X0
    go_loopw [18, 4] (fun i v wr => ∃ k : Nat, k ≤ n ∧ i = .int .i64 k ∧ ShI w1.heap.size w2 (calS G (endI G k)) v wr) (fun i _ _ => n - (intOf i).toNat)
    case atStart => exact ⟨0, Nat.zero_le _, rfl, I0.out⟩
    case round =>
      obtain ⟨k, hk, rfl, hI⟩ := hrel
      have HI := Lib.hid hI
      clear hI I0
      by_cases hlt : k < n
      · have hkG : k < G.length := by rw [HGL.out]; exact hlt
        have HC := Lib.hid (fun m h1 h2 => cal_next HAS.out (fun p hp => (HOK.out p hp).2) (i := k) (m := m) hkG h1 h2)
        have HUP := Lib.hid (endI_up HAS.out (fun p hp => (HOK.out p hp).2) hkG)
        have hle := endI_le (fun p hp => (HOK.out p hp).2) (k + 1)
        have hok := (HOK.out _ (List.getElem_mem hkG)).1
        obtain ⟨b1, o1, ea, hb1, c0, c1, c2⟩ := HG.out.at_ hkG
        have hne := HGN.out _ ea
        have d0 := HI.out.gap.cell c0 (by intro e; injection e with e; exact hne e)
        have d1 := HI.out.gap.cell c1 (by intro e; injection e with e; exact hne e)
        have d2 := HI.out.gap.cell c2 (by intro e; injection e with e; exact hne e)
        have hi : (k : Int) < (n : Int) := by omega
        have hi0 : (0 : Int) ≤ (k : Int) := by omega
        have hkw : IntKind.i64.wrap ((k : Int) + 1) = (k : Int) + 1 := IntWalk.i64_in _ (by omega)
        have hbr : ¬ b1 = wr.heap.size := by have := HI.out.gap.size; omega
        have hbl : b1 < wr.heap.size := by have := HI.out.gap.size; omega
        have HFQ := Lib.hid (fun W => freqG_any G[k].1 G[k].2.1 G[k].2.2 W (by omega) (by omega) (by omega) (by omega))
        have hsh : shOf G[k] = (redN G[k].2.2 G[k].2.1, redD G[k].2.2 G[k].2.1) := rfl
        obtain ⟨fn, hfn⟩ : ∃ f, redN G[k].2.2 G[k].2.1 = f := ⟨_, rfl⟩
        obtain ⟨fd, hfd⟩ : ∃ f, redD G[k].2.2 G[k].2.1 = f := ⟨_, rfl⟩
        rw [hfn, hfd] at hsh HFQ
        have HFN := Lib.hid hsh
        have HB0 := Lib.hid (show w1.heap.size < w2.heap.size from HB1.out)
        clear hok hsh hfn hfd
        have HI1 := Lib.hid (HI.out.later (below_all wr (.cells #[.int .i64 G[k].1, .int .i64 G[k].2.1, .int .i64 G[k].2.2] 83)))
        have HBX := Lib.hid (Box.new wr 83 (.int .i64 G[k].1) (.int .i64 G[k].2.1) (.int .i64 G[k].2.2))
        have HFR := Lib.hid (show ∀ q, u4.ownBlock = some q → q ≠ wr.heap.size from fun q hq => by have := (HI.out.own.lt q hq).2; omega)
        by_cases hnx : k + 1 < n
        · have hk1 : k + 1 < G.length := by rw [HGL.out]; exact hnx
          obtain ⟨b2, o2, ea2, hb2, f0, f1, f2⟩ := HG.out.at_ hk1
          have h10 := (HOK.out _ (List.getElem_mem hk1)).2
          have hE0 : endI G (k + 1) = G[k + 1].1.toNat := by unfold endI; rw [if_neg (by omega), if_pos hk1, List.getD_eq_getElem?_getD, List.getElem?_eq_getElem hk1]; rfl
          have g0 := HI.out.gap.cell f0 (by intro e; injection e with e; exact HGN.out _ ea2 e)
          rw [ea] at ea2
          injection ea2 with ea2
          injection ea2 with ea3 ea4 ea5
          subst ea3
          subst ea4
          clear ea5 f0 f1 f2
          obtain ⟨E, hE⟩ : ∃ E, G[k + 1].1 = E := ⟨_, rfl⟩
          rw [hE] at g0 hE0 h10
          have HE0 := Lib.hid hE0
          have hin : (k : Int) + 1 < (n : Int) := by omega
          have hin0 : (0 : Int) ≤ (k : Int) + 1 := by omega
          clear hE hE0 c0 c1 c2
          generalize G[k].1 = f at *
          generalize G[k].2.1 = ca at *
          generalize G[k].2.2 = hi at *
          subst ea
          go_wp2_with fail
          go_loopg [4] (endI G (k + 1) - endI G k) (fun gk v wi => ∃ m : Nat, endI G k ≤ m ∧ m ≤ endI G (k + 1) ∧ gk = endI G (k + 1) - m ∧ ShI w1.heap.size w2 (calS G m) v wi ∧ (∀ q, v.ownBlock = some q → q ≠ wr.heap.size) ∧ Box wi wr.heap.size 83 (.int .i64 f) (.int .i64 ca) (.int .i64 hi))
          case atStart => exact ⟨endI G k, Nat.le_refl _, HUP.out, rfl, HI1.out, HFR.out, HBX.out⟩
          case round =>
            obtain ⟨m, hm1, hm2, hgk, hJ, hfar, hbox⟩ := hrel
            have HJ := Lib.hid hJ
            have HF2 := Lib.hid hfar
            have HX2 := Lib.hid hbox
            have HGK := Lib.hid hgk
            have hxl := hbox.lt
            obtain ⟨t0, t1, t2⟩ := hbox.cells
            clear hJ hfar hbox hgk HI1 HFR HBX
            obtain ⟨av, cv, ev⟩ := own_form HJ.out.own
            rw [calS_len] at ev
            by_cases hmE : m < endI G (k + 1)
            · have HNX := Lib.hid (HC.out m hm1 hmE)
              rw [HE0.out] at hmE
              have him : (m : Int) < E := by omega
              have hm11 : m ≤ 11 := by omega
              subst ev
              go_wp2_with (first
                | (go_at_call 66; refine (HFQ.out _).mono ?_; rintro e w3 ⟨rfl, b3⟩; have J3 := Lib.hid (HJ.out.later b3); have X3 := Lib.hid (HX2.out.below b3); have S3 := Lib.hid b3.size; clear b3)
                | (at_builtin; refine wpList_append_own_at _ rfl _ _ 43 rfl w1.heap.size 38 iP (.agg #[.int .i64 0, .int .i64 0]) 2 16 Try.underlying43 hP' hPz hP1 hP2 rfl (by decide) (.slice av m cv) m (shv (calS G m)) rfl (by have h9 := J3.out.own.alloc (.cells #[.int .i64 fn, .int .i64 fd] 38); rw [calS_len] at h9; exact h9) ⟨w3.heap.size, 0, none⟩ 1 1 [.int .i64 fn, .int .i64 fd] rfl rfl (World.news_of_block (heap_alloc_new _ _)) (by simp [Value.oneCell']) (by unfold maxLen; omega) (by omega) (by have := HB0.out; have := J3.out.gap.size; simp; omega) ?_; intro v4 w4 hown4 hgrow4 _ hat4; have O4 := Lib.hid hown4; have G4 := Lib.hid hgrow4; have A4 := Lib.hid hat4; clear hown4 hgrow4 hat4))
              go_roundg (endI G (k + 1) - (m + 1))
              case rel =>
                refine ⟨m + 1, by omega, by have := HE0.out; omega, rfl, (J3.out.later (below_all _ _)).turn G4.out (by rw [HNX.out, shv_append, List.length_append, calS_len, HFN.out]; exact O4.out) A4.out, fun q hq => ?_, ?_⟩
                · rcases A4.out with e | e
                  · exact HF2.out q (by rw [← e]; exact hq)
                  · rw [e] at hq
                    injection hq with hq
                    have h3 := S3.out
                    rw [World.size_alloc] at hq
                    omega
                · exact (X3.out.alloc _).grown G4.out (fun e => HF2.out _ e.symm rfl)
              case measure => have := HGK.out; have := HE0.out; omega
            · have hmE2 : m = endI G (k + 1) := by omega
              rw [HE0.out] at hmE
              have him : ¬ (m : Int) < E := by omega
              subst ev
              clear t0 t1 t2
              go_wp2
              go_roundw
              case rel => exact ⟨k + 1, by omega, by go_num, by have h9 := HJ.out; rw [hmE2] at h9; rw [hmE2]; exact h9⟩
              case measure => simp [intOf]; omega
        · have hE0 : endI G (k + 1) = 11 := by have := HGL.out; unfold endI; rw [if_neg (by omega), if_neg (by omega)]
          obtain ⟨E, hE⟩ : ∃ E : Int, E = 11 := ⟨_, rfl⟩
          have hE1 : endI G (k + 1) = E.toNat := by rw [hE0, hE]; rfl
          have HE0 := Lib.hid hE1
          have hin : ¬ (k : Int) + 1 < (n : Int) := by omega
          have h10 : 0 ≤ E ∧ E ≤ 11 := by omega
          subst hE
          clear hE0 hE1 c0 c1 c2
          generalize G[k].1 = f at *
          generalize G[k].2.1 = ca at *
          generalize G[k].2.2 = hi at *
          subst ea
          go_wp2_with fail
          go_loopg [4] (endI G (k + 1) - endI G k) (fun gk v wi => ∃ m : Nat, endI G k ≤ m ∧ m ≤ endI G (k + 1) ∧ gk = endI G (k + 1) - m ∧ ShI w1.heap.size w2 (calS G m) v wi ∧ (∀ q, v.ownBlock = some q → q ≠ wr.heap.size) ∧ Box wi wr.heap.size 83 (.int .i64 f) (.int .i64 ca) (.int .i64 hi))
          case atStart => exact ⟨endI G k, Nat.le_refl _, HUP.out, rfl, HI1.out, HFR.out, HBX.out⟩
          case round =>
            obtain ⟨m, hm1, hm2, hgk, hJ, hfar, hbox⟩ := hrel
            have HJ := Lib.hid hJ
            have HF2 := Lib.hid hfar
            have HX2 := Lib.hid hbox
            have HGK := Lib.hid hgk
            have hxl := hbox.lt
            obtain ⟨t0, t1, t2⟩ := hbox.cells
            clear hJ hfar hbox hgk HI1 HFR HBX
            obtain ⟨av, cv, ev⟩ := own_form HJ.out.own
            rw [calS_len] at ev
            by_cases hmE : m < endI G (k + 1)
            · have HNX := Lib.hid (HC.out m hm1 hmE)
              rw [HE0.out] at hmE
              have him : (m : Int) < (11 : Int) := by omega
              have hm11 : m ≤ 11 := by omega
              subst ev
              go_wp2_with (first
                | (go_at_call 66; refine (HFQ.out _).mono ?_; rintro e w3 ⟨rfl, b3⟩; have J3 := Lib.hid (HJ.out.later b3); have X3 := Lib.hid (HX2.out.below b3); have S3 := Lib.hid b3.size; clear b3)
                | (at_builtin; refine wpList_append_own_at _ rfl _ _ 43 rfl w1.heap.size 38 iP (.agg #[.int .i64 0, .int .i64 0]) 2 16 Try.underlying43 hP' hPz hP1 hP2 rfl (by decide) (.slice av m cv) m (shv (calS G m)) rfl (by have h9 := J3.out.own.alloc (.cells #[.int .i64 fn, .int .i64 fd] 38); rw [calS_len] at h9; exact h9) ⟨w3.heap.size, 0, none⟩ 1 1 [.int .i64 fn, .int .i64 fd] rfl rfl (World.news_of_block (heap_alloc_new _ _)) (by simp [Value.oneCell']) (by unfold maxLen; omega) (by omega) (by have := HB0.out; have := J3.out.gap.size; simp; omega) ?_; intro v4 w4 hown4 hgrow4 _ hat4; have O4 := Lib.hid hown4; have G4 := Lib.hid hgrow4; have A4 := Lib.hid hat4; clear hown4 hgrow4 hat4))
              go_roundg (endI G (k + 1) - (m + 1))
              case rel =>
                refine ⟨m + 1, by omega, by have := HE0.out; omega, rfl, (J3.out.later (below_all _ _)).turn G4.out (by rw [HNX.out, shv_append, List.length_append, calS_len, HFN.out]; exact O4.out) A4.out, fun q hq => ?_, ?_⟩
                · rcases A4.out with e | e
                  · exact HF2.out q (by rw [← e]; exact hq)
                  · rw [e] at hq
                    injection hq with hq
                    have h3 := S3.out
                    rw [World.size_alloc] at hq
                    omega
                · exact (X3.out.alloc _).grown G4.out (fun e => HF2.out _ e.symm rfl)
              case measure => have := HGK.out; have := HE0.out; omega
            · have hmE2 : m = endI G (k + 1) := by omega
              rw [HE0.out] at hmE
              have him : ¬ (m : Int) < (11 : Int) := by omega
              subst ev
              clear t0 t1 t2
              go_wp2
              go_roundw
              case rel => exact ⟨k + 1, by omega, by go_num, by have h9 := HJ.out; rw [hmE2] at h9; rw [hmE2]; exact h9⟩
              case measure => simp [intOf]; omega
      · obtain rfl : k = n := by omega
        have HI2 := HI.out
        rw [HS.out] at HI2
        have HF := Lib.hid HI2
        have HB9 := Lib.hid (B2.out.grown HI2.gap B2.out.size (fun j hj => by injection hj with hj; omega))
        obtain ⟨av, cv, ev⟩ := own_form HI2.own
        have hi : ¬ (k : Int) < (k : Int) := by omega
        subst ev
        clear HI HI2
        by_cases h0 : k = 0
        · obtain rfl : vb = false := by rw [← HVB.out, h0]; rfl
          have hp : ¬ (k : Int) > 0 := by omega
          go_wp2
          go_ret2
          exact ⟨av, cv, rfl, (OwnSh.of_own HF.out.own).more (by omega), HB9.out⟩
        · obtain rfl : vb = true := by rw [← HVB.out]; simp [h0]
          have hp : (k : Int) > 0 := by omega
          have hp3 : 0 < k := by omega
          go_wp2
          go_ret2
          exact ⟨av, cv, rfl, (OwnSh.of_own HF.out.own).more (by omega), HB9.out⟩
end Go.Proofs.Ytjpiiidjocilcaa
