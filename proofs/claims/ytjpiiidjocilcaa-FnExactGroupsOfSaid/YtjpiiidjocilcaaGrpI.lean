/- The program's GroupsOf. -/
import Derived.Test.YtjpiiidjocilcaaTgMem
import Derived.Test.YtjpiiidjocilcaaCalC
import Derived.Test.YtjpiiidjocilcaaShEq
namespace Go.Proofs.Ytjpiiidjocilcaa
open Go.RowKit
set_option linter.unusedVariables false
set_option linter.unusedSimpArgs false
theorem cal_len11 {l r : List Int} (h : tlB l r = true) {k : Nat} (hk : k < 11) (h0 : l.getD k 0 ≠ 0) : (calL l r).length = 11 := by
  rw [calL_yes h, calT_len, if_neg]
  intro e
  have e2 := List.eq_nil_of_length_eq_zero e
  have hf := cal_flat l r 11
  rw [e2] at hf
  have hm : ((k : Nat) : Int) ∈ usedC l 11 := by
    unfold usedC
    rw [List.mem_map]
    refine ⟨k, ?_, rfl⟩
    rw [List.mem_filter, List.mem_range]
    exact ⟨hk, by simpa using h0⟩
  rw [← hf] at hm
  simp [flatC] at hm
theorem share_cells {w : World} {g : Nat} {L : List ShT} (h : Row w g 38 (shv L)) {j : Nat} (hj : j < L.length) : w.cell? ⟨g, j * 2, none⟩ = some (.int .i64 L[j].1) ∧ w.cell? ⟨g, j * 2 + 1, none⟩ = some (.int .i64 L[j].2) := by
  have hl := shv_length L
  have e := shv_get L j hj
  have c0 := Row.cell h (k := j * 2) (by omega)
  have c1 := Row.cell h (k := j * 2 + 1) (by omega)
  rw [List.getElem?_eq_getElem (by omega), List.getElem?_eq_getElem (by omega)] at e
  rw [c0, c1]
  exact e
theorem Tg.lastrow {B : Nat} {w0 wr : World} {E : List (Nat × Nat)} {R : List (List Int)} {out : Value} (h : Tg B w0 E R out wr) (hne : R ≠ []) :
    ∃ E0 g c R0 s go cap, E = E0 ++ [(g, c)] ∧ R = R0 ++ [s] ∧ out = .slice (some ⟨go, 0, none⟩) (R0.length + 1) cap ∧ wr.cell? ⟨go, R0.length, none⟩ = some (.slice (some ⟨g, 0, none⟩) s.length c) ∧ go < wr.heap.size ∧ g < wr.heap.size ∧ go ≠ g ∧ Row wr g 3 (iv s) ∧ wr.frozen? ⟨go, R0.length, none⟩ = false ∧ wr.ownsRow B 22 1 (.slice (some ⟨go, 0, none⟩) (R0.length + 1) cap) (R0.length + 1) (tabV (E0 ++ [(g, c)]) (R0 ++ [s])) := by
  obtain ⟨R0, s, rfl⟩ : ∃ R0 s, R = R0 ++ [s] := ⟨_, _, (List.dropLast_concat_getLast hne).symm⟩
  have hl := h.t.len
  have hE : E ≠ [] := by intro e; subst e; simp at hl
  obtain ⟨E0, e, rfl⟩ : ∃ E0 e, E = E0 ++ [e] := ⟨_, _, (List.dropLast_concat_getLast hE).symm⟩
  obtain ⟨g, c⟩ := e
  obtain ⟨t0, _, _, hg, hrow⟩ := h.t.init
  have ho := h.o
  have hlen : (R0 ++ [s]).length = R0.length + 1 := by simp
  rw [hlen] at ho
  obtain ⟨go, cap, ev, _, hgo⟩ := ho.form (by omega)
  subst ev
  have hc := ho.cellAt R0.length (by omega)
  rw [tabV_snoc t0.len, List.getElem?_append_right (by rw [tabV_len t0.len]; exact Nat.le_refl _), tabV_len t0.len] at hc
  exact ⟨E0, g, c, R0, s, go, cap, rfl, rfl, rfl, by simpa [entV] using hc, hgo, hg, fun e => own_ne_row ho hrow (by decide) (by simp only [Value.ownBlock]; rw [e]), hrow, ho.frozenAt _, ho⟩
theorem flat_ge (R : List (List Int)) (h : ∀ s ∈ R, s ≠ []) : R.length ≤ R.flatten.length := by
  induction R with
  | nil => simp
  | cons a R ih =>
    have h1 := ih fun s hs => h s (List.mem_cons_of_mem _ hs)
    have h2 : 0 < a.length := List.length_pos_iff.2 (h a (List.mem_cons_self ..))
    rw [List.flatten_cons, List.length_append, List.length_cons]
    omega
theorem Tg.after {B go cap g c : Nat} {w0 wr w2 : World} {E0 : List (Nat × Nat)} {R0 : List (List Int)} {s : List Int} (h : Tg B w0 (E0 ++ [(g, c)]) (R0 ++ [s]) (.slice (some ⟨go, 0, none⟩) (R0.length + 1) cap) wr) (hgr : wr.grownBy w2 (some g)) :
    w2.cell? ⟨go, R0.length, none⟩ = some (.slice (some ⟨g, 0, none⟩) s.length c) ∧ w2.frozen? ⟨go, R0.length, none⟩ = false := by
  obtain ⟨t0, _, _, _, hrow⟩ := h.t.init
  have ho := h.o
  have hlen : (R0 ++ [s]).length = R0.length + 1 := by simp
  rw [hlen] at ho
  have hgne : go ≠ g := fun e => own_ne_row ho hrow (by decide) (by simp only [Value.ownBlock]; rw [e])
  have o2 := ho.kept hgr (.inr (by simp only [Value.ownBlock]; intro e; injection e with e; exact hgne e))
  have hc := o2.cellAt R0.length (by omega)
  rw [tabV_snoc t0.len, List.getElem?_append_right (by rw [tabV_len t0.len]; exact Nat.le_refl _), tabV_len t0.len] at hc
  exact ⟨by simpa [entV] using hc, o2.frozenAt _⟩
theorem infoSl : (Try.prog.info? 22).map (fun i => (i.zero, i.size, i.bytes)) = some (some (.slice none 0 0), 1, 24) := by kernel_rfl
set_option maxRecDepth 100000 in
set_option maxHeartbeats 8000000 in
theorem implGrp_any (a b : Option Addr) (l r : List Int) (c d : Nat) (w : World) (hl : Ints .i64 w w.heap.size a l) (hr : Ints .i64 w w.heap.size b r) :
    Calls Try.prog 33 #[.agg #[.slice a l.length c, .slice b r.length d]] w (TabPost (grpR l r) (tlB l r) w) := by
  obtain ⟨i0, hi0', hn0, hn1, hn2⟩ := info_parts infoInt
  obtain ⟨iP, hP', hPz, hP1, hP2⟩ := info_parts infoSl
  have hlW := ints_alloc hl (.cells #[.slice a l.length c, .slice b r.length d] 27)
  have hrW := ints_alloc hr (.cells #[.slice a l.length c, .slice b r.length d] 27)
  have HV := Lib.hid (implTlIs_any a b l r c d _ hlW hrW)
  have B0 := Lib.hid (below_all w (.cells #[.slice a l.length c, .slice b r.length d] 27))
  have HL := Lib.hid hlW
  have HR := Lib.hid hrW
  have hlt0 : w.heap.size < (w.alloc (.cells #[.slice a l.length c, .slice b r.length d] 27)).heap.size := by simp
  have X0 := Lib.hid (show (w.alloc (.cells #[.slice a l.length c, .slice b r.length d] 27)).cell? ⟨w.heap.size, 0, none⟩ = some (.slice a l.length c) ∧ (w.alloc (.cells #[.slice a l.length c, .slice b r.length d] 27)).cell? ⟨w.heap.size, 1, none⟩ = some (.slice b r.length d) by constructor <;> simp [go_sem])
  clear hl hr hlW hrW
  cases ht : tlB l r with
  | false =>
    have eL : grpR l r = [] := by unfold grpR; rw [ht]; rfl
    rw [eL]
    rw [ht] at HV
    clear ht eL
    go_enter Try.func33, Try.ntmps33
    go_wp2_with fail
    refine HV.out.mono ?_
    rintro e w1 ⟨rfl, b1⟩
    have HB := Lib.hid (B0.out.trans (b1.mono B0.out.size))
    clear b1
    go_wp2
    go_ret2
    exact ⟨_, 0, [], rfl, ⟨Tb.nil, .inl rfl⟩, HB.out.alloc HB.out.size _⟩
  | true =>
    have HGR := Lib.hid (grpR_is ht)
    have HC := Lib.hid (fun W (h : Ints .i64 W W.heap.size a l) (h' : Ints .i64 W W.heap.size b r) => implCal_any a b l r c d W h h')
    have HL11 := Lib.hid (fun k (hk : k < 11) h0 => cal_len11 (k := k) ht hk h0)
    obtain ⟨hl11, hr11⟩ := tl_len ht
    have H11 := Lib.hid hl11
    have hsig : sigC l r = fun c => (calL l r).getD c.toNat (0, 0) := rfl
    rw [ht] at HV
    unfold SRet at HC
    generalize hLL : calL l r = L at *
    have HSG := Lib.hid hsig
    clear hsig hLL
    generalize sigC l r = σ at *
    generalize calB l r = vb at *
    generalize grpR l r = RR at *
    clear ht hl11 hr11
    go_enter Try.func33, Try.ntmps33
    go_wp2_with fail
    refine HV.out.mono ?_
    rintro e w1 ⟨rfl, b1⟩
    have y0 := (b1.cell (p := ⟨w.heap.size, 0, none⟩) hlt0).trans X0.out.1
    have y1 := (b1.cell (p := ⟨w.heap.size, 1, none⟩) hlt0).trans X0.out.2
    have LA := Lib.hid (ints_below HL.out b1)
    have RA := Lib.hid (ints_below HR.out b1)
    have hlt1 : w.heap.size < w1.heap.size := Nat.lt_of_lt_of_le hlt0 b1.size
    have HB1 := Lib.hid (B0.out.trans (b1.mono B0.out.size))
    have Y0 := Lib.hid y0
    clear b1 HV HL HR
    have T0 := Lib.hid (show Tg w1.heap.size w1 [] [] (.slice (some ⟨w1.heap.size, 0, none⟩) 0 0) (w1.alloc (.cells #[] 22)) from
      ⟨World.ownsRow_made (base := w1.heap.size) (e := 22) (size := 1) w1 #[] 0 (Nat.le_refl _) (by unfold maxLen; omega) rfl, Tb.nil, fun E0 g c R0 s e1 _ => by simp at e1, (Below.refl _ _).alloc (Nat.le_refl _) _, by simp⟩)
    have LA1 := Lib.hid (ints_alloc LA.out (.cells #[] 22))
    have RA1 := Lib.hid (ints_alloc RA.out (.cells #[] 22))
    go_wp2_with (go_at_call 28; refine (HC.out _ LA1.out RA1.out).mono ?_; rintro e w2 ⟨sa, sc, rfl, os2, b2⟩; have OS2 := Lib.hid os2; have T2 := Lib.hid (T0.out.later b2); have y0 := (T2.out.b.cell (p := ⟨w.heap.size, 0, none⟩) hlt1).trans y0; have y1 := (T2.out.b.cell (p := ⟨w.heap.size, 1, none⟩) hlt1).trans y1; clear os2 b2)
    obtain ⟨gS, hgS, hat⟩ := OS2.out
    have HAT := Lib.hid hat
    clear y0 y1 LA1 RA1 T0 HC hat
    go_loopw [23, 4] (fun i v wr => ∃ (k : Nat) (E : List (Nat × Nat)), k ≤ 11 ∧ i = .int .i64 k ∧ Tg w1.heap.size w1 E (pgF σ (usedC l k)) v wr ∧ AtSh wr sa gS L) (fun i _ _ => 11 - (intOf i).toNat)
    case atStart => exact ⟨0, [], by omega, rfl, T2.out, HAT.out⟩
    case round =>
      obtain ⟨k, E, hk, rfl, hT, hA⟩ := hrel
      have HT := Lib.hid hT
      have HA := Lib.hid hA
      clear hT hA T2 HAT OS2
      by_cases hlt : k < 11
      · have hk1 : k < l.length := by have := H11.out; omega
        have gl := getD_at l hk1
        obtain ⟨b1, o1, ea, hb1, hc1⟩ := (LA.out.below HT.out.b (Nat.le_refl _)).at_ hk1
        have hi : (k : Int) < (l.length : Int) := by omega
        have hi0 : (0 : Int) ≤ (k : Int) := by omega
        have HUS := Lib.hid (used_step l k)
        have HLL := Lib.hid (fun h0 => HL11.out k hlt h0)
        have HPM := Lib.hid (pgF_mem σ (fun c => 0 ≤ c ∧ c < 11) (usedC l k) (fun c hc => by have := used_mem hc; omega))
        have HPF := Lib.hid (pgF_snoc σ (usedC l k) (k : Int))
        have hfl := pgF_flat σ (usedC l k)
        have hul := used_len l k
        have HFL := Lib.hid (show (pgF σ (usedC l k)).flatten.length ≤ k by rw [hfl]; exact hul)
        rw [gl] at HUS HLL
        clear gl hfl hul
        generalize usedC l k = UK at *
        generalize l[k] = x at *
        subst ea
        by_cases hx : x = 0
        · have HE := Lib.hid (show usedC l (k + 1) = UK by rw [HUS.out, if_pos hx])
          subst hx
          go_wp2
          go_roundw
          case rel => exact ⟨k + 1, E, by omega, by go_num, by rw [HE.out]; exact HT.out, HA.out⟩
          case measure => simp [intOf]; omega
        · have HE := Lib.hid (show pgF σ (usedC l (k + 1)) = stepC σ (pgF σ UK) (k : Int) by rw [HUS.out, if_neg hx, HPF.out])
          have hx2 : (x == 0) = false := by simp [hx]
          have HL9 := Lib.hid (HLL.out hx)
          have hrow : Row wr gS 38 (shv L) ∧ sa = some ⟨gS, 0, none⟩ := by
            rcases HA.out with h | ⟨h1, h2⟩
            · have := HL9.out; rw [h] at this; simp at this
            · exact ⟨h2, h1⟩
          have HRW := Lib.hid hrow.1
          have hsa := hrow.2
          clear hrow HUS HLL HPF hx
          subst hsa
          by_cases hne : pgF σ UK = []
          · have HS := Lib.hid (show stepC σ (pgF σ UK) (k : Int) = [] ++ [[(k : Int)]] by unfold stepC; rw [if_neg (fun h => h.1 hne), hne])
            obtain ⟨av, cv, ev⟩ := own_form HT.out.o
            rw [hne] at ev
            have ev : u4 = .slice av 0 cv := ev
            subst ev
            have HRN := Lib.hid (show (0 : Nat) ≤ 11 by omega)
            have HS := Lib.hid (show stepC σ (pgF σ UK) (k : Int) = pgF σ UK ++ [[(k : Int)]] by unfold stepC; rw [if_neg (fun h => h.1 hne)])
            go_wp2_with fail
            refine wp_region_later (by kernel_rfl) (by kernel_rfl) ?_
            repeat (go_big_quiet_step (fail))
            refine wpQuiet_nil ?_
            intro _ hw'
            obtain ⟨pq, hw''⟩ := hw'
            subst hw''
            have T1 := Lib.hid (HT.out.later pq.below)
            have HRW1 := Lib.hid (Row.grown HRW.out (gb_none pq.below) (by simp))
            have T2 := Lib.hid (T1.out.later (below_all pq.world (.cells #[.int .i64 k] 3)))
            have HRW2 := Lib.hid (Row.grown HRW1.out (gb_none (below_all pq.world (.cells #[.int .i64 k] 3))) (by simp))
            have LO := Lib.hid (show (pq.world.alloc (.cells #[.int .i64 k] 3)).ownsRow w1.heap.size 3 1 (.slice (some ⟨pq.world.heap.size, 0, none⟩) 1 1) 1 (iv [(k : Int)]) from World.ownsRow_lit pq.world #[.int .i64 k] 1 T1.out.z (by unfold maxLen; omega) rfl)
            have NE := Lib.hid (show ∀ j (hj : j < E.length), E[j].1 ≠ pq.world.heap.size from fun j hj => by have := (T1.out.t.row j hj (by have := T1.out.t.len; omega)).2.1; omega)
            have TO := Lib.hid (show (pq.world.alloc (.cells #[.int .i64 k] 3)).ownsRow w1.heap.size 22 1 (.slice av 0 cv) 0 (tabV E (pgF σ UK)) from by have h9 := T2.out.o; rw [hne] at h9 ⊢; exact h9)
            go_wp2_with (at_builtin; refine wpList_append_own _ rfl _ _ 48 rfl w1.heap.size 22 iP (.slice none 0 0) 1 24 Try.underlying48 hP' hPz hP1 hP2 rfl (by decide) (.slice av 0 cv) 0 (tabV E (pgF σ UK)) rfl (TO.out.alloc _) ⟨pq.world.heap.size + 1, 0, none⟩ 1 1 [.slice (some ⟨pq.world.heap.size, 0, none⟩) 1 1] rfl rfl (by have h9 := World.news_of_block (heap_alloc_new (pq.world.alloc (.cells #[.int .i64 k] 3)) (.cells #[.slice (some ⟨pq.world.heap.size, 0, none⟩) 1 1] 22)); rw [World.size_alloc] at h9; exact h9) (by simp [Value.oneCell']) (by have := HRN.out; unfold maxLen; omega) (by have := HRN.out; omega) (by have := T2.out.z; simp at this ⊢; omega) ?_; intro v4 w4 hown4 hgrow4 _; have O4 := Lib.hid hown4; have G4 := Lib.hid hgrow4; clear hown4 hgrow4)
            have T4 := Lib.hid (T2.out.put (s := [(k : Int)]) LO.out NE.out (by simp) G4.out (by have h9 := O4.out; have h9 := h9; rw [hne] at h9 ⊢; exact h9))
            have HRW3 := Lib.hid (Row.grown HRW2.out (gb_none (below_all (pq.world.alloc (.cells #[.int .i64 k] 3)) (.cells #[.slice (some ⟨pq.world.heap.size, 0, none⟩) 1 1] 22))) (by simp))
            have HRW4 := Lib.hid (Row.grown HRW3.out G4.out (own_ne_row (TO.out.alloc (.cells #[.slice (some ⟨pq.world.heap.size, 0, none⟩) 1 1] 22)) HRW3.out (by decide)))
            go_roundw
            case rel => exact ⟨k + 1, _, by omega, by go_num, by rw [HE.out, HS.out]; exact T4.out, .inr ⟨rfl, HRW4.out⟩⟩
            case measure => simp [intOf]; omega
          · obtain ⟨E0, g, c', R0, s, go, cap, eE, eR, eo, k0, hgo, hgl, hgg, hrw, hfz, hown⟩ := HT.out.lastrow hne
            obtain ⟨hs0, hsz⟩ := HPM.out s (by rw [eR]; simp)
            obtain ⟨z, s', es⟩ : ∃ z s', s = z :: s' := by
              cases s with
              | nil => exact absurd rfl hs0
              | cons z s' => exact ⟨z, s', rfl⟩
            obtain ⟨hz0, hz1⟩ := hsz z (by rw [es]; simp)
            obtain ⟨zn, ez⟩ := Int.eq_ofNat_of_zero_le hz0
            subst ez
            have hzn : zn < 11 := by omega
            have hm : 0 < s.length := by rw [es]; simp
            have k1 : wr.cell? ⟨g, 0, none⟩ = some (.int .i64 (zn : Int)) := by
              rw [Row.cell hrw (k := 0) (by simp [iv]; exact hm)]
              simp [iv, es]
            obtain ⟨k2, k3⟩ := share_cells HRW.out (j := zn) (by have := HL9.out; omega)
            obtain ⟨k4, k5⟩ := share_cells HRW.out (j := k) (by have := HL9.out; omega)
            have hgS := HRW.out.lt
            have HSTP := Lib.hid (show stepC σ (pgF σ UK) (k : Int) = if (L[zn]'(by have := HL9.out; omega)).1 = (L[k]'(by have := HL9.out; omega)).1 ∧ (L[zn]'(by have := HL9.out; omega)).2 = (L[k]'(by have := HL9.out; omega)).2 then R0 ++ [s ++ [(k : Int)]] else R0 ++ [s] ++ [[(k : Int)]] from by
              unfold stepC
              rw [eR, HSG.out, es]
              have e1 : ((R0 ++ [(zn : Int) :: s']).getLastD []).headD 0 = (zn : Int) := by simp
              rw [e1]
              have hLL := HL9.out
              have e2 : L.getD ((zn : Nat) : Int).toNat (0, 0) = L[zn]'(by omega) := by rw [Int.toNat_natCast, List.getD_eq_getElem?_getD, List.getElem?_eq_getElem (by omega)]; rfl
              have e3 : L.getD ((k : Nat) : Int).toNat (0, 0) = L[k]'(by omega) := by rw [Int.toNat_natCast, List.getD_eq_getElem?_getD, List.getElem?_eq_getElem (by omega)]; rfl
              simp only [e2, e3]
              by_cases h : L[zn]'(by omega) = L[k]'(by omega)
              · rw [if_pos ⟨by simp, h⟩, if_pos ⟨congrArg Prod.fst h, congrArg Prod.snd h⟩, apL_snoc]
              · rw [if_neg (fun h2 => h h2.2), if_neg (fun h2 => h (Prod.ext h2.1 h2.2))])
            have HRN := Lib.hid (show R0.length ≤ 11 by
              have h1 := HT.out.t.len
              have h2 := flat_ge (pgF σ UK) (fun s hs => (HPM.out s hs).1)
              have h3 := HFL.out
              rw [eR] at h2 h3
              simp at h2 h3
              omega)
            have HSN := Lib.hid (show s.length ≤ 11 by
              have h3 := HFL.out
              rw [eR] at h3
              simp at h3
              omega)
            generalize (L[zn]'(by have := HL9.out; omega)).1 = a1 at *
            generalize (L[zn]'(by have := HL9.out; omega)).2 = a2 at *
            generalize (L[k]'(by have := HL9.out; omega)).1 = e1 at *
            generalize (L[k]'(by have := HL9.out; omega)).2 = e2 at *
            have HRW0 := Lib.hid hrw
            have HOWN := Lib.hid hown
            have HE := Lib.hid (HE.out.trans HSTP.out)
            have HT9 := Lib.hid (show Tg w1.heap.size w1 (E0 ++ [(g, c')]) (R0 ++ [s]) (.slice (some ⟨go, 0, none⟩) (R0.length + 1) cap) wr by rw [← eE, ← eR, ← eo]; exact HT.out)
            have p_0 := later_cell k0 hgo
            have p_1 := later_cell k1 hgl
            have p_2 := later_cell k2 hgS
            have p_3 := later_cell k3 hgS
            have p_4 := later_cell k4 hgS
            have p_5 := later_cell k5 hgS
            have HFZ := Lib.hid hfz
            have HM := Lib.hid hm
            have HS1 := Lib.hid es
            clear hrw hown HSTP eR eE hs0 hsz hz0 hz1 hfz hm es HPM HFL HSG HT HOWN
            subst eo
            generalize hn : R0.length = n at *
            have HN0 := Lib.hid hn
            generalize hmm : s.length = m at *
            have HM0 := Lib.hid hmm
            have j1 : n < n + 1 := by omega
            have j2 : 0 < n + 1 := by omega
            have jw : IntKind.i64.wrap (((n + 1 : Nat) : Int) - 1) = (n : Int) := by
              have h1 := HRN.out
              rw [show (((n + 1 : Nat) : Int) - 1) = (n : Int) by omega]
              exact IntWalk.i64_in _ (by omega)
            have j4 : (0 : Int) ≤ (n : Int) := by omega
            have hm := HM.out
            have hzL : zn < L.length := by have := HL9.out; omega
            have hkL : k < L.length := by have := HL9.out; omega
            generalize hNN : n + 1 = N at *
            have HNN := Lib.hid hNN
            clear hn hmm hNN
            have hq := eql_share a1 a2 e1 e2
            generalize hbb : (a1 == e1 && a2 == e2) = bb at *
            go_wp2_with fail
            refine wp_region_later (by kernel_rfl) (by kernel_rfl) ?_
            repeat (go_big_quiet_step (fail))
            refine wpQuiet_nil ?_
            intro _ hw'
            obtain ⟨pq, hw''⟩ := hw'
            subst hw''
            have k0' := p_0 pq
            have HT := HT9
            clear HT9
            have HBB := Lib.hid hbb
            clear p_0 p_1 p_2 p_3 p_4 p_5 k0 k1 k2 k3 k4 k5 hq hbb
            have T1 := Lib.hid (HT.out.later pq.below)
            have HRW1 := Lib.hid (Row.grown HRW.out (gb_none pq.below) (by simp))
            have T2 := Lib.hid (T1.out.later (below_all pq.world (.cells #[.int .i64 k] 3)))
            have HRW2 := Lib.hid (Row.grown HRW1.out (gb_none (below_all pq.world (.cells #[.int .i64 k] 3))) (by simp))
            cases bb with
            | true =>
              have HE2 := Lib.hid (show pgF σ (usedC l (k + 1)) = R0 ++ [s ++ [(k : Int)]] by
                have h := HBB.out
                simp only [Bool.and_eq_true, beq_iff_eq] at h
                rw [HE.out, if_pos h])
              have LO := Lib.hid (show (pq.world.alloc (.cells #[.int .i64 k] 3)).ownsRow w1.heap.size 3 1 (.slice (some ⟨g, 0, none⟩) m c') m (iv s) from by have h9 := T2.out.l E0 g c' R0 s rfl rfl; rw [HM0.out] at h9; exact h9)
              have NB := Lib.hid (show w1.heap.size ≤ (pq.world.alloc (.cells #[.int .i64 k] 3)).heap.size from T2.out.z)
              have NF := Lib.hid (show (.slice (some ⟨g, 0, none⟩) m c' : Value).ownBlock ≠ some gS from own_ne_row LO.out HRW2.out (by decide))
              have N11 := Lib.hid (show m ≤ 11 from HSN.out)
              have hz9 : (pq.world.alloc (.cells #[.int .i64 k] 3)).heap.size = pq.world.heap.size + 1 := by simp
              go_wp2_with (at_builtin; refine wpList_append_own_at _ rfl _ _ 22 rfl w1.heap.size 3 i0 (.int .i64 0) 1 8 Try.underlying22 hi0' hn0 hn1 hn2 rfl (by decide) (.slice (some ⟨g, 0, none⟩) m c') m (iv s) rfl LO.out ⟨pq.world.heap.size, 0, none⟩ 1 1 [.int .i64 k] rfl rfl (World.news_of_block (heap_alloc_new pq.world (.cells #[.int .i64 k] 3))) (by simp [Value.oneCell']) (by have := N11.out; unfold maxLen; omega) (by have := N11.out; omega) NB.out ?_; intro v4 w4 hown4 hgrow4 _ hat4; obtain ⟨g2, c2, rfl⟩ := own_slice hown4 (by omega); have O4 := Lib.hid hown4; have G4 := Lib.hid hgrow4; have A4 := Lib.hid hat4; clear hown4 hgrow4 hat4; obtain ⟨kc, kf⟩ : w4.cell? ⟨go, n, none⟩ = some (.slice (some ⟨g, 0, none⟩) m c') ∧ w4.frozen? ⟨go, n, none⟩ = false := (by have h1 := HN0.out; have h2 := HM0.out; have h3 := HNN.out; have h4 := T2.out; subst h3 h1 h2; exact h4.after G4.out))
              have T4 := Lib.hid (show Tg w1.heap.size w1 (E0 ++ [(g2, c2)]) (R0 ++ [s ++ [(k : Int)]]) (.slice (some ⟨go, 0, none⟩) N cap) (w4.setCell ⟨go, n, none⟩ (.slice (some ⟨g2, 0, none⟩) (m + 1) c2)) by
                have h1 := HN0.out; have h2 := HM0.out; have h3 := HNN.out; have h4 := T2.out; have h5 := O4.out; have h6 := A4.out; have h7 := G4.out
                subst h3 h1 h2
                refine h4.add (x := [(k : Int)]) (by simp) h7 (by rw [show iv (s ++ [(k : Int)]) = iv s ++ [.int .i64 k] by simp [iv]]; exact h5) ?_
                simpa [Value.ownBlock] using h6)
              have HRW4 := Lib.hid ((Row.grown HRW2.out G4.out NF.out).other (p := ⟨go, n, none⟩) (show gS ≠ go from by
                have h1 := HN0.out; have h3 := HNN.out; have h4 := T2.out
                subst h3 h1
                have h5 := h4.o
                intro e
                exact own_ne_row h5 HRW2.out (by decide) (by simp only [Value.ownBlock]; rw [e])) (.slice (some ⟨g2, 0, none⟩) (m + 1) c2))
              go_roundw
              case rel => exact ⟨k + 1, _, by omega, by go_num, by rw [HE2.out]; exact T4.out, .inr ⟨rfl, HRW4.out⟩⟩
              case measure => simp [intOf]; omega
            | false =>
              have HE2 := Lib.hid (show pgF σ (usedC l (k + 1)) = (R0 ++ [s]) ++ [[(k : Int)]] by
                have h := HBB.out
                rw [HE.out, if_neg]
                rintro ⟨h1, h2⟩
                simp [h1, h2] at h)
              have LO := Lib.hid (show (pq.world.alloc (.cells #[.int .i64 k] 3)).ownsRow w1.heap.size 3 1 (.slice (some ⟨pq.world.heap.size, 0, none⟩) 1 1) 1 (iv [(k : Int)]) from World.ownsRow_lit pq.world #[.int .i64 k] 1 T1.out.z (by unfold maxLen; omega) rfl)
              have NE := Lib.hid (show ∀ j (hj : j < (E0 ++ [(g, c')]).length), (E0 ++ [(g, c')])[j].1 ≠ pq.world.heap.size from fun j hj => by have := (T1.out.t.row j hj (by have := T1.out.t.len; omega)).2.1; omega)
              have HLN := Lib.hid (show (R0 ++ [s]).length = N by have h1 := HN0.out; have h3 := HNN.out; simp; omega)
              have TO := Lib.hid (show (pq.world.alloc (.cells #[.int .i64 k] 3)).ownsRow w1.heap.size 22 1 (.slice (some ⟨go, 0, none⟩) N cap) N (tabV (E0 ++ [(g, c')]) (R0 ++ [s])) from by have h9 := T2.out.o; rw [HLN.out] at h9; exact h9)
              have N12 := Lib.hid (show N ≤ 12 by have := HRN.out; have := HNN.out; omega)
              go_wp2_with (at_builtin; refine wpList_append_own _ rfl _ _ 48 rfl w1.heap.size 22 iP (.slice none 0 0) 1 24 Try.underlying48 hP' hPz hP1 hP2 rfl (by decide) (.slice (some ⟨go, 0, none⟩) N cap) N (tabV (E0 ++ [(g, c')]) (R0 ++ [s])) rfl (TO.out.alloc _) ⟨pq.world.heap.size + 1, 0, none⟩ 1 1 [.slice (some ⟨pq.world.heap.size, 0, none⟩) 1 1] rfl rfl (by have h9 := World.news_of_block (heap_alloc_new (pq.world.alloc (.cells #[.int .i64 k] 3)) (.cells #[.slice (some ⟨pq.world.heap.size, 0, none⟩) 1 1] 22)); rw [World.size_alloc] at h9; exact h9) (by simp [Value.oneCell']) (by have := N12.out; unfold maxLen; omega) (by have := N12.out; omega) (by have := T2.out.z; simp at this ⊢; omega) ?_; intro v4 w4 hown4 hgrow4 _; have O4 := Lib.hid hown4; have G4 := Lib.hid hgrow4; clear hown4 hgrow4)
              have T4 := Lib.hid (T2.out.put (s := [(k : Int)]) LO.out NE.out (by simp) G4.out (by have h9 := O4.out; rw [HLN.out]; exact h9))
              have HRW3 := Lib.hid (Row.grown HRW2.out (gb_none (below_all (pq.world.alloc (.cells #[.int .i64 k] 3)) (.cells #[.slice (some ⟨pq.world.heap.size, 0, none⟩) 1 1] 22))) (by simp))
              have HRW4 := Lib.hid (Row.grown HRW3.out G4.out (own_ne_row (TO.out.alloc (.cells #[.slice (some ⟨pq.world.heap.size, 0, none⟩) 1 1] 22)) HRW3.out (by decide)))
              go_roundw
              case rel => exact ⟨k + 1, _, by omega, by go_num, by rw [HE2.out]; exact T4.out, .inr ⟨rfl, HRW4.out⟩⟩
              case measure => simp [intOf]; omega
      · obtain rfl : k = 11 := by omega
        have hi : ¬ ((11 : Nat) : Int) < (l.length : Int) := by have := H11.out; omega
        obtain ⟨av, cv, ev⟩ := own_form HT.out.o
        have HP := Lib.hid (HT.out.post (b := true) HB1.out (by omega))
        rw [← HGR.out] at HP
        subst ev
        go_wp2
        go_ret2
        exact HP.out
end Go.Proofs.Ytjpiiidjocilcaa
