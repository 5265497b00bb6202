/- The model's l10Shares and CalibrationOf. -/
import Derived.Test.YtjpiiidjocilcaaGrW
namespace Go.Proofs.Ytjpiiidjocilcaa
open Go.RowKit
set_option linter.unusedVariables false
set_option linter.unusedSimpArgs false
/-- the groups in memory, in their order -/
def GrsM (w : World) (B : Nat) (a : Option Addr) (E : List GE) : Prop :=
  E = [] ∨ ∃ g, a = some ⟨g, 0, none⟩ ∧ g < B ∧ ∀ k (h : k < E.length), w.cell? ⟨g, k * 3, none⟩ = some (.slice (some ⟨E[k].b, 0, none⟩) E[k].g.cs.length E[k].c) ∧ w.cell? ⟨g, k * 3 + 1, none⟩ = some (.int .i64 E[k].g.ca) ∧ w.cell? ⟨g, k * 3 + 2, none⟩ = some (.int .i64 E[k].g.hi)
theorem GrsM.below {w w' : World} {B : Nat} {a : Option Addr} {E : List GE} (h : GrsM w B a E) (hb : Below B w w') : GrsM w' B a E := by
  rcases h with h | ⟨g, h1, h2, h3⟩
  · exact .inl h
  · exact .inr ⟨g, h1, h2, fun k hk => ⟨(hb.cell (p := ⟨g, k * 3, none⟩) h2).trans (h3 k hk).1, (hb.cell (p := ⟨g, k * 3 + 1, none⟩) h2).trans (h3 k hk).2.1, (hb.cell (p := ⟨g, k * 3 + 2, none⟩) h2).trans (h3 k hk).2.2⟩⟩
theorem GrsM.at_ {w : World} {B : Nat} {a : Option Addr} {E : List GE} (h : GrsM w B a E) {k : Nat} (hk : k < E.length) :
    ∃ g, a = some ⟨g, 0, none⟩ ∧ g < B ∧ w.cell? ⟨g, k * 3, none⟩ = some (.slice (some ⟨E[k].b, 0, none⟩) E[k].g.cs.length E[k].c) ∧ w.cell? ⟨g, k * 3 + 1, none⟩ = some (.int .i64 E[k].g.ca) ∧ w.cell? ⟨g, k * 3 + 2, none⟩ = some (.int .i64 E[k].g.hi) := by
  rcases h with rfl | ⟨g, h1, h2, h3⟩
  · simp at hk
  · exact ⟨g, h1, h2, h3 k hk⟩
/-- what l10Groups leaves, in the groups' order -/
def GrOut (L : List Gr) (w : World) (e : Ending) (w' : World) : Prop :=
  ∃ (E : List GE) (a : Option Addr) (c : Nat), e = .returned (.slice a E.length c) ∧ E.map (fun e => cgOf e.g) = cgL L ∧ E.map GE.g = L.reverse ∧ GrsM w' w'.heap.size a E ∧ (∀ e ∈ E, GeR w' e.b e.g.cs ∧ e.b < w'.heap.size ∧ okG e.g) ∧ Below w.heap.size w w'
theorem GrPost.out {L : List Gr} {w w' : World} {e : Ending} (h : GrPost L w e w') (hok : ∀ x ∈ L, okG x) : GrOut L w e w' := by
  obtain ⟨S, a, c, h1, h2, h3, h4, h5⟩ := h
  refine ⟨S.reverse, a, c, by rw [h1, List.length_reverse], ?_, by rw [← h2, List.map_reverse], ?_, fun e he => ?_, h5⟩
  · rw [← h2]; unfold cgL; rw [← List.map_reverse, List.map_map]; rfl
  · rcases h3 with rfl | ⟨g, e1, _, cur, h6, h7⟩
    · exact .inl rfl
    · refine .inr ⟨g, e1, (Array.getElem?_eq_some_iff.1 h6).1, fun k hk => ?_⟩
      have hl := gev_length S.reverse
      have hg := gev_get S.reverse k hk
      have key : ∀ o, o < (gev S.reverse).length → w'.cell? ⟨g, o, none⟩ = (gev S.reverse)[o]? := fun o ho => by
        rw [List.getElem?_eq_getElem ho]
        simp [World.cell?, h6, h7 o ho]
      exact ⟨(key _ (by omega)).trans hg.1, (key _ (by omega)).trans hg.2.1, (key _ (by omega)).trans hg.2.2⟩
  · have he := List.mem_reverse.1 he
    have h8 := h4 e he
    exact ⟨h8.1, Row.lt h8.1, hok _ (by rw [← h2]; exact List.mem_map_of_mem he)⟩
theorem first_cell {w : World} {b : Nat} {g : Gr} (h : GeR w b g.cs) (hk : okG g) : w.cell? ⟨b, 0, none⟩ = some (.int .i64 (cgOf g).1) := by
  have h0 : 0 < g.cs.length := List.length_pos_iff.2 hk.2.2.2
  have h1 := Row.cell (k := 0) h (by rw [iv_length]; exact h0)
  rw [iv_get] at h1
  rw [h1]
  obtain ⟨cs, ca, hi⟩ := g
  cases cs with
  | nil => simp at h0
  | cons a r => rfl
theorem specGrp_any (a b : Option Addr) (l r : List Int) (c d : Nat) (w : World) (hl : Ints .i64 w w.heap.size a l) (hr : Ints .i64 w w.heap.size b r) (ht : tlB l r = true) :
    Calls Try.prog 69 #[.agg #[.slice a l.length c, .slice b r.length d]] w (GrOut (calG l r 11) w) :=
  (specGroups_any a b l r c d w hl hr ht).mono fun e w' h => h.out (cal_ok ht 11 (by omega)).1
def ShPost (S : List ShT) (w : World) (e : Ending) (w' : World) : Prop := ∃ a c, e = .returned (.slice a S.length c) ∧ OwnSh w' w.heap.size a S ∧ Below w.heap.size w w'
def calT (l r : List Int) : List ShT := if (calG l r 11).length = 0 then [] else calS (cgL (calG l r 11)) 11
set_option maxRecDepth 100000 in
set_option maxHeartbeats 8000000 in
theorem specShares_any (a b : Option Addr) (l r : List Int) (c d : Nat) (w : World) (hl : Ints .i64 w w.heap.size a l) (hr : Ints .i64 w w.heap.size b r) (ht : tlB l r = true) :
    Calls Try.prog 67 #[.agg #[.slice a l.length c, .slice b r.length d]] w (ShPost (calT l r) w) := by
  obtain ⟨iP, hP', hPz, hP1, hP2⟩ := info_parts infoSh
  have B0 := Lib.hid (below_all w (.cells #[.slice a l.length c, .slice b r.length d] 27))
  have HG := Lib.hid (specGrp_any a b l r c d _ (ints_alloc hl (.cells #[.slice a l.length c, .slice b r.length d] 27)) (ints_alloc hr _) ht)
  have HOK := Lib.hid (cg_ok ht)
  have hnl := cal_len l r 11
  have hgl := cgL_len (calG l r 11)
  have hcT : calT l r = if (calG l r 11).length = 0 then [] else calS (cgL (calG l r 11)) 11 := rfl
  rw [hcT]
  unfold GrOut at HG
  clear hl hr ht hcT
  generalize cgL (calG l r 11) = G at *
  generalize (calG l r 11).reverse = LR at *
  generalize (calG l r 11).length = n at *
  obtain ⟨R, hR⟩ : ∃ R, (if n = 0 then [] else calS G 11) = R := ⟨_, rfl⟩
  rw [hR]
  have HRR := Lib.hid hR
  clear hR
  have HGL := Lib.hid hgl
  clear hgl
  go_enter Try.func67, Try.ntmps67
  go_wp2_with fail
  refine HG.out.mono ?_
  rintro e w1 ⟨E, ga, gc, rfl, hEG, _, hgr, hrows, b1⟩
  have HEG := Lib.hid hEG
  have HGR := Lib.hid hgr
  have HRW := Lib.hid hrows
  have B1 := Lib.hid (B0.out.trans (b1.mono B0.out.size))
  have hel : E.length = n := by have h1 := congrArg List.length hEG; rw [List.length_map, HGL.out] at h1; exact h1
  rw [hel]
  have HEL := Lib.hid hel
  clear hEG hgr hrows b1 hel HG
  by_cases h0 : n = 0
  · have hR0 : R = [] := by rw [← HRR.out, if_pos h0]
    subst h0
    subst hR0
    go_wp2
    go_ret
    exact ⟨_, 0, rfl, OwnSh.none_, B1.out.alloc B1.out.size _⟩
  · have HR1 := Lib.hid (show R = calS G 11 by rw [← HRR.out, if_neg h0])
    have hn0 : ((n : Int) == 0) = false := by simp [h0]
    have hnp : 0 < n := by omega
    have I0 := Lib.hid (show (w1.alloc (.cells #[] 38)).ownsRow w1.heap.size 38 2 (.slice (some ⟨w1.heap.size, 0, none⟩) 0 0) 0 (shv (calS G 0)) from World.ownsRow_made (base := w1.heap.size) (e := 38) (size := 2) w1 #[] 0 (Nat.le_refl _) (by unfold maxLen; omega) rfl)
    go_wp2
    clear hn0
    go_loopw [5, 4] (fun i v wr => ∃ m : Nat, m ≤ 11 ∧ i = .int .i64 m ∧ wr.ownsRow w1.heap.size 38 2 v m (shv (calS G m)) ∧ Below w1.heap.size w1 wr) (fun i _ _ => 11 - (intOf i).toNat)
    case atStart => exact ⟨0, by omega, rfl, I0.out, (Below.refl _ _).alloc (Nat.le_refl _) _⟩
    case round =>
      obtain ⟨m, hm, rfl, hO, hB⟩ := hrel
      have HO := Lib.hid hO
      have HB := Lib.hid hB
      clear hO I0
      have hsz := hB.size
      by_cases hlt : m < 11
      · have him : (m : Int) ≤ 10 := by omega
        have hE0 : 0 < E.length := by have := HEL.out; omega
        obtain ⟨g, ea, hgb, c0, c1, c2⟩ := (HGR.out.below hB).at_ hE0
        have c0 : wr.cell? ⟨g, 0, none⟩ = some (.slice (some ⟨E[0].b, 0, none⟩) E[0].g.cs.length E[0].c) := by simpa using c0
        have c1 : wr.cell? ⟨g, 1, none⟩ = some (.int .i64 E[0].g.ca) := by simpa using c1
        have c2 : wr.cell? ⟨g, 2, none⟩ = some (.int .i64 E[0].g.hi) := by simpa using c2
        have hga : ∀ k (hk : k < E.length), ∀ W, Below w1.heap.size w1 W → W.cell? ⟨g, k * 3, none⟩ = some (.slice (some ⟨E[k].b, 0, none⟩) E[k].g.cs.length E[k].c) ∧ W.cell? ⟨g, k * 3 + 1, none⟩ = some (.int .i64 E[k].g.ca) ∧ W.cell? ⟨g, k * 3 + 2, none⟩ = some (.int .i64 E[k].g.hi) := by
          intro k hk W hW
          obtain ⟨g', ea', _, d0, d1, d2⟩ := (HGR.out.below hW).at_ hk
          rw [ea] at ea'
          injection ea' with ea'
          injection ea' with ea'
          subst ea'
          exact ⟨d0, d1, d2⟩
        have HGA := Lib.hid hga
        have HGE := Lib.hid (show ∀ k (hk : k < E.length), G.getD k (0, 0, 0) = cgOf E[k].g by
          intro k hk
          rw [← HEG.out, List.getD_eq_getElem?_getD, List.getElem?_map, List.getElem?_eq_getElem hk]
          rfl)
        have HBX := Lib.hid (Box.new wr 92 (.slice (some ⟨E[0].b, 0, none⟩) E[0].g.cs.length E[0].c) (.int .i64 E[0].g.ca) (.int .i64 E[0].g.hi))
        have hgw : g < wr.heap.size := by omega
        clear hga
        subst ea
        go_wp2
        have HGT := Lib.hid (turn_refl (wr.alloc (.cells #[.slice (some ⟨E[0].b, 0, none⟩) E[0].g.cs.length E[0].c, .int .i64 E[0].g.ca, .int .i64 E[0].g.hi] 92)) (some wr.heap.size))
        have HFA := Lib.hid (show ∀ q, u4.ownBlock = some q → q < wr.heap.size from fun q hq => (HO.out.lt q hq).2)
        have HO2 := Lib.hid (HO.out.alloc (.cells #[.slice (some ⟨E[0].b, 0, none⟩) E[0].g.cs.length E[0].c, .int .i64 E[0].g.ca, .int .i64 E[0].g.hi] 92))
        have HB2 := Lib.hid (HB.out.alloc hsz (.cells #[.slice (some ⟨E[0].b, 0, none⟩) E[0].g.cs.length E[0].c, .int .i64 E[0].g.ca, .int .i64 E[0].g.hi] 92))
        generalize wr.alloc (.cells #[.slice (some ⟨E[0].b, 0, none⟩) E[0].g.cs.length E[0].c, .int .i64 E[0].g.ca, .int .i64 E[0].g.hi] 92) = W2 at *
        obtain ⟨bx, hbx⟩ : ∃ q, wr.heap.size = q := ⟨_, rfl⟩
        rw [hbx] at HBX HGT HFA hsz hgw
        rw [hbx]
        have HBXE := Lib.hid hbx
        clear hbx c0 c1 c2 HO HB hB
        go_loopw [7] (fun i wi => ∃ (k j : Nat) (hj : j < E.length), k ≤ n ∧ i = .int .i64 k ∧ j = bestI G (m : Int) k ∧ Box wi bx 92 (.slice (some ⟨E[j].b, 0, none⟩) E[j].g.cs.length E[j].c) (.int .i64 E[j].g.ca) (.int .i64 E[j].g.hi) ∧ W2.grownBy wi (some bx)) (fun i _ => n - (intOf i).toNat)
        case atStart => exact ⟨0, 0, hE0, Nat.zero_le _, rfl, rfl, HBX.out, HGT.out⟩
        case round =>
          obtain ⟨k, j, hj, hk, rfl, hje, hbox, hgt⟩ := hrel
          have HJE := Lib.hid hje
          have HX2 := Lib.hid hbox
          have HG2 := Lib.hid hgt
          have hbi : Below w1.heap.size w1 wr := HB2.out.grown hgt HB2.out.size (fun q hq => by injection hq with hq; omega)
          have HBI := Lib.hid hbi
          clear hje hbox hgt HBX HGT
          by_cases hkn : k < n
          · have hkE : k < E.length := by have := HEL.out; omega
            obtain ⟨d0, d1, d2⟩ := HGA.out k hkE _ hbi
            have hrw := HRW.out _ (List.getElem_mem hkE)
            have f0 := (hbi.cell (p := ⟨E[k].b, 0, none⟩) hrw.2.1).trans (first_cell hrw.1 hrw.2.2)
            have hcl : 0 < E[k].g.cs.length := List.length_pos_iff.2 hrw.2.2.2.2.2
            have hcl2 : (0 : Int) < (E[k].g.cs.length : Int) := by omega
            have hki : (k : Int) < (n : Int) := by omega
            have hki0 : (0 : Int) ≤ (k : Int) := by omega
            have hst : bestI G (m : Int) (k + 1) = if (G.getD k (0, 0, 0)).1 ≤ (m : Int) then k else bestI G (m : Int) k := rfl
            rw [HGE.out k hkE, ← HJE.out] at hst
            have HST := Lib.hid hst
            have hxl := HX2.out.lt
            have t0 := HX2.out.frozen 0
            have t1 := HX2.out.frozen 1
            have t2 := HX2.out.frozen 2
            obtain ⟨s0, s1, s2⟩ := HX2.out.cells
            have z0 : g < wr.heap.size := by have := hbi.size; omega
            have z1 : ¬ g = bx := by omega
            have z2 : ¬ bx = g := by omega
            clear hst hrw hbi
            obtain ⟨fc, hfc⟩ : ∃ z, (cgOf E[k].g).1 = z := ⟨_, rfl⟩
            rw [hfc] at f0 HST
            clear hfc
            by_cases hle : fc ≤ (m : Int)
            · have HE := Lib.hid (show k = bestI G (m : Int) (k + 1) by rw [HST.out, if_pos hle])
              go_wp2
              go_roundw
              case rel => exact ⟨k + 1, k, hkE, by omega, by go_num, HE.out, HX2.out.put3 _ _ _, by exact ⟨HG2.out.os, HG2.out.tape, HG2.out.output, by simp only [World.size_setCell]; exact HG2.out.size, fun i hi hne => ((only3 _ bx _ _ _).block i (Nat.lt_of_lt_of_le hi HG2.out.size) hne).trans (HG2.out.block i hi hne)⟩⟩
              case measure => simp [intOf]; omega
            · have HE := Lib.hid (show j = bestI G (m : Int) (k + 1) by rw [HST.out, if_neg hle])
              go_wp2
              go_roundw
              case rel => exact ⟨k + 1, j, hj, by omega, by go_num, HE.out, HX2.out, HG2.out⟩
              case measure => simp [intOf]; omega
          · obtain rfl : k = n := by omega
            have hkk : ¬ (k : Int) < (k : Int) := by omega
            have hjo := (HRW.out _ (List.getElem_mem hj)).2.2
            have hjs := (HOK.out (cgOf E[j].g) (by rw [← HEG.out]; exact List.mem_map_of_mem (f := fun e => cgOf e.g) (List.getElem_mem hj))).1
            have HSO := Lib.hid (fun W => share_of (a := E[j].g.hi) (b := E[j].g.ca) W hjo.2.1 (by have := hjo.1; omega) (by have h1 := hjs.2.2.1; have h2 := hjs.2.2.2; show (cgOf E[j].g).2.2 ≤ _; omega) (by have h2 := hjs.2.2.2; show (cgOf E[j].g).2.1 ≤ _; omega))
            have HNX := Lib.hid (show calS G (m + 1) = calS G m ++ [(redN E[j].g.hi E[j].g.ca, redD E[j].g.hi E[j].g.ca)] by
              rw [calS_succ, HGL.out, ← HJE.out, HGE.out j hj]; rfl)
            have hxl := HX2.out.lt
            obtain ⟨s0, s1, s2⟩ := HX2.out.cells
            have HO3 := Lib.hid (HO2.out.kept HG2.out (by
              rcases e : u4.ownBlock with _ | q
              · exact .inl rfl
              · right; intro e2; injection e2 with e2; have := HFA.out q e; omega))
            clear hjo hjs hbi
            generalize redN E[j].g.hi E[j].g.ca = fn at *
            generalize redD E[j].g.hi E[j].g.ca = fd at *
            go_wp2_with (first
              | (go_at_call 64; refine (HSO.out _).mono ?_; rintro e w3 ⟨rfl, b3⟩; have O3 := Lib.hid (HO3.out.kept (gb_none b3) (by rcases e : u4.ownBlock with _ | q; exact .inl rfl; exact .inr (by simp))); have B3 := Lib.hid (HBI.out.trans (b3.mono HBI.out.size)); clear b3)
              | (at_builtin; refine wpList_append_own _ rfl _ _ 43 rfl w1.heap.size 38 iP (.agg #[.int .i64 0, .int .i64 0]) 2 16 Try.underlying43 hP' hPz hP1 hP2 rfl (by decide) u4 m (shv (calS G m)) rfl (O3.out.alloc _) ⟨w3.heap.size, 0, none⟩ 1 1 [.int .i64 fn, .int .i64 fd] rfl rfl (World.news_of_block (heap_alloc_new _ _)) (by simp [Value.oneCell']) (by unfold maxLen; omega) (by omega) (by have := B3.out.size; simp; omega) ?_; intro v4 w4 hown4 hgrow4 _; have O4 := Lib.hid hown4; have G4 := Lib.hid hgrow4; clear hown4 hgrow4))
            go_roundw
            case rel => exact ⟨m + 1, by omega, by go_num, by rw [HNX.out, shv_append]; exact O4.out, (B3.out.alloc B3.out.size _).grown G4.out (B3.out.alloc B3.out.size _).size (fun q hq => (O3.out.lt q hq).1)⟩
            case measure => simp [intOf]; omega
      · obtain rfl : m = 11 := by omega
        have him : ¬ ((11 : Nat) : Int) ≤ 10 := by omega
        obtain ⟨av, cv, ev⟩ := own_form HO.out
        subst ev
        have HL11 := Lib.hid (show R.length = 11 by rw [HR1.out, calS_len])
        go_wp2
        go_ret
        exact ⟨av, cv, by rw [HL11.out]; rfl, by rw [HR1.out]; exact (OwnSh.of_own HO.out).more B1.out.size, B1.out.trans (HB.out.mono B1.out.size)⟩
end Go.Proofs.Ytjpiiidjocilcaa
