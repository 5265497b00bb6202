/- The walk of the model's l8Parts. -/
import Derived.Test.YthceffkkokgpnaaRpSpec
namespace Go.Proofs.Ythceffkkokgpnaa
open Go.RowKit
set_option linter.unusedVariables false
set_option linter.unusedSimpArgs false
theorem own_news {w : World} {base g c : Nat} {l : List Int} (h : w.ownsRow base 3 1 (.slice (some ⟨g, 0, none⟩) l.length c) l.length (iv l)) : ∀ j u, (iv l)[j]? = some u → w.cell? ((⟨g, 0, none⟩ : Addr).add j) = some u := by
  intro j u hj
  have hj2 := (List.getElem?_eq_some_iff.1 hj).1
  rw [iv_length] at hj2
  have := h.cellAt j (by omega)
  rw [Addr.add_lit, Nat.zero_add, this]
  exact hj
/-- a chain to a cell of the parts begins in them -/
theorem parts_back {wd z b : Int} {l : List Int} {k : Nat} (h : Ch wd l z b) (hb : b ∈ (partsP wd l k).flatten) : z ∈ (partsP wd l k).flatten := by
  induction h with
  | here _ => exact hb
  | step h1 hc hbs ih =>
    rw [bes_comm] at hbs
    exact ih (parts_closed hb h1.mem hbs)
theorem own_drewN {w : World} {base e size n : Nat} {v : Value} {xs : List Value} (h : w.ownsRow base e size v n xs) (m : Nat) : (w.drewN m).ownsRow base e size v n xs := h
theorem bel_drewN {B : Nat} {w w' : World} (h : Below B w w') (n : Nat) : Below B w (w'.drewN n) := ⟨h.os, h.tape, h.output, h.size, h.block⟩
set_option maxRecDepth 100000 in
set_option maxHeartbeats 8000000 in
theorem l8Parts_any (wd hg : Int) (a : Option Addr) (l : List Int) (c : Nat) (w : World) (hl : Ints .i64 w w.heap.size a l) (hr : regB wd hg l = true) :
    Calls Try.prog 86 #[.int .i64 wd, .slice a l.length c] w (TabOne (partsP wd l l.length) w) := by
  obtain ⟨i0, hi0', hz0, hz1, hz2⟩ := info_parts infoInt
  obtain ⟨iR, hR', hRz, hR1, hR2⟩ := info_parts infoRow
  have HL := Lib.hid hl
  have hs := shapeB_iff.1 (reg_shape hr)
  have hp := prod_bd (reg_shape hr)
  have hlen := reg_len hr
  have HBD := Lib.hid (reg_bd hr)
  have HA := Lib.hid (reg_asc hr)
  have hwh : ∀ z ∈ l, 0 ≤ z ∧ z ≤ 64 := fun z hz => by have := reg_bd hr z hz; omega
  have HB64 := Lib.hid hwh
  have M0 := Lib.hid (show Ms w [] (partsP wd l 0) (.slice (some ⟨w.heap.size, 0, none⟩) 0 0) [] (.slice (some ⟨w.heap.size + 1, 0, none⟩) 0 0) ((w.alloc (.cells #[] 30)).alloc (.cells #[] 3)) from
    ⟨(World.ownsRow_made (base := w.heap.size) (e := 30) (size := 1) w #[] 0 (Nat.le_refl _) (by unfold maxLen; omega) rfl).alloc _, Tb.nil,
     (by have := World.ownsRow_made (base := w.heap.size) (e := 3) (size := 1) (w.alloc (.cells #[] 30)) #[] 0 (by simp) (by unfold maxLen; omega) rfl; rw [World.size_alloc] at this; exact this), fun j h => by simp at h, (below_all w _).alloc (by simp) _⟩)
  clear hl hr hwh hp
  go_enter Try.func86, Try.ntmps86
  go_wp2
  go_loopw [5, 6, 7] (fun out sv i wr => ∃ (k : Nat) (E : List (Nat × Nat)) (Sn : List Int), k ≤ l.length ∧ i = .int .i64 k ∧ Ms w E (partsP wd l k) out Sn sv wr ∧ Sn.Nodup ∧ (∀ b, b ∈ Sn ↔ b ∈ (partsP wd l k).flatten)) (fun _ _ i _ => l.length - (intOf i).toNat)
  case atStart => exact ⟨0, [], [], Nat.zero_le _, rfl, M0.out, by simp, fun b => by simp [partsP]⟩
  case round =>
    rename World => wo
    obtain ⟨k, E, Sn, hk, rfl, hms, hnd, hmem⟩ := hrel
    have H0 := Lib.hid hms
    have HND := Lib.hid hnd
    have HMEM := Lib.hid hmem
    clear hms hnd hmem M0
    by_cases hlt : k < l.length
    · obtain ⟨b, o, rfl, hb, hc⟩ := (HL.out.below H0.out.b (Nat.le_refl _)).at_ hlt
      have hi : (k : Int) < (l.length : Int) := by omega
      have hi0 : (0 : Int) ≤ (k : Int) := by omega
      have hmz := List.getElem_mem hlt
      have hzb := HB64.out _ hmz
      have HOLD := Lib.hid (partsP_old (wd := wd) hlt)
      have HNEW := Lib.hid (partsP_new (wd := wd) hlt)
      have HMZ := Lib.hid hmz
      have hpl := parts_len (wd := wd) (l := l) k
      have hfl : ∀ b, b ∈ (partsP wd l k).flatten → b ∈ l := fun b hb => by
        obtain ⟨r, hr, hbr⟩ := List.mem_flatten.1 hb
        obtain ⟨f, rfl⟩ := parts_each k r hr
        exact (mem_comp.1 hbr).mem
      have hSn : Sn.length ≤ l.length := nodup_sub_len HND.out fun x hx => hfl x ((HMEM.out x).1 hx)
      clear hmz hfl
      generalize l[k] = z at *
      obtain ⟨sa, sc, rfl, hso⟩ := ownI_of H0.out.s rfl
      have HSI := Lib.hid hso.ints
      have HH := Lib.hid (fun W v h hv => has_is sa Sn sc W.heap.size z v W h (by omega) hv)
      clear hso
      go_wp2_with fail
      refine (HH.out _ _ HSI.out rfl).mono ?_
      rintro e w2 ⟨rfl, rfl⟩
      cases hv : decide (z ∈ Sn) with
      | true =>
        have HE := Lib.hid (HOLD.out ((HMEM.out z).1 (of_decide_eq_true hv)))
        clear hv
        go_wp2
        go_roundw
        case rel => exact ⟨k + 1, E, Sn, by omega, by go_num, by rw [HE.out]; exact H0.out, HND.out, by rw [HE.out]; exact HMEM.out⟩
        case measure => simp [intOf]; omega
      | false =>
        have hno : z ∉ (partsP wd l k).flatten := fun h => of_decide_eq_false hv ((HMEM.out z).2 h)
        have HE := Lib.hid (HNEW.out hno)
        have HNO := Lib.hid hno
        have G0 := Lib.hid (Gp.start (wd := wd) HMZ.out)
        have O0 := Lib.hid (show (wo.alloc (.cells #[.int .i64 z] 3)).ownsRow wo.heap.size 3 1 (.slice (some ⟨wo.heap.size, 0, none⟩) 1 1) 1 (iv [z]) from ⟨by simp [iv], .inr ⟨wo.heap.size, 1, _, rfl, Nat.le_refl _, heap_alloc_new wo _, Nat.le_refl _, by unfold maxLen; omega, by simp, by simp [iv]⟩⟩)
        clear hv hno HOLD HNEW HH HSI
        go_wp2
        go_loopw [8, 9] (fun gv pv w3 => ∃ (G : List Int) (p : Nat), p ≤ G.length ∧ pv = .int .i64 p ∧ Gp wd l z G p 0 ∧ w3.ownsRow wo.heap.size 3 1 gv G.length (iv G) ∧ Below wo.heap.size wo w3) (fun _ pv _ => l.length - (intOf pv).toNat)
        case atStart => exact ⟨[z], 0, by simp, rfl, G0.out, O0.out, below_all _ _⟩
        case round =>
          rename World => w3
          obtain ⟨G, p, hp, rfl, hgp, hgo, hb3⟩ := hrel
          have HG := Lib.hid hgp
          have HO := Lib.hid hgo
          have HB3 := Lib.hid hb3
          have hgl := hgp.len
          have hpos : 0 < G.length := List.length_pos_of_mem hgp.fst
          obtain ⟨gg0, gc0, rfl⟩ := own_slice hgo hpos
          clear hgp hgo hb3 G0 O0
          by_cases hp2 : p < G.length
          · have hi3 : (p : Int) < (G.length : Int) := by omega
            go_wp2
            go_loopw [8, 10] (fun gv kv w4 => ∃ (G' : List Int) (kk : Nat), kk ≤ l.length ∧ kv = .int .i64 kk ∧ p < G'.length ∧ Gp wd l z G' p kk ∧ w4.ownsRow wo.heap.size 3 1 gv G'.length (iv G') ∧ Below wo.heap.size wo w4) (fun _ kv _ => l.length - (intOf kv).toNat)
            case atStart => exact ⟨G, 0, Nat.zero_le _, rfl, hp2, HG.out, HO.out, HB3.out⟩
            case round =>
              rename World => w4
              obtain ⟨G', kk, hkk, rfl, hp4, hgp4, hgo4, hb4⟩ := hrel
              have HG4 := Lib.hid hgp4
              have HO4 := Lib.hid hgo4
              have HB4 := Lib.hid hb4
              have hgl4 := hgp4.len
              have hbw := Lib.hid (H0.out.b.trans (hb4.mono H0.out.b.size))
              clear hgp4 hgo4 hb4 HG HO HB3
              by_cases hkl : kk < l.length
              · obtain ⟨b4, o4, e4, _, hc4⟩ := (HL.out.below hbw.out (Nat.le_refl _)).at_ hkl
                have e5 := Option.some.inj e4
                injection e5 with e6 e7
                subst e6 e7
                clear e4
                obtain ⟨ga, gc, rfl, hgI⟩ := ownI_of HO4.out rfl
                have HGI := Lib.hid hgI.ints
                obtain ⟨gg, _, hat⟩ := hgI
                rcases hat with hnil | ⟨rfl, hrow⟩
                · rw [hnil] at hp4; simp at hp4
                · have hcg := hrow.cell (k := p) (by rw [iv_length]; exact hp4)
                  rw [iv_get] at hcg
                  have hyb := HB64.out _ (List.getElem_mem hkl)
                  have hxb := HB64.out _ (HG4.out.ch _ (List.getElem_mem hp4)).mem
                  have HSK := Lib.hid (fun h => HG4.out.skip hp4 hkl h)
                  have HAD := Lib.hid (fun h1 h2 => HG4.out.add hp4 hkl h1 h2)
                  have HH4 := Lib.hid (fun W v h hv => has_is (some ⟨gg, 0, none⟩) G' gc W.heap.size (l[kk]'hkl) v W h (by omega) hv)
                  have HBS := Lib.hid (fun W v hv => beside_is wd (G'[p]'hp4) (l[kk]'hkl) v W (by omega) (by omega) hxb hyb hv)
                  have hkk1 : (kk : Int) < (l.length : Int) := by omega
                  have hkk0 : (0 : Int) ≤ (kk : Int) := by omega
                  have hpp1 : (p : Int) < (G'.length : Int) := by omega
                  have hpp0 : (0 : Int) ≤ (p : Int) := by omega
                  clear hrow
                  generalize l[kk] = y at *
                  generalize G'[p] = x at *
                  cases hm : decide (y ∈ G') with
                  | true =>
                    have HE := Lib.hid (HSK.out (.inl (of_decide_eq_true hm)))
                    have HM := Lib.hid hm
                    clear hm
                    go_wp2_with fail
                    go_quiet ((go_at_call 129; exact Calls.quiet_of_same (quietSame (HH4.out _ _ HGI.out HM.out))))
                    go_wp2
                    go_roundw
                    case rel => exact ⟨G', kk + 1, by omega, by go_num, hp4, HE.out, (by first | exact own_drewN HO4.out _ | exact HO4.out), (by first | exact bel_drewN HB4.out _ | exact HB4.out)⟩
                    case measure => simp [intOf]; omega
                  | false =>
                    have HM := Lib.hid hm
                    clear hm
                    cases hbs : besB wd x y with
                    | false =>
                      have HE := Lib.hid (HSK.out (.inr hbs))
                      have HBE := Lib.hid hbs
                      clear hbs
                      go_wp2_with fail
                      go_quiet ((first | (go_at_call 129; exact Calls.quiet_of_same (quietSame (HH4.out _ _ HGI.out HM.out))) | (go_at_call 134; exact Calls.quiet_of (HBS.out _ _ HBE.out))))
                      go_wp2
                      go_roundw
                      case rel => exact ⟨G', kk + 1, by omega, by go_num, hp4, HE.out, (by first | exact own_drewN HO4.out _ | exact HO4.out), (by first | exact bel_drewN HB4.out _ | exact HB4.out)⟩
                      case measure => simp [intOf]; omega
                    | true =>
                      have HE := Lib.hid (HAD.out (of_decide_eq_false HM.out) hbs)
                      have HBE := Lib.hid hbs
                      clear hbs
                      go_wp2_with fail
                      go_quiet ((first | (go_at_call 129; exact Calls.quiet_of_same (quietSame (HH4.out _ _ HGI.out HM.out))) | (go_at_call 134; exact Calls.quiet_of (HBS.out _ _ HBE.out))))
                      go_wp2_with (at_builtin; refine wpList_append_own _ rfl _ _ 30 rfl wo.heap.size 3 i0 (.int .i64 0) 1 8 Try.underlying30 hi0' hz0 hz1 hz2 rfl (by decide) _ G'.length (iv G') rfl (by first | exact (own_drewN HO4.out _).alloc _ | exact HO4.out.alloc _) ⟨w4.heap.size, 0, none⟩ 1 1 [.int .i64 y] rfl rfl (cell_one_new _ _ _) (by simp [Value.oneCell']) (by unfold maxLen; omega) (by omega) (by have := HB4.out.size; simp; omega) ?_; intro v' w9 hown9 hgrow9 _; have HO9 := Lib.hid hown9; have HG9 := Lib.hid hgrow9; clear hown9 hgrow9)
                      go_roundw
                      case rel => exact ⟨G' ++ [y], kk + 1, by omega, by go_num, by simp; omega, HE.out, by rw [iv_snoc, List.length_append]; exact HO9.out, by
                        first
                          | exact (((bel_drewN HB4.out _).alloc HB4.out.size _).grown HG9.out (by have := HB4.out.size; simp; omega) (fun j hj => (HO4.out.lt j hj).1))
                          | exact ((HB4.out.alloc HB4.out.size _).grown HG9.out (by have := HB4.out.size; simp; omega) (fun j hj => (HO4.out.lt j hj).1))⟩
                      case measure => simp [intOf]; omega
              · obtain rfl : kk = l.length := by omega
                have HE := Lib.hid (HG4.out.next hp4)
                go_wp2
                go_roundw
                case rel => exact ⟨G', p + 1, by omega, by go_num, HE.out, HO4.out, HB4.out⟩
                case measure => simp [intOf]; omega
          · obtain rfl : p = G.length := by omega
            have HALL := Lib.hid HG.out.all
            have HGN := Lib.hid HG.out.nd
            have HGC := Lib.hid HG.out.ch
            clear HG
            go_wp2
            go_loopw [11, 12] (fun so qv w5 => ∃ (S : List Int) (gs cs : Nat), S.length ≤ G.length ∧ qv = .int .i64 (S.length : Nat) ∧ so = .slice (some ⟨gs, 0, none⟩) S.length cs ∧ wo.heap.size ≤ gs ∧ Row w5 gs 3 (iv S) ∧ S.length ≤ cs ∧ S.Pairwise (· < ·) ∧ (∀ b, b ∈ S ↔ b ∈ G.take S.length) ∧ Below w3.heap.size w3 w5) (fun _ qv _ => G.length - (intOf qv).toNat)
            case atStart => exact ⟨[], w3.heap.size, 0, Nat.zero_le _, rfl, rfl, HB3.out.size, ⟨_, heap_alloc_new w3 _, by simp [iv]⟩, Nat.le_refl _, by simp, by simp, below_all _ _⟩
            case round =>
              rename World => w5
              obtain ⟨S, gs, cs, hSl, rfl, rfl, hgs, hrow, hcs, hasc, hmS, hb5⟩ := hrel
              have HROW := Lib.hid hrow
              have HB5 := Lib.hid hb5
              have HO5 := Lib.hid (own_keeps HO.out hb5)
              have HASC := Lib.hid hasc
              have HMS := Lib.hid hmS
              have hz5 := hb5.size
              have hz3 := HB3.out.size
              by_cases hq : S.length < G.length
              · have hcG : w5.cell? ⟨gg0, S.length, none⟩ = some (.int .i64 G[S.length]) := by
                  rw [HO5.out.cellAt S.length (by omega), List.getElem?_eq_getElem (by rw [iv_length]; exact hq), iv_get]
                have HP := Lib.hid (put_any gs S cs (G[S.length]'hq) w5 hrow.lt (fun j h => by have h9 := hrow.cell (k := j) (by rw [iv_length]; exact h); rw [iv_get] at h9; exact h9) hcs (by omega))
                have HSP := Lib.hid (fun L k' => so_put (G := G) (S := S) (L := L) (k := S.length) (k' := k') hasc hmS HGN.out hq)
                have hqi : (S.length : Int) < (G.length : Int) := by omega
                have hqi0 : (0 : Int) ≤ (S.length : Int) := by omega
                unfold PutPost at HP
                clear hrow hb5 hasc hmS
                generalize G[S.length]'hq = y at *
                go_wp2_with fail
                refine HP.out.mono ?_
                rintro e w6 ⟨k', v', L, hk', h1, h2, rfl, hv, b6⟩
                obtain ⟨eL, neL, aL, mL⟩ := HSP.out L k' hk' h1 h2
                have hLl : L.length = S.length + 1 := by rw [eL]; simp; omega
                rcases hv with ⟨_, e9⟩ | hown
                · exact absurd e9 neL
                · obtain ⟨cap', g', rfl, hge, hrow', hcap'⟩ := Row.of_own hown (by omega)
                  have HR6 := Lib.hid hrow'
                  have HB6 := Lib.hid (below_then HB5.out b6)
                  have HAL := Lib.hid aL
                  have HML := Lib.hid mL
                  have HLL := Lib.hid hLl
                  clear hrow' b6 aL mL hLl eL neL h1 h2 hown hcG HP
                  go_wp2
                  go_roundw
                  case rel => exact ⟨L, g', cap', by have := HLL.out; omega, by rw [HLL.out]; go_num, rfl, by omega, HR6.out, hcap', HAL.out, by rw [HLL.out]; exact HML.out, HB6.out⟩
                  case measure => simp [intOf]; omega
              · have hSG : S.length = G.length := by omega
                have eS : S = compL wd l z := asc_ext hasc (comp_asc HA.out) (fun b => by rw [hmS b, hSG, List.take_length]; exact HALL.out b)
                have hKB := Lib.hid (HB3.out.trans (hb5.mono HB3.out.size))
                have HS5 := Lib.hid (own_keeps H0.out.s hKB.out)
                have HNW := Lib.hid (own_news HO5.out)
                have hwb := Nat.le_trans H0.out.b.size hKB.out.size
                have HES := Lib.hid eS
                have hGle : G.length ≤ 64 := by omega
                have hSle : S.length ≤ 64 := by omega
                have hqn : ¬ ((S.length : Int) < (G.length : Int)) := by omega
                clear hrow hb5 hasc hmS eS hSG
                go_wp2_with (first | (at_builtin; refine wpList_append_lies _ rfl _ _ 30 rfl w.heap.size 3 i0 (.int .i64 0) 1 8 Try.underlying30 hi0' hz0 hz1 hz2 rfl (by decide) _ Sn.length (iv Sn) rfl HS5.out ⟨gg0, 0, none⟩ G.length gc0 (iv G) rfl (by rw [iv_length, Nat.mul_one]) HNW.out (iv_one _) hpos (by unfold maxLen; omega) (by omega) hwb _ rfl ?_; intro g7 cap7 w7 hown7 hgrow7 hlie7 hlt7; have HO7 := Lib.hid hown7; have HG7 := Lib.hid hgrow7; have O7 := Lib.hid (H0.out.own7 hKB.out hgrow7); have HLIE := Lib.hid hlie7; have hz7 := hgrow7.size; clear hown7 hgrow7 hlie7) | (at_builtin; refine wpList_append_own _ rfl _ _ 112 rfl w.heap.size 30 iR (.slice none 0 0) 1 24 Try.underlying112 hR' hRz hR1 hR2 rfl (by decide) _ (partsP wd l k).length (tabV E (partsP wd l k)) rfl (O7.out.alloc _) ⟨w7.heap.size, 0, none⟩ 1 1 [.slice (some ⟨gs, 0, none⟩) S.length cs] rfl rfl (cell_one_new _ _ _) (by simp [Value.oneCell']) (by unfold maxLen; omega) (by omega) (by simp; omega) ?_; intro v' w9 hown9 hgrow9 _; have R9 := Lib.hid (H0.out.put (G := G) (cs := cs) hKB.out HROW.out hgs HG7.out HLIE.out HO7.out rfl (by omega) hgrow9 hown9); clear hown9 hgrow9))
                go_roundw
                case rel =>
                  refine ⟨k + 1, E ++ [(gs, cs)], Sn ++ G, by omega, by go_num, by rw [HE.out, ← HES.out]; exact R9.out, ?_, fun b => ?_⟩
                  · rw [List.nodup_append]
                    refine ⟨HND.out, HGN.out, fun x hx y hy e => ?_⟩
                    subst e
                    exact HNO.out (parts_back (HGC.out x hy) ((HMEM.out x).1 hx))
                  · rw [HE.out, List.flatten_append, List.mem_append, List.mem_append, HMEM.out b, HALL.out b]
                    simp
                case measure => simp [intOf]; omega
    · obtain rfl : k = l.length := by omega
      go_wp2
      go_ret
      exact H0.out.post
end Go.Proofs.Ythceffkkokgpnaa
