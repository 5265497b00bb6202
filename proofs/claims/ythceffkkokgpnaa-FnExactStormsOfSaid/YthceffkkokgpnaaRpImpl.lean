/- The program's RegionParts. -/
import Derived.Test.YthceffkkokgpnaaTakeP
import Derived.Test.YthceffkkokgpnaaTabPost
import Derived.Test.YthceffkkokgpnaaGrid
namespace Go.Proofs.Ythceffkkokgpnaa
open Go.RowKit
set_option linter.unusedVariables false
set_option linter.unusedSimpArgs false
/-- the parts so far, and the set of those that are left -/
structure Pr (w : World) (B mb : Nat) (S : Int → Int → Bool) (E : List (Nat × Nat)) (R : List (List Int)) (out : Value) (wr : World) : Prop where
  o : wr.ownsRow B 30 1 out R.length (tabV E R)
  t : Tb wr B wr.heap.size E R
  m : PSet wr mb 64 S
  b : Below w.heap.size w wr
  lt : mb < B
  lo : w.heap.size ≤ mb
  z : B ≤ wr.heap.size
section
variable {w wr w1 w2 w4 : World} {B mb : Nat} {S S' : Int → Int → Bool} {E : List (Nat × Nat)} {R : List (List Int)} {out out' : Value}
theorem Pr.step (h : Pr w B mb S E R out wr) (k : Below wr.heap.size wr w1) : Pr w B mb S E R out w1 :=
  ⟨own_keeps h.o k, (h.t.below k (Nat.le_refl _)).more (Nat.le_refl _) k.size, h.m.below k h.m.lt, below_then h.b k, h.lt, h.lo, Nat.le_trans h.z k.size⟩
theorem Pr.put {g c : Nat} {s : List Int} {ob : Obj} (h : Pr w B mb S E R out wr) (k : wr.grownBy w2 (some mb)) (hm : PSet w2 mb 64 S') (hr : Row w2 g 3 (iv s)) (hg : wr.heap.size ≤ g) (hgr : (w2.alloc ob).grownBy w4 out.ownBlock)
    (ho : w4.ownsRow B 30 1 out' (R.length + 1) (tabV E R ++ [.slice (some ⟨g, 0, none⟩) s.length c])) : Pr w B mb S' (E ++ [(g, c)]) (R ++ [s]) out' w4 := by
  have hlt := h.lt
  have hlo := h.lo
  have hz := h.z
  have o2 : (w2.alloc ob).ownsRow B 30 1 out R.length (tabV E R) := (h.o.kept k (.inr (fun e => by have := (h.o.lt mb e).1; omega))).alloc ob
  have t2 : Tb w2 B wr.heap.size E R := h.t.keep fun j h1 _ h3 _ => k.block j h3 (by intro e; injection e with e; omega)
  have t3 := (t2.snoc (c := c) (by omega) hg hr).below (below_all w2 ob) (by have := hr.lt; omega)
  have t4 : Tb w4 B (g + 1) (E ++ [(g, c)]) (R ++ [s]) := t3.keep fun j _ _ h3 ⟨vs, h4⟩ => hgr.block j h3 (Ne.symm (own_ne_row o2 h4 (by decide)))
  have hs1 := hgr.size
  have hs2 := hr.lt
  have hs3 := k.size
  rw [World.size_alloc] at hs1
  refine ⟨?_, t4.more (Nat.le_refl _) (by omega), (hm.alloc ob).kept hgr (by intro e; have := (h.o.lt mb e.symm).1; omega), ?_, h.lt, h.lo, by omega⟩
  · rw [tabV_snoc h.t.len, List.length_append]; exact ho
  · have b2 : Below w.heap.size w w2 := h.b.grown k h.b.size (fun j e => by injection e with e; omega)
    have b3 := b2.alloc b2.size ob
    exact b3.grown hgr b3.size (fun j e => by have := (h.o.lt j e).1; omega)
theorem Pr.post {b : Bool} (h : Pr w B mb S E R out wr) : TabPost R b w (.returned (.tuple #[out, .bool b])) wr := by
  obtain ⟨a1, c1, rfl, ht⟩ := tabl_of h.o h.t (Nat.le_refl _)
  exact ⟨a1, c1, E, rfl, ht.more (by have := h.lt; have := h.lo; omega) (Nat.le_refl _), h.b⟩
end
theorem cel_of {wd hg : Int} {l : List Int} (hr : regB wd hg l = true) : ∀ z ∈ l, celB wd z := by
  intro z hz
  have hb := reg_bd hr z hz
  have hs := shapeB_iff.1 (reg_shape hr)
  have hp := prod_bd (reg_shape hr)
  have hc := cell_in (reg_shape hr) hb.1 hb.2
  unfold celB
  omega
theorem Pr.own2 {w wr w2 : World} {B mb : Nat} {S : Int → Int → Bool} {E : List (Nat × Nat)} {R : List (List Int)} {out : Value} (h : Pr w B mb S E R out wr) (k : wr.grownBy w2 (some mb)) : w2.ownsRow B 30 1 out R.length (tabV E R) :=
  h.o.kept k (.inr (fun e => by have := (h.o.lt mb e).1; have := h.lt; omega))
set_option maxRecDepth 100000 in
set_option maxHeartbeats 8000000 in
theorem implParts_any (wd hg : Int) (a : Option Addr) (l : List Int) (c : Nat) (w : World) (hl : Ints .i64 w w.heap.size a l) (hn : l.length ≤ 1048576) :
    Calls Try.prog 90 #[.int .i64 wd, .int .i64 hg, .slice a l.length c] w (TabPost (partsR wd hg l) (regB wd hg l) w) := by
  obtain ⟨i0, hi0', hz0, hz1, hz2⟩ := info_parts infoRow
  have HL := Lib.hid hl
  cases hr : regB wd hg l with
  | false =>
    rw [partsR_no hr]
    have C := Lib.hid (fun W h => implRegion_is wd hg a l c w.heap.size false W h hn hr)
    clear hl hr
    go_enter Try.func90, Try.ntmps90
    go_wp2_with fail
    refine (C.out _ HL.out).mono ?_
    rintro e w1 ⟨rfl, rfl⟩
    go_wp2
    go_ret2
    exact ⟨_, _, [], rfl, ⟨Tb.nil, .inl rfl⟩, below_all _ _⟩
  | true =>
    rw [partsR_yes hr]
    have C := Lib.hid (fun W h => implRegion_is wd hg a l c w.heap.size true W h hn hr)
    have C2 := Lib.hid (fun W h => cellsOf_any wd hg a l c W h hr)
    have hs := shapeB_iff.1 (reg_shape hr)
    have hlen := reg_len hr
    have HA := Lib.hid (reg_asc hr)
    have HCEL := Lib.hid (cel_of hr)
    clear hl hr
    go_enter Try.func90, Try.ntmps90
    go_wp2_with fail
    refine (C.out _ HL.out).mono ?_
    rintro e w1 ⟨rfl, rfl⟩
    go_wp2_with fail
    refine (C2.out _ HL.out).mono ?_
    rintro e w2 ⟨mb, rfl, hmb, hm, b2⟩
    have hP0 := Lib.hid (show Pr w w2.heap.size mb (inP wd (restP wd l 0)) [] (partsP wd l 0) (.slice (some ⟨w2.heap.size, 0, none⟩) 0 0) (w2.alloc (.cells #[] 30)) from
      ⟨World.ownsRow_made (base := w2.heap.size) (e := 30) (size := 1) w2 #[] 0 (Nat.le_refl _) (by unfold maxLen; omega) rfl, Tb.nil, (hm.congr (fun x y _ _ => inP_ext (fun b => by rw [mem_rest]; simp [partsP]) x y)).alloc _, b2.alloc b2.size _, hm.lt, hmb, by simp⟩)
    clear hm b2 hmb
    go_wp2
    go_loopg [9, 25] l.length (fun g q i wr => ∃ (k : Nat) (E : List (Nat × Nat)), k ≤ l.length ∧ g + k = l.length ∧ i = .int .i64 k ∧ Pr w w2.heap.size mb (inP wd (restP wd l k)) E (partsP wd l k) q wr)
    case atStart => exact ⟨0, [], Nat.zero_le _, rfl, rfl, hP0.out⟩
    case round =>
      obtain ⟨k, E, hk, hg2, rfl, hpr⟩ := hrel
      have HG := Lib.hid hg2
      have H0 := Lib.hid hpr
      clear hg2 hpr hP0
      by_cases hlt : k < l.length
      · obtain ⟨b, o, rfl, hb, hc⟩ := (HL.out.below H0.out.b (Nat.le_refl _)).at_ hlt
        have hi : (k : Int) < (l.length : Int) := by omega
        have hi0 : (0 : Int) ≤ (k : Int) := by omega
        have hmz := List.getElem_mem hlt
        have HCZ := HCEL.out _ hmz
        unfold celB at HCZ
        have HOLD := Lib.hid (partsP_old (wd := wd) hlt)
        have HNEW := Lib.hid (partsP_new (wd := wd) hlt)
        have HRN := Lib.hid (rest_next (wd := wd) HA.out hlt)
        have HMR := Lib.hid (mem_rest (wd := wd) (b := l[k]) (l := l) (k := k))
        have HSF := Lib.hid (inP_self (wd := wd) (i := l[k]) (l := restP wd l k))
        have HCR := Lib.hid (fun (h : l[k] ∈ restP wd l k) => comp_rest (wd := wd) (f := l[k]) (k := k) HA.out h)
        have HMZ := Lib.hid hmz
        have hpl := parts_len (wd := wd) (l := l) k
        have HTK := Lib.hid (fun W (hf : l[k] ∈ restP wd l k) (hm : PSet W mb 64 (inP wd (restP wd l k))) => takePart_any wd (restP wd l k) l[k] mb W (by omega) (by omega) (fun z hz => HCEL.out z (mem_rest.1 hz).1) (rest_asc HA.out) (Nat.le_trans (List.length_filter_le _ _) hlen) hf hm)
        clear hmz
        generalize l[k] = z at *
        have HPT := Lib.hid (fun W => pointAt_any wd z W (by omega) (by omega) (by omega) (by omega))
        obtain ⟨x, hx⟩ : ∃ x, z % wd = x := ⟨_, rfl⟩
        obtain ⟨y, hy⟩ : ∃ y, z / wd = y := ⟨_, rfl⟩
        rw [hx, hy] at HCZ HPT HTK HSF
        have o0 := Lib.hid (okI_small (show -1 ≤ x ∧ x ≤ 9 by omega))
        have o1 := Lib.hid (okI_small (show -1 ≤ y ∧ y ≤ 9 by omega))
        clear hx hy
        go_wp2_with fail
        refine (HPT.out _).mono ?_
        rintro e w3 ⟨rfl, b3⟩
        have H4 := Lib.hid ((H0.out.step b3).step (below_all w3 (.cells #[.int .i64 x, .int .i64 y] 152)))
        clear b3 H0 hc
        cases hv : inP wd (restP wd l k) x y with
        | false =>
          have HV := Lib.hid hv
          have hin : z ∈ (partsP wd l k).flatten := by
            have h9 := HSF.out
            rw [hv] at h9
            have h8 := of_decide_eq_false h9.symm
            exact Classical.byContradiction fun h => h8 (HMR.out.2 ⟨HMZ.out, h⟩)
          have HE := Lib.hid (HOLD.out hin)
          have HE2 := Lib.hid (show restP wd l (k + 1) = restP wd l k by unfold restP; rw [HE.out])
          clear hv hin
          go_wp2_with (at_lookup; refine wpList_look_set _ rfl _ _ 162 rfl Try.underlying162 mb 64 (inP wd (restP wd l k)) rfl H4.out.m x y rfl o0.out o1.out false HV.out ?_)
          go_roundg (l.length - (k + 1))
          case rel => exact ⟨k + 1, E, by omega, by omega, by go_num, by rw [HE.out, HE2.out]; exact H4.out⟩
          case measure => have := HG.out; omega
        | true =>
          have HV := Lib.hid hv
          have hin : z ∈ restP wd l k := by
            have h9 := HSF.out
            rw [hv] at h9
            exact of_decide_eq_true h9.symm
          have hno := (HMR.out.1 hin).2
          have HE := Lib.hid (HNEW.out hno)
          have HN := Lib.hid (HRN.out hno)
          rw [← HCR.out hin] at HE
          have HT := Lib.hid (fun W hm => HTK.out W hin hm)
          unfold TakePost at HT
          have hpos : 0 < (compL wd (restP wd l k) z).length := List.length_pos_of_mem (mem_comp.2 (.here hin))
          have hle : (compL wd (restP wd l k) z).length ≤ 64 := Nat.le_trans (List.length_filter_le _ _) (Nat.le_trans (List.length_filter_le _ _) hlen)
          generalize compL wd (restP wd l k) z = s at *
          clear hv hin hno HTK
          go_wp2_with (first | (at_lookup; refine wpList_look_set _ rfl _ _ 162 rfl Try.underlying162 mb 64 (inP wd (restP wd l k)) rfl H4.out.m x y rfl o0.out o1.out true HV.out ?_) | fail)
          refine (HT.out _ H4.out.m).mono ?_
          rintro e w5 ⟨g5, c5, L5, rfl, o5, m5, hL5, t5⟩
          have M5 := Lib.hid (m5.congr (S' := inP wd (restP wd l (k + 1))) (fun x y _ _ => inP_ext (fun b => by rw [hL5 b, HN.out b]) x y))
          obtain ⟨cap', g', e9, hge, hrow, _⟩ := Row.of_own o5 hpos
          injection e9 with e9 _ e10
          injection e9 with e9
          injection e9 with e9
          subst e9
          have HR5 := Lib.hid hrow
          have T5 := Lib.hid t5
          have O5 := Lib.hid (H4.out.own2 t5)
          have hz5 : w2.heap.size ≤ w5.heap.size := Nat.le_trans H4.out.z t5.size
          clear o5 m5 hL5 hrow t5 HT HN e10
          go_wp2_with (at_builtin; refine wpList_append_own _ rfl _ _ 112 rfl w2.heap.size 30 i0 (.slice none 0 0) 1 24 Try.underlying112 hi0' hz0 hz1 hz2 rfl (by decide) _ (partsP wd l k).length (tabV E (partsP wd l k)) rfl (O5.out.alloc _) ⟨w5.heap.size, 0, none⟩ 1 1 [.slice (some ⟨g5, 0, none⟩) s.length c5] rfl rfl (cell_one_new _ _ _) (by simp [Value.oneCell']) (by unfold maxLen; omega) (by omega) (by simp; omega) ?_; intro v' w9 hown9 hgrow9 _; have R9 := Lib.hid (H4.out.put (c := c5) T5.out M5.out HR5.out hge hgrow9 hown9); clear hown9 hgrow9)
          go_roundg (l.length - (k + 1))
          case rel => exact ⟨k + 1, E ++ [(g5, c5)], by omega, by omega, by go_num, by rw [HE.out]; exact R9.out⟩
          case measure => have := HG.out; omega
      · obtain rfl : k = l.length := by omega
        go_wp2
        go_ret2
        exact H0.out.post
end Go.Proofs.Ythceffkkokgpnaa
