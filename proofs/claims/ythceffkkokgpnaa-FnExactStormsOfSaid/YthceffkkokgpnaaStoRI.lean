/- The program's StormsOf. -/
import Derived.Test.YthceffkkokgpnaaStoI
import Derived.Test.YthceffkkokgpnaaStLaw
import Derived.Test.YthceffkkokgpnaaRpImpl
import Derived.Test.YthceffkkokgpnaaRpSpec3
import Derived.Test.YthceffkkokgpnaaAboLaw
namespace Go.Proofs.Ythceffkkokgpnaa
open Go.RowKit
set_option linter.unusedVariables false
set_option linter.unusedSimpArgs false
theorem prt_len {wd : Int} {l : List Int} {lim : Int} {r : List Int} (hr : r ∈ prtR wd l lim) : r.length ≤ l.length := by
  obtain ⟨f, rfl⟩ := parts_each _ r hr
  exact Nat.le_trans (List.length_filter_le _ _) (aboP_len _ _ _)
theorem prt_R {wd hg : Int} {l : List Int} {lim : Int} (h : goodB wd hg l = true) : partsR wd hg (aboP l lim l.length) = prtR wd l lim := partsR_yes (abo_reg h)
theorem prt_pos {wd hg : Int} {l : List Int} {lim : Int} (h : goodB wd hg l = true) {r : List Int} (hr : r ∈ prtR wd l lim) : 0 < r.length :=
  parts_pos (wd := wd) (hg := hg) (l := aboP l lim l.length) r (by rw [prt_R h]; exact hr)
/-- a list of storms and a bool, returned -/
def StRet (r : List StT) (v : Bool) (w : World) (e : Ending) (w' : World) : Prop := ∃ a c, e = .returned (.tuple #[.slice a r.length c, .bool v]) ∧ OwnSt w' w.heap.size a r ∧ Below w.heap.size w w'
/-- a field by value, read behind the world w0 in which its box is laid -/
theorem fbox (w : World) (wd hg : Int) (a : Option Addr) (n c : Nat) (W : World) (G : Below (w.alloc (.cells #[.int .i64 wd, .int .i64 hg, .slice a n c] 54)).heap.size (w.alloc (.cells #[.int .i64 wd, .int .i64 hg, .slice a n c] 54)) W) :
    W.cell? ⟨w.heap.size, 0, none⟩ = some (.int .i64 wd) ∧ W.cell? ⟨w.heap.size, 1, none⟩ = some (.int .i64 hg) ∧ W.cell? ⟨w.heap.size, 2, none⟩ = some (.slice a n c) :=
  ⟨(G.cell (p := ⟨w.heap.size, 0, none⟩) (by simp)).trans (by simp [go_sem]), (G.cell (p := ⟨w.heap.size, 1, none⟩) (by simp)).trans (by simp [go_sem]), (G.cell (p := ⟨w.heap.size, 2, none⟩) (by simp)).trans (by simp [go_sem])⟩
set_option maxRecDepth 100000 in
set_option maxHeartbeats 8000000 in
theorem implSO_any (wd hg : Int) (a : Option Addr) (l : List Int) (c : Nat) (lim : Int) (w : World) (hl : Ints .i64 w w.heap.size a l) (hn : l.length ≤ 1048576) :
    Calls Try.prog 37 #[.agg #[.int .i64 wd, .int .i64 hg, .slice a l.length c], .int .i64 lim] w (StRet (stoR wd hg l lim) (stoB wd hg l lim) w) := by
  have HFB := Lib.hid (fbox w wd hg a l.length c)
  obtain ⟨w0, hw0⟩ : ∃ q, w.alloc (.cells #[.int .i64 wd, .int .i64 hg, .slice a l.length c] 54) = q := ⟨_, rfl⟩
  have B0 := Lib.hid (show Below w.heap.size w w0 by rw [← hw0]; exact below_all _ _)
  rw [hw0] at HFB
  have HS0 := Lib.hid (And.intro (show w.heap.size < w0.heap.size by rw [← hw0]; simp) trivial)
  have HW := Lib.hid hw0
  have HI := Lib.hid (fun W (G : Below w0.heap.size w0 W) => show Ints .i64 W W.heap.size a l from ((hl.below (below_then B0.out G) (Nat.le_refl _)).more (below_then B0.out G).size))
  have HA := Lib.hid (fun W h => implAbove_any wd hg a l c lim W h hn)
  have D0 := Lib.hid (Below.refl w0.heap.size w0)
  clear hw0 hl
  cases hg' : goodB wd hg l with
  | false =>
    have HE := Lib.hid (stoB_bad (lim := lim) hg')
    rw [stoR_no HE.out, HE.out]
    unfold SvRet at HA
    rw [hg'] at HA
    clear hg'
    generalize aboR wd hg l lim = rg at *
    obtain ⟨k0, k1, k2⟩ := HFB.out _ D0.out
    go_enter Try.func37, Try.ntmps37
    go_wp2_with fail
    rw [HW.out]
    go_wp2_with fail
    refine (HA.out _ (HI.out _ D0.out)).mono ?_
    rintro e w1 ⟨a1, c1, rfl, o1, b1⟩
    have B1 := Lib.hid (below_then B0.out b1)
    clear o1 b1 k0 k1 k2
    go_wp2
    go_ret2
    exact ⟨_, _, rfl, ⟨_, Nat.le_refl _, .inl rfl⟩, B1.out.alloc B1.out.size _⟩
  | true =>
    have hwd := (shapeB_iff.1 (good_shape hg')).1
    have hl64 := (good_le hg').2
    have HP := Lib.hid (fun a1 c1 W h => implParts_any wd hg a1 (aboP l lim l.length) c1 W h (by have := aboP_len l lim l.length; omega))
    rw [prt_R hg', abo_reg hg'] at HP
    unfold SvRet at HA
    unfold TabPost at HP
    rw [aboR_yes hg', hg'] at HA
    have HPO := Lib.hid (fun r (hr : r ∈ prtR wd l lim) => prt_pos (lim := lim) hg' hr)
    have HPL := Lib.hid (fun r (hr : r ∈ prtR wd l lim) => prt_len hr)
    have HPB := Lib.hid (fun r (hr : r ∈ prtR wd l lim) => prt_bd hr)
    have HMANY := Lib.hid (fun h => stoB_many (wd := wd) (hg := hg) (l := l) (lim := lim) h)
    have HYES := Lib.hid (fun h => stoB_yes (wd := wd) (hg := hg) (l := l) (lim := lim) hg' h)
    generalize aboP l lim l.length = rg at *
    have HNO := Lib.hid (fun h => stoR_no (wd := wd) (hg := hg) (l := l) (lim := lim) h)
    have HRY := Lib.hid (fun h => stoR_yes (wd := wd) (hg := hg) (l := l) (lim := lim) h)
    generalize prtR wd l lim = R at *
    clear hg'
    obtain ⟨k0, k1, k2⟩ := HFB.out _ D0.out
    by_cases h5 : R.length ≤ 5
    · have HB := Lib.hid (HYES.out h5)
      have HRR := Lib.hid (HRY.out HB.out)
      rw [HB.out, HRR.out]
      have hmk := fun W => run_make_st R.length (by omega) W
      have hn5 : ¬ (R.length : Int) > 5 := by omega
      clear HMANY HNO HYES HRY
      go_enter Try.func37, Try.ntmps37
      go_wp2_with fail
      rw [HW.out]
      go_wp2_with fail
      refine (HA.out _ (HI.out _ D0.out)).mono ?_
      rintro e w1 ⟨a1, c1, rfl, o1, b1⟩
      have D1 := Lib.hid (below_then D0.out b1)
      have O1 := Lib.hid o1.ints
      clear o1 b1 k0 k1 k2 D0
      obtain ⟨k0, k1, k2⟩ := HFB.out _ D1.out
      go_wp2_with fail
      refine (HP.out _ _ _ O1.out).mono ?_
      rintro e w2 ⟨a2, c2, E, rfl, t2, b2⟩
      have D2 := Lib.hid (below_then D1.out b2)
      have T2 := Lib.hid t2
      clear t2 b2 k0 k1 k2 D1 O1 HA HP
      obtain ⟨g, hgq⟩ : ∃ q, w2.heap.size = q := ⟨_, rfl⟩
      have HG := Lib.hid (And.intro hgq trivial)
      have R3 := Lib.hid (row_made_st R.length w2)
      have B3 := Lib.hid (Below.refl w2.heap.size w2 |>.alloc (Nat.le_refl _) (.cells (madeCells #[.int .i64 0, .int .i64 0, .int .i64 0, .int .i64 0] (R.length * 4)) 26))
      have hlm : (R.map (stO wd l)).length = R.length := by simp
      have HLM := Lib.hid hlm
      rw [hgq] at R3 B3
      go_wp2
      clear hmk hn5 hgq hlm
      obtain ⟨L, hL⟩ : ∃ L, R.map (stO wd l) = L := ⟨_, rfl⟩
      have HL := Lib.hid hL
      rw [hL] at HLM
      go_loopw [39] (fun i wr => ∃ k : Nat, k ≤ R.length ∧ i = .int .i64 k ∧ Row wr g 26 (stv (mixSt L k)) ∧ Below g w2 wr) (fun i _ => R.length - (intOf i).toNat)
      case atStart => exact ⟨0, Nat.zero_le _, rfl, by rw [mixSt_zero, HLM.out]; exact R3.out, B3.out⟩
      case round =>
        obtain ⟨k, hk, rfl, hrow, hB⟩ := hrel
        have HR := Lib.hid hrow
        have HBR := Lib.hid hB
        by_cases hlt : k < R.length
        · have hi : (k : Int) < (R.length : Int) := by omega
          have hi0 : (0 : Int) ≤ (k : Int) := by omega
          have hb2 : Below w2.heap.size w2 wr := by rw [HG.out.1]; exact hB
          have T4 := Lib.hid (T2.out.below hb2 (Nat.le_refl _))
          obtain ⟨gp, he, rfl, hgp, hcp⟩ := T4.out.at_ hlt
          have HIN := Lib.hid (T4.out.ints he hlt)
          have hmem := List.getElem_mem hlt
          have hp0 := HPO.out _ hmem
          have hp1 := HPL.out _ hmem
          have hpb := HPB.out _ hmem
          have HLK := Lib.hid (show L[k]'(by rw [HLM.out]; exact hlt) = stO wd l R[k] by simp only [← HL.out, List.getElem_map])
          have HST := Lib.hid (mixSt_step L k (by rw [HLM.out]; exact hlt))
          have hml := mixSt_len L k (by rw [HLM.out]; exact hk)
          have hnl := stv_length (mixSt L k)
          have hlm := HLM.out
          obtain ⟨z0, hz0⟩ : ∃ z, wr.cell? ⟨g, k * 4, none⟩ = some z := ⟨_, hrow.cell (k := k * 4) (by omega)⟩
          obtain ⟨z1, hz1⟩ : ∃ z, wr.cell? ⟨g, k * 4 + 1, none⟩ = some z := ⟨_, hrow.cell (k := k * 4 + 1) (by omega)⟩
          obtain ⟨z2, hz2⟩ : ∃ z, wr.cell? ⟨g, k * 4 + 2, none⟩ = some z := ⟨_, hrow.cell (k := k * 4 + 2) (by omega)⟩
          obtain ⟨z3, hz3⟩ : ∃ z, wr.cell? ⟨g, k * 4 + 3, none⟩ = some z := ⟨_, hrow.cell (k := k * 4 + 3) (by omega)⟩
          have f0 := hrow.frozen (k * 4)
          have f1 := hrow.frozen (k * 4 + 1)
          have f2 := hrow.frozen (k * 4 + 2)
          have f3 := hrow.frozen (k * 4 + 3)
          have hgl := hrow.lt
          have HNS := Lib.hid (fun x0 x1 x2 x3 => stv_set (mixSt L k) k x0 x1 x2 x3 (by omega))
          rw [HLK.out] at HST
          have D4 := Lib.hid (D2.out.trans (hb2.mono D2.out.size))
          obtain ⟨k0, k1, k2⟩ := HFB.out _ D4.out
          have HC := Lib.hid (fun W h1 h2 => implSto_any wd hg a l c (some ⟨(E[k]'he).1, 0, none⟩) (R[k]'hlt) (E[k]'he).2 W h1 h2 hwd hl64 hp0 (by omega) hpb)
          have HI2 := Lib.hid (HIN.out.more hb2.size)
          unfold entV at hcp
          generalize R[k] = r at *
          obtain ⟨⟨x0, x1, x2, x3⟩, hx⟩ : ∃ s, stO wd l r = s := ⟨_, rfl⟩
          rw [hx] at HC HST
          clear hx hlm hnl hml hmem hp0 hp1 hpb hrow hB hb2 HIN HLK
          go_wp2_with fail
          refine (HC.out _ (HI.out _ D4.out) HI2.out).mono ?_
          rintro e w5 ⟨rfl, b5⟩
          have hz0' : w5.cell? ⟨g, k * 4, none⟩ = some z0 := (b5.cell (p := ⟨g, k * 4, none⟩) hgl).trans hz0
          have hz1' : w5.cell? ⟨g, k * 4 + 1, none⟩ = some z1 := (b5.cell (p := ⟨g, k * 4 + 1, none⟩) hgl).trans hz1
          have hz2' : w5.cell? ⟨g, k * 4 + 2, none⟩ = some z2 := (b5.cell (p := ⟨g, k * 4 + 2, none⟩) hgl).trans hz2
          have hz3' : w5.cell? ⟨g, k * 4 + 3, none⟩ = some z3 := (b5.cell (p := ⟨g, k * 4 + 3, none⟩) hgl).trans hz3
          have f0' : w5.frozen? ⟨g, k * 4, none⟩ = false := (b5.frozen (p := ⟨g, k * 4, none⟩) hgl).trans f0
          have f1' : w5.frozen? ⟨g, k * 4 + 1, none⟩ = false := (b5.frozen (p := ⟨g, k * 4 + 1, none⟩) hgl).trans f1
          have f2' : w5.frozen? ⟨g, k * 4 + 2, none⟩ = false := (b5.frozen (p := ⟨g, k * 4 + 2, none⟩) hgl).trans f2
          have f3' : w5.frozen? ⟨g, k * 4 + 3, none⟩ = false := (b5.frozen (p := ⟨g, k * 4 + 3, none⟩) hgl).trans f3
          have HR5 := Lib.hid (HR.out.of_block (b5.block g hgl))
          have HB5 := Lib.hid (HBR.out.trans (b5.mono (Nat.le_of_lt hgl)))
          clear hz0 hz1 hz2 hz3 f0 f1 f2 f3 b5 k0 k1 k2
          go_wp2
          go_roundw
          case rel =>
            refine ⟨k + 1, by omega, by go_num, ?_, ((((HB5.out.setCell (p := ⟨g, k * 4, none⟩) (Nat.le_refl _) _).setCell (p := ⟨g, k * 4 + 1, none⟩) (Nat.le_refl _) _).setCell (p := ⟨g, k * 4 + 2, none⟩) (Nat.le_refl _) _).setCell (p := ⟨g, k * 4 + 3, none⟩) (Nat.le_refl _) _)⟩
            have h := ((((HR5.out.set (k * 4) (.int .i64 x0)).set (k * 4 + 1) (.int .i64 x1)).set (k * 4 + 2) (.int .i64 x2)).set (k * 4 + 3) (.int .i64 x3))
            rw [HNS.out, HST.out] at h
            exact h
          case measure => simp [intOf]; omega
        · obtain rfl : k = R.length := by omega
          have HB9 := Lib.hid (show Below w.heap.size w wr from B0.out.trans (((D2.out.trans ((show Below w2.heap.size w2 wr by rw [HG.out.1]; exact hB).mono D2.out.size))).mono B0.out.size))
          have hrr := HR.out
          rw [← HLM.out, mixSt_all] at hrr
          have HR9 := Lib.hid hrr
          have hgg : w.heap.size ≤ g := by have := B0.out.size; have := D2.out.size; have := HG.out.1; omega
          clear hB hrow hrr
          go_wp2
          go_ret2
          refine ⟨some ⟨g, 0, none⟩, R.length, ?_, ?_, HB9.out⟩
          · rw [HL.out, HLM.out]; rfl
          · rw [HL.out]; exact ⟨g, hgg, .inr ⟨rfl, HR9.out⟩⟩
    · have HB := Lib.hid (HMANY.out h5)
      have HRR := Lib.hid (HNO.out HB.out)
      rw [HB.out, HRR.out]
      have hn5 : (R.length : Int) > 5 := by omega
      clear HMANY HNO HYES HRY
      go_enter Try.func37, Try.ntmps37
      go_wp2_with fail
      rw [HW.out]
      go_wp2_with fail
      refine (HA.out _ (HI.out _ D0.out)).mono ?_
      rintro e w1 ⟨a1, c1, rfl, o1, b1⟩
      have D1 := Lib.hid (below_then D0.out b1)
      have O1 := Lib.hid o1.ints
      clear o1 b1 k0 k1 k2 D0
      obtain ⟨k0, k1, k2⟩ := HFB.out _ D1.out
      go_wp2_with fail
      refine (HP.out _ _ _ O1.out).mono ?_
      rintro e w2 ⟨a2, c2, E, rfl, t2, b2⟩
      have D2 := Lib.hid (below_then D1.out b2)
      have B2 := Lib.hid (below_then B0.out D2.out)
      clear t2 b2 k0 k1 k2 D1 O1
      go_wp2
      go_ret2
      exact ⟨_, _, rfl, ⟨_, Nat.le_refl _, .inl rfl⟩, B2.out.alloc B2.out.size _⟩
end Go.Proofs.Ythceffkkokgpnaa
