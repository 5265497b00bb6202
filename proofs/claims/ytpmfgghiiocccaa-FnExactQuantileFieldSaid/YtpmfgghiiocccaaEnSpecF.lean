/- The model's fields of an ensemble: CountAtLeast, MeanMember, SpreadField, QuantileField. -/
import Derived.Test.YtpmfgghiiocccaaEnJoin
import Derived.Test.YtpmfgghiiocccaaEnVals
import Derived.Test.YtpmfgghiiocccaaEnLeast
import Derived.Test.YtpmfgghiiocccaaNbRes
import Derived.Test.YtpmfgghiiocccaaSet
namespace Go.Proofs.Ytpmfgghiiocccaa
open Go.RowKit
set_option linter.unusedVariables false
set_option linter.unusedSimpArgs false
theorem own_block {w : World} {B : Nat} {a : Option Addr} {l : List Int} (h : OwnI w B a l) (h0 : 0 < l.length) : ∃ g, B ≤ g ∧ a = some ⟨g, 0, none⟩ ∧ Row w g 3 (iv l) := by
  obtain ⟨g, h1, h2 | ⟨h2, h3⟩⟩ := h
  · rw [h2] at h0; simp at h0
  · exact ⟨g, h1, h2, h3⟩
set_option maxRecDepth 100000 in
set_option maxHeartbeats 8000000 in
theorem specCnt_any (a : Option Addr) (es : List FE) (c : Nat) (t : Int) (w : World) (hl : Flds w w.heap.size a es) (hn : es.length ≤ 1048576) (hs : ∀ e ∈ es, e.l.length ≤ 1048576) :
    Calls Try.prog 18 #[.slice a es.length c, .int .i64 t] w (FRet (cntR (plains es) t) w) := by
  have R0 := Lib.hid (Box.new w 31 (.int .i64 0) (.int .i64 0) (.slice none 0 0))
  have B0 := Lib.hid (below_all w (.cells #[.int .i64 0, .int .i64 0, .slice none 0 0] 31))
  have F0 := Lib.hid (flds_alloc hl (.cells #[.int .i64 0, .int .i64 0, .slice none 0 0] 31))
  have HC := Lib.hid (fun v W h hv => specEn_is a es c v W h hn hs hv)
  have HSZ := Lib.hid hs
  clear hs
  cases he : enB (plains es) with
  | false =>
    have HD := Lib.hid (fun W h => HC.out false W h he)
    rw [(show cntR (plains es) t = none from by unfold cntR; rw [enR_no he]; split <;> rfl)]
    clear he hl
    go_enter Try.func18, Try.ntmps18
    go_wp2_with fail
    refine (HD.out _ F0.out).mono ?_
    rintro e w1 ⟨rfl, b1⟩
    have R1 := Lib.hid (R0.out.below b1)
    have B1 := Lib.hid (below_then B0.out b1)
    clear b1 R0 B0
    obtain ⟨r0, r1, r2⟩ := R1.out.cells
    have g0 := R1.out.frozen 0
    have g1 := R1.out.frozen 1
    have g2 := R1.out.frozen 2
    go_wp2_with (fail)
    refine bodyPost_ret (v := .tuple #[.agg #[.int .i64 0, .int .i64 0, .slice none 0 0], .bool false]) (by simp [results, Try.results18, go_sem, r0, r1, r2]) rfl ⟨none, 0, rfl, OwnI.none_, ?_⟩
    first | exact B1.out | exact ((B1.out.setCell (p := ⟨w.heap.size, 0, none⟩) (Nat.le_refl _) _).setCell (p := ⟨w.heap.size, 1, none⟩) (Nat.le_refl _) _).setCell (p := ⟨w.heap.size, 2, none⟩) (Nat.le_refl _) _
  | true =>
    have HD := Lib.hid (fun W h => HC.out true W h he)
    cases hv0 : valB t with
    | false =>
      have HG0 := Lib.hid (fun W => specThr_is t false W (hv0))
      rw [(show cntR (plains es) t = none from by unfold cntR; rw [hv0]; rfl)]
      clear he hl hv0
      go_enter Try.func18, Try.ntmps18
      go_wp2_with fail
      refine (HD.out _ F0.out).mono ?_
      rintro e w1 ⟨rfl, b1⟩
      have R1 := Lib.hid (R0.out.below b1)
      have B1 := Lib.hid (below_then B0.out b1)
      clear b1 R0 B0
      obtain ⟨r0, r1, r2⟩ := R1.out.cells
      have g0 := R1.out.frozen 0
      have g1 := R1.out.frozen 1
      have g2 := R1.out.frozen 2
      go_wp2_with (first | (go_at_call 45; (with_reducible refine (HG0.out _).mono ?_); rintro e w8 ⟨rfl, rfl⟩))
      refine bodyPost_ret (v := .tuple #[.agg #[.int .i64 0, .int .i64 0, .slice none 0 0], .bool false]) (by simp [results, Try.results18, go_sem, r0, r1, r2]) rfl ⟨none, 0, rfl, OwnI.none_, ?_⟩
      first | exact B1.out | exact ((B1.out.setCell (p := ⟨w.heap.size, 0, none⟩) (Nat.le_refl _) _).setCell (p := ⟨w.heap.size, 1, none⟩) (Nat.le_refl _) _).setCell (p := ⟨w.heap.size, 2, none⟩) (Nat.le_refl _) _
    | true =>
      have HG0 := Lib.hid (fun W => specThr_is t true W (hv0))
      rw [show cntR (plains es) t = enR (cntF t) (plains es) from by unfold cntR; rw [hv0]; rfl]
      obtain ⟨W, H, hok, hW, hH⟩ := okE_of he
      rw [enR_yes he hW hH]
      have h0 : 0 < es.length := by have := hok.n; omega
      have hle := hok.le
      obtain ⟨e0, e1, e2, e3⟩ := hok.e 0 h0
      have HV := Lib.hid (fun k (hk : k < (es[0]'h0).l.length) Wd h => enVals_any W H a es c k Wd hok (by rw [← e2]; exact hk) h)
      have HVB := Lib.hid (fun k (hk : k < (es[0]'h0).l.length) => colV_bd hok (i := k) (by rw [← e2]; exact hk))
      have HVL := Lib.hid (fun k => (show (colV (plains es) k).length ≤ 8 from by have := colV_le (plains es) k; rw [plains_len] at this; have := hok.n; omega))
      rw [← e2] at hle ⊢
      obtain ⟨b, o, rfl, hb, q0, q1, q2, _⟩ := hl.at_ h0
      simp only [Nat.zero_mul, Nat.add_zero] at q0 q1 q2
      rw [e0] at q0
      rw [e1] at q1
      have HQ := Lib.hid (And.intro q0 (And.intro q1 q2))
      have HL := Lib.hid hl
      have HIN := Lib.hid (fun (W2 : World) (h : Flds W2 W2.heap.size (some ⟨b, o, none⟩) es) => (show Ints .i64 W2 W2.heap.size (es[0]'h0).ad (es[0]'h0).l from by obtain ⟨b', o', _, _, _, _, _, hh⟩ := h.at_ h0; exact hh))
      have HOW := Lib.hid (fun W2 (h : Ints .i64 W2 W2.heap.size (es[0]'h0).ad (es[0]'h0).l) => l2Own_any (W : Int) (H : Int) (es[0]'h0).ad (es[0]'h0).l (es[0]'h0).c W2 h (by omega) (by omega))
      have hn0 : 0 < (es[0]'h0).l.length := hle.2
      have hn64 : (es[0]'h0).l.length ≤ 64 := hle.1
      have h00 : (0 : Int) < (es.length : Int) := by omega
      clear hl hok hW hH hle e0 e1 e2 e3 q0 q1 q2 he HC HSZ hv0
      generalize (es[0]'h0).ad = ad at *
      generalize (es[0]'h0).c = cd at *
      generalize (es[0]'h0).l = d at *
      have HML := Lib.hid (mixL_len (cntF t) (plains es) d.length)
      have HK0 := Lib.hid (mixK_zero (cntF t) (plains es) d)
      have HKA := Lib.hid (mixK_all (cntF t) (plains es) d)
      have HKS := Lib.hid (mixK_step (cntF t) (plains es) d)
      have HKL := Lib.hid (mixK_len (cntF t) (plains es) d)
      generalize mixL (cntF t) (plains es) d.length = ML at *
      generalize mixK (cntF t) (plains es) d = MK at *
      go_enter Try.func18, Try.ntmps18
      go_wp2_with fail
      refine (HD.out _ F0.out).mono ?_
      rintro e w1 ⟨rfl, b1⟩
      have R1 := Lib.hid (R0.out.below b1)
      have B1 := Lib.hid (below_then B0.out b1)
      have hsz1 := B1.out.size
      have k0 := (B1.out.cell (p := ⟨b, o, none⟩) hb).trans HQ.out.1
      have k1 := (B1.out.cell (p := ⟨b, o + 1, none⟩) hb).trans HQ.out.2.1
      have k2 := (B1.out.cell (p := ⟨b, o + 2, none⟩) hb).trans HQ.out.2.2
      have I1 := Lib.hid (HIN.out _ (flds_below F0.out b1))
      clear b1 R0 B0 F0 hsz1
      go_wp2_with (first | (go_at_call 45; (with_reducible refine (HG0.out _).mono ?_); rintro e w8 ⟨rfl, rfl⟩))
      refine (HOW.out _ I1.out).mono ?_
      rintro e w2 ⟨a2, c1, rfl, o2, b2⟩
      obtain ⟨g1, hg1, rfl, row2⟩ := own_block o2 hn0
      have R2 := R1.out.below b2
      have B2 := below_then B1.out b2
      have hsz2 := b2.size
      have zR := R1.out.lt
      have hlt1 := row2.lt
      have hw1 : w.heap.size < g1 := by omega
      obtain ⟨bx, hbx⟩ : ∃ q, w2.heap.size = q := ⟨_, rfl⟩
      have hne : bx ≠ g1 := by omega
      have hw2 : w.heap.size < bx := by omega
      have J0 : Jn w w2.heap.size g1 W H d d.length c1 (w2.alloc (.cells #[.int .i64 W, .int .i64 H, .slice (some ⟨g1, 0, none⟩) d.length c1] 31)) := ⟨R2.alloc _, Box.new _ _ _ _ _, row2.alloc _, B2.alloc B2.size _⟩
      rw [hbx] at J0
      have HJ : Hid (Jn w bx g1 W H (MK 0) d.length c1 (w2.alloc (.cells #[.int .i64 W, .int .i64 H, .slice (some ⟨g1, 0, none⟩) d.length c1] 31))) := Lib.hid (by rw [HK0.out]; exact J0)
      have HBX := Lib.hid hbx
      clear J0 R2 B2 b2 o2 row2 hsz2 zR hlt1 hbx R1 B1 I1 k0 k1 k2 HOW HIN HK0
      go_wp2_with fail
      rw [HBX.out]
      go_loopw [7] (fun i wr => ∃ k : Nat, k ≤ d.length ∧ i = .int .i64 k ∧ Jn w bx g1 W H (MK k) d.length c1 wr) (fun i _ => d.length - (intOf i).toNat)
      case atStart => exact ⟨0, Nat.zero_le _, rfl, HJ.out⟩
      case round =>
        clear HJ HBX
        obtain ⟨k, hk, rfl, hJ⟩ := hrel
        have HJ := Lib.hid hJ
        obtain ⟨x0, x1, x2⟩ := hJ.x.cells
        clear hJ
        by_cases hlt : k < d.length
        · have hki : (k : Int) < (d.length : Int) := by omega
          have hk0 : (0 : Int) ≤ (k : Int) := by omega
          have HVk := Lib.hid (HVB.out k hlt)
          have HVn := HVL.out k
          have HVV := Lib.hid (fun Wd h => HV.out k hlt Wd h)
          have HS1 := Lib.hid (HKS.out k hlt)
          have hLk : k < (iv (MK k)).length := by rw [iv_length, HKL.out]; exact hlt
          have HLk := Lib.hid hLk
          have HF := Lib.hid ((HL.out.below HJ.out.b (Nat.le_refl _)).more HJ.out.b.size)
          have hg1r := HJ.out.a.lt
          clear hLk
          generalize colV (plains es) k = vs at *
          go_wp2_with fail
          refine (HVV.out _ HF.out).mono ?_
          rintro e w5 ⟨a5, c5, rfl, o5, b5⟩
          have O5 := Lib.hid o5
          have J5 := Lib.hid (HJ.out.step b5)
          have hg5 := J5.out.a.cell HLk.out
          have hf5 := J5.out.a.frozen k
          have W6J := Lib.hid (J5.out.set hw1 hne k (-9999))
          have O6 := Lib.hid (ownI_set (i := k) O5.out hg1r (.int .i64 (-9999)))
          clear x0 x1 x2 o5 b5
          obtain ⟨x0, x1, x2⟩ := J5.out.x.cells
          by_cases hv0 : vs.length = 0
          · have hvs := List.eq_nil_of_length_eq_zero hv0
            have hi0 : (insAll vs).length = 0 := by rw [insAll_len]; exact hv0
            have hi1 : ¬ (0 : Int) < ((insAll vs).length : Int) := by omega
            have HE := Lib.hid (show (MK k).set k (-9999) = MK (k + 1) from by rw [← HS1.out, hvs, gapC_none])
            rw [HE.out] at W6J
            generalize (insAll vs).length = n5 at *
            subst hi0
            clear hv0 hvs HS1 HVk
            go_wp2
            go_roundw
            case rel => exact ⟨k + 1, by omega, by go_num, W6J.out⟩
            case measure => simp [intOf]; omega
          · have hvs : vs ≠ [] := by intro h; rw [h] at hv0; exact hv0 rfl
            have hvp : 0 < vs.length := by omega
            have HE := Lib.hid (show ((MK k).set k (-9999)).set k (gapC (cntF t) 0 vs) = MK (k + 1) from by rw [List.set_set]; exact HS1.out)
            rw [gapC_some hvs] at HE
            have hln : (insAll vs).length = vs.length := insAll_len vs
            have hi1 : (0 : Int) < ((insAll vs).length : Int) := by omega
            have hl8 : (insAll vs).length ≤ 8 := by omega
            have hip : 0 < (insAll vs).length := by omega
            obtain ⟨y0, y1, y2⟩ := W6J.out.x.cells
            have hg6 := W6J.out.a.cell (k := k) (by rw [iv_length, List.length_set]; have := HLk.out; rwa [iv_length] at this)
            have hf6 := W6J.out.a.frozen k
            clear hv0 HS1

            have HLE := Lib.hid (fun W' h => specLeast_is a5 (insAll vs) c5 W'.heap.size t W' h (by omega))
            have hpm : cntN t (insAll vs) = cntN t vs := cnt_perm (insAll_perm vs)
            rw [hpm] at HLE
            unfold cntF at HE
            clear hpm hln hvs hvp hip
            generalize (cntN t vs : Int) = z at *
            generalize insAll vs = sv at *
            go_wp2_with fail
            have bd : Below (w5.setCell ⟨g1, k, none⟩ (.int .i64 (-9999))).heap.size (w5.setCell ⟨g1, k, none⟩ (.int .i64 (-9999))) (w5.setCell ⟨g1, k, none⟩ (.int .i64 (-9999))).drew := (Below.refl _ _).drew
            have J7 := Lib.hid (W6J.out.step bd)
            have O7 := Lib.hid (O6.out.below bd)
            clear bd
            have J8 := Lib.hid (show Jn w bx g1 W H (((MK k).set k (-9999)).set k z) d.length c1 ((w5.setCell ⟨g1, k, none⟩ (.int .i64 (-9999))).setCell ⟨g1, k, none⟩ (.int .i64 z)).drew from (W6J.out.set hw1 hne k z).step (Below.refl _ _).drew)
            go_region_held3 (fun w' => w'.cell? ⟨bx, 2, none⟩ = some (.slice (some ⟨g1, 0, none⟩) d.length c1))
              (first | (with_reducible exact J7.out.x.cells.2.2) | (with_reducible exact J8.out.x.cells.2.2) | go_keep)
              (first | (go_at_call 48; refine (HLE.out _ O7.out.ints).mono ?_; rintro e w7 ⟨rfl, rfl⟩))
            rename_i hHeld
            clear hHeld
            go_wp2
            go_roundw
            case rel => exact ⟨k + 1, by omega, by go_num, by rw [← HE.out]; exact J8.out⟩
            case measure => simp [intOf]; omega
        · obtain rfl : k = d.length := by omega
          have hJ := HJ.out
          rw [HKA.out] at hJ
          obtain ⟨r0, r1, r2⟩ := hJ.r.cells
          have f0 := hJ.r.frozen 0
          have f1 := hJ.r.frozen 1
          have f2 := hJ.r.frozen 2
          have HB := Lib.hid hJ.b
          have HR := Lib.hid hJ.a
          clear HJ hJ
          go_wp2
          refine bodyPost_ret (v := .tuple #[.agg #[.int .i64 W, .int .i64 H, .slice (some ⟨g1, 0, none⟩) d.length c1], .bool true]) (by simp [results, Try.results18, go_sem, r0, r1, r2]) rfl ⟨some ⟨g1, 0, none⟩, c1, ?_, ?_, ?_⟩
          · rw [show (rL (some ((W : Int), (H : Int), ML))).length = d.length from HML.out]; rfl
          · exact ⟨g1, by omega, .inr ⟨rfl, ((HR.out.other (p := ⟨w.heap.size, 0, none⟩) (by show g1 ≠ w.heap.size; omega) _).other (p := ⟨w.heap.size, 1, none⟩) (by show g1 ≠ w.heap.size; omega) _).other (p := ⟨w.heap.size, 2, none⟩) (by show g1 ≠ w.heap.size; omega) _⟩⟩
          · exact ((HB.out.setCell (p := ⟨w.heap.size, 0, none⟩) (Nat.le_refl _) _).setCell (p := ⟨w.heap.size, 1, none⟩) (Nat.le_refl _) _).setCell (p := ⟨w.heap.size, 2, none⟩) (Nat.le_refl _) _
end Go.Proofs.Ytpmfgghiiocccaa
