/- AddTallies: the model's. -/
import Derived.Test.YtjpiiidjocilcaaTlOwn
namespace Go.Proofs.Ytjpiiidjocilcaa
open Go.RowKit
set_option linter.unusedVariables false
set_option linter.unusedSimpArgs false
def zAdd (l m : List Int) : List Int := zipR (fun (x y : Int) => x + y) l m
def adB (l r l2 r2 : List Int) : Bool := tlB l r && (tlB l2 r2 && tlB (zAdd l l2) (zAdd r r2))
def adP (l r l2 r2 : List Int) : List Int := if adB l r l2 r2 = true then zAdd l l2 else []
def adQ (l r l2 r2 : List Int) : List Int := if adB l r l2 r2 = true then zAdd r r2 else []
theorem ad_no {l r l2 r2 : List Int} (h : adB l r l2 r2 = false) : adP l r l2 r2 = [] ∧ adQ l r l2 r2 = [] := by unfold adP adQ; rw [h]; exact ⟨rfl, rfl⟩
theorem ad_yes {l r l2 r2 : List Int} (h : adB l r l2 r2 = true) : adP l r l2 r2 = zAdd l l2 ∧ adQ l r l2 r2 = zAdd r r2 := by unfold adP adQ; rw [h]; exact ⟨rfl, rfl⟩
theorem ad_len (l r l2 r2 : List Int) : (adP l r l2 r2).length ≤ 11 ∧ (adQ l r l2 r2).length ≤ 11 := by
  cases h : adB l r l2 r2 with
  | false => rw [(ad_no h).1, (ad_no h).2]; simp
  | true =>
    rw [(ad_yes h).1, (ad_yes h).2]
    unfold adB at h
    rw [Bool.and_eq_true, Bool.and_eq_true] at h
    have := tl_len h.2.2
    omega
theorem tret_no {w w' : World} (h : w.heap.size + 1 < w'.heap.size) (hb : Below w.heap.size w w') : TRet [] [] false w (.returned (.tuple #[.agg #[.slice none 0 0, .slice none 0 0], .bool false])) w' :=
  ⟨none, 0, none, 0, w.heap.size, w.heap.size + 1, rfl, Nat.le_refl _, by omega, by omega, by omega, h, .inl rfl, .inl rfl, hb⟩
theorem tl_in {l r : List Int} (h : tlB l r = true) {k : Nat} (hk : k < l.length) (hk2 : k < r.length) : (0 ≤ l[k] ∧ l[k] ≤ 1000) ∧ 0 ≤ r[k] ∧ r[k] ≤ 1000 := by
  have := tl_at h hk hk2
  unfold caseB at this
  simp only [Bool.and_eq_true, decide_eq_true_eq] at this
  omega
set_option maxRecDepth 100000 in
set_option maxHeartbeats 8000000 in
theorem specAddT_any (a b a2 b2 : Option Addr) (l r l2 r2 : List Int) (c d c2 d2 : Nat) (w : World) (hl : Ints .i64 w w.heap.size a l) (hr : Ints .i64 w w.heap.size b r) (hl2 : Ints .i64 w w.heap.size a2 l2) (hr2 : Ints .i64 w w.heap.size b2 r2) :
    Calls Try.prog 22 #[.agg #[.slice a l.length c, .slice b r.length d], .agg #[.slice a2 l2.length c2, .slice b2 r2.length d2]] w (TRet (adP l r l2 r2) (adQ l r l2 r2) (adB l r l2 r2) w) := by
  have hW0 : ∀ o1 o2 o3, Below w.heap.size w (((w.alloc o1).alloc o2).alloc o3) := fun o1 o2 o3 => (((Below.refl _ _).alloc (Nat.le_refl _) _).alloc (by simp) _).alloc (by simp; omega) _
  have B0 := Lib.hid (hW0 (.cells #[.slice a l.length c, .slice b r.length d] 27) (.cells #[.slice a2 l2.length c2, .slice b2 r2.length d2] 27) (.cells #[.slice none 0 0, .slice none 0 0] 27))
  have hs0 : (((w.alloc (.cells #[.slice a l.length c, .slice b r.length d] 27)).alloc (.cells #[.slice a2 l2.length c2, .slice b2 r2.length d2] 27)).alloc (.cells #[.slice none 0 0, .slice none 0 0] 27)).heap.size = w.heap.size + 3 := by simp
  have X1 := Lib.hid (((Box2.new w 27 (.slice a l.length c) (.slice b r.length d)).alloc (.cells #[.slice a2 l2.length c2, .slice b2 r2.length d2] 27)).alloc (.cells #[.slice none 0 0, .slice none 0 0] 27))
  have x2 := (Box2.new (w.alloc (.cells #[.slice a l.length c, .slice b r.length d] 27)) 27 (.slice a2 l2.length c2) (.slice b2 r2.length d2)).alloc (.cells #[.slice none 0 0, .slice none 0 0] 27)
  have x3 := Box2.new ((w.alloc (.cells #[.slice a l.length c, .slice b r.length d] 27)).alloc (.cells #[.slice a2 l2.length c2, .slice b2 r2.length d2] 27)) 27 (.slice none 0 0) (.slice none 0 0)
  rw [World.size_alloc] at x2
  rw [World.size_alloc, World.size_alloc] at x3
  have X2 := Lib.hid x2
  have X3 := Lib.hid x3
  have HG := Lib.hid (fun (W : World) (G : Below w.heap.size w W) => specTl_is a b l r c d _ W ((hl.below G (Nat.le_refl _)).more G.size) ((hr.below G (Nat.le_refl _)).more G.size) rfl)
  have HG2 := Lib.hid (fun (W : World) (G : Below w.heap.size w W) => specTl_is a2 b2 l2 r2 c2 d2 _ W ((hl2.below G (Nat.le_refl _)).more G.size) ((hr2.below G (Nat.le_refl _)).more G.size) rfl)
  have HS0 := Lib.hid hs0
  have HL := Lib.hid hl
  have HR := Lib.hid hr
  have HL2 := Lib.hid hl2
  have HR2 := Lib.hid hr2
  clear hl hr hl2 hr2 hW0 hs0 x2 x3
  cases ht : tlB l r with
  | false =>
    have eB : adB l r l2 r2 = false := by unfold adB; rw [ht]; rfl
    rw [(ad_no eB).1, (ad_no eB).2, eB]
    rw [ht] at HG
    clear ht eB
    go_enter Try.func22, Try.ntmps22
    go_wp2_with fail
    generalize ((w.alloc (.cells #[.slice a l.length c, .slice b r.length d] 27)).alloc (.cells #[.slice a2 l2.length c2, .slice b2 r2.length d2] 27)).alloc (.cells #[.slice none 0 0, .slice none 0 0] 27) = W0 at *
    refine (HG.out _ B0.out).mono ?_
    rintro e w1 ⟨rfl, b1⟩
    have HB := Lib.hid (B0.out.trans (b1.mono B0.out.size))
    have X4 := Lib.hid (X3.out.below b1)
    obtain ⟨t0, t1⟩ := X4.out.cells
    have f0 := X4.out.frozen 0
    have f1 := X4.out.frozen 1
    have z4 := X4.out.lt
    clear b1
    go_wp2
    refine bodyPost_ret (v := .tuple #[.agg #[.slice none 0 0, .slice none 0 0], .bool false]) (by simp [results, Try.results22, go_sem, t0, t1, f0, f1, z4]) rfl (tret_no ?_ ?_)
    · simp only [World.size_setCell]; omega
    · exact (HB.out.setCell (by simp; omega) _).setCell (by simp; omega) _
  | true =>
    rw [ht] at HG
    cases ht2 : tlB l2 r2 with
    | false =>
      have eB : adB l r l2 r2 = false := by unfold adB; rw [ht, ht2]; rfl
      rw [(ad_no eB).1, (ad_no eB).2, eB]
      rw [ht2] at HG2
      clear ht ht2 eB
      go_enter Try.func22, Try.ntmps22
      go_wp2_with fail
      generalize ((w.alloc (.cells #[.slice a l.length c, .slice b r.length d] 27)).alloc (.cells #[.slice a2 l2.length c2, .slice b2 r2.length d2] 27)).alloc (.cells #[.slice none 0 0, .slice none 0 0] 27) = W0 at *
      refine (HG.out _ B0.out).mono ?_
      rintro e w1 ⟨rfl, b1⟩
      have HB := Lib.hid (B0.out.trans (b1.mono B0.out.size))
      obtain ⟨k0, k1⟩ := (X2.out.below b1).cells
      have X4 := Lib.hid (X3.out.below b1)
      clear b1
      go_wp2_with fail
      refine (HG2.out _ HB.out).mono ?_
      rintro e w2 ⟨rfl, b2⟩
      have HB2 := Lib.hid (HB.out.trans (b2.mono HB.out.size))
      have X5 := Lib.hid (X4.out.below b2)
      obtain ⟨t0, t1⟩ := X5.out.cells
      have f0 := X5.out.frozen 0
      have f1 := X5.out.frozen 1
      have z4 := X5.out.lt
      clear b2 k0 k1
      go_wp2
      refine bodyPost_ret (v := .tuple #[.agg #[.slice none 0 0, .slice none 0 0], .bool false]) (by simp [results, Try.results22, go_sem, t0, t1, f0, f1, z4]) rfl (tret_no ?_ ?_)
      · simp only [World.size_setCell]; omega
      · exact (HB2.out.setCell (by simp; omega) _).setCell (by simp; omega) _
    | true =>
      rw [ht2] at HG2
      obtain ⟨l11, r11⟩ := tl_len ht
      obtain ⟨m11, n11⟩ := tl_len ht2
      have HI1 := Lib.hid (fun k (hk : k < l.length) (hk2 : k < r.length) => tl_in ht hk hk2)
      have HI2 := Lib.hid (fun k (hk : k < l2.length) (hk2 : k < r2.length) => tl_in ht2 hk hk2)
      have HOW := Lib.hid (fun (W : World) (G : Below w.heap.size w W) => l10Own_any a b l r c d W ((HL.out.below G (Nat.le_refl _)).more G.size) ((HR.out.below G (Nat.le_refl _)).more G.size) (by omega) (by omega) (by omega) (by omega))
      have E1 := Lib.hid (show l.length = l2.length by omega)
      have E2 := Lib.hid (show r.length = r2.length by omega)
      have E3 := Lib.hid (show l.length = r.length by omega)
      have hl11 : l.length ≤ 11 := by omega
      have HP := Lib.hid (mix_all (fun (x y : Int) => x + y) E1.out)
      have HQ := Lib.hid (mix_all (fun (x y : Int) => x + y) E2.out)
      have hadB : adB l r l2 r2 = tlB (zAdd l l2) (zAdd r r2) := by unfold adB; rw [ht, ht2]; rfl
      have HNO := Lib.hid (fun h => ad_no (l := l) (r := r) (l2 := l2) (r2 := r2) h)
      have HYES := Lib.hid (fun h => ad_yes (l := l) (r := r) (l2 := l2) (r2 := r2) h)
      have HAD := Lib.hid hadB
      clear ht ht2 l11 r11 m11 n11 hadB
      go_enter Try.func22, Try.ntmps22
      go_wp2_with fail
      generalize ((w.alloc (.cells #[.slice a l.length c, .slice b r.length d] 27)).alloc (.cells #[.slice a2 l2.length c2, .slice b2 r2.length d2] 27)).alloc (.cells #[.slice none 0 0, .slice none 0 0] 27) = W0 at *
      refine (HG.out _ B0.out).mono ?_
      rintro e w1 ⟨rfl, b1⟩
      have HB := Lib.hid (B0.out.trans (b1.mono B0.out.size))
      have D1 := Lib.hid b1
      obtain ⟨k0, k1⟩ := (X2.out.below b1).cells
      clear b1
      go_wp2_with fail
      refine (HG2.out _ HB.out).mono ?_
      rintro e w2 ⟨rfl, b2⟩
      have HB2 := Lib.hid (HB.out.trans (b2.mono HB.out.size))
      have D2 := Lib.hid (D1.out.trans (b2.mono D1.out.size))
      clear b2 k0 k1
      obtain ⟨k0, k1⟩ := (X1.out.below D2.out).cells
      go_wp2_with fail
      refine (HOW.out _ HB2.out).mono ?_
      rintro e w3 ⟨g, h, c', d', rfl, hg, hh, hgh, g3, h3, b3⟩
      have HB3 := Lib.hid (HB2.out.trans (b3.mono HB2.out.size))
      have D3 := Lib.hid (D2.out.trans (b3.mono D2.out.size))
      have G3 := Lib.hid g3
      have H3 := Lib.hid h3
      have hg0 := D2.out.size
      have hs0 := HS0.out
      have hg1 : W0.heap.size ≤ g := by omega
      have hh1 : W0.heap.size ≤ h := by omega
      have HG1 := Lib.hid hg1
      have HH1 := Lib.hid hh1
      have hlg := Row.lt g3
      have hlh := Row.lt h3
      clear b3 g3 h3 k0 k1 hg0 hs0 HB HB2 D1 D2 HG HG2 HOW
      have J6 := Lib.hid (Box2.new w3 27 (.slice (some ⟨g, 0, none⟩) l.length c') (.slice (some ⟨h, 0, none⟩) r.length d'))
      have D6 := Lib.hid (D3.out.alloc D3.out.size (.cells #[.slice (some ⟨g, 0, none⟩) l.length c', .slice (some ⟨h, 0, none⟩) r.length d'] 27))
      have G6 := Lib.hid (G3.out.below (below_all w3 (.cells #[.slice (some ⟨g, 0, none⟩) l.length c', .slice (some ⟨h, 0, none⟩) r.length d'] 27)))
      have H6 := Lib.hid (H3.out.below (below_all w3 (.cells #[.slice (some ⟨g, 0, none⟩) l.length c', .slice (some ⟨h, 0, none⟩) r.length d'] 27)))
      clear D3 G3 H3
      go_wp2
      have HM0 := Lib.hid (mix_zero (fun (x y : Int) => x + y) l l2)
      have HM1 := Lib.hid (mix_zero (fun (x y : Int) => x + y) r r2)
      go_loopw [7] (fun i wr => ∃ k : Nat, k ≤ l.length ∧ i = .int .i64 k ∧ GeR wr g (mixR (fun (x y : Int) => x + y) l l2 k) ∧ GeR wr h (mixR (fun (x y : Int) => x + y) r r2 k) ∧ Box2 wr w3.heap.size 27 (.slice (some ⟨g, 0, none⟩) l.length c') (.slice (some ⟨h, 0, none⟩) r.length d') ∧ Below W0.heap.size W0 wr) (fun i _ => l.length - (intOf i).toNat)
      case atStart => exact ⟨0, Nat.zero_le _, rfl, by rw [HM0.out]; exact G6.out, by rw [HM1.out]; exact H6.out, J6.out, D6.out⟩
      case round =>
        obtain ⟨k, hk, rfl, hgr, hhr, hbx, hD⟩ := hrel
        have GR := Lib.hid hgr
        have HR3 := Lib.hid hhr
        have JX := Lib.hid hbx
        have DD := Lib.hid hD
        obtain ⟨s0, s1⟩ := hbx.cells
        clear hgr hhr hbx D6 G6 H6 J6
        by_cases hlt : k < l.length
        · have hk2 : k < l2.length := by have := E1.out; omega
          have hk3 : k < r.length := by have := E3.out; omega
          have hk4 : k < r2.length := by have := E2.out; omega
          have i1 := HI1.out k hlt hk3
          have i2 := HI2.out k hk2 hk4
          have M1 := mix_len (fun (x y : Int) => x + y) E1.out k hk
          have M2 := mix_len (fun (x y : Int) => x + y) E2.out k (by omega)
          have c1 := Row.cell (k := k) GR.out (by rw [iv_length]; omega)
          have c3 := Row.cell (k := k) HR3.out (by rw [iv_length]; omega)
          rw [iv_get, mix_get (fun (x y : Int) => x + y) E1.out k hlt] at c1
          rw [iv_get, mix_get (fun (x y : Int) => x + y) E2.out k hk3] at c3
          have S1 := Lib.hid (mix_step (fun (x y : Int) => x + y) E1.out k hlt _ rfl)
          have S2 := Lib.hid (mix_step (fun (x y : Int) => x + y) E2.out k hk3 _ rfl)
          have hDw : Below w.heap.size w wr := B0.out.trans (hD.mono B0.out.size)
          obtain ⟨p2, o2, ea, hb2, c2'⟩ := (HL2.out.below hDw (Nat.le_refl _)).at_ hk2
          obtain ⟨p4, o4, eb, hb4, c4⟩ := (HR2.out.below hDw (Nat.le_refl _)).at_ hk4
          obtain ⟨y0, y1⟩ := (X2.out.below hD).cells
          have fg := Row.frozen GR.out k
          have fh := Row.frozen HR3.out k
          have lg := Row.lt GR.out
          have lh := Row.lt HR3.out
          have hi : (k : Int) < (l.length : Int) := by omega
          have hi2 : (k : Int) < (l2.length : Int) := by omega
          have hi3 : (k : Int) < (r.length : Int) := by omega
          have hi4 : (k : Int) < (r2.length : Int) := by omega
          have hi0 : (0 : Int) ≤ (k : Int) := by omega
          have hs0 := HS0.out
          have n1 : ¬ g = h := hgh
          have n2 : ¬ h = g := fun e => hgh e.symm
          have n3 : ¬ w3.heap.size = g := by omega
          have n4 : ¬ w3.heap.size = h := by omega
          have n5 : ¬ g = w3.heap.size := by omega
          have n6 : ¬ h = w3.heap.size := by omega
          have n7 : ¬ p2 = g := by omega
          have n8 : ¬ p4 = g := by omega
          have n9 : ¬ w.heap.size + 1 = g := by omega
          have n10 : ¬ g = w.heap.size + 1 := by omega
          have n11 : ¬ g = p2 := by omega
          have n12 : ¬ g = p4 := by omega
          have n13 : ¬ p2 = h := by omega
          have n14 : ¬ p4 = h := by omega
          have n15 : ¬ w.heap.size + 1 = h := by omega
          have n16 : ¬ h = w.heap.size + 1 := by omega
          have n17 : ¬ h = p4 := by omega
          clear hs0 hDw hD M1 M2
          generalize l[k] = x at *
          generalize l2[k] = y at *
          generalize r[k] = u at *
          generalize r2[k] = v at *
          have EX := Lib.hid (show wrap64 (x + y) = x + y from IntWalk.wrap64_in _ (by omega))
          have EU := Lib.hid (show wrap64 (u + v) = u + v from IntWalk.wrap64_in _ (by omega))
          have S1 := Lib.hid (show (mixR (fun (x y : Int) => x + y) l l2 k).set k (x + y) = mixR (fun (x y : Int) => x + y) l l2 (k + 1) from S1.out)
          have S2 := Lib.hid (show (mixR (fun (x y : Int) => x + y) r r2 k).set k (u + v) = mixR (fun (x y : Int) => x + y) r r2 (k + 1) from S2.out)
          clear i1 i2
          subst ea
          subst eb
          go_wp2_with fail
          go_region
          go_wp2_with fail
          go_region
          go_wp2
          go_roundw
          case rel =>
            rw [EX.out, EU.out]
            refine ⟨k + 1, by omega, by go_num, ?_, ?_, ?_, ?_⟩
            · show GeR ((wr.setCell ⟨g, k, none⟩ (.int .i64 (x + y))).setCell ⟨h, k, none⟩ (.int .i64 (u + v))) g _
              rw [← S1.out]
              exact (GR.out.put k (x + y)).other n1 _
            · show GeR ((wr.setCell ⟨g, k, none⟩ (.int .i64 (x + y))).setCell ⟨h, k, none⟩ (.int .i64 (u + v))) h _
              rw [← S2.out]
              exact (HR3.out.other n2 _).put k (u + v)
            · show Box2 ((wr.setCell ⟨g, k, none⟩ (.int .i64 (x + y))).setCell ⟨h, k, none⟩ (.int .i64 (u + v))) _ _ _ _
              exact (JX.out.other n3 _).other n4 _
            · exact (((DD.out.setCell HG1.out _).setCell HH1.out _).drew).drew
          case measure => simp [intOf]; omega
        · obtain rfl : k = l.length := by omega
          have hi : ¬ (l.length : Int) < (l.length : Int) := by omega
          have GZ := Lib.hid (show GeR wr g (zAdd l l2) by have h9 := GR.out; rw [HP.out] at h9; exact h9)
          have HZ := Lib.hid (show GeR wr h (zAdd r r2) by have h9 := HR3.out; rw [E3.out, HQ.out] at h9; exact h9)
          have ZL := Lib.hid (show (zAdd l l2).length = l.length from zipR_len _ E1.out)
          have ZR := Lib.hid (show (zAdd r r2).length = r.length from zipR_len _ E2.out)
          have HT3 := Lib.hid (specTl_is (some ⟨g, 0, none⟩) (some ⟨h, 0, none⟩) (zAdd l l2) (zAdd r r2) c' d' _ wr (GeR.ints GZ.out) (GeR.ints HZ.out) rfl)
          rw [ZL.out, ZR.out] at HT3
          have hzw : w3.heap.size < wr.heap.size := hD.size |> fun _ => JX.out.lt
          clear hlt
          go_wp2_with fail
          cases hv : tlB (zAdd l l2) (zAdd r r2) with
          | false =>
            rw [hv] at HT3
            have HV := Lib.hid (show adB l r l2 r2 = false by rw [HAD.out, hv])
            have HN := Lib.hid (HNO.out HV.out)
            refine HT3.out.mono ?_
            rintro e w5 ⟨rfl, b5⟩
            have D5 := Lib.hid (DD.out.trans (b5.mono DD.out.size))
            have X5 := Lib.hid (X3.out.below D5.out)
            obtain ⟨t0, t1⟩ := X5.out.cells
            have f0 := X5.out.frozen 0
            have f1 := X5.out.frozen 1
            have z4 := X5.out.lt
            clear b5
            go_wp2
            rw [HV.out, HN.out.1, HN.out.2]
            refine bodyPost_ret (v := .tuple #[.agg #[.slice none 0 0, .slice none 0 0], .bool false]) (by simp [results, Try.results22, go_sem, t0, t1, f0, f1, z4]) rfl (tret_no ?_ ?_)
            · simp only [World.size_setCell]; omega
            · exact ((B0.out.trans (D5.out.mono B0.out.size)).setCell (by simp; omega) _).setCell (by simp; omega) _
          | true =>
            rw [hv] at HT3
            have HV := Lib.hid (show adB l r l2 r2 = true by rw [HAD.out, hv])
            have HN := Lib.hid (HYES.out HV.out)
            refine HT3.out.mono ?_
            rintro e w5 ⟨rfl, b5⟩
            have D5 := Lib.hid (DD.out.trans (b5.mono DD.out.size))
            have X5 := Lib.hid (X3.out.below D5.out)
            obtain ⟨t0, t1⟩ := X5.out.cells
            have f0 := X5.out.frozen 0
            have f1 := X5.out.frozen 1
            have z4 := X5.out.lt
            have G5 := Lib.hid (GZ.out.below b5)
            have H5 := Lib.hid (HZ.out.below b5)
            obtain ⟨y0, y1⟩ := (JX.out.below b5).cells
            have hs0 := HS0.out
            have lg := Row.lt G5.out
            have lh := Row.lt H5.out
            have n1 : ¬ w3.heap.size = w.heap.size + 1 + 1 := by omega
            have n2 : ¬ w.heap.size + 1 + 1 = w3.heap.size := by omega
            have n3 : g ≠ w.heap.size + 1 + 1 := by omega
            have n4 : h ≠ w.heap.size + 1 + 1 := by omega
            clear b5
            go_wp2
            rw [HV.out, HN.out.1, HN.out.2]
            refine bodyPost_ret (v := .tuple #[.agg #[.slice (some ⟨g, 0, none⟩) l.length c', .slice (some ⟨h, 0, none⟩) r.length d'], .bool true]) (by simp [results, Try.results22, go_sem, t0, t1, f0, f1, z4]) rfl ⟨some ⟨g, 0, none⟩, c', some ⟨h, 0, none⟩, d', g, h, by rw [ZL.out, ZR.out], by omega, by omega, hgh, by simp only [World.size_setCell]; exact lg, by simp only [World.size_setCell]; exact lh, ?_, ?_, ?_⟩
            · exact ((G5.out.other (by simpa using n3) _).other (by simpa using n3) _).at_
            · exact ((H5.out.other (by simpa using n4) _).other (by simpa using n4) _).at_
            · exact ((B0.out.trans (D5.out.mono B0.out.size)).setCell (by simp; omega) _).setCell (by simp; omega) _
end Go.Proofs.Ytjpiiidjocilcaa
