/- The model's PeakCells. -/
import Derived.Test.YtecjkammoakakaaPeak
import Derived.Test.YtecjkammoakakaaHas
import Derived.Maps.AppendAt
namespace Go.Proofs.Ytecjkammoakakaa
open Go.RowKit
set_option linter.unusedVariables false
set_option linter.unusedSimpArgs false
theorem peakP_gone {z : Int} {vs : List Int} (h : z = -9999) : peakP z vs = false := by unfold peakP; simp [h]
theorem peakP_val {z : Int} {vs : List Int} (h : ¬ z = -9999) : peakP z vs = decide (cntN z vs = 1) := by unfold peakP; simp [h]
/-- the model's test, in the order of its values -/
theorem peak_last {z : Int} {vs : List Int} {q : Nat} (h : ¬ z = -9999) (hm : z ∈ vs) (hq : (insAll vs).length = q + 1) (hlt : q < (insAll vs).length) (hne : ¬ z = (insAll vs)[q]) : peakP z vs = false := by
  rw [peakP_val h, decide_eq_false_iff_not]
  have hl := insAll_len vs
  have e : vs.length - 1 = q := by omega
  intro hc
  have := ((peak_iff hm (by omega)).1 hc).1
  simp only [e] at this
  exact hne this
theorem peak_one {z : Int} {vs : List Int} (h : ¬ z = -9999) (hm : z ∈ vs) (hq : (insAll vs).length = 0 + 1) (hlt : 0 < (insAll vs).length) (he : z = (insAll vs)[0]) : peakP z vs = true := by
  rw [peakP_val h, decide_eq_true_iff]
  have hl := insAll_len vs
  have e : vs.length - 1 = 0 := by omega
  refine (peak_iff hm (by omega)).2 ⟨?_, .inl (by omega)⟩
  simp only [e]
  exact he
theorem peak_two {z : Int} {vs : List Int} {p : Nat} (h : ¬ z = -9999) (hm : z ∈ vs) (hq : (insAll vs).length = p + 1 + 1) (hlt : p + 1 < (insAll vs).length) (he : z = (insAll vs)[p + 1]) (hlt2 : p < (insAll vs).length) :
    peakP z vs = decide ((insAll vs)[p] < z) := by
  rw [peakP_val h]
  have hl := insAll_len vs
  have e : vs.length - 1 = p + 1 := by omega
  have e2 : vs.length - 2 = p := by omega
  have hi := peak_iff hm (show vs.length - 1 < (insAll vs).length by omega)
  simp only [e, e2] at hi
  by_cases hz : (insAll vs)[p] < z
  · rw [decide_eq_true hz, decide_eq_true_iff]
    exact hi.2 ⟨he, .inr ⟨hlt2, hz⟩⟩
  · rw [decide_eq_false hz, decide_eq_false_iff_not]
    intro hc
    rcases (hi.1 hc).2 with h' | ⟨_, h'⟩
    · omega
    · exact hz h'
theorem row_news (w : World) (x y : Int) : ∀ j u, [Value.slice (some ⟨w.heap.size, 0, none⟩) 2 2][j]? = some u → ((w.alloc (.cells #[.int .i64 x, .int .i64 y] 3)).alloc (.cells #[.slice (some ⟨w.heap.size, 0, none⟩) 2 2] 24)).cell? ((⟨w.heap.size + 1, 0, none⟩ : Addr).add j) = some u := by
  have h := heap_alloc_new (w.alloc (.cells #[.int .i64 x, .int .i64 y] 3)) (.cells #[.slice (some ⟨w.heap.size, 0, none⟩) 2 2] 24)
  rw [World.size_alloc] at h
  exact World.news_of_block h
set_option maxRecDepth 100000 in
set_option maxHeartbeats 4000000 in
theorem specPeak_any (wd hg : Int) (a : Option Addr) (l : List Int) (c : Nat) (r : Int) (w : World) (hl : Ints .i64 w w.heap.size a l) (hn : l.length ≤ 1048576) :
    Calls Try.prog 30 #[.agg #[.int .i64 wd, .int .i64 hg, .slice a l.length c], .int .i64 r] w (TabPost (pkT wd hg l r) (nbB wd hg l r) w) := by
  have I0 := ints_alloc (ints_alloc hl (.cells #[.int .i64 wd, .int .i64 hg, .slice a l.length c] 26)) (.cells #[] 24)
  have K0 := (Box.new w 26 (.int .i64 wd) (.int .i64 hg) (.slice a l.length c)).alloc (.cells #[] 24)
  have O0 := World.ownsRow_made (base := w.heap.size) (e := 24) (size := 1) (w.alloc (.cells #[.int .i64 wd, .int .i64 hg, .slice a l.length c] 26)) #[] 0 (by simp) (by simp) rfl
  have B0 := (below_all w (.cells #[.int .i64 wd, .int .i64 hg, .slice a l.length c] 26)).alloc (by simp) (.cells #[] 24)
  rw [World.size_alloc] at O0
  have P0 := Lib.hid (show PkAt w wd hg a l c [] [] (.slice (some ⟨w.heap.size + 1, 0, none⟩) 0 0) ((w.alloc (.cells #[.int .i64 wd, .int .i64 hg, .slice a l.length c] 26)).alloc (.cells #[] 24)) from ⟨K0, O0, Tb.nil, B0⟩)
  clear K0 O0 B0
  cases hgd : goodB wd hg l with
  | false =>
    have hb : nbB wd hg l r = false := by unfold nbB; rw [hgd]; rfl
    rw [pkT_no hb, hb]
    have HC := Lib.hid (specGood_is wd hg a l c _ false _ I0 (Nat.le_refl _) hn hgd)
    clear hl hgd hb I0
    go_enter Try.func30, Try.ntmps30
    go_wp2_with fail
    refine HC.out.mono ?_
    rintro e w1 ⟨rfl, b1⟩
    have P1 := Lib.hid (P0.out.step b1)
    clear b1 HC P0
    go_wp2
    go_ret2
    exact P1.out.post (a' := none)
  | true =>
    have HC := Lib.hid (specGood_is wd hg a l c _ true _ I0 (Nat.le_refl _) hn hgd)
    cases hrd : radB r with
    | false =>
      have hb : nbB wd hg l r = false := by unfold nbB; rw [hrd]; simp
      rw [pkT_no hb, hb]
      have HI := Lib.hid (fun W => l1In_is r 0 3 false W (by unfold radB at hrd; exact hrd))
      clear hl hgd hrd hb I0
      go_enter Try.func30, Try.ntmps30
      go_wp2_with fail
      refine HC.out.mono ?_
      rintro e w1 ⟨rfl, b1⟩
      have P1 := Lib.hid (P0.out.step b1)
      clear b1 HC P0
      go_wp2_with (go_at_call 67; refine (HI.out _).mono ?_; rintro e w8 ⟨rfl, rfl⟩)
      go_ret2
      exact P1.out.post (a' := none)
    | true =>
      have hb : nbB wd hg l r = true := nbB_iff.2 ⟨hgd, hrd⟩
      rw [pkT_yes hb, hb]
      have HI := Lib.hid (fun W => l1In_is r 0 3 true W (by unfold radB at hrd; exact hrd))
      have hrb := radB_iff.1 hrd
      obtain ⟨W, H, rfl, rfl, n1, n2, n3, n4, hLL⟩ := good_nat hgd
      obtain ⟨rn, hrn⟩ : ∃ q : Nat, (q : Int) = r := ⟨r.toNat, by omega⟩
      have hrt : r.toNat = rn := by omega
      have hr3 : rn ≤ 3 := by omega
      have hpos := (good_le hgd).1
      have hn64 := (good_le hgd).2
      obtain ⟨b, o, rfl⟩ : ∃ b o, a = some ⟨b, o, none⟩ := by
        obtain ⟨b, o, h, _⟩ := hl.at_ hpos
        exact ⟨b, o, h⟩
      simp only [Int.toNat_natCast]
      rw [hrt]
      have HVALS := Lib.hid (fun x y xi yi W' h1 h2 hx hy h => specVals_any W H b o c x y rn l xi yi r W' h1 h2 hrn n2 n4 hLL hx hy hr3 h)
      have HVL := Lib.hid (fun x y => nbv_le (l := l) (W := W) (H := H) (x := x) (y := y) (r := rn) n2 n4)
      have HFL := Lib.hid (filtL_len peakP W H rn l)
      have HFG := Lib.hid (filtL_get peakP W H rn l)
      have HSELF := Lib.hid (fun i hi hz => nbv_self (r := rn) (i := i) hLL hi hz)
      have HNN := Lib.hid hLL
      have HIL := Lib.hid hl
      obtain ⟨i0, hi0', hz0, hz1, hz2⟩ := info_parts infoRow
      clear hl hgd hrd hb hrb hrn hrt hLL hpos I0
      generalize filtL peakP W H rn l = L at *
      go_enter Try.func30, Try.ntmps30
      go_wp2_with fail
      refine HC.out.mono ?_
      rintro e w1 ⟨rfl, b1⟩
      have P1 := Lib.hid (P0.out.step b1)
      clear b1 HC P0
      go_wp2_with (go_at_call 67; refine (HI.out _).mono ?_; rintro e w8 ⟨rfl, rfl⟩)
      go_loopw [6, 7] (fun out i wr => ∃ y E, y ≤ H ∧ i = .int .i64 (y : Nat) ∧ PkAt w W H (some ⟨b, o, none⟩) l c E (pks W L (y * W)) out wr) (fun _ i _ => H - (intOf i).toNat)
      case atStart => exact ⟨0, [], Nat.zero_le _, rfl, by rw [Nat.zero_mul]; exact P1.out⟩
      case round =>
        obtain ⟨y, E, hy, rfl, hP⟩ := hrel
        clear P1
        have HP := Lib.hid hP
        obtain ⟨k0, k1, k2⟩ := hP.x.cells
        clear hP
        by_cases hlt : y < H
        · have hi : (y : Int) < (H : Int) := by omega
          go_wp2
          clear k0 k1 k2
          go_loopw [6, 8] (fun out i wr => ∃ x E, x ≤ W ∧ i = .int .i64 (x : Nat) ∧ PkAt w W H (some ⟨b, o, none⟩) l c E (pks W L (y * W + x)) out wr) (fun _ i _ => W - (intOf i).toNat)
          case atStart => exact ⟨0, E, Nat.zero_le _, rfl, HP.out⟩
          case round =>
            clear HP
            obtain ⟨x, E', hx, rfl, hP⟩ := hrel
            have HP := Lib.hid hP
            obtain ⟨k0, k1, k2⟩ := hP.x.cells
            have hbs := hP.b.size
            have IL := Lib.hid ((HIL.out.below hP.b (Nat.le_refl _)).more hP.b.size)
            clear hP
            by_cases hlt2 : x < W
            · have hi2 : (x : Int) < (W : Int) := by omega
              have hfit : y * W + x < l.length := by rw [HNN.out]; have := Nat.mul_le_mul_right W (show y + 1 ≤ H by omega); rw [Nat.add_mul, Nat.one_mul] at this; rw [Nat.mul_comm W H]; omega
              obtain ⟨k, hk⟩ : ∃ q, y * W + x = q := ⟨_, rfl⟩
              obtain ⟨hmd, hdv⟩ := row_mod (y := y) hlt2
              rw [hk] at hfit hmd hdv HP
              have hpi : (y : Int) * (W : Int) + (x : Int) = (k : Int) := by rw [← hk]; push_cast; rfl
              have hY0 : 0 ≤ (y : Int) * (W : Int) := Int.mul_nonneg (by omega) (by omega)
              have hY1 : (y : Int) * (W : Int) ≤ 64 := by omega
              have HAT := Lib.hid (specAt_any (W : Int) (H : Int) (some ⟨b, o, none⟩) l c wr.heap.size (x : Int) (y : Int) k wr IL.out (Nat.le_refl _) hfit hn hpi hY0 hY1 (by omega) (by omega))
              have hkL : k < L.length := by rw [HFL.out]; exact hfit
              have HLK := Lib.hid (HFG.out k hkL)
              have HSE := Lib.hid (HSELF.out k hfit)
              rw [hmd, hdv, getD_at hfit] at HLK
              rw [hmd, hdv] at HSE
              have HCALL := Lib.hid (fun W' h => HVALS.out x y x y W' rfl rfl hlt2 hlt h)
              have hvl := HVL.out x y
              have HYES := Lib.hid (fun h => pks_yes (W := W) hkL h)
              have HNOT := Lib.hid (fun h => pks_not (W := W) hkL h)
              rw [hmd, hdv] at HYES
              have hpl := pks_len W L k
              have hk1 : y * W + (x + 1) = k + 1 := by omega
              generalize nbv l W H x y rn = vs at *
              generalize l[k] = z at *
              clear hk hpi hY0 hY1 hmd hdv
              go_wp2_with fail
              refine HAT.out.mono ?_
              rintro e w5 ⟨rfl, b5⟩
              have P5 := Lib.hid (HP.out.step b5)
              have I5 := Lib.hid (ints_below IL.out b5)
              have z5 := b5.size
              clear b5 k0 k1 k2 HAT HP IL
              obtain ⟨k0, k1, k2⟩ := P5.out.x.cells
              go_wp2_with fail
              refine (HCALL.out _ I5.out).mono ?_
              rintro e w6 ⟨a6, c6, rfl, o6, b6⟩
              have P6 := Lib.hid (P5.out.step b6)
              have I6 := Lib.hid o6.ints
              have z6 := b6.size
              have hsl := insAll_len vs
              clear b6 o6 k0 k1 k2 P5 I5 HCALL
              have no : L[k] = false → ∀ Q : Prop, (PkAt w W H (some ⟨b, o, none⟩) l c E' (pks W L (y * W + (x + 1))) u6 w6 → Q) → Q := by
                intro h Q hQ
                refine hQ ?_
                rw [hk1, HNOT.out h]
                exact P6.out
              have HNO := Lib.hid no
              clear no
              by_cases y0 : z = -9999
              · have e0 : (z != -9999) = false := by simp [y0]
                have HN := Lib.hid (HLK.out.trans (peakP_gone y0))
                clear y0 HSE
                go_wp2
                go_roundw
                case rel => exact HNO.out HN.out _ fun h => ⟨x + 1, E', by omega, by go_num, h⟩
                case measure => simp [intOf]; omega
              · have e0 : (z != -9999) = true := by simp [y0]
                have hmem := HSE.out y0
                have hvp : 0 < vs.length := List.length_pos_of_mem hmem
                obtain ⟨q, hq⟩ : ∃ q, (insAll vs).length = q + 1 := ⟨vs.length - 1, by omega⟩
                have hqlt : q < (insAll vs).length := by omega
                obtain ⟨b6, o6, rfl, hb6, hcA⟩ := I6.out.at_ hqlt
                have hq64 : q ≤ 64 := by omega
                have p1 : ((q + 1 : Nat) : Int) - 1 = (q : Int) := by omega
                have pp0 : (0 : Int) ≤ (q : Int) := by omega
                have pp1 : (q : Int) < ((q + 1 : Nat) : Int) := by omega
                have HLAST := Lib.hid (fun h => HLK.out.trans (peak_last y0 hmem hq hqlt h))
                rw [hq]
                by_cases y1 : z = (insAll vs)[q]
                · rw [← y1] at hcA
                  rcases Nat.eq_zero_or_pos q with hq0 | hq0
                  · subst hq0
                    rw [Nat.add_zero] at hcA
                    have HY := Lib.hid (HLK.out.trans (peak_one y0 hmem hq hqlt y1))
                    have HPK := Lib.hid (HYES.out HY.out)
                    clear y0 y1 hmem hq hqlt HSE HLAST HYES HNOT HNO HLK hsl hvp
                    obtain ⟨b2, hc2⟩ := two_laid w6 (x : Int) (y : Int) (.cells #[.slice (some ⟨w6.heap.size, 0, none⟩) 2 2] 24)
                    have HB2 := Lib.hid b2
                    have HC2 := Lib.hid hc2
                    clear b2 hc2
                    generalize pks W L k = R at *
                    go_wp2_with (at_builtin; refine wpList_append_own _ rfl _ _ 35 rfl w.heap.size 24 i0 _ 1 24 Try.underlying35 hi0' hz0 hz1 hz2 rfl (by decide) _ R.length (tabV E' R) rfl (own_keeps P6.out.o HB2.out) ⟨w6.heap.size + 1, 0, none⟩ 1 1 [.slice (some ⟨w6.heap.size, 0, none⟩) 2 2] rfl rfl (row_news w6 (x : Int) (y : Int)) (by simp [Value.oneCell']) (by unfold maxLen; omega) (by omega) (Nat.le_trans P6.out.b.size HB2.out.size) ?_; intro v' w8 hown8 hgrow8 _; have HP8 := Lib.hid (P6.out.put HB2.out rfl HC2.out hgrow8 hown8); clear hown8 hgrow8)
                    go_roundw
                    case rel => exact ⟨x + 1, _, by omega, by go_num, by rw [hk1, HPK.out]; exact HP8.out⟩
                    case measure => simp [intOf]; omega
                  · obtain ⟨p, rfl⟩ : ∃ p, q = p + 1 := ⟨q - 1, by omega⟩
                    have hplt : p < (insAll vs).length := by omega
                    obtain ⟨b7, o7, e7, hb7, hcB⟩ := I6.out.at_ hplt
                    injection e7 with e7
                    injection e7 with e7 e8
                    subst e7 e8
                    have p3 : ((p + 1 + 1 : Nat) : Int) - 2 = (p : Int) := by omega
                    have p4 : ¬ ((p + 1 + 1 : Nat) : Int) = 1 := by omega
                    have p5 : (((p + 1 + 1 : Nat) : Int) == 1) = false := by rw [beq_eq_false_iff_ne]; exact p4
                    have p6 : ((p : Int) + 1 + 1 == 1) = false := by rw [beq_eq_false_iff_ne]; omega
                    have pp2 : (0 : Int) ≤ (p : Int) := by omega
                    have pp3 : (p : Int) < ((p + 1 + 1 : Nat) : Int) := by omega
                    have HV := Lib.hid (HLK.out.trans (peak_two y0 hmem hq hqlt y1 hplt))
                    generalize (insAll vs)[p] = sp at *
                    clear y0 y1 hmem hqlt hplt HSE HLAST HLK hvp
                    by_cases y2 : sp < z
                    · have HPK := Lib.hid (HYES.out (HV.out.trans (decide_eq_true y2)))
                      clear HV HYES HNOT HNO hsl hq
                      obtain ⟨b2, hc2⟩ := two_laid w6 (x : Int) (y : Int) (.cells #[.slice (some ⟨w6.heap.size, 0, none⟩) 2 2] 24)
                      have HB2 := Lib.hid b2
                      have HC2 := Lib.hid hc2
                      clear b2 hc2
                      generalize pks W L k = R at *
                      go_wp2_with (at_builtin; refine wpList_append_own _ rfl _ _ 35 rfl w.heap.size 24 i0 _ 1 24 Try.underlying35 hi0' hz0 hz1 hz2 rfl (by decide) _ R.length (tabV E' R) rfl (own_keeps P6.out.o HB2.out) ⟨w6.heap.size + 1, 0, none⟩ 1 1 [.slice (some ⟨w6.heap.size, 0, none⟩) 2 2] rfl rfl (row_news w6 (x : Int) (y : Int)) (by simp [Value.oneCell']) (by unfold maxLen; omega) (by omega) (Nat.le_trans P6.out.b.size HB2.out.size) ?_; intro v' w8 hown8 hgrow8 _; have HP8 := Lib.hid (P6.out.put HB2.out rfl HC2.out hgrow8 hown8); clear hown8 hgrow8)
                      go_roundw
                      case rel => exact ⟨x + 1, _, by omega, by go_num, by rw [hk1, HPK.out]; exact HP8.out⟩
                      case measure => simp [intOf]; omega
                    · have HN := Lib.hid (HV.out.trans (decide_eq_false y2))
                      clear HV HYES hsl hq
                      go_wp2
                      go_roundw
                      case rel => exact HNO.out HN.out _ fun h => ⟨x + 1, E', by omega, by go_num, h⟩
                      case measure => simp [intOf]; omega
                · have HN := Lib.hid (HLAST.out y1)
                  have y1b : (z == (insAll vs)[q]) = false := by rw [beq_eq_false_iff_ne]; exact y1
                  generalize (insAll vs)[q] = sq at *
                  clear y0 hmem hq hqlt HSE HLAST HLK HYES hsl hvp
                  go_wp2
                  go_roundw
                  case rel => exact HNO.out HN.out _ fun h => ⟨x + 1, E', by omega, by go_num, h⟩
                  case measure => simp [intOf]; omega
            · obtain rfl : x = W := by omega
              have hrow : y * x + x = (y + 1) * x := by rw [Nat.add_mul, Nat.one_mul]
              rw [hrow] at HP
              clear IL
              go_wp2
              go_roundw
              case rel => exact ⟨y + 1, E', by omega, by go_num, HP.out⟩
              case measure => simp [intOf]; omega
        · obtain rfl : y = H := by omega
          have hall : y * W = l.length := by rw [HNN.out, Nat.mul_comm]
          rw [hall] at HP
          generalize pks W L l.length = R at *
          go_wp2
          go_ret2
          exact HP.out.post (a' := none)
end Go.Proofs.Ytecjkammoakakaa
