/- SmoothChange, the program's and the model's. -/
import Derived.Test.YtecjkammoakakaaNbFill
import Derived.Deep.RegionHeld3
namespace Go.Proofs.Ytecjkammoakakaa
open Go.RowKit
set_option linter.unusedVariables false
set_option linter.unusedSimpArgs false
/-- the greatest change so far, and a cell more -/
def smF (g x m : Int) : Int := if x = -9999 then g else max (max g (x - m)) (-(x - m))
def smK (l M : List Int) : Nat → Int
  | 0 => 0
  | k + 1 => smF (smK l M k) (l.getD k 0) (M.getD k 0)
theorem smF_gone {g x m : Int} (h : x = -9999) : smF g x m = g := if_pos h
theorem smF_val {g x m : Int} (h : ¬ x = -9999) : smF g x m = max (max g (x - m)) (-(x - m)) := if_neg h
theorem sm_step {l M : List Int} {k : Nat} (h1 : k < l.length) (h2 : k < M.length) : smK l M (k + 1) = smF (smK l M k) l[k] M[k] := by
  show smF _ _ _ = _
  rw [getD_at h1, getD_at h2]
theorem sm_bd {l M : List Int} (hl : ∀ z ∈ l, -9999 ≤ z ∧ z ≤ 9000) (hM : ∀ z ∈ M, -9999 ≤ z ∧ z ≤ 9000) (hn : l.length = M.length) : ∀ k, k ≤ l.length → 0 ≤ smK l M k ∧ smK l M k ≤ 20000
  | 0, _ => by simp [smK]
  | k + 1, hk => by
    have ih := sm_bd hl hM hn k (by omega)
    have h1 : k < l.length := by omega
    have h2 : k < M.length := by omega
    have b1 := hl _ (List.getElem_mem h1)
    have b2 := hM _ (List.getElem_mem h2)
    rw [sm_step h1 h2]
    unfold smF
    split <;> omega
/-- what SmoothChange answers -/
def smN (wd hg : Int) (l : List Int) (r : Int) : Int := if nbB wd hg l r = true then smK l (meanL wd hg l r) l.length else 0
theorem smN_yes {wd hg : Int} {l : List Int} {r : Int} (h : nbB wd hg l r = true) : smN wd hg l r = smK l (meanL wd hg l r) l.length := if_pos h
theorem smN_no {wd hg : Int} {l : List Int} {r : Int} (h : nbB wd hg l r = false) : smN wd hg l r = 0 := if_neg (by rw [h]; simp)
set_option maxRecDepth 100000 in
set_option maxHeartbeats 4000000 in
theorem implSm_any (wd hg : Int) (a : Option Addr) (l : List Int) (c : Nat) (r : Int) (w : World) (hl : Ints .i64 w w.heap.size a l) (hn : l.length ≤ 1048576) (hcap : l.length ≤ c) :
    Calls Try.prog 39 #[.agg #[.int .i64 wd, .int .i64 hg, .slice a l.length c], .int .i64 r] w fun e w' => e = .returned (.tuple #[.int .i64 (smN wd hg l r), .bool (nbB wd hg l r)]) ∧ Below w.heap.size w w' := by
  have K0 := Lib.hid (Box.new w 26 (.int .i64 wd) (.int .i64 hg) (.slice a l.length c))
  have I0 := ints_alloc hl (.cells #[.int .i64 wd, .int .i64 hg, .slice a l.length c] 26)
  have HC := implMean_c wd hg a l c r _ I0 hn hcap
  cases hb : nbB wd hg l r with
  | false =>
    rw [filtR_no hb] at HC
    rw [smN_no hb]
    have HC := Lib.hid (HC.mono fun _ _ h => h.no)
    clear hl hb I0 K0
    go_enter Try.func39, Try.ntmps39
    go_wp2_with fail
    refine HC.out.mono ?_
    rintro e w1 ⟨a1, c1, rfl, b1⟩
    have B1 := Lib.hid (below_then (below_all _ _) b1)
    clear b1 HC
    go_wp2
    go_ret2
    exact ⟨rfl, B1.out.alloc B1.out.size _⟩
  | true =>
    rw [meanR_yes hb] at HC
    rw [smN_yes hb]
    have HC := Lib.hid (HC.mono fun _ _ h => h.yes)
    have hgd := (nbB_iff.1 hb).1
    have hml := meanL_len wd hg l r
    have HLC := Lib.hid (good_bd hgd)
    have HMC := Lib.hid (good_bd (meanL_good hgd r))
    generalize meanL wd hg l r = M at *
    have HBD := Lib.hid (sm_bd HLC.out HMC.out hml.symm)
    have HML := Lib.hid hml
    have HIL := Lib.hid hl
    clear hl hb hml hgd I0
    go_enter Try.func39, Try.ntmps39
    go_wp2_with fail
    refine HC.out.mono ?_
    rintro e w1 ⟨a1, c1, h1, rfl, o1, b1⟩
    have K1 := K0.out.below b1
    obtain ⟨k0, k1, k2⟩ := K1.cells
    have z1 := K1.lt
    have z2 : ¬ w.heap.size = w1.heap.size := by omega
    have B1 := Lib.hid (below_then (below_all _ _) b1)
    have X2 := Box.new w1 26 (.int .i64 wd) (.int .i64 hg) (.slice a1 M.length c1)
    have I2 := Lib.hid (ints_alloc o1.ints (.cells #[.int .i64 wd, .int .i64 hg, .slice a1 M.length c1] 26))
    have B2 := Lib.hid (B1.out.alloc B1.out.size (.cells #[.int .i64 wd, .int .i64 hg, .slice a1 M.length c1] 26))
    have L2 := Lib.hid (HIL.out.below B2.out (Nat.le_refl _))
    clear b1 HC K1 K0 B1 o1
    go_wp2
    clear k0 k1 k2 z2
    obtain ⟨W1, hW1⟩ : ∃ x, w1.alloc (.cells #[.int .i64 wd, .int .i64 hg, .slice a1 M.length c1] 26) = x := ⟨_, rfl⟩
    rw [hW1] at X2 I2 B2 L2
    rw [hW1]
    obtain ⟨x0, x1, x2⟩ := X2.cells
    generalize w1.heap.size = q at *
    clear hW1 X2
    go_loop [8, 23] (fun g i => ∃ k : Nat, k ≤ l.length ∧ i = .int .i64 k ∧ g = .int .i64 (smK l M k)) (fun _ i => l.length - (intOf i).toNat)
    case atStart => exact ⟨0, Nat.zero_le _, rfl, rfl⟩
    case round =>
      obtain ⟨k, hk, rfl, rfl⟩ := hrel
      have hbd := HBD.out k hk
      by_cases hlt : k < l.length
      · have hi : (k : Int) < (l.length : Int) := by omega
        have hi0 : (0 : Int) ≤ (k : Int) := by omega
        have hkM : k < M.length := by rw [HML.out]; exact hlt
        have hiM : (k : Int) < (M.length : Int) := by omega
        obtain ⟨b0, o0, rfl, hb0, hc0⟩ := L2.out.at_ hlt
        obtain ⟨b2, o2, rfl, hb2, hc2⟩ := I2.out.at_ hkM
        have HS := Lib.hid (sm_step hlt hkM)
        have hxb := HLC.out l[k] (List.getElem_mem hlt)
        have hmb := HMC.out M[k] (List.getElem_mem hkM)
        generalize M[k] = m at *
        generalize l[k] = x at *
        generalize smK l M k = g at *
        by_cases y0 : x = -9999
        · have e0 : (x != -9999) = false := by simp [y0]
          have HV := Lib.hid (HS.out.trans (smF_gone y0))
          clear y0 HS hbd
          go_wp2
          go_round
          case rel => exact ⟨k + 1, by omega, by go_num, by rw [HV.out]⟩
          case measure => simp [intOf]; omega
        · have e0 : (x != -9999) = true := by simp [y0]
          have HV := Lib.hid (HS.out.trans (smF_val y0))
          clear y0 HS
          go_wp2
          go_round
          case rel => exact ⟨k + 1, by omega, by go_num, by rw [HV.out]; congr 1; (repeat' split) <;> omega⟩
          case measure => simp [intOf]; omega
      · obtain rfl : k = l.length := by omega
        go_wp2
        go_ret2
        exact ⟨rfl, B2.out⟩
set_option maxRecDepth 100000 in
set_option maxHeartbeats 4000000 in
theorem specSm_any (wd hg : Int) (a : Option Addr) (l : List Int) (c : Nat) (r : Int) (w : World) (hl : Ints .i64 w w.heap.size a l) (hn : l.length ≤ 1048576) :
    Calls Try.prog 40 #[.agg #[.int .i64 wd, .int .i64 hg, .slice a l.length c], .int .i64 r] w fun e w' => e = .returned (.tuple #[.int .i64 (smN wd hg l r), .bool (nbB wd hg l r)]) ∧ Below w.heap.size w w' := by
  have K0 := Lib.hid (Box.new w 26 (.int .i64 wd) (.int .i64 hg) (.slice a l.length c))
  have I0 := ints_alloc hl (.cells #[.int .i64 wd, .int .i64 hg, .slice a l.length c] 26)
  have HC := specMean_any wd hg a l c r _ I0 hn
  cases hb : nbB wd hg l r with
  | false =>
    rw [filtR_no hb] at HC
    rw [smN_no hb]
    have HC := Lib.hid (HC.mono fun _ _ h => h.no)
    clear hl hb I0 K0
    go_enter Try.func40, Try.ntmps40
    go_wp2_with fail
    refine HC.out.mono ?_
    rintro e w1 ⟨a1, c1, rfl, b1⟩
    have B1 := Lib.hid (below_then (below_all _ _) b1)
    clear b1 HC
    go_wp2
    go_ret2
    exact ⟨rfl, B1.out.alloc B1.out.size _⟩
  | true =>
    rw [meanR_yes hb] at HC
    rw [smN_yes hb]
    have HC := Lib.hid (HC.mono fun _ _ h => h.yes)
    have hgd := (nbB_iff.1 hb).1
    have hml := meanL_len wd hg l r
    have HLC := Lib.hid (good_bd hgd)
    have HMC := Lib.hid (good_bd (meanL_good hgd r))
    generalize meanL wd hg l r = M at *
    have HBD := Lib.hid (sm_bd HLC.out HMC.out hml.symm)
    have HML := Lib.hid hml
    have HIL := Lib.hid hl
    clear hl hb hml hgd I0
    go_enter Try.func40, Try.ntmps40
    go_wp2_with fail
    refine HC.out.mono ?_
    rintro e w1 ⟨a1, c1, rfl, o1, b1⟩
    have K1 := K0.out.below b1
    have z1 := K1.lt
    have B1 := Lib.hid (below_then (below_all _ _) b1)
    have X2 := Box.new w1 26 (.int .i64 wd) (.int .i64 hg) (.slice a1 M.length c1)
    have K2 := K1.alloc (.cells #[.int .i64 wd, .int .i64 hg, .slice a1 M.length c1] 26)
    have I2 := Lib.hid (ints_alloc o1.ints (.cells #[.int .i64 wd, .int .i64 hg, .slice a1 M.length c1] 26))
    have B2 := Lib.hid (B1.out.alloc B1.out.size (.cells #[.int .i64 wd, .int .i64 hg, .slice a1 M.length c1] 26))
    have L2 := Lib.hid (HIL.out.below B2.out (Nat.le_refl _))
    clear b1 HC K1 K0 B1 o1
    go_wp2
    obtain ⟨W1, hW1⟩ : ∃ x, w1.alloc (.cells #[.int .i64 wd, .int .i64 hg, .slice a1 M.length c1] 26) = x := ⟨_, rfl⟩
    rw [hW1] at X2 I2 B2 L2 K2
    rw [hW1]
    obtain ⟨q, hq⟩ : ∃ x, w1.heap.size = x := ⟨_, rfl⟩
    rw [hq] at X2 z1 ⊢
    have HX2 := Lib.hid X2
    have HK2 := Lib.hid K2
    clear hW1 X2 K2 hq
    go_loopw [8, 9] (fun g i wr => ∃ k : Nat, k ≤ l.length ∧ i = .int .i64 k ∧ g = .int .i64 (smK l M k) ∧ Drew W1 wr) (fun _ i _ => l.length - (intOf i).toNat)
    case atStart => exact ⟨0, Nat.zero_le _, rfl, rfl, Drew.refl _⟩
    case round =>
      obtain ⟨k, hk, rfl, rfl, hD⟩ := hrel
      have hbd := HBD.out k hk
      have bD := hD.below W1.heap.size
      obtain ⟨x0, x1, x2⟩ := (HX2.out.below bD).cells
      obtain ⟨k0, k1, k2⟩ := (HK2.out.below bD).cells
      have HD := Lib.hid hD
      by_cases hlt : k < l.length
      · have hi : (k : Int) < (l.length : Int) := by omega
        have hi0 : (0 : Int) ≤ (k : Int) := by omega
        have hkM : k < M.length := by rw [HML.out]; exact hlt
        have hiM : (k : Int) < (M.length : Int) := by omega
        obtain ⟨b0, o0, rfl, hb0, hc0⟩ := (L2.out.drew hD).at_ hlt
        obtain ⟨b2, o2, rfl, hb2, hc2⟩ := (I2.out.drew hD).at_ hkM
        have HS := Lib.hid (sm_step hlt hkM)
        have hxb := HLC.out l[k] (List.getElem_mem hlt)
        have hmb := HMC.out M[k] (List.getElem_mem hkM)
        generalize M[k] = m at *
        generalize l[k] = x at *
        generalize smK l M k = g at *
        clear hD bD
        by_cases y0 : x = -9999
        · have e0 : (x != -9999) = false := by simp [y0]
          have HV := Lib.hid (HS.out.trans (smF_gone y0))
          clear y0 HS hbd
          go_wp2
          go_roundw
          case rel => exact ⟨k + 1, by omega, by go_num, by rw [HV.out], HD.out⟩
          case measure => simp [intOf]; omega
        · have e0 : (x != -9999) = true := by simp [y0]
          have HV := Lib.hid (HS.out.trans (smF_val y0))
          obtain ⟨d, hd⟩ : ∃ d, x - m = d := ⟨_, rfl⟩
          have hw : IntKind.i64.wrap (x - m) = d := by rw [IntWalk.i64_in _ (by omega)]; exact hd
          rw [hd] at HV
          have hd1 : -20000 ≤ d := by omega
          have hd2 : d ≤ 20000 := by omega
          have HM1 := Lib.hid (fun W => l1Most_is d (-d) W)
          have HM2 := Lib.hid (fun W => l1Most_is g (max d (-d)) W)
          clear y0 HS hd
          go_wp2_with fail
          go_region_held3 (fun w' => w'.cell? ⟨w.heap.size, 2, none⟩ = some (.slice (some ⟨b0, o0, none⟩) l.length c) ∧ w'.cell? ⟨b0, o0 + k, none⟩ = some (.int .i64 x) ∧ w'.cell? ⟨q, 2, none⟩ = some (.slice (some ⟨b2, o2, none⟩) M.length c1) ∧ w'.cell? ⟨b2, o2 + k, none⟩ = some (.int .i64 m))
            (first | exact ⟨k2, hc0, x2, hc2⟩ | go_keep)
            (fail)
          rename_i hHeld
          clear hHeld
          go_wp2_with (go_at_call 78; first | ((with_reducible refine (HM1.out _).mono ?_); rintro e w9 ⟨rfl, rfl⟩) | ((with_reducible refine (HM2.out _).mono ?_); rintro e w9 ⟨rfl, rfl⟩))
          go_roundw
          case rel => exact ⟨k + 1, by omega, by go_num, by rw [HV.out]; exact congrArg _ (by omega), Drew.more HD.out 1⟩
          case measure => simp [intOf]; omega
      · obtain rfl : k = l.length := by omega
        clear hD bD
        go_wp2
        go_ret2
        exact ⟨rfl, B2.out.trans (HD.out.below _)⟩
end Go.Proofs.Ytecjkammoakakaa
