/- LoopArea of the program: areaOf, isCorner. -/
import Derived.Test.YtgfgimpglaepaaaPtLaw
import Derived.Test.YtgfgimpglaepaaaGood
import Derived.IntWalk
import Derived.Deep.DeepCutAuto
import Derived.Deep.RegionHeld3
namespace Go.Proofs.Ytgfgimpglaepaaa
open Go.RowKit
set_option linter.unusedVariables false
set_option linter.unusedSimpArgs false
/-- block b is a box of one point -/
def Pb (w : World) (b : Nat) (x y : Int) : Prop := w.heap[b]? = some (.cells #[.int .i64 x, .int .i64 y] 48 (0, 0))
section
variable {w w' : World} {b : Nat} {x y : Int}
theorem Pb.new (w : World) (x y : Int) : Pb (w.alloc (.cells #[.int .i64 x, .int .i64 y] 48)) w.heap.size x y := heap_alloc_new w _
theorem Pb.lt (h : Pb w b x y) : b < w.heap.size := (Array.getElem?_eq_some_iff.1 h).1
theorem Pb.alloc (h : Pb w b x y) (o : Obj) : Pb (w.alloc o) b x y := (Below.heap_alloc w o b h.lt).trans h
theorem Pb.below (h : Pb w b x y) (k : Below w.heap.size w w') : Pb w' b x y := (k.block b h.lt).trans h
theorem Pb.cells (h : Pb w b x y) : w.cell? ⟨b, 0, none⟩ = some (.int .i64 x) ∧ w.cell? ⟨b, 1, none⟩ = some (.int .i64 y) := by
  unfold Pb at h; exact ⟨by simp [World.cell?, h], by simp [World.cell?, h]⟩
theorem Pb.frozen (h : Pb w b x y) (i : Nat) : w.frozen? ⟨b, i, none⟩ = false := by unfold Pb at h; simp [World.frozen?, h]
theorem Pb.set (h : Pb w b x y) (u v : Int) : Pb ((w.setCell ⟨b, 0, none⟩ (.int .i64 u)).setCell ⟨b, 1, none⟩ (.int .i64 v)) b u v := by
  unfold Pb at *; simp [World.setCell, Array.getElem?_modify, h]
theorem Pb.other (h : Pb w b x y) {p : Addr} (hp : b ≠ p.block) (u : Value) : Pb (w.setCell p u) b x y := (Below.heap_setCell w p u b hp).trans h
end
theorem twI_succ (p : List Pt) (k : Nat) : twI p (k + 1) = twI p k + crs (gP p (if k = 0 then p.length - 1 else k - 1)) (gP p k) := rfl
theorem crs_eq (a b : Pt) : crs a b = a.1 * b.2 - b.1 * a.2 := rfl
/-- the point ahead of place k -/
def pvP (p : List Pt) (k : Nat) : Pt := gP p (if k = 0 then p.length - 1 else k - 1)
theorem pvP_succ (p : List Pt) (k : Nat) : pvP p (k + 1) = gP p k := by unfold pvP; rw [if_neg (by omega), Nat.add_sub_cancel]
theorem pvP_zero (p : List Pt) : pvP p 0 = gP p (p.length - 1) := rfl
theorem twI_pv (p : List Pt) (k : Nat) : twI p (k + 1) = twI p k + ((pvP p k).1 * (gP p k).2 - (gP p k).1 * (pvP p k).2) := rfl
set_option maxHeartbeats 2000000 in
theorem areaOf_any (a : Option Addr) (p : List Pt) (c : Nat) (w : World) (hl : Pts w w.heap.size a p) (hv : lpB p = true) :
    Calls Try.prog 73 #[.slice a p.length c] w fun e w' => e = .returned (.int .i64 ((twI p p.length).tdiv 2)) ∧ Below w.heap.size w w' := by
  have hb := (lp_iff.1 hv).1
  have HC := Lib.hid (fun k (hk : k < p.length) => corB_iff.1 (lp_cor hv hk))
  have HBD := Lib.hid (fun k hk => twI_bd hv k hk)
  have HL := Lib.hid hl
  obtain ⟨b, o, rfl, hbl, c0, c1⟩ := hl.at_ (j := p.length - 1) (by omega)
  have HG0 := Lib.hid (gP_get (p := p) (j := p.length - 1) (by omega))
  rw [← HG0.out] at c0 c1
  obtain ⟨x0, hx0⟩ : ∃ x, (gP p (p.length - 1)).1 = x := ⟨_, rfl⟩
  obtain ⟨y0, hy0⟩ : ∃ x, (gP p (p.length - 1)).2 = x := ⟨_, rfl⟩
  rw [hx0] at c0
  rw [hy0] at c1
  have HXY := Lib.hid (show pvP p 0 = (x0, y0) by rw [pvP_zero, ← hx0, ← hy0])
  clear hl hv hx0 hy0
  obtain ⟨n, hn⟩ : ∃ n, p.length = n + 1 := ⟨p.length - 1, by omega⟩
  have hnn := Lib.hid hn
  have g1 : IntKind.i64.wrap ((n : Int) + 1 - 1) = (n : Int) := by rw [show (n : Int) + 1 - 1 = (n : Int) by omega]; exact IntWalk.i64_in _ (by omega)
  have g2 : (0 : Int) ≤ (n : Int) := by omega
  have g3 : (n : Int) < (p.length : Int) := by omega
  have g4 : (p.length : Int) - 1 = (n : Int) := by omega
  have g5 : p.length - 1 = n := by omega
  rw [g5] at c0 c1
  have hpl : p.length ≤ 100 := by omega
  clear hn g5 HG0
  go_enter Try.func73, Try.ntmps73
  go_wp2
  have HN := Lib.hid g4
  clear g1 g2 g3 g4 c0 c1
  go_loopw [3, 15] (fun q i wr => ∃ k : Nat, k ≤ p.length ∧ i = .int .i64 k ∧ q = .int .i64 (twI p k) ∧ Pb wr w.heap.size (pvP p k).1 (pvP p k).2 ∧ Below w.heap.size w wr) (fun _ i _ => p.length - (intOf i).toNat)
  case atStart => exact ⟨0, Nat.zero_le _, rfl, rfl, by rw [HXY.out]; exact Pb.new w x0 y0, below_all _ _⟩
  case round =>
    obtain ⟨k, hk, rfl, rfl, hpb, hB⟩ := hrel
    have HB := Lib.hid hB
    by_cases hlt : k < p.length
    · obtain ⟨b', o', e', _, d0, d1⟩ := (HL.out.below hB (Nat.le_refl _)).at_ hlt
      have e2 := Option.some.inj e'
      injection e2 with e3 e4
      subst e3 e4
      clear e'
      have hcur := HC.out k hlt
      have hprv := HC.out (if k = 0 then p.length - 1 else k - 1) (by split <;> omega)
      have htw := HBD.out k hk
      have hsu := twI_pv p k
      have hps := pvP_succ p k
      rw [← gP_get hlt] at d0 d1
      change (0 ≤ (pvP p k).1 ∧ (pvP p k).1 ≤ 8) ∧ 0 ≤ (pvP p k).2 ∧ (pvP p k).2 ≤ 8 at hprv
      generalize pvP p k = B at *
      generalize gP p k = C at *
      obtain ⟨bx, byy⟩ := B
      obtain ⟨X, Y⟩ := C
      simp only at d0 d1 hcur hprv hsu hps hpb
      have hm1 := mul_bd hprv.1 hcur.2
      have hm2 := mul_bd hcur.1 hprv.2
      obtain ⟨m1, hm1'⟩ : ∃ m, bx * Y = m := ⟨_, rfl⟩
      obtain ⟨m2, hm2'⟩ : ∃ m, X * byy = m := ⟨_, rfl⟩
      rw [hm1'] at hm1 hsu
      rw [hm2'] at hm2 hsu
      obtain ⟨t, ht⟩ : ∃ t, twI p k = t := ⟨_, rfl⟩
      rw [ht] at htw hsu ⊢
      have HSU := Lib.hid hsu
      have HPS := Lib.hid hps
      have HPB := Lib.hid hpb
      clear hsu hps ht hB
      obtain ⟨r0, r1⟩ := hpb.cells
      have f0 := hpb.frozen 0
      have f1 := hpb.frozen 1
      have zl := hpb.lt
      have zn : ¬ w.heap.size = wr.heap.size := by omega
      have hi : (k : Int) < (p.length : Int) := by omega
      have hi0 : (0 : Int) ≤ (k : Int) := by omega
      clear hpb
      go_wp2
      go_roundw
      case rel =>
        refine ⟨k + 1, by omega, by go_num, by rw [HSU.out], ?_, ?_⟩
        · rw [HPS.out]
          exact (HPB.out.set X Y).alloc _
        · have hs := (HB.out.setCell (p := ⟨w.heap.size, 0, none⟩) (Nat.le_refl _) (.int .i64 X)).setCell (p := ⟨w.heap.size, 1, none⟩) (Nat.le_refl _) (.int .i64 Y)
          exact hs.alloc hs.size _
      case measure => simp [intOf]; omega
    · obtain rfl : k = p.length := by omega
      have htw := HBD.out p.length (Nat.le_refl _)
      obtain ⟨t, ht⟩ : ∃ t, twI p p.length = t := ⟨_, rfl⟩
      rw [ht] at htw
      have HT := Lib.hid ht
      rw [ht]
      clear ht hpb hB
      go_wp2
      go_ret
      exact ⟨by rw [HT.out]; rfl, HB.out⟩
set_option maxHeartbeats 1000000 in
theorem isCorner_is (x y : Int) (v : Bool) (w : World) (h : corB (x, y) = v) :
    Calls Try.prog 72 #[.agg #[.int .i64 x, .int .i64 y]] w fun e w' => e = .returned (.bool v) ∧ Below w.heap.size w w' := by
  unfold corB at h
  simp only at h
  by_cases h1 : 0 ≤ x
  · by_cases h2 : x ≤ 8
    · by_cases h3 : 0 ≤ y
      · by_cases h4 : y ≤ 8
        · obtain rfl : v = true := by rw [← h]; simp [h1, h2, h3, h4]
          clear h
          go_enter Try.func72, Try.ntmps72
          go_wp2
          go_ret
          exact ⟨rfl, below_all _ _⟩
        · obtain rfl : v = false := by rw [← h]; simp [h4]
          have d4 : decide (y ≤ 8) = false := decide_eq_false h4
          clear h
          go_enter Try.func72, Try.ntmps72
          go_wp2
          go_ret
          exact ⟨rfl, below_all _ _⟩
      · obtain rfl : v = false := by rw [← h]; simp [h3]
        have d4 : decide (0 ≤ y) = false := decide_eq_false h3
        clear h
        go_enter Try.func72, Try.ntmps72
        go_wp2
        go_ret
        exact ⟨rfl, below_all _ _⟩
    · obtain rfl : v = false := by rw [← h]; simp [h2]
      have d4 : decide (x ≤ 8) = false := decide_eq_false h2
      clear h
      go_enter Try.func72, Try.ntmps72
      go_wp2
      go_ret
      exact ⟨rfl, below_all _ _⟩
  · obtain rfl : v = false := by rw [← h]; simp [h1]
    have d4 : decide (0 ≤ x) = false := decide_eq_false h1
    clear h
    go_enter Try.func72, Try.ntmps72
    go_wp2
    go_ret
    exact ⟨rfl, below_all _ _⟩
theorem areaV_no {p : List Pt} (h : lpB p = false) : areaV p = 0 := if_neg (by rw [h]; simp)
theorem areaV_yes {p : List Pt} (h : lpB p = true) : areaV p = (twI p p.length).tdiv 2 := if_pos h
theorem stI_pv (p : List Pt) (k : Nat) : stI p k = (corB (gP p k) && diB (gP p k) (pvP p k)) := rfl
/-- what LoopArea returns -/
def ArPost (p : List Pt) (w : World) (e : Ending) (w' : World) : Prop := e = .returned (.tuple #[.int .i64 (areaV p), .bool (lpB p)]) ∧ Below w.heap.size w w'
theorem ar_no {p : List Pt} {w : World} {w' : World} (h : lpB p = false) (hB : Below w.heap.size w w') : ArPost p w (.returned (.tuple #[.int .i64 0, .bool false])) w' := by
  unfold ArPost; rw [areaV_no h, h]; exact ⟨rfl, hB⟩
set_option maxHeartbeats 4000000 in
theorem implArea_any (a : Option Addr) (p : List Pt) (c : Nat) (w : World) (hl : Pts w w.heap.size a p) (hn : p.length ≤ 1048576) :
    Calls Try.prog 28 #[.slice a p.length c] w (ArPost p w) := by
  by_cases hn4 : p.length < 4
  · have HV := Lib.hid (fun W => ar_no (w := w) (w' := W) (lp_noL (.inl hn4)))
    have d1 : decide ((p.length : Int) < 4) = true := decide_eq_true (by omega)
    clear hl
    go_enter Try.func28, Try.ntmps28
    go_wp2
    go_ret2
    exact HV.out _ (Below.refl _ _)
  · by_cases hn100 : 100 < p.length
    · have HV := Lib.hid (fun W => ar_no (w := w) (w' := W) (lp_noL (.inr hn100)))
      have d1 : decide ((p.length : Int) < 4) = false := decide_eq_false (by omega)
      have d2 : decide ((100 : Int) < (p.length : Int)) = true := decide_eq_true (by omega)
      clear hl
      go_enter Try.func28, Try.ntmps28
      go_wp2
      go_ret2
      exact HV.out _ (Below.refl _ _)
    · have HL := Lib.hid hl
      have HNO := Lib.hid (fun k (hk : k < p.length) h W => ar_no (w := w) (w' := W) (lp_noI hk h))
      have HY := Lib.hid (fun (h : ∀ k, k < p.length → stI p k = true) => lp_iff.2 ⟨⟨by omega, by omega⟩, h⟩)
      obtain ⟨b, o, rfl, hbl, c0, c1⟩ := hl.at_ (j := p.length - 1) (by omega)
      have HG0 := Lib.hid (gP_get (p := p) (j := p.length - 1) (by omega))
      rw [← HG0.out] at c0 c1
      obtain ⟨x0, hx0⟩ : ∃ x, (gP p (p.length - 1)).1 = x := ⟨_, rfl⟩
      obtain ⟨y0, hy0⟩ : ∃ x, (gP p (p.length - 1)).2 = x := ⟨_, rfl⟩
      rw [hx0] at c0
      rw [hy0] at c1
      have HXY := Lib.hid (show pvP p 0 = (x0, y0) by rw [pvP_zero, ← hx0, ← hy0])
      clear hl hx0 hy0 HG0
      obtain ⟨n, hn⟩ : ∃ n, p.length = n + 1 := ⟨p.length - 1, by omega⟩
      have hnn := Lib.hid hn
      have g1 : IntKind.i64.wrap ((n : Int) + 1 - 1) = (n : Int) := by rw [show (n : Int) + 1 - 1 = (n : Int) by omega]; exact IntWalk.i64_in _ (by omega)
      have g2 : (0 : Int) ≤ (n : Int) := by omega
      have g3 : (n : Int) < (p.length : Int) := by omega
      have g4 : (p.length : Int) - 1 = (n : Int) := by omega
      have g5 : p.length - 1 = n := by omega
      rw [g5] at c0 c1
      have d1 : decide ((p.length : Int) < 4) = false := decide_eq_false (by omega)
      have d2 : decide ((100 : Int) < (p.length : Int)) = false := decide_eq_false (by omega)
      clear hn g5
      go_enter Try.func28, Try.ntmps28
      go_wp2
      clear g1 g2 g3 g4 c0 c1 d1 d2
      go_loopw [23] (fun i wr => ∃ k : Nat, k ≤ p.length ∧ i = .int .i64 k ∧ Pb wr w.heap.size (pvP p k).1 (pvP p k).2 ∧ Below w.heap.size w wr ∧ ∀ j, j < k → stI p j = true) (fun i _ => p.length - (intOf i).toNat)
      case atStart => exact ⟨0, Nat.zero_le _, rfl, by rw [HXY.out]; exact Pb.new w x0 y0, below_all _ _, fun _ h => by omega⟩
      case round =>
        obtain ⟨k, hk, rfl, hpb, hB, hall⟩ := hrel
        have HB := Lib.hid hB
        have HA := Lib.hid hall
        clear hall
        by_cases hlt : k < p.length
        · obtain ⟨b', o', e', _, d0, d1⟩ := (HL.out.below hB (Nat.le_refl _)).at_ hlt
          have e2 := Option.some.inj e'
          injection e2 with e3 e4
          subst e3 e4
          clear e'
          have hst := stI_pv p k
          have hps := pvP_succ p k
          have HNK := Lib.hid (HNO.out k hlt)
          rw [← gP_get hlt] at d0 d1
          generalize pvP p k = B at *
          generalize gP p k = C at *
          obtain ⟨bx, byy⟩ := B
          obtain ⟨X, Y⟩ := C
          simp only at d0 d1 hps hpb
          have HST := Lib.hid hst
          have HPS := Lib.hid hps
          have HPB := Lib.hid hpb
          clear hst hps hB
          have zl := hpb.lt
          have zn : ¬ w.heap.size = wr.heap.size := by omega
          have hi : (k : Int) < (p.length : Int) := by omega
          have hi0 : (0 : Int) ≤ (k : Int) := by omega
          clear hpb
          have HC := Lib.hid (fun v W h => isCorner_is X Y v W h)
          have QX := Lib.hid (Pb.new wr X Y)
          go_wp2_with fail
          cases hcb : corB (X, Y) with
          | false =>
            have HF := Lib.hid (HNK.out (by rw [HST.out, hcb]; rfl))
            refine (HC.out false _ hcb).mono ?_
            rintro e w3 ⟨rfl, b3⟩
            have B3 := Lib.hid (HB.out.trans ((below_then (below_all wr _) b3).mono HB.out.size))
            clear b3 hcb
            go_wp2
            go_ret2
            exact HF.out _ B3.out
          | true =>
            refine (HC.out true _ hcb).mono ?_
            rintro e w3 ⟨rfl, b3⟩
            have B3 := Lib.hid (HB.out.trans ((below_then (below_all wr _) b3).mono HB.out.size))
            have P3 := Lib.hid ((HPB.out.alloc (.cells #[.int .i64 X, .int .i64 Y] 48)).below b3)
            have Q3 := QX.out.below b3
            have z3 := b3.size
            simp only [World.size_alloc] at z3
            obtain ⟨r0, r1⟩ := P3.out.cells
            obtain ⟨s0, s1⟩ := Q3.cells
            have f0 := P3.out.frozen 0
            have f1 := P3.out.frozen 1
            rw [hcb] at HST
            clear b3 hcb Q3
            rw [show diB (X, Y) (bx, byy) = ((X == bx) != (Y == byy)) from rfl] at HST
            by_cases hX : X = bx
            rotate_left
            · have e1 : (X == bx) = false := beq_eq_false_iff_ne.2 hX
              rw [e1] at HST
              clear hX
              by_cases hY : Y = byy
              rotate_left
              · have e2 : (Y == byy) = false := beq_eq_false_iff_ne.2 hY
                rw [e2] at HST
                clear hY
                have HF := Lib.hid (HNK.out (by rw [HST.out]; rfl))
                go_wp2
                go_ret2
                exact HF.out _ B3.out
              · subst hY
                rw [show (Y == Y) = true by simp] at HST
                go_wp2
                go_roundw
                case rel =>
                  refine ⟨k + 1, by omega, by go_num, by rw [HPS.out]; exact P3.out.set X Y, (B3.out.setCell (p := ⟨w.heap.size, 0, none⟩) (Nat.le_refl _) _).setCell (p := ⟨w.heap.size, 1, none⟩) (Nat.le_refl _) _, fun j hj => ?_⟩
                  rcases Nat.lt_or_ge j k with h1 | h1
                  · exact HA.out j h1
                  · obtain rfl : j = k := by omega
                    rw [HST.out]; rfl
                case measure => simp [intOf]; omega
            · subst hX
              rw [show (X == X) = true by simp] at HST
              by_cases hY : Y = byy
              rotate_left
              · have e2 : (Y == byy) = false := beq_eq_false_iff_ne.2 hY
                rw [e2] at HST
                clear hY
                go_wp2
                go_roundw
                case rel =>
                  refine ⟨k + 1, by omega, by go_num, by rw [HPS.out]; exact P3.out.set X Y, (B3.out.setCell (p := ⟨w.heap.size, 0, none⟩) (Nat.le_refl _) _).setCell (p := ⟨w.heap.size, 1, none⟩) (Nat.le_refl _) _, fun j hj => ?_⟩
                  rcases Nat.lt_or_ge j k with h1 | h1
                  · exact HA.out j h1
                  · obtain rfl : j = k := by omega
                    rw [HST.out]; rfl
                case measure => simp [intOf]; omega
              · subst hY
                rw [show (Y == Y) = true by simp] at HST
                have HF := Lib.hid (HNK.out (by rw [HST.out]; rfl))
                go_wp2
                go_ret2
                exact HF.out _ B3.out
        · obtain rfl : k = p.length := by omega
          have hv := HY.out (fun j hj => HA.out j hj)
          have hva := areaV_yes hv
          have HAR := Lib.hid (fun W h => areaOf_any (some ⟨b, o, none⟩) p c W h hv)
          have HVV := Lib.hid (And.intro hv hva)
          clear hv hva hpb hB
          go_wp2_with fail
          refine (HAR.out _ ((HL.out.below HB.out (Nat.le_refl _)).more HB.out.size)).mono ?_
          rintro e w3 ⟨rfl, b3⟩
          have B3 := Lib.hid (below_then HB.out b3)
          clear b3
          go_wp2
          go_ret2
          unfold ArPost
          rw [HVV.out.1, HVV.out.2]
          exact ⟨rfl, B3.out⟩
end Go.Proofs.Ytgfgimpglaepaaa
