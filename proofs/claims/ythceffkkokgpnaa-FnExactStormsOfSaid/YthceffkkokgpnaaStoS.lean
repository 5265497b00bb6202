/- The storm of a part: the model's l12Storm. -/
import Derived.Test.YthceffkkokgpnaaStoI
namespace Go.Proofs.Ythceffkkokgpnaa
open Go.RowKit
set_option linter.unusedVariables false
set_option linter.unusedSimpArgs false
set_option maxRecDepth 100000 in
set_option maxHeartbeats 8000000 in
theorem specSto_any (wd hg : Int) (a : Option Addr) (l : List Int) (c : Nat) (ar : Option Addr) (r : List Int) (cr : Nat) (w : World) (h1 : Ints .i64 w w.heap.size a l) (h2 : Ints .i64 w w.heap.size ar r) (hw : 1 ≤ wd ∧ wd ≤ 8) (hn : l.length ≤ 64) (hr0 : 0 < r.length) (hr : r.length ≤ 64) (hb : ∀ z ∈ r, 0 ≤ z ∧ z < (l.length : Int)) :
    Calls Try.prog 88 #[.agg #[.int .i64 wd, .int .i64 hg, .slice a l.length c], .slice ar r.length cr] w fun e w' => e = .returned (.agg #[.int .i64 (stO wd l r).1, .int .i64 (stO wd l r).2.1, .int .i64 (stO wd l r).2.2.1, .int .i64 (stO wd l r).2.2.2]) ∧ Below w.heap.size w w' := by
  obtain ⟨w1, hw1⟩ : ∃ q, (w.alloc (.cells #[.int .i64 wd, .int .i64 hg, .slice a l.length c] 54)).alloc (.cells #[.int .i64 0, .int .i64 0, .int .i64 0, .int .i64 0] 26) = q := ⟨_, rfl⟩
  have B1 := Lib.hid (show Below w.heap.size w w1 by rw [← hw1]; exact (below_all _ _).alloc (by simp) _)
  have k0 : w1.cell? ⟨w.heap.size, 0, none⟩ = some (.int .i64 wd) := by rw [← hw1]; simp [go_sem]
  have k2 : w1.cell? ⟨w.heap.size, 2, none⟩ = some (.slice a l.length c) := by rw [← hw1]; simp [go_sem]
  have q0 : SBox w1 (w.heap.size + 1) 26 0 0 0 0 := by rw [← hw1]; have h := SBox.new (w.alloc (.cells #[.int .i64 wd, .int .i64 hg, .slice a l.length c] 54)) 26 0 0 0 0; rw [World.size_alloc] at h; exact h
  have hs1 : w.heap.size + 1 < w1.heap.size := q0.lt
  have HK := Lib.hid (And.intro k0 k2)
  have HQ := Lib.hid q0
  have HS1 := Lib.hid (And.intro hs1 trivial)
  have HW := Lib.hid hw1
  have I1 := Lib.hid (h1.below B1.out (Nat.le_refl _))
  have I2 := Lib.hid (h2.below B1.out (Nat.le_refl _))
  have HB := Lib.hid hb
  have HMEM := Lib.hid (fun k (h : k < r.length) => hb _ (pkI_mem (l := l) k h))
  obtain ⟨br, or_, har, hbr, hcr⟩ := h2.at_ hr0
  have HR0 := Lib.hid (show pkI l r 0 = r[0] by show r.getD 0 0 = _; rw [List.getD_eq_getElem?_getD, List.getElem?_eq_getElem hr0]; rfl)
  subst har
  obtain ⟨z0, hz0⟩ : ∃ z, r[0] = z := ⟨_, rfl⟩
  rw [hz0] at hcr HR0
  simp only [Nat.add_zero] at hcr
  have hrl : (0 : Int) < (r.length : Int) := by omega
  have nb1 : ¬ br = w.heap.size := by omega
  have nb2 : ¬ br = w.heap.size + 1 := by omega
  have nb3 : br < w.heap.size + 1 := by omega
  clear hw1 k0 k2 q0 hs1 h1 h2 hb hz0
  go_enter Try.func88, Try.ntmps88
  go_wp2
  rw [HW.out]
  clear nb1 nb2 nb3 hcr
  go_loopw [5, 6] (fun q i wr => ∃ k : Nat, k ≤ r.length ∧ 1 ≤ k ∧ i = .int .i64 k ∧ q = .int .i64 (pkI l r (k - 1)) ∧ Drew w1 wr) (fun _ i _ => r.length - (intOf i).toNat)
  case atStart => exact ⟨1, by omega, Nat.le_refl _, rfl, by rw [← HR0.out], Drew.refl _⟩
  case round =>
    obtain ⟨k, hk, hk1, rfl, rfl, hd⟩ := hrel
    have HD := Lib.hid hd
    by_cases hlt : k < r.length
    · obtain ⟨b2, o2, e2, hb2, hc2⟩ := (I2.out.drew hd).at_ hlt
      injection e2 with e2
      injection e2 with e3 e4 e5
      subst e3
      subst e4
      clear e5
      have hi : (k : Int) < (r.length : Int) := by omega
      have hi0 : (0 : Int) ≤ (k : Int) := by omega
      have hx9 := HMEM.out (k - 1) (by omega)
      obtain ⟨x, hx⟩ : ∃ x : Nat, pkI l r (k - 1) = (x : Int) := ⟨(pkI l r (k - 1)).toNat, by omega⟩
      have hy9 := HB.out _ (List.getElem_mem hlt)
      obtain ⟨y, hy⟩ : ∃ y : Nat, r[k] = (y : Int) := ⟨(r[k]).toNat, by omega⟩
      have hxl : x < l.length := by omega
      have hyl : y < l.length := by omega
      have HGT := Lib.hid (fun hc => pkU_gt hlt hx hy hxl hyl hc)
      have HLE := Lib.hid (fun hc => pkU_le hlt hx hy hxl hyl hc)
      rw [hx]
      rw [hy] at hc2
      clear hx9 hy9 hx hy
      obtain ⟨ba, oa, rfl, hba, hcx⟩ := (I1.out.drew hd).at_ hxl
      obtain ⟨b4, o4, e4, hb4, hcy⟩ := (I1.out.drew hd).at_ hyl
      injection e4 with e4
      injection e4 with e5 e6 e7
      subst e5
      subst e6
      clear e7
      have g2 := (hd.cell ⟨w.heap.size, 2, none⟩).trans HK.out.2
      have hix : (x : Int) < (l.length : Int) := by omega
      have hix0 : (0 : Int) ≤ (x : Int) := by omega
      have hiy : (y : Int) < (l.length : Int) := by omega
      have hiy0 : (0 : Int) ≤ (y : Int) := by omega
      generalize l[x] = lx at *
      generalize l[y] = ly at *
      clear hd
      by_cases hc : lx < ly
      · have HE := Lib.hid (HGT.out hc)
        clear HGT HLE
        go_wp2_with fail
        go_quiet (fail)
        go_wp2
        go_roundw
        case rel => exact ⟨k + 1, by omega, by omega, by go_num, by rw [Nat.add_sub_cancel, HE.out], HD.out.more _⟩
        case measure => simp [intOf]; omega
      · have HE := Lib.hid (HLE.out hc)
        clear HGT HLE
        go_wp2_with fail
        go_quiet (fail)
        go_wp2
        go_roundw
        case rel => exact ⟨k + 1, by omega, by omega, by go_num, by rw [Nat.add_sub_cancel, HE.out], HD.out.more _⟩
        case measure => simp [intOf]; omega
    · obtain rfl : k = r.length := by omega
      have hx9 := HMEM.out (r.length - 1) (by omega)
      obtain ⟨x, hx⟩ : ∃ x : Nat, pkI l r (r.length - 1) = (x : Int) := ⟨(pkI l r (r.length - 1)).toNat, by omega⟩
      have hxl : x < l.length := by omega
      have HST := Lib.hid (stO_is (wd := wd) hx hxl)
      rw [hx]
      have B2 := Lib.hid (B1.out.trans (hd.below _))
      have g0 := (hd.cell ⟨w.heap.size, 0, none⟩).trans HK.out.1
      have g2 := (hd.cell ⟨w.heap.size, 2, none⟩).trans HK.out.2
      have Q2 := Lib.hid (HQ.out.below (hd.below _))
      obtain ⟨ba, oa, rfl, hba, hcx⟩ := (I1.out.drew hd).at_ hxl
      have hix : (x : Int) < (l.length : Int) := by omega
      have hix0 : (0 : Int) ≤ (x : Int) := by omega
      have hne : ¬ wd = 0 := by omega
      have hdv := Int.ediv_le_self (a := (x : Int)) wd (by omega)
      have hdv0 := Int.ediv_nonneg (a := (x : Int)) (b := wd) (by omega) (by omega)
      have et : ((x : Int)).tmod wd = (x : Int) % wd := Int.tmod_eq_emod_of_nonneg (by omega)
      have eq : ((x : Int)).tdiv wd = (x : Int) / wd := Int.tdiv_eq_ediv_of_nonneg (by omega)
      have ew : IntKind.i64.wrap ((x : Int) / wd) = (x : Int) / wd := IntWalk.i64_in _ (by omega)
      have em0 := Int.emod_nonneg (x : Int) hne
      have em1 := Int.emod_lt_of_pos (x : Int) (show 0 < wd by omega)
      have ew2 : IntKind.i64.wrap ((x : Int) % wd) = (x : Int) % wd := IntWalk.i64_in _ (by omega)
      clear hx9 hx hd hdv hdv0 em0 em1
      generalize l[x] = lx at *
      go_wp2_with fail
      go_still_tail 16, (by kernel_rfl)
      change wpList _ _ _ _ _ wr.drew
      clear g0 g2 hcx
      generalize (x : Int) % wd = px at *
      generalize (x : Int) / wd = py at *
      have Q5 := Lib.hid (Q2.out.below (Below.refl wr.heap.size wr).drew)
      have B5 := Lib.hid B2.out.drew
      generalize wr.drew = w5 at *
      obtain ⟨r0, r1, r2, r3⟩ := Q5.out.cells
      have f0 := Q5.out.frozen 0
      have f1 := Q5.out.frozen 1
      have f2 := Q5.out.frozen 2
      have f3 := Q5.out.frozen 3
      have Q6 := Lib.hid (Q5.out.set4 px py (r.length : Int) lx)
      have B6 := Lib.hid ((((B5.out.setCell (p := ⟨w.heap.size + 1, 0, none⟩) (by simp) (.int .i64 px)).setCell (p := ⟨w.heap.size + 1, 1, none⟩) (by simp) (.int .i64 py)).setCell (p := ⟨w.heap.size + 1, 2, none⟩) (by simp) (.int .i64 (r.length : Int))).setCell (p := ⟨w.heap.size + 1, 3, none⟩) (by simp) (.int .i64 lx))
      go_wp2
      clear r0 r1 r2 r3 f0 f1 f2 f3
      obtain ⟨r0, r1, r2, r3⟩ := Q6.out.cells
      refine bodyPost_ret (v := .agg #[.int .i64 px, .int .i64 py, .int .i64 (r.length : Int), .int .i64 lx]) (by simp [results, Try.results88, go_sem, r0, r1, r2, r3]) rfl ⟨by rw [HST.out], ?_⟩
      exact B6.out
end Go.Proofs.Ythceffkkokgpnaa
