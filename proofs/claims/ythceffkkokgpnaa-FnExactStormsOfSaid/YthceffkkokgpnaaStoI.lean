/- The storm of a part: the program's stormOf, the model's l12Storm. -/
import Derived.Test.YthceffkkokgpnaaStoMath
import Derived.Test.YthceffkkokgpnaaPtFn
import Derived.Test.YthceffkkokgpnaaSBox
import Derived.Test.YthceffkkokgpnaaBox
import Derived.Test.YthceffkkokgpnaaDrew
import Derived.BigQuiet
import Derived.StillTailTactics
namespace Go.Proofs.Ythceffkkokgpnaa
open Go.RowKit
set_option linter.unusedVariables false
set_option linter.unusedSimpArgs false
theorem pkU_gt {l r : List Int} {k x y : Nat} (hk : k < r.length) (e1 : pkI l r (k - 1) = (x : Int)) (e2 : r[k] = (y : Int)) (hx : x < l.length) (hy : y < l.length) (hc : l[x] < l[y]) : pkI l r k = (y : Int) := by
  cases k with
  | zero =>
    have e3 : pkI l r 0 = r[0] := by show r.getD 0 0 = _; rw [List.getD_eq_getElem?_getD, List.getElem?_eq_getElem hk]; rfl
    rw [e3]; exact e2
  | succ k => exact pkI_gt hk e1 e2 hx hy hc
theorem pkU_le {l r : List Int} {k x y : Nat} (hk : k < r.length) (e1 : pkI l r (k - 1) = (x : Int)) (e2 : r[k] = (y : Int)) (hx : x < l.length) (hy : y < l.length) (hc : ¬ l[x] < l[y]) : pkI l r k = (x : Int) := by
  cases k with
  | zero => exact e1
  | succ k => exact pkI_le hk e1 e2 hx hy hc
theorem stO_is {wd : Int} {l r : List Int} {x : Nat} (e : pkI l r (r.length - 1) = (x : Int)) (hx : x < l.length) : stO wd l r = ((x : Int) % wd, (x : Int) / wd, (r.length : Int), l[x]) := by
  unfold stO
  rw [e, show ((x : Int)).toNat = x from rfl, List.getD_eq_getElem?_getD, List.getElem?_eq_getElem hx]
  rfl
set_option maxRecDepth 100000 in
set_option maxHeartbeats 8000000 in
theorem implSto_any (wd hg : Int) (a : Option Addr) (l : List Int) (c : Nat) (ar : Option Addr) (r : List Int) (cr : Nat) (w : World) (h1 : Ints .i64 w w.heap.size a l) (h2 : Ints .i64 w w.heap.size ar r) (hw : 1 ≤ wd ∧ wd ≤ 8) (hn : l.length ≤ 64) (hr0 : 0 < r.length) (hr : r.length ≤ 64) (hb : ∀ z ∈ r, 0 ≤ z ∧ z < (l.length : Int)) :
    Calls Try.prog 91 #[.agg #[.int .i64 wd, .int .i64 hg, .slice a l.length c], .slice ar r.length cr] w fun e w' => e = .returned (.agg #[.int .i64 (stO wd l r).1, .int .i64 (stO wd l r).2.1, .int .i64 (stO wd l r).2.2.1, .int .i64 (stO wd l r).2.2.2]) ∧ Below w.heap.size w w' := by
  obtain ⟨w1, hw1⟩ : ∃ q, (w.alloc (.cells #[.int .i64 wd, .int .i64 hg, .slice a l.length c] 54)).alloc (.cells #[.int .i64 0, .int .i64 0, .int .i64 0, .int .i64 0] 26) = q := ⟨_, rfl⟩
  have B1 := Lib.hid (show Below w.heap.size w w1 by rw [← hw1]; exact (below_all _ _).alloc (by simp) _)
  have k0 : w1.cell? ⟨w.heap.size, 0, none⟩ = some (.int .i64 wd) := by rw [← hw1]; simp [go_sem]
  have k2 : w1.cell? ⟨w.heap.size, 2, none⟩ = some (.slice a l.length c) := by rw [← hw1]; simp [go_sem]
  have q0 : SBox w1 (w.heap.size + 1) 26 0 0 0 0 := by rw [← hw1]; have h := SBox.new (w.alloc (.cells #[.int .i64 wd, .int .i64 hg, .slice a l.length c] 54)) 26 0 0 0 0; rw [World.size_alloc] at h; exact h
  have hs1 : w.heap.size + 1 < w1.heap.size := q0.lt
  have HK := Lib.hid (And.intro k0 k2)
  have HQ := Lib.hid q0
  have HS1 := Lib.hid (And.intro hs1 trivial)
  have HW := Lib.hid hw1
  have I1 := Lib.hid (h1.below B1.out (Nat.le_refl _))
  have I2 := Lib.hid (h2.below B1.out (Nat.le_refl _))
  have HB := Lib.hid hb
  have HMEM := Lib.hid (fun k (h : k < r.length) => hb _ (pkI_mem (l := l) k h))
  obtain ⟨br, or_, har, hbr, hcr⟩ := h2.at_ hr0
  have HR0 := Lib.hid (show pkI l r 0 = r[0] by show r.getD 0 0 = _; rw [List.getD_eq_getElem?_getD, List.getElem?_eq_getElem hr0]; rfl)
  subst har
  obtain ⟨z0, hz0⟩ : ∃ z, r[0] = z := ⟨_, rfl⟩
  rw [hz0] at hcr HR0
  simp only [Nat.add_zero] at hcr
  have hrl : (0 : Int) < (r.length : Int) := by omega
  have nb1 : ¬ br = w.heap.size := by omega
  have nb2 : ¬ br = w.heap.size + 1 := by omega
  have nb3 : br < w.heap.size + 1 := by omega
  clear hw1 k0 k2 q0 hs1 h1 h2 hb hz0
  go_enter Try.func91, Try.ntmps91
  go_wp2
  rw [HW.out]
  clear nb1 nb2 nb3 hcr
  go_loopw [5, 14] (fun q i wr => ∃ k : Nat, k ≤ r.length ∧ i = .int .i64 k ∧ q = .int .i64 (pkI l r (k - 1)) ∧ Drew w1 wr) (fun _ i _ => r.length - (intOf i).toNat)
  case atStart => exact ⟨0, Nat.zero_le _, rfl, by rw [← HR0.out], Drew.refl _⟩
  case round =>
    obtain ⟨k, hk, rfl, rfl, hd⟩ := hrel
    have HD := Lib.hid hd
    by_cases hlt : k < r.length
    · obtain ⟨b2, o2, e2, hb2, hc2⟩ := (I2.out.drew hd).at_ hlt
      injection e2 with e2
      injection e2 with e3 e4 e5
      subst e3
      subst e4
      clear e5
      have hi : (k : Int) < (r.length : Int) := by omega
      have hi0 : (0 : Int) ≤ (k : Int) := by omega
      have hx9 := HMEM.out (k - 1) (by omega)
      obtain ⟨x, hx⟩ : ∃ x : Nat, pkI l r (k - 1) = (x : Int) := ⟨(pkI l r (k - 1)).toNat, by omega⟩
      have hy9 := HB.out _ (List.getElem_mem hlt)
      obtain ⟨y, hy⟩ : ∃ y : Nat, r[k] = (y : Int) := ⟨(r[k]).toNat, by omega⟩
      have hxl : x < l.length := by omega
      have hyl : y < l.length := by omega
      have HGT := Lib.hid (fun hc => pkU_gt hlt hx hy hxl hyl hc)
      have HLE := Lib.hid (fun hc => pkU_le hlt hx hy hxl hyl hc)
      rw [hx]
      rw [hy] at hc2
      clear hx9 hy9 hx hy
      obtain ⟨ba, oa, rfl, hba, hcx⟩ := (I1.out.drew hd).at_ hxl
      obtain ⟨b4, o4, e4, hb4, hcy⟩ := (I1.out.drew hd).at_ hyl
      injection e4 with e4
      injection e4 with e5 e6 e7
      subst e5
      subst e6
      clear e7
      have g2 := (hd.cell ⟨w.heap.size, 2, none⟩).trans HK.out.2
      have hix : (x : Int) < (l.length : Int) := by omega
      have hix0 : (0 : Int) ≤ (x : Int) := by omega
      have hiy : (y : Int) < (l.length : Int) := by omega
      have hiy0 : (0 : Int) ≤ (y : Int) := by omega
      generalize l[x] = lx at *
      generalize l[y] = ly at *
      clear hd
      by_cases hc : lx < ly
      · have HE := Lib.hid (HGT.out hc)
        clear HGT HLE
        go_wp2_with fail
        go_quiet (fail)
        go_wp2
        go_roundw
        case rel => exact ⟨k + 1, by omega, by go_num, by rw [Nat.add_sub_cancel, HE.out], HD.out.more _⟩
        case measure => simp [intOf]; omega
      · have HE := Lib.hid (HLE.out hc)
        clear HGT HLE
        go_wp2_with fail
        go_quiet (fail)
        go_wp2
        go_roundw
        case rel => exact ⟨k + 1, by omega, by go_num, by rw [Nat.add_sub_cancel, HE.out], HD.out.more _⟩
        case measure => simp [intOf]; omega
    · obtain rfl : k = r.length := by omega
      have hx9 := HMEM.out (r.length - 1) (by omega)
      obtain ⟨x, hx⟩ : ∃ x : Nat, pkI l r (r.length - 1) = (x : Int) := ⟨(pkI l r (r.length - 1)).toNat, by omega⟩
      have hxl : x < l.length := by omega
      have HST := Lib.hid (stO_is (wd := wd) hx hxl)
      rw [hx]
      have HP := Lib.hid (fun W => pointAt_any wd (x : Int) W hw.1 hw.2 (by omega) (by omega))
      have B2 := Lib.hid (B1.out.trans (hd.below _))
      have g0 := (hd.cell ⟨w.heap.size, 0, none⟩).trans HK.out.1
      have g2 := (hd.cell ⟨w.heap.size, 2, none⟩).trans HK.out.2
      have Q2 := Lib.hid (HQ.out.below (hd.below _))
      obtain ⟨ba, oa, rfl, hba, hcx⟩ := (I1.out.drew hd).at_ hxl
      have hz : w.heap.size < wr.heap.size := by have := hd.size; have := HS1.out.1; omega
      have hix : (x : Int) < (l.length : Int) := by omega
      have hix0 : (0 : Int) ≤ (x : Int) := by omega
      clear hx9 hx hd
      generalize l[x] = lx at *
      generalize (x : Int) % wd = px at *
      generalize (x : Int) / wd = py at *
      have HF := Lib.hid (And.intro g2 hcx)
      have HZ := Lib.hid hz
      clear g2 hcx
      go_wp2_with fail
      refine (HP.out _).mono ?_
      rintro e w4 ⟨rfl, b4⟩
      have M4 := Lib.hid (b4.alloc b4.size (.cells #[.int .i64 px, .int .i64 py] 152))
      have p0 : (w4.alloc (.cells #[.int .i64 px, .int .i64 py] 152)).cell? ⟨w4.heap.size, 0, none⟩ = some (.int .i64 px) := by simp [go_sem]
      have p1 : (w4.alloc (.cells #[.int .i64 px, .int .i64 py] 152)).cell? ⟨w4.heap.size, 1, none⟩ = some (.int .i64 py) := by simp [go_sem]
      have g2 := (M4.out.cell (p := ⟨w.heap.size, 2, none⟩) HZ.out).trans HF.out.1
      have hcx := (M4.out.cell (p := ⟨ba, oa + x, none⟩) (by have := HZ.out; show ba < _; omega)).trans HF.out.2
      have Q4 := Lib.hid (Q2.out.below M4.out)
      have B4 := Lib.hid (below_then B2.out M4.out)
      clear b4 g0 HF
      go_wp2_with fail
      generalize hW4 : w4.alloc (.cells #[.int .i64 px, .int .i64 py] 152) = W4 at *
      clear hW4
      go_still_tail 12, (by kernel_rfl)
      change wpList _ _ _ _ _ W4.drew
      clear p0 p1 g2 hcx
      have Q5 := Lib.hid (Q4.out.below (Below.refl W4.heap.size W4).drew)
      have B5 := Lib.hid B4.out.drew
      generalize W4.drew = w5 at *
      obtain ⟨r0, r1, r2, r3⟩ := Q5.out.cells
      have f0 := Q5.out.frozen 0
      have f1 := Q5.out.frozen 1
      have f2 := Q5.out.frozen 2
      have f3 := Q5.out.frozen 3
      have Q6 := Lib.hid (Q5.out.set4 px py (r.length : Int) lx)
      have B6 := Lib.hid ((((B5.out.setCell (p := ⟨w.heap.size + 1, 0, none⟩) (by simp) (.int .i64 px)).setCell (p := ⟨w.heap.size + 1, 1, none⟩) (by simp) (.int .i64 py)).setCell (p := ⟨w.heap.size + 1, 2, none⟩) (by simp) (.int .i64 (r.length : Int))).setCell (p := ⟨w.heap.size + 1, 3, none⟩) (by simp) (.int .i64 lx))
      go_wp2
      clear r0 r1 r2 r3 f0 f1 f2 f3
      obtain ⟨r0, r1, r2, r3⟩ := Q6.out.cells
      refine bodyPost_ret (v := .agg #[.int .i64 px, .int .i64 py, .int .i64 (r.length : Int), .int .i64 lx]) (by simp [results, Try.results91, go_sem, r0, r1, r2, r3]) rfl ⟨by rw [HST.out], ?_⟩
      exact B6.out
end Go.Proofs.Ythceffkkokgpnaa
