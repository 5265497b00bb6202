/- The model's l7Split. -/
import Derived.Test.YtccplndimdmjpaaDoorSpMath
import Derived.Test.YtccplndimdmjpaaDoorRgDiv
import Derived.Test.YtccplndimdmjpaaDoorMake
import Derived.Test.YtccplndimdmjpaaDoorTotMath
import Derived.Maps.AppendAt
import Derived.Deep.QuietTactic
import Derived.BigQuiet
import Derived.IntWalk
namespace Go.Proofs.YtccplndimdmjpaaDoor
open Go.RowKit
set_option linter.unusedVariables false
set_option linter.unusedSimpArgs false
/-- two rows of numbers that grow, each in its own block -/
structure Ss (w : World) (P R : List Int) (ov rv : Value) (wr : World) : Prop where
  p : wr.ownsRow w.heap.size 3 1 ov P.length (iv P)
  r : wr.ownsRow w.heap.size 3 1 rv R.length (iv R)
  ne : ov.ownBlock ≠ rv.ownBlock
  b : Below w.heap.size w wr
section
variable {w w1 w2 : World} {P R : List Int} {ov rv v' : Value} {o : Obj} {z : Int}
theorem Ss.putP (h : Ss w P R ov rv w1) (ho : w2.ownsRow w.heap.size 3 1 v' (P.length + 1) (iv P ++ [.int .i64 z])) (hg : (w1.alloc o).grownBy w2 ov.ownBlock) (hat : v'.ownBlock = ov.ownBlock ∨ v'.ownBlock = some (w1.alloc o).heap.size) : Ss w (P ++ [z]) R v' rv w2 := by
  refine ⟨by rw [iv_snoc, List.length_append]; exact ho, (h.r.alloc o).kept hg (.inr (Ne.symm h.ne)), ?_, (h.b.alloc h.b.size o).grown hg (by have := h.b.size; rw [World.size_alloc]; omega) (fun j hj => (h.p.lt j hj).1)⟩
  rcases hat with e | e
  · rw [e]; exact h.ne
  · rw [e]
    intro e2
    have := ((h.r.alloc o).lt _ e2.symm).2
    omega
theorem Ss.putR (h : Ss w P R ov rv w1) (ho : w2.ownsRow w.heap.size 3 1 v' (R.length + 1) (iv R ++ [.int .i64 z])) (hg : (w1.alloc o).grownBy w2 rv.ownBlock) (hat : v'.ownBlock = rv.ownBlock ∨ v'.ownBlock = some (w1.alloc o).heap.size) : Ss w P (R ++ [z]) ov v' w2 := by
  refine ⟨(h.p.alloc o).kept hg (.inr h.ne), by rw [iv_snoc, List.length_append]; exact ho, ?_, (h.b.alloc h.b.size o).grown hg (by have := h.b.size; rw [World.size_alloc]; omega) (fun j hj => (h.r.lt j hj).1)⟩
  rcases hat with e | e
  · rw [e]; exact h.ne
  · rw [e]
    intro e2
    have := ((h.p.alloc o).lt _ e2).2
    omega
end
/-- .. and when they have their length -/
structure St (w : World) (g1 g2 : Nat) (P R : List Int) (wr : World) : Prop where
  p : Row wr g1 3 (iv P)
  r : Row wr g2 3 (iv R)
  b : Below w.heap.size w wr
  m1 : w.heap.size ≤ g1
  m2 : w.heap.size ≤ g2
  ne : g1 ≠ g2
section
variable {w w1 w2 : World} {g1 g2 : Nat} {P R : List Int}
theorem St.drew (h : St w g1 g2 P R w1) (d : Drew w1 w2) : St w g1 g2 P R w2 := ⟨h.p.drew d, h.r.drew d, below_then h.b (d.below _), h.m1, h.m2, h.ne⟩
theorem St.putP (h : St w g1 g2 P R w1) (j : Nat) (z : Int) : St w g1 g2 (P.set j z) R (w1.setCell ⟨g1, j, none⟩ (.int .i64 z)) :=
  ⟨by have := h.p.set j (.int .i64 z); rw [iv_set] at this; exact this, h.r.other (show g2 ≠ g1 from Ne.symm h.ne) _, h.b.setCell h.m1 _, h.m1, h.m2, h.ne⟩
theorem St.putR (h : St w g1 g2 P R w1) (j : Nat) (z : Int) : St w g1 g2 P (R.set j z) (w1.setCell ⟨g2, j, none⟩ (.int .i64 z)) :=
  ⟨h.p.other (show g1 ≠ g2 from h.ne) _, by have := h.r.set j (.int .i64 z); rw [iv_set] at this; exact this, h.b.setCell h.m2 _, h.m1, h.m2, h.ne⟩
theorem St.getP (h : St w g1 g2 P R w1) {j : Nat} (hj : j < P.length) : w1.cell? ⟨g1, j, none⟩ = some (.int .i64 P[j]) := by
  rw [h.p.cell (k := j) (by rw [iv_length]; exact hj), iv_get]
theorem St.getR (h : St w g1 g2 P R w1) {j : Nat} (hj : j < R.length) : w1.cell? ⟨g2, j, none⟩ = some (.int .i64 R[j]) := by
  rw [h.r.cell (k := j) (by rw [iv_length]; exact hj), iv_get]
end
theorem quot_bd' {p S : Int} (hS : 0 < S) (h1 : -576000 ≤ p) (h2 : p ≤ 576000) : (-576000 ≤ p / S ∧ p / S ≤ 576000) ∧ 0 ≤ p - p / S * S ∧ p - p / S * S < S := by
  have e1 := Int.emod_add_mul_ediv p S
  have e2 := Int.emod_nonneg p (by omega : S ≠ 0)
  have e3 := Int.emod_lt_of_pos p hS
  rw [Int.mul_comm] at e1
  refine ⟨⟨Int.le_ediv_of_mul_le hS (by omega), ?_⟩, by omega, by omega⟩
  have := Int.ediv_lt_of_lt_mul hS (show p < 576001 * S by omega)
  omega
theorem prod_wt' {v x : Int} (v1 : -9000 ≤ v) (v2 : v ≤ 9000) (h0 : 0 ≤ x) (h1 : x ≤ 64) : -576000 ≤ v * x ∧ v * x ≤ 576000 := by
  have a1 := Int.mul_le_mul_of_nonneg_right v2 h0
  have a2 := Int.mul_le_mul_of_nonneg_right v1 h0
  omega
theorem partsD_bd' {v S : Int} {ws : List Int} (v1 : -9000 ≤ v) (v2 : v ≤ 9000) (hS : 0 < S) (h : ∀ x ∈ ws, 0 ≤ x ∧ x ≤ 64) : ∀ z ∈ partsD v S ws, -576000 ≤ z ∧ z ≤ 576000 := fun z hz => by
  obtain ⟨x, hx, rfl⟩ := List.mem_map.1 hz
  have := prod_wt' v1 v2 (h x hx).1 (h x hx).2
  exact (quot_bd' hS this.1 this.2).1
theorem tot_part_bd' {l : List Int} {k : Nat} (h : ∀ z ∈ l, -576000 ≤ z ∧ z ≤ 576000) (hk : k ≤ 64) : -36864000 ≤ tot (l.take k) ∧ tot (l.take k) ≤ 36864000 := by
  have h1 := tot_ge (l := l.take k) (m := -576000) (fun z hz => (h z (List.mem_of_mem_take hz)).1)
  have h2 := tot_le (l := l.take k) (m := 576000) (fun z hz => (h z (List.mem_of_mem_take hz)).2)
  rw [List.length_take] at h1 h2
  omega
theorem wt_tot {l : List Int} (h : ∀ z ∈ l, 0 ≤ z ∧ z ≤ 64) (k : Nat) (hk : k ≤ 64) : 0 ≤ tot (l.take k) ∧ tot (l.take k) ≤ 4096 := by
  have h1 := tot_ge (l := l.take k) (m := 0) (fun z hz => (h z (List.mem_of_mem_take hz)).1)
  have h2 := tot_le (l := l.take k) (m := 64) (fun z hz => (h z (List.mem_of_mem_take hz)).2)
  rw [List.length_take] at h1 h2
  omega
theorem partsD_get' (v S : Int) (ws : List Int) (k : Nat) (h : k < (partsD v S ws).length) (h2 : k < ws.length) : (partsD v S ws)[k] = v * ws[k] / S := by simp [partsD]
theorem restsD_get' (v S : Int) (ws : List Int) (k : Nat) (h : k < (restsD v S ws).length) (h2 : k < ws.length) : (restsD v S ws)[k] = v * ws[k] - v * ws[k] / S * S := by simp [restsD]
theorem bestN_next {R : List Int} {k : Nat} (hk : k < R.length) (h : bestN R k < R.length) : bestN R (k + 1) = if R[bestN R k] < R[k] then k else bestN R k := by
  conv => lhs; unfold bestN
  rw [gd_at hk, gd_at h]
set_option maxRecDepth 100000 in
set_option maxHeartbeats 8000000 in
theorem l7Split_any (v : Int) (a : Option Addr) (ws : List Int) (c B : Nat) (w : World) (hl : Ints .i64 w B a ws) (hB : B ≤ w.heap.size) (h : spB v ws = true) :
    Calls Tryd.prog 31 #[.int .i64 v, .slice a ws.length c] w (IntsPost (splitD v (tot ws) ws) w) := by
  obtain ⟨⟨v1, v2⟩, ⟨n1, n2⟩, hws, hS⟩ := spB_iff.1 h
  obtain ⟨i0, hi0', hz0, hz1, hz2⟩ := info_parts infoInt
  have HL := Lib.hid hl
  have hS64 : tot ws ≤ 4096 := by have := wt_tot hws ws.length (by omega); rw [List.take_length] at this; omega
  obtain ⟨S, hSe⟩ : ∃ S, tot ws = S := ⟨_, rfl⟩
  have HSE := Lib.hid hSe
  rw [hSe] at hS hS64 ⊢
  obtain ⟨lf1, lf2⟩ := left_bd (v := v) hS hSe
  have hcnt := cntP_le (restsD v S ws)
  rw [show (restsD v S ws).length = ws.length by simp [restsD]] at hcnt
  have HW := Lib.hid hws
  clear hl h hSe hws
  go_enter Tryd.func31, Tryd.ntmps31
  go_wp2
  go_loop [5, 6] (fun s i => ∃ k : Nat, k ≤ ws.length ∧ i = .int .i64 k ∧ s = .int .i64 (tot (ws.take k))) (fun _ i => ws.length - (intOf i).toNat)
  case atStart => exact ⟨0, Nat.zero_le _, rfl, rfl⟩
  case round =>
    obtain ⟨k, hk, rfl, rfl⟩ := hrel
    have hbd := wt_tot HW.out k (by omega)
    by_cases hlt : k < ws.length
    · obtain ⟨b, o, rfl, hb, hc⟩ := HL.out.at_ hlt
      have hi : (k : Int) < (ws.length : Int) := by omega
      have hi0 : (0 : Int) ≤ (k : Int) := by omega
      have hx := HW.out _ (List.getElem_mem hlt)
      have HT := Lib.hid (show tot (ws.take (k + 1)) = tot (ws.take k) + ws[k] by rw [snoc_takeI ws k hlt, tot_snocI])
      generalize ws[k] = x at *
      generalize tot (ws.take k) = t at *
      go_wp2
      go_round
      case rel => exact ⟨k + 1, by omega, by go_num, by rw [HT.out]⟩
      case measure => simp [intOf]; omega
    · obtain rfl : k = ws.length := by omega
      have HTA := Lib.hid (show tot (ws.take ws.length) = S by rw [List.take_length]; exact HSE.out)
      rw [HTA.out]
      clear hbd
      go_wp2
      go_loopw [7, 8, 9, 10] (fun ov rv le i wr => ∃ k : Nat, k ≤ ws.length ∧ i = .int .i64 k ∧ le = .int .i64 (v - tot ((partsD v S ws).take k)) ∧ Ss w ((partsD v S ws).take k) ((restsD v S ws).take k) ov rv wr) (fun _ _ _ i _ => ws.length - (intOf i).toNat)
      case atStart =>
        refine ⟨0, Nat.zero_le _, rfl, by simp [tot], ?_, ?_, ?_, ?_⟩
        · exact (World.ownsRow_made (base := w.heap.size) (e := 3) (size := 1) w #[] 0 (Nat.le_refl _) (by simp) rfl).alloc _
        · have h9 := World.ownsRow_made (base := w.heap.size) (e := 3) (size := 1) (w.alloc (.cells #[] 3)) #[] 0 (by simp) (by simp) rfl
          rw [World.size_alloc] at h9
          exact h9
        · simp [Value.ownBlock]
        · exact (below_all _ _).alloc (by simp) _
      case round =>
        clear HTA
        obtain ⟨k, hk9, rfl, rfl, hSs⟩ := hrel
        have HSs := Lib.hid hSs
        have htb := tot_part_bd' (k := k) (partsD_bd' v1 v2 hS HW.out) (by omega)
        have hPl : (partsD v S ws).length = ws.length := by simp [partsD]
        have hRl : (restsD v S ws).length = ws.length := by simp [restsD]
        by_cases hlt : k < ws.length
        · obtain ⟨bl, ol, rfl, hbl, hcl⟩ := (HL.out.below hSs.b hB).at_ hlt
          have hi : (k : Int) < (ws.length : Int) := by omega
          have hi0 : (0 : Int) ≤ (k : Int) := by omega
          have hkP : k < (partsD v S ws).length := by omega
          have hkR : k < (restsD v S ws).length := by omega
          have hx := HW.out _ (List.getElem_mem hlt)
          have hpx := prod_wt' v1 v2 hx.1 hx.2
          have hqx := quot_bd' hS hpx.1 hpx.2
          have ePk := partsD_get' v S ws k hkP hlt
          have eRk := restsD_get' v S ws k hkR hlt
          have HPT := Lib.hid (snoc_takeI _ k hkP)
          have HRT := Lib.hid (snoc_takeI _ k hkR)
          have hpl : ((partsD v S ws).take k).length ≤ 64 := by rw [List.length_take]; omega
          have hrl : ((restsD v S ws).take k).length ≤ 64 := by rw [List.length_take]; omega
          rw [ePk] at HPT
          rw [eRk] at HRT
          have HTT := Lib.hid (show tot ((partsD v S ws).take (k + 1)) = tot ((partsD v S ws).take k) + v * ws[k] / S by rw [HPT.out, tot_snocI])
          generalize ws[k] = x at *
          obtain ⟨p, hp⟩ : ∃ p, v * x = p := ⟨_, rfl⟩
          rw [hp] at hpx hqx HPT HRT HTT
          have HQ := Lib.hid (fun W => floorW_is p S W (by omega) (by omega) (by omega) (by omega))
          generalize p / S = q at *
          obtain ⟨m, hm⟩ : ∃ m, q * S = m := ⟨_, rfl⟩
          rw [hm] at hqx HRT
          obtain ⟨⟨h1, h2⟩, h3, h4⟩ := hqx
          obtain ⟨r, hr⟩ : ∃ r, p - m = r := ⟨_, rfl⟩
          rw [hr] at h3 h4 HRT
          have hm1 : -600000 ≤ m := by omega
          have hm2 : m ≤ 600000 := by omega
          obtain ⟨hp1, hp2⟩ := hpx
          have HCL := Lib.hid (show w.cell? ⟨bl, ol + k, none⟩ = some (.int .i64 x) from (hSs.b.cell (p := ⟨bl, ol + k, none⟩) (by show bl < w.heap.size; omega)).symm.trans hcl)
          clear hSs hx ePk eRk hkP hkR hPl hRl
          generalize tot ((partsD v S ws).take k) = tk at *
          generalize (partsD v S ws).take k = P at *
          generalize (restsD v S ws).take k = R at *
          have hzw : w.heap.size ≤ wr.heap.size := HSs.out.b.size
          go_wp2_with (first
            | (go_at_call 54; (with_reducible refine (HQ.out _).mono ?_); rintro e w9 ⟨rfl, rfl⟩)
            | (at_builtin; refine wpList_append_own_at _ rfl _ _ 22 rfl w.heap.size 3 i0 (.int .i64 0) 1 8 Tryd.underlying22 hi0' hz0 hz1 hz2 rfl (by decide) u7 P.length (iv P) rfl (HSs.out.p.alloc _) ⟨wr.heap.size, 0, none⟩ 1 1 [.int .i64 q] rfl rfl (cell_one_new _ _ _) (by simp [Value.oneCell']) (by unfold maxLen; omega) (by omega) (by rw [World.size_alloc]; omega) ?_; intro v5 w5 hown' hgrow _ hat; have HS5 := Lib.hid (HSs.out.putP hown' hgrow hat); have hz5 : w.heap.size ≤ w5.heap.size := HS5.out.b.size; have hc5 : w5.cell? ⟨bl, ol + k, none⟩ = some (.int .i64 x) := ((HSs.out.b.alloc hzw _).grown hgrow (by rw [World.size_alloc]; omega) (fun j hj => (HSs.out.p.lt j hj).1)).cell (p := ⟨bl, ol + k, none⟩) (by show bl < w.heap.size; omega) |>.trans HCL.out; clear hown' hgrow hat)
            | (at_builtin; refine wpList_append_own_at _ rfl _ _ 22 rfl w.heap.size 3 i0 (.int .i64 0) 1 8 Tryd.underlying22 hi0' hz0 hz1 hz2 rfl (by decide) u8 R.length (iv R) rfl (HS5.out.r.alloc _) ⟨w5.heap.size, 0, none⟩ 1 1 [.int .i64 r] rfl rfl (cell_one_new _ _ _) (by simp [Value.oneCell']) (by unfold maxLen; omega) (by omega) (by rw [World.size_alloc]; omega) ?_; intro v6 w6 hown' hgrow _ hat; have HS6 := Lib.hid (HS5.out.putR hown' hgrow hat); clear hown' hgrow hat))
          go_roundw
          case rel => exact ⟨k + 1, by omega, by go_num, by rw [HTT.out]; congr 1; omega, by rw [HPT.out, HRT.out]; exact HS6.out⟩
          case measure => simp [intOf]; omega
        · obtain rfl : k = ws.length := by omega
          obtain ⟨lf, hlf⟩ : ∃ lf : Nat, leftD v S ws = (lf : Int) := ⟨(leftD v S ws).toNat, by omega⟩
          have hLE := Lib.hid (show v - tot ((partsD v S ws).take ws.length) = (lf : Int) by rw [← hlf, ← hPl, List.take_length]; rfl)
          have HSPL := Lib.hid (show splitD v S ws = (addsD (partsD v S ws) (restsD v S ws) lf).1 by unfold splitD; rw [hlf]; rfl)
          have HR0 := Lib.hid (fun z (hz : z ∈ restsD v S ws) => (restsD_bd hS ws z hz).1)
          have hPB := Lib.hid (partsD_bd' v1 v2 hS HW.out)
          have hS2 : Ss w (partsD v S ws) (restsD v S ws) u7 u8 wr := by
            have h9 := hSs
            rw [show (partsD v S ws).take ws.length = partsD v S ws by rw [← hPl, List.take_length], show (restsD v S ws).take ws.length = restsD v S ws by rw [← hRl, List.take_length]] at h9
            exact h9
          have hlfc : lf ≤ cntP (restsD v S ws) := by omega
          rw [hLE.out]
          have HPL := Lib.hid hPl
          have HRL := Lib.hid hRl
          clear hSs HSs htb hlf lf1 lf2
          generalize partsD v S ws = P0 at *
          generalize restsD v S ws = R0 at *
          obtain ⟨p1, g1, e1, m1, r1, hc1⟩ := Row.of_own hS2.p (by omega)
          obtain ⟨p2, g2, e2, m2, r2, hc2⟩ := Row.of_own hS2.r (by omega)
          have hne := hS2.ne
          have hS2b := hS2.b
          rw [hPl] at e1
          rw [hRl] at e2
          subst e1 e2
          have hne2 : g1 ≠ g2 := fun e => hne (by rw [e]; rfl)
          have HST := Lib.hid (show St w g1 g2 P0 R0 wr from ⟨r1, r2, hS2b, m1, m2, hne2⟩)
          have q1 : ¬ g1 = g2 := hne2
          have q2 : ¬ g2 = g1 := Ne.symm hne2
          clear hS2 r1 r2 hne hS2b hPl hRl hc1 hc2
          have hlf64 : lf ≤ 64 := by omega
          go_wp2
          go_loopw [9] (fun le wr => ∃ j : Nat, j ≤ lf ∧ le = .int .i64 ((lf : Int) - (j : Int)) ∧ St w g1 g2 (addsD P0 R0 j).1 (addsD P0 R0 j).2 wr) (fun le _ => (intOf le).toNat)
          case atStart => exact ⟨0, Nat.zero_le _, by simp, HST.out⟩
          case round =>
            clear HST
            obtain ⟨j, hj, rfl, hSt⟩ := hrel
            obtain ⟨l1, l2⟩ := addsD_len P0 R0 j
            have HSt := Lib.hid hSt
            by_cases hlt9 : j < lf
            · obtain ⟨hb1, hb2⟩ := adds_pos (P := P0) HR0.out (k := j) (by omega)
              have hbd := adds_bd (P := P0) (R := R0) hPB.out j
              have HNX := Lib.hid (show addsD P0 R0 (j + 1) = ((addsD P0 R0 j).1.set (bestN (addsD P0 R0 j).2 (addsD P0 R0 j).2.length) ((addsD P0 R0 j).1.getD (bestN (addsD P0 R0 j).2 (addsD P0 R0 j).2.length) 0 + 1), (addsD P0 R0 j).2.set (bestN (addsD P0 R0 j).2 (addsD P0 R0 j).2.length) (-1)) from rfl)
              generalize addsD P0 R0 j = s at *
              have hs1 : s.1.length = ws.length := by have := HPL.out; omega
              have hs2 : s.2.length = ws.length := by have := HRL.out; omega
              rw [hs2] at hb1 HNX
              have hb1' : bestN s.2 ws.length < ws.length := bestN_lt _ _ (by omega)
              have hpos : (0 : Int) < (lf : Int) - (j : Int) := by omega
              have HS1 := Lib.hid hs1
              have HS2 := Lib.hid hs2
              clear hs1 hs2 hb2 l1 l2 hSt
              go_wp2
              go_loopw [12, 13] (fun be i wx => ∃ k : Nat, 1 ≤ k ∧ k ≤ ws.length ∧ i = .int .i64 k ∧ be = .int .i64 (bestN s.2 k) ∧ Drew wr wx) (fun _ i _ => ws.length - (intOf i).toNat)
              case atStart => exact ⟨1, Nat.le_refl _, n1, rfl, by rw [bestN_one]; rfl, Drew.refl _⟩
              case round =>
                obtain ⟨k, k1, k2, rfl, rfl, hw⟩ := hrel
                have hSx := HSt.out.drew hw
                have HW9 := Lib.hid hw
                clear hw
                by_cases hlk : k < ws.length
                · have hkI : (k : Int) < (ws.length : Int) := by omega
                  have hk0 : (0 : Int) ≤ (k : Int) := by omega
                  have hbk := bestN_lt s.2 k (by omega)
                  have hs2 := HS2.out
                  have ck := hSx.getR (j := k) (by omega)
                  have cb := hSx.getR (j := bestN s.2 k) (by omega)
                  have HN := Lib.hid (bestN_next (R := s.2) (k := k) (by omega) (by omega))
                  have hbI : ((bestN s.2 k : Nat) : Int) < (ws.length : Int) := by omega
                  have hb0 : (0 : Int) ≤ ((bestN s.2 k : Nat) : Int) := by omega
                  clear hSx
                  generalize hzk : s.2[k]'(by omega) = zk at *
                  generalize hzb : s.2[bestN s.2 k]'(by omega) = zb at *
                  clear hzk hzb hs2
                  generalize bestN s.2 k = be at *
                  by_cases hcmp : zb < zk
                  · rw [if_pos hcmp] at HN
                    go_wp2_with fail
                    go_quiet (fail)
                    go_wp2
                    go_roundw
                    case rel => exact ⟨k + 1, by omega, by omega, by go_num, by rw [HN.out], HW9.out.more _⟩
                    case measure => simp [intOf]; omega
                  · rw [if_neg hcmp] at HN
                    go_wp2_with fail
                    go_quiet (fail)
                    go_wp2
                    go_roundw
                    case rel => exact ⟨k + 1, by omega, by omega, by go_num, by rw [HN.out], HW9.out.more _⟩
                    case measure => simp [intOf]; omega
                · obtain rfl : k = ws.length := by omega
                  obtain ⟨b, hbe⟩ : ∃ b, bestN s.2 ws.length = b := ⟨_, rfl⟩
                  have hs1 := HS1.out
                  have hs2 := HS2.out
                  rw [hbe] at hb1' HNX ⊢
                  rw [gd_at (by omega)] at HNX
                  have hz := hbd _ (List.getElem_mem (show b < s.1.length by omega))
                  have cp := hSx.getP (j := b) (by omega)
                  obtain ⟨zo, cr⟩ : ∃ zo, wr.cell? ⟨g2, b, none⟩ = some (.int .i64 zo) := ⟨_, hSx.getR (j := b) (by omega)⟩
                  have f1 := hSx.p.frozen b
                  have f2 := hSx.r.frozen b
                  have hbI : (b : Int) < (ws.length : Int) := by omega
                  have hb0 : (0 : Int) ≤ (b : Int) := by omega
                  generalize s.1[b]'(by omega) = z at *
                  have HPUT := Lib.hid ((hSx.putP b (z + 1)).putR b (-1))
                  obtain ⟨z1, z2⟩ := hz
                  clear hSx hs1 hs2 hbe
                  go_wp2
                  go_roundw
                  case rel => exact ⟨j + 1, by omega, by push_cast; congr 1; omega, by rw [HNX.out]; exact HPUT.out⟩
                  case measure => simp [intOf]; omega
            · obtain rfl : j = lf := by omega
              have e0 : (j : Int) - (j : Int) = 0 := by omega
              have HF : Hid (splitD v S ws = (addsD P0 R0 j).1) := HSPL
              generalize (addsD P0 R0 j).1 = F at *
              have hF : F.length = ws.length := by have := HPL.out; omega
              have HOW := Lib.hid (show OwnI wr w.heap.size (some ⟨g1, 0, none⟩) F from ⟨g1, m1, .inr ⟨rfl, hSt.p⟩⟩)
              have HB9 := Lib.hid hSt.b
              clear hSt HSt
              go_wp2
              go_ret
              exact ⟨some ⟨g1, 0, none⟩, p1, by rw [HF.out, hF]; rfl, by rw [HF.out]; exact HOW.out, HB9.out⟩
end Go.Proofs.YtccplndimdmjpaaDoor
