/- The program's SplitValue, its two loops. -/
import Derived.Test.YtccplndimdmjpaaDoorSpImpl
import Derived.Test.YtccplndimdmjpaaDoorGrid
import Derived.Test.YtccplndimdmjpaaDoorTotMath
namespace Go.Proofs.YtccplndimdmjpaaDoor
open Go.RowKit
set_option linter.unusedVariables false
set_option linter.unusedSimpArgs false
/-- a row of numbers and a bool are returned, in memory of the call's own -/
def SvRet (r : List Int) (v : Bool) (w : World) (e : Ending) (w' : World) : Prop := ∃ a c, e = .returned (.tuple #[.slice a r.length c, .bool v]) ∧ OwnI w' w.heap.size a r ∧ Below w.heap.size w w'
/-- the parts, the remainders, each in its own block -/
structure Sv (w : World) (P R : List Int) (wr : World) : Prop where
  p : Row wr w.heap.size 3 (iv P)
  r : wr.heap[w.heap.size + 1]? = some (.cells (iv R).toArray 52 (0, 0))
  b : Below w.heap.size w wr
section
variable {w w1 w2 : World} {P R : List Int}
theorem Sv.rrow (h : Sv w P R w1) : Row w1 (w.heap.size + 1) 52 (iv R) := ⟨_, h.r, fun k hk => by simp⟩
theorem Sv.rlt (h : Sv w P R w1) : w.heap.size + 1 < w1.heap.size := h.rrow.lt
theorem Sv.step (h : Sv w P R w1) (b : Below w1.heap.size w1 w2) : Sv w P R w2 :=
  ⟨h.p.of_block (b.block _ h.p.lt), (b.block _ h.rlt).trans h.r, below_then h.b b⟩
theorem Sv.putP (h : Sv w P R w1) (j : Nat) (z : Int) : Sv w (P.set j z) R (w1.setCell ⟨w.heap.size, j, none⟩ (.int .i64 z)) :=
  ⟨by have := h.p.set j (.int .i64 z); rw [iv_set] at this; exact this, (Below.heap_setCell w1 ⟨w.heap.size, j, none⟩ _ (w.heap.size + 1) (by show w.heap.size + 1 ≠ w.heap.size; omega)).trans h.r, h.b.setCell (Nat.le_refl _) _⟩
theorem Sv.putR (h : Sv w P R w1) (j : Nat) (z : Int) : Sv w P (R.set j z) (w1.setCell ⟨w.heap.size + 1, j, none⟩ (.int .i64 z)) :=
  ⟨h.p.other (show w.heap.size ≠ w.heap.size + 1 by omega) _, by
    have := h.r
    rw [← iv_set]
    simp [World.setCell, Array.getElem?_modify, this, List.set_toArray], h.b.setCell (show w.heap.size ≤ w.heap.size + 1 by omega) _⟩
theorem Sv.getP (h : Sv w P R w1) {j : Nat} (hj : j < P.length) : w1.cell? ⟨w.heap.size, j, none⟩ = some (.int .i64 P[j]) := by
  rw [h.p.cell (k := j) (by rw [iv_length]; exact hj), iv_get]
theorem Sv.getR (h : Sv w P R w1) {j : Nat} (hj : j < R.length) : w1.cell? ⟨w.heap.size + 1, j, none⟩ = some (.int .i64 R[j]) := by
  rw [h.rrow.cell (k := j) (by rw [iv_length]; exact hj), iv_get]
end
theorem split_nil_no {v : Int} {ws : List Int} (h : wsB ws = false ∨ vB v = false) : spB v ws = false := by
  unfold spB
  rcases h with h | h <;> rw [h] <;> simp
theorem infoI64 : (Tryd.prog.info? 52).map (·.size) = some 64 := by kernel_rfl
theorem partsD_len (v S : Int) (ws : List Int) : (partsD v S ws).length = ws.length := by simp [partsD]
theorem restsD_len (v S : Int) (ws : List Int) : (restsD v S ws).length = ws.length := by simp [restsD]
set_option maxRecDepth 100000 in
set_option maxHeartbeats 4000000 in
theorem implSplit_no (v : Int) (a : Option Addr) (ws : List Int) (c : Nat) (w : World) (hl : Ints .i64 w w.heap.size a ws) (hn : ws.length ≤ 1048576) (h : spB v ws = false) :
    Calls Tryd.prog 8 #[.int .i64 v, .slice a ws.length c] w (SvRet [] false w) := by
  have HS := Lib.hid (fun W B h => sumW_is a ws c B W h hn)
  have HL := Lib.hid hl
  clear hl
  cases hw : wsB ws with
  | false =>
    rw [hw] at HS
    clear hw h
    go_enter Tryd.func8, Tryd.ntmps8
    go_wp2_with fail
    refine (HS.out _ _ HL.out).mono ?_
    rintro e w1 ⟨rfl, rfl⟩
    go_wp2
    refine bodyPost_ret (v := .tuple #[.slice (some ⟨w.heap.size, 0, none⟩) 0 0, .bool false]) (by simp [results, Tryd.results8, go_sem]) rfl ⟨_, _, rfl, OwnI.none_, below_all _ _⟩
  | true =>
    rw [hw] at HS
    have hv : valB v = false := by
      cases hv : valB v with
      | false => rfl
      | true =>
        have : vB v = true := hv
        unfold spB at h
        rw [hw, this] at h
        cases h
    have HV := Lib.hid (fun W => implValue_is v false W hv)
    clear hw h hv
    go_enter Tryd.func8, Tryd.ntmps8
    go_wp2_with fail
    refine (HS.out _ _ HL.out).mono ?_
    rintro e w1 ⟨rfl, rfl⟩
    go_wp2_with fail
    refine (HV.out _).mono ?_
    rintro e w1 ⟨rfl, rfl⟩
    go_wp2
    refine bodyPost_ret (v := .tuple #[.slice (some ⟨w.heap.size, 0, none⟩) 0 0, .bool false]) (by simp [results, Tryd.results8, go_sem]) rfl ⟨_, _, rfl, OwnI.none_, below_all _ _⟩
theorem quot_bd {p S : Int} (hS : 0 < S) (h1 : -576000 ≤ p) (h2 : p ≤ 576000) : (-576000 ≤ p / S ∧ p / S ≤ 576000) ∧ 0 ≤ p - p / S * S ∧ p - p / S * S < S := by
  have e1 := Int.emod_add_mul_ediv p S
  have e2 := Int.emod_nonneg p (by omega : S ≠ 0)
  have e3 := Int.emod_lt_of_pos p hS
  rw [Int.mul_comm] at e1
  refine ⟨⟨Int.le_ediv_of_mul_le hS (by omega), ?_⟩, by omega, by omega⟩
  have := Int.ediv_lt_of_lt_mul hS (show p < 576001 * S by omega)
  omega
theorem prod_wt {v x : Int} (v1 : -9000 ≤ v) (v2 : v ≤ 9000) (h0 : 0 ≤ x) (h1 : x ≤ 64) : -576000 ≤ v * x ∧ v * x ≤ 576000 := by
  have a1 := Int.mul_le_mul_of_nonneg_right v2 h0
  have a2 := Int.mul_le_mul_of_nonneg_right v1 h0
  omega
theorem partsD_bd {v S : Int} {ws : List Int} (v1 : -9000 ≤ v) (v2 : v ≤ 9000) (hS : 0 < S) (h : ∀ x ∈ ws, 0 ≤ x ∧ x ≤ 64) : ∀ z ∈ partsD v S ws, -576000 ≤ z ∧ z ≤ 576000 := fun z hz => by
  obtain ⟨x, hx, rfl⟩ := List.mem_map.1 hz
  have := prod_wt v1 v2 (h x hx).1 (h x hx).2
  exact (quot_bd hS this.1 this.2).1
theorem tot_part_bd {l : List Int} {k : Nat} (h : ∀ z ∈ l, -576000 ≤ z ∧ z ≤ 576000) (hk : k ≤ 64) : -36864000 ≤ tot (l.take k) ∧ tot (l.take k) ≤ 36864000 := by
  have h1 := tot_ge (l := l.take k) (m := -576000) (fun z hz => (h z (List.mem_of_mem_take hz)).1)
  have h2 := tot_le (l := l.take k) (m := 576000) (fun z hz => (h z (List.mem_of_mem_take hz)).2)
  rw [List.length_take] at h1 h2
  omega
theorem partsD_get (v S : Int) (ws : List Int) (k : Nat) (h : k < (partsD v S ws).length) (h2 : k < ws.length) : (partsD v S ws)[k] = v * ws[k] / S := by simp [partsD]
theorem restsD_get (v S : Int) (ws : List Int) (k : Nat) (h : k < (restsD v S ws).length) (h2 : k < ws.length) : (restsD v S ws)[k] = v * ws[k] - v * ws[k] / S * S := by simp [restsD]
set_option maxRecDepth 100000 in
set_option maxHeartbeats 8000000 in
theorem implSplit_yes (v : Int) (a : Option Addr) (ws : List Int) (c : Nat) (w : World) (hl : Ints .i64 w w.heap.size a ws) (h : spB v ws = true) (ht : BlockIs w 0 deBruijn64tabCells.toArray) :
    Calls Tryd.prog 8 #[.int .i64 v, .slice a ws.length c] w (SvRet (splitD v (tot ws) ws) true w) := by
  obtain ⟨⟨v1, v2⟩, ⟨n1, n2⟩, hws, hS⟩ := spB_iff.1 h
  have hwB : wsB ws = true := wsB_iff.2 ⟨⟨n1, n2⟩, hws, hS⟩
  have HS := Lib.hid (fun W B h => sumW_is a ws c B W h (by omega))
  rw [hwB, wsT_yes hwB] at HS
  have HV := Lib.hid (fun W => implValue_is v true W (show valB v = true from by unfold valB; simp; omega))
  have HL := Lib.hid hl
  have HT := Lib.hid ht
  have hS64 : tot ws ≤ 4096 := by have := tot_pos_bd hws; omega
  obtain ⟨S, hSe⟩ : ∃ S, tot ws = S := ⟨_, rfl⟩
  have HSE := Lib.hid hSe
  rw [hSe] at HS hS hS64 ⊢
  obtain ⟨lf1, lf2⟩ := left_bd (v := v) hS hSe
  have hcnt := cntP_le (restsD v S ws)
  rw [restsD_len] at hcnt
  have HW := Lib.hid hws
  clear hl ht h hwB hSe hws
  have hmk := fun W => run_make_row' (P := Tryd.prog) 22 3 (.int .i64 0) 8 Tryd.underlying22 infoInt rfl .i64 .i64 ws.length (by omega) (by omega) W
  go_enter Tryd.func8, Tryd.ntmps8
  go_wp2_with fail
  refine (HS.out _ _ HL.out).mono ?_
  rintro e w1 ⟨rfl, rfl⟩
  go_wp2_with fail
  refine (HV.out _).mono ?_
  rintro e w1 ⟨rfl, rfl⟩
  go_wp2
  clear hmk
  go_loopw [9, 11, 34] (fun le cu i wr => ∃ k C : Nat, k ≤ ws.length ∧ i = .int .i64 k ∧ le = .int .i64 (v - tot ((partsD v S ws).take k)) ∧ cu = .int .u64 C ∧ BitsOf C ((restsD v S ws).take k) ∧ Sv w (padK (partsD v S ws) ws.length k) (padK (restsD v S ws) 64 k) wr) (fun _ _ i _ => ws.length - (intOf i).toNat)
  case atStart =>
    refine ⟨0, 0, Nat.zero_le _, rfl, by simp [tot], rfl, bits_zero, ?_, ?_, ?_⟩
    · rw [padK_zero]
      refine Row.alloc ⟨_, heap_alloc_new w _, fun k hk => ?_⟩ _
      rw [made_iv]
      simp
    · rw [padK_zero]
      have h9 := heap_alloc_new (w.alloc (.cells (madeCells #[Value.int .i64 0] ws.length) 3)) (.cells (iv (List.replicate 64 0)).toArray 52)
      rw [World.size_alloc] at h9
      exact h9
    · exact (below_all _ _).alloc (by simp) _
  case round =>
    obtain ⟨k, C, hk, rfl, rfl, rfl, hB, hSv⟩ := hrel
    have HSv := Lib.hid hSv
    have HBt := Lib.hid hB
    have htb := tot_part_bd (k := k) (partsD_bd v1 v2 hS HW.out) (by omega)
    have q1 : ¬ w.heap.size = w.heap.size + 1 := by omega
    have q2 : ¬ w.heap.size + 1 = w.heap.size := by omega
    by_cases hlt : k < ws.length
    · obtain ⟨bl, ol, rfl, hbl, hcl⟩ := (HL.out.below hSv.b (Nat.le_refl _)).at_ hlt
      have hi : (k : Int) < (ws.length : Int) := by omega
      have hi0 : (0 : Int) ≤ (k : Int) := by omega
      have hkP : k < (partsD v S ws).length := by rw [partsD_len]; exact hlt
      have hkR : k < (restsD v S ws).length := by rw [restsD_len]; exact hlt
      have hx := HW.out _ (List.getElem_mem hlt)
      have ePk := partsD_get v S ws k hkP hlt
      have eRk := restsD_get v S ws k hkR hlt
      have hpx := prod_wt v1 v2 hx.1 hx.2
      have hqx := quot_bd hS hpx.1 hpx.2
      have c1 := hSv.getP (j := k) (by rw [padK_len (by omega) (by omega)]; exact hlt)
      rw [padK_at (by omega) hlt] at c1
      have c2 := hSv.getR (j := k) (by rw [padK_len (by omega) (by omega)]; omega)
      rw [padK_at (by omega) (by omega)] at c2
      have f1 := hSv.p.frozen k
      have f2 := hSv.rrow.frozen k
      have HST1 := Lib.hid (padK_step hkP hlt)
      have HST2 := Lib.hid (padK_step (n := 64) hkR (by omega))
      have HTT := Lib.hid (show tot ((partsD v S ws).take (k + 1)) = tot ((partsD v S ws).take k) + (partsD v S ws)[k] by rw [snoc_takeI _ k hkP, tot_snocI])
      have HRT := Lib.hid (snoc_takeI _ k hkR)
      have hrl : ((restsD v S ws).take k).length = k := by rw [List.length_take]; omega
      have HRL := Lib.hid hrl
      rw [ePk] at HST1 HTT
      rw [eRk] at HST2 HRT
      generalize ws[k] = x at *
      obtain ⟨p, hp⟩ : ∃ p, v * x = p := ⟨_, rfl⟩
      rw [hp] at hpx hqx HST1 HST2 HTT HRT
      have HQ := Lib.hid (fun W => quotW_is p S W (by omega) (by omega) (by omega) (by omega))
      generalize p / S = q at *
      obtain ⟨m, hm⟩ : ∃ m, q * S = m := ⟨_, rfl⟩
      rw [hm] at hqx HST2 HRT
      obtain ⟨⟨h1, h2⟩, h3, h4⟩ := hqx
      obtain ⟨r, hr⟩ : ∃ r, p - m = r := ⟨_, rfl⟩
      rw [hr] at h3 h4 HST2 HRT
      have hm1 : -600000 ≤ m := by omega
      have hm2 : m ≤ 600000 := by omega
      obtain ⟨hp1, hp2⟩ := hpx
      generalize tot ((partsD v S ws).take k) = tk at *
      have HPUT := Lib.hid (fun W' (h : Sv w (padK (partsD v S ws) ws.length k) (padK (restsD v S ws) 64 k) W') => by have h9 := (h.putP k q).putR k r; rw [HST1.out, HST2.out] at h9; exact h9)
      have hkI : (k : Int) < 64 := by omega
      clear hSv hB hx ePk eRk hkP hkR hrl
      by_cases hpos : 0 < r
      · have HBN : Hid (BitsOf (putBit C k) ((restsD v S ws).take (k + 1))) := Lib.hid (by have h9 := bits_put HBt.out (by rw [HRL.out]; omega) hpos; rw [HRL.out, ← HRT.out] at h9; exact h9)
        have s1 := put_int (k := k) (C := C) (by omega) HBt.out.1
        have s2 := wrap_pow (k := k) (by omega)
        push_cast at s1 s2
        go_wp2_with (go_at_call 34; (with_reducible refine (HQ.out _).mono ?_); rintro e w9 ⟨rfl, rfl⟩)
        go_roundw
        case rel => exact ⟨k + 1, putBit C k, by omega, by go_num, by rw [HTT.out]; congr 1; omega, rfl, HBN.out, HPUT.out _ HSv.out⟩
        case measure => simp [intOf]; omega
      · have HBN : Hid (BitsOf C ((restsD v S ws).take (k + 1))) := Lib.hid (by have h9 := bits_stay HBt.out hpos; rw [← HRT.out] at h9; exact h9)
        go_wp2_with (go_at_call 34; (with_reducible refine (HQ.out _).mono ?_); rintro e w9 ⟨rfl, rfl⟩)
        go_roundw
        case rel => exact ⟨k + 1, C, by omega, by go_num, by rw [HTT.out]; congr 1; omega, rfl, HBN.out, HPUT.out _ HSv.out⟩
        case measure => simp [intOf]; omega
    · obtain rfl : k = ws.length := by omega
      have hPl := partsD_len v S ws
      have hRl := restsD_len v S ws
      obtain ⟨lf, hlf⟩ : ∃ lf : Nat, leftD v S ws = (lf : Int) := ⟨(leftD v S ws).toNat, by omega⟩
      have hLE := Lib.hid (show v - tot ((partsD v S ws).take ws.length) = (lf : Int) by rw [← hlf, ← hPl, List.take_length]; rfl)
      have HSPL := Lib.hid (show splitD v S ws = (addsD (partsD v S ws) (restsD v S ws) lf).1 by unfold splitD; rw [hlf]; rfl)
      have hR0 : ∀ z ∈ restsD v S ws, 0 ≤ z := fun z hz => (restsD_bd hS ws z hz).1
      have HR0 := Lib.hid hR0
      have hPB := Lib.hid (partsD_bd v1 v2 hS HW.out)
      have hB2 : BitsOf C (restsD v S ws) := by have h9 := hB; rw [← hRl, List.take_length] at h9; exact h9
      have hS2 : Sv w (partsD v S ws) (padK (restsD v S ws) 64 (restsD v S ws).length) wr := by
        have h9 := hSv
        rw [show padK (partsD v S ws) ws.length ws.length = partsD v S ws by rw [← hPl]; exact padK_all _] at h9
        rw [hRl]; exact h9
      have hlfc : lf ≤ cntP (restsD v S ws) := by omega
      have HB2 := Lib.hid hB2
      have HS2 := Lib.hid hS2
      rw [hLE.out]
      clear htb
      have HPL := Lib.hid hPl
      have HRL := Lib.hid hRl
      have hRl64 : (restsD v S ws).length ≤ 64 := by omega
      have hPl0 : (partsD v S ws).length = (restsD v S ws).length := by omega
      have HPR := Lib.hid hPl0
      have hlen : ws.length = (restsD v S ws).length := hRl.symm
      have HLEN := Lib.hid hlen
      clear hSv hB HSv HBt hB2 hS2 hPl hRl hlf hR0 lf1 lf2 hPl0 hlen
      generalize partsD v S ws = P0 at *
      generalize restsD v S ws = R0 at *
      have hlf64 : lf ≤ 64 := by omega
      go_wp2
      go_loopw [11, 75] (fun cu i wr => ∃ j C : Nat, j ≤ lf ∧ i = .int .i64 j ∧ cu = .int .u64 C ∧ BitsOf C (addsD P0 R0 j).2 ∧ Sv w (addsD P0 R0 j).1 (padK R0 64 R0.length) wr) (fun _ i _ => lf - (intOf i).toNat)
      case atStart => exact ⟨0, C, Nat.zero_le _, rfl, rfl, HB2.out, HS2.out⟩
      case round =>
        clear HB2 HS2
        obtain ⟨j, C, hj, rfl, rfl, hB, hSv⟩ := hrel
        have HSv := Lib.hid hSv
        have HBt := Lib.hid hB
        obtain ⟨l1, l2⟩ := addsD_len P0 R0 j
        by_cases hlt : j < lf
        · have hi : (j : Int) < (lf : Int) := by omega
          obtain ⟨hb1, hb2⟩ := adds_pos (P := P0) HR0.out (k := j) (by omega)
          have hinv := (adds_inv (P := P0) HR0.out j (by omega)).2
          have hbd := adds_bd (P := P0) (R := R0) hPB.out j
          have hnx : addsD P0 R0 (j + 1) = ((addsD P0 R0 j).1.set (bestN (addsD P0 R0 j).2 (addsD P0 R0 j).2.length) ((addsD P0 R0 j).1.getD (bestN (addsD P0 R0 j).2 (addsD P0 R0 j).2.length) 0 + 1), (addsD P0 R0 j).2.set (bestN (addsD P0 R0 j).2 (addsD P0 R0 j).2.length) (-1)) := rfl
          have HNX := Lib.hid hnx
          clear hnx
          generalize addsD P0 R0 j = s at *
          have hC0 : C ≠ 0 := fun e => by
            have h9 := hB.of_pos hb2
            rw [e, Nat.zero_testBit] at h9
            cases h9
          have hrr : ∀ i, C.testBit i = true → (padK R0 64 R0.length).getD i 0 = s.2.getD i 0 := fun i hi9 => by
            obtain ⟨h1, h2⟩ := (hB.2 i).1 hi9
            rw [padK_getD (by omega)]
            rcases hinv i (by omega) with h3 | h3
            · exact h3.symm
            · rw [h3] at h2; omega
          have h64 : (padK R0 64 R0.length).length = 64 := padK_len (Nat.le_refl _) (by omega)
          have HGR := Lib.hid (greatest_is (padK R0 64 R0.length) s.2 C wr h64 (by omega) hB hC0 hrr (HT.out.below hSv.b))
          obtain ⟨b, hbe⟩ : ∃ b, bestN s.2 s.2.length = b := ⟨_, rfl⟩
          rw [hbe] at hb1 hb2 HGR HNX
          have hbP : b < s.1.length := by have := HPR.out; omega
          have HBN : Hid (BitsOf (dropBit C b) (s.2.set b (-1))) := Lib.hid (bits_drop hB (by omega) (by omega))
          have hz := hbd _ (List.getElem_mem hbP)
          rw [gd_at hbP] at HNX
          have hgetP : ∀ W', Sv w s.1 (padK R0 64 R0.length) W' → W'.cell? ⟨w.heap.size, b, none⟩ = some (.int .i64 s.1[b]) := fun W' h => h.getP hbP
          have HGP := Lib.hid hgetP
          have hb0 := hSv.r
          have hsz : (Tryd.prog.info? 52).map (·.size) = some (iv (padK R0 64 R0.length)).toArray.size := infoI64.trans (by simp [iv, h64])
          have hbI : (b : Int) < (ws.length : Int) := by have := HLEN.out; omega
          have hbI0 : (0 : Int) ≤ (b : Int) := by omega
          have s1 := drop_int (k := b) (C := C) (by omega) hB.1
          have s2 := wrap_pow (k := b) (by omega)
          push_cast at s1 s2
          have hb64 : (b : Int) < 64 := by omega
          generalize s.1[b] = z at *
          obtain ⟨z1, z2⟩ := hz
          have HPUT := Lib.hid (fun W' (h : Sv w s.1 (padK R0 64 R0.length) W') => h.putP b (z + 1))
          have HARR := Lib.hid h64
          clear hgetP hbd hinv hrr hC0 hB hb1 hb2 hbe h64 hSv hbP l1 l2
          generalize padK R0 64 R0.length = RR at *
          go_wp2_with (refine wpList_load_row rfl 52 (.tmp 10) rfl (w.heap.size + 1) rfl 52 (iv RR).toArray (0, 0) _ hb0 Tryd.underlying52 rfl hsz ?_)
          clear hb0 hsz
          go_wp2_with fail
          refine HGR.out.mono ?_
          rintro e w6 ⟨rfl, b6⟩
          have HS6 := Lib.hid (HSv.out.step b6)
          have c1 := HGP.out _ HS6.out
          have f1 := HS6.out.p.frozen b
          clear b6
          go_wp2
          go_roundw
          case rel => exact ⟨j + 1, dropBit C b, by omega, by go_num, rfl, by rw [HNX.out]; exact HBN.out, by rw [HNX.out]; exact HPUT.out _ HS6.out⟩
          case measure => simp [intOf]; omega
        · obtain rfl : j = lf := by omega
          have hS9 := HSv.out
          generalize (addsD P0 R0 j).1 = F at *
          have hF : F.length = ws.length := by have := HPL.out; omega
          have hOW : OwnI wr w.heap.size (some ⟨w.heap.size, 0, none⟩) F := ⟨w.heap.size, Nat.le_refl _, .inr ⟨rfl, hS9.p⟩⟩
          have HOW := Lib.hid hOW
          have HB9 := Lib.hid hS9.b
          clear hS9 hSv hOW
          go_wp2
          refine bodyPost_ret (v := .tuple #[.slice (some ⟨w.heap.size, 0, none⟩) ws.length ws.length, .bool true]) (by simp [results, Tryd.results8, go_sem]) rfl ⟨some ⟨w.heap.size, 0, none⟩, ws.length, by rw [HSPL.out, hF], by rw [HSPL.out]; exact HOW.out, HB9.out⟩
end Go.Proofs.YtccplndimdmjpaaDoor
