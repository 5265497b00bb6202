/- The laws' helpers on Storm. -/
import Derived.Test.YthceffkkokgpnaaSts
import Derived.Test.YthceffkkokgpnaaBox
import Derived.Laws.MakeOwn
import Derived.StillTailTactics
namespace Go.Proofs.Ythceffkkokgpnaa
open Go.RowKit
set_option linter.unusedVariables false
set_option linter.unusedSimpArgs false
theorem stv_set (l : List StT) : ∀ (k : Nat) (x0 x1 x2 x3 : Int), k < l.length → ((((stv l).set (k * 4) (.int .i64 x0)).set (k * 4 + 1) (.int .i64 x1)).set (k * 4 + 2) (.int .i64 x2)).set (k * 4 + 3) (.int .i64 x3) = stv (l.set k (x0, x1, x2, x3)) := by
  induction l with
  | nil => intro k x0 x1 x2 x3 h; simp at h
  | cons q r ih =>
    intro k x0 x1 x2 x3 h
    cases k with
    | zero => rfl
    | succ k =>
      have e : (k + 1) * 4 = k * 4 + 1 + 1 + 1 + 1 := by omega
      rw [stv_cons, e]
      show Value.int .i64 q.1 :: Value.int .i64 q.2.1 :: Value.int .i64 q.2.2.1 :: Value.int .i64 q.2.2.2 :: ((((stv r).set (k * 4) (.int .i64 x0)).set (k * 4 + 1) (.int .i64 x1)).set (k * 4 + 2) (.int .i64 x2)).set (k * 4 + 3) (.int .i64 x3) = _
      rw [ih k x0 x1 x2 x3 (by simpa using h)]
      rfl
theorem stv_zero (n : Nat) : stv (List.replicate n ((0, 0, 0, 0) : StT)) = List.replicate (n * 4) (.int .i64 0) := by
  induction n with
  | zero => rfl
  | succ n ih =>
    rw [List.replicate_succ, stv_cons, ih, show (n + 1) * 4 = n * 4 + 1 + 1 + 1 + 1 by omega, List.replicate_succ, List.replicate_succ, List.replicate_succ, List.replicate_succ]
/-- the first k copied, the others nothing -/
def mixSt (l : List StT) (k : Nat) : List StT := l.take k ++ List.replicate (l.length - k) (0, 0, 0, 0)
theorem mixSt_zero (l : List StT) : mixSt l 0 = List.replicate l.length (0, 0, 0, 0) := by simp [mixSt]
theorem mixSt_len (l : List StT) (k : Nat) (h : k ≤ l.length) : (mixSt l k).length = l.length := by simp [mixSt]; omega
theorem mixSt_all (l : List StT) : mixSt l l.length = l := by simp [mixSt]
theorem mixSt_step (l : List StT) (k : Nat) (h : k < l.length) : (mixSt l k).set k l[k] = mixSt l (k + 1) := by
  unfold mixSt
  rw [List.set_append_right _ _ (by simp; omega), List.length_take, Nat.min_eq_left (by omega), Nat.sub_self, show l.length - k = (l.length - (k + 1)) + 1 by omega, List.replicate_succ, List.set_cons_zero, List.take_succ_eq_append_getElem h, List.append_assoc]
  rfl
theorem infoSt : (Try.prog.info? 26).map (fun i => (i.zero, i.size, i.bytes)) = some (some (.agg #[.int .i64 0, .int .i64 0, .int .i64 0, .int .i64 0]), 4, 32) := by kernel_rfl
theorem run_make_st (n : Nat) (h : n ≤ 1048576) (W : World) :
    (Instr.makeSlice 33 (.int .i64 (n : Int)) (.int .i64 (n : Int))).run Try.prog W = .ok (.slice (some ⟨W.heap.size, 0, none⟩) n n) (W.alloc (.cells (madeCells #[.int .i64 0, .int .i64 0, .int .i64 0, .int .i64 0] (n * 4)) 26)) := by
  obtain ⟨i, hi, hzz⟩ := Option.map_eq_some_iff.1 infoSt
  simp only [Prod.mk.injEq] at hzz
  obtain ⟨hz, hs, hb⟩ := hzz
  have hr := run_make (P := Try.prog) W 33 26 i (.agg #[.int .i64 0, .int .i64 0, .int .i64 0, .int .i64 0]) Try.underlying33 hi hz .i64 .i64 n n (by omega) (Int.le_refl _) (by rw [hb]; omega) (by omega)
  simp only [Int.toNat_natCast, hs] at hr
  exact hr
theorem row_made_st (n : Nat) (W : World) : Row (W.alloc (.cells (madeCells #[.int .i64 0, .int .i64 0, .int .i64 0, .int .i64 0] (n * 4)) 26)) W.heap.size 26 (stv (List.replicate n ((0, 0, 0, 0) : StT))) := by
  refine ⟨_, heap_alloc_new W _, fun k hk => ?_⟩
  rw [stv_length, List.length_replicate] at hk
  have e : (stv (List.replicate n ((0, 0, 0, 0) : StT)))[k]? = some (.int .i64 0) := by rw [stv_zero]; simp [hk]
  rw [← List.getElem?_eq_getElem, e]
  have hm : k % 4 = 0 ∨ k % 4 = 1 ∨ k % 4 = 2 ∨ k % 4 = 3 := by omega
  rcases hm with hm | hm | hm | hm <;> simp [madeCells, hk, hm]
theorem szSt_any (a : Option Addr) (n c : Nat) (left : Int) (w : World) (hn : n ≤ maxLen) (h0 : 0 ≤ left) (h1 : left ≤ 1048576) :
    Calls Try.prog 17 #[.slice a n c, .int .i64 left] w fun e w' => e = .returned (.int .i64 (if (n : Int) ≤ left then left - n else -1)) ∧ w = w' := by
  unfold maxLen at hn
  by_cases h : (n : Int) ≤ left
  · rw [if_pos h]
    go_enter Try.func17, Try.ntmps17
    go_wp2
    go_ret
    exact ⟨rfl, rfl⟩
  · rw [if_neg h]
    go_enter Try.func17, Try.ntmps17
    go_wp2
    go_ret
    exact ⟨rfl, rfl⟩
set_option maxHeartbeats 1000000 in
theorem toSt_is (x0 x1 x2 x3 : Int) (w : World) : Calls Try.prog 15 #[.agg #[.int .i64 x0, .int .i64 x1, .int .i64 x2, .int .i64 x3]] w fun e w' => e = .returned (.agg #[.int .i64 x0, .int .i64 x1, .int .i64 x2, .int .i64 x3]) ∧ Below w.heap.size w w' := by
  go_enter Try.func15, Try.ntmps15
  go_wp2
  refine bodyPost_ret (v := .agg #[.int .i64 x0, .int .i64 x1, .int .i64 x2, .int .i64 x3]) (by simp [results, Try.results15, go_sem]) rfl ⟨rfl, ?_⟩
  have b3 : ∀ o1 o2 o3, Below w.heap.size w (((w.alloc o1).alloc o2).alloc o3) := fun o1 o2 o3 => (((Below.refl _ _).alloc (Nat.le_refl _) _).alloc (by simp) _).alloc (by simp; omega) _
  repeat' first | exact b3 _ _ _ | refine Below.setCell ?_ (by simp <;> omega) _
set_option maxHeartbeats 1000000 in
theorem eqSt_yes (x0 x1 x2 x3 : Int) (w : World) : Calls Try.prog 80 #[.agg #[.int .i64 x0, .int .i64 x1, .int .i64 x2, .int .i64 x3], .agg #[.int .i64 x0, .int .i64 x1, .int .i64 x2, .int .i64 x3]] w fun e w' => e = .returned (.bool true) ∧ Below w.heap.size w w' := by
  go_enter Try.func80, Try.ntmps80
  go_wp2
  go_ret
  exact ⟨rfl, ((Below.refl _ _).alloc (Nat.le_refl _) _).alloc (by simp) _⟩
set_option maxRecDepth 100000 in
set_option maxHeartbeats 4000000 in
theorem toSts_any (a : Option Addr) (l : List StT) (c : Nat) (w : World) (hl : Sts w w.heap.size a l) (hn : l.length ≤ 1048576) :
    Calls Try.prog 19 #[.slice a l.length c] w fun e w' => e = .returned (.slice (some ⟨w.heap.size, 0, none⟩) l.length l.length) ∧ Row w' w.heap.size 26 (stv l) ∧ Below w.heap.size w w' ∧ w.heap.size < w'.heap.size := by
  have HL := Lib.hid hl
  clear hl
  have hmk := fun W => run_make_st l.length (by omega) W
  have HR0 := Lib.hid (row_made_st l.length w)
  go_enter Try.func19, Try.ntmps19
  go_wp2
  clear hmk
  go_loopw [4] (fun i wr => ∃ k : Nat, k ≤ l.length ∧ i = .int .i64 k ∧ Row wr w.heap.size 26 (stv (mixSt l k)) ∧ Below w.heap.size w wr) (fun i _ => l.length - (intOf i).toNat)
  case atStart => exact ⟨0, Nat.zero_le _, rfl, by rw [mixSt_zero]; exact HR0.out, (Below.refl _ _).alloc (Nat.le_refl _) _⟩
  case round =>
    obtain ⟨k, hk, rfl, hrow, hB⟩ := hrel
    have HR := Lib.hid hrow
    have HB := Lib.hid hB
    by_cases hlt : k < l.length
    · obtain ⟨b, o, rfl, hb, q0, q1, q2, q3⟩ := (HL.out.below hB (Nat.le_refl _)).at_ hlt
      have hml := mixSt_len l k hk
      have hnl := stv_length (mixSt l k)
      obtain ⟨u0, hu0⟩ : ∃ u, wr.cell? ⟨w.heap.size, k * 4, none⟩ = some u := ⟨_, hrow.cell (k := k * 4) (by omega)⟩
      obtain ⟨u1, hu1⟩ : ∃ u, wr.cell? ⟨w.heap.size, k * 4 + 1, none⟩ = some u := ⟨_, hrow.cell (k := k * 4 + 1) (by omega)⟩
      obtain ⟨u2, hu2⟩ : ∃ u, wr.cell? ⟨w.heap.size, k * 4 + 2, none⟩ = some u := ⟨_, hrow.cell (k := k * 4 + 2) (by omega)⟩
      obtain ⟨u3, hu3⟩ : ∃ u, wr.cell? ⟨w.heap.size, k * 4 + 3, none⟩ = some u := ⟨_, hrow.cell (k := k * 4 + 3) (by omega)⟩
      have f0 := hrow.frozen (k * 4)
      have f1 := hrow.frozen (k * 4 + 1)
      have f2 := hrow.frozen (k * 4 + 2)
      have f3 := hrow.frozen (k * 4 + 3)
      have hz := hrow.lt
      have HST := Lib.hid (mixSt_step l k hlt)
      have HNS := Lib.hid (fun x0 x1 x2 x3 => stv_set (mixSt l k) k x0 x1 x2 x3 (by omega))
      clear hrow hB hml hnl
      have hi : (k : Int) < (l.length : Int) := by omega
      have hi0 : (0 : Int) ≤ (k : Int) := by omega
      obtain ⟨x0, hx0⟩ : ∃ x, l[k].1 = x := ⟨_, rfl⟩
      rw [hx0] at q0
      obtain ⟨x1, hx1⟩ : ∃ x, l[k].2.1 = x := ⟨_, rfl⟩
      rw [hx1] at q1
      obtain ⟨x2, hx2⟩ : ∃ x, l[k].2.2.1 = x := ⟨_, rfl⟩
      rw [hx2] at q2
      obtain ⟨x3, hx3⟩ : ∃ x, l[k].2.2.2 = x := ⟨_, rfl⟩
      rw [hx3] at q3
      have HXY := Lib.hid (show l[k] = (x0, x1, x2, x3) by rw [← hx0, ← hx1, ← hx2, ← hx3])
      clear hx0 hx1 hx2 hx3
      go_wp2_with fail
      refine (toSt_is x0 x1 x2 x3 wr).mono ?_
      rintro e w1 ⟨rfl, b1⟩
      have hu0' : w1.cell? ⟨w.heap.size, k * 4, none⟩ = some u0 := (b1.cell (p := ⟨w.heap.size, k * 4, none⟩) hz).trans hu0
      have hu1' : w1.cell? ⟨w.heap.size, k * 4 + 1, none⟩ = some u1 := (b1.cell (p := ⟨w.heap.size, k * 4 + 1, none⟩) hz).trans hu1
      have hu2' : w1.cell? ⟨w.heap.size, k * 4 + 2, none⟩ = some u2 := (b1.cell (p := ⟨w.heap.size, k * 4 + 2, none⟩) hz).trans hu2
      have hu3' : w1.cell? ⟨w.heap.size, k * 4 + 3, none⟩ = some u3 := (b1.cell (p := ⟨w.heap.size, k * 4 + 3, none⟩) hz).trans hu3
      have f0' : w1.frozen? ⟨w.heap.size, k * 4, none⟩ = false := (b1.frozen (p := ⟨w.heap.size, k * 4, none⟩) hz).trans f0
      have f1' : w1.frozen? ⟨w.heap.size, k * 4 + 1, none⟩ = false := (b1.frozen (p := ⟨w.heap.size, k * 4 + 1, none⟩) hz).trans f1
      have f2' : w1.frozen? ⟨w.heap.size, k * 4 + 2, none⟩ = false := (b1.frozen (p := ⟨w.heap.size, k * 4 + 2, none⟩) hz).trans f2
      have f3' : w1.frozen? ⟨w.heap.size, k * 4 + 3, none⟩ = false := (b1.frozen (p := ⟨w.heap.size, k * 4 + 3, none⟩) hz).trans f3
      have HR1 := Lib.hid (HR.out.of_block (b1.block w.heap.size hz))
      have HB1 := Lib.hid (HB.out.trans (b1.mono HB.out.size))
      clear hu0 f0 hu1 f1 hu2 f2 hu3 f3 b1 q0 q1 q2 q3
      go_wp2
      go_roundw
      case rel =>
        refine ⟨k + 1, by omega, by go_num, ?_, ((((HB1.out.setCell (p := ⟨w.heap.size, k * 4, none⟩) (Nat.le_refl _) _).setCell (p := ⟨w.heap.size, k * 4 + 1, none⟩) (Nat.le_refl _) _).setCell (p := ⟨w.heap.size, k * 4 + 2, none⟩) (Nat.le_refl _) _).setCell (p := ⟨w.heap.size, k * 4 + 3, none⟩) (Nat.le_refl _) _)⟩
        have h := ((((HR1.out.set (k * 4) (.int .i64 x0)).set (k * 4 + 1) (.int .i64 x1)).set (k * 4 + 2) (.int .i64 x2)).set (k * 4 + 3) (.int .i64 x3))
        rw [HNS.out, ← HXY.out, HST.out] at h
        exact h
      case measure => simp [intOf]; omega
    · obtain rfl : k = l.length := by omega
      rw [mixSt_all] at HR
      have hz := hrow.lt
      clear hrow hB
      go_wp2
      go_ret
      exact ⟨rfl, HR.out, HB.out, hz⟩
set_option maxRecDepth 100000 in
set_option maxHeartbeats 2000000 in
theorem eqSts_yes (a a' : Option Addr) (l : List StT) (c c' : Nat) (w : World) (hl : Sts w w.heap.size a l) (hl' : Sts w w.heap.size a' l) (hn : l.length ≤ 1048576) :
    Calls Try.prog 22 #[.slice a l.length c, .slice a' l.length c'] w fun e w' => e = .returned (.bool true) ∧ Below w.heap.size w w' := by
  have HL := Lib.hid hl
  have HL' := Lib.hid hl'
  clear hl hl'
  go_enter Try.func22, Try.ntmps22
  go_wp2
  go_loopw [5] (fun i wr => ∃ k : Nat, k ≤ l.length ∧ i = .int .i64 k ∧ Below w.heap.size w wr) (fun i _ => l.length - (intOf i).toNat)
  case atStart => exact ⟨0, Nat.zero_le _, rfl, Below.refl _ _⟩
  case round =>
    obtain ⟨k, hk, rfl, hB⟩ := hrel
    have HB := Lib.hid hB
    by_cases hlt : k < l.length
    · obtain ⟨b, o, rfl, hb, q0, q1, q2, q3⟩ := (HL.out.below hB (Nat.le_refl _)).at_ hlt
      obtain ⟨b', o', rfl, hb', p0, p1, p2, p3⟩ := (HL'.out.below hB (Nat.le_refl _)).at_ hlt
      clear hB
      have hi : (k : Int) < (l.length : Int) := by omega
      have hi0 : (0 : Int) ≤ (k : Int) := by omega
      generalize l[k].1 = x0 at *
      generalize l[k].2.1 = x1 at *
      generalize l[k].2.2.1 = x2 at *
      generalize l[k].2.2.2 = x3 at *
      go_wp2_with fail
      go_still_tail 8, (by kernel_rfl)
      change wpList _ _ _ _ _ wr.drew
      have HB1 := Lib.hid (HB.out.drew)
      generalize wr.drew = w2 at *
      go_wp2_with fail
      refine (eqSt_yes x0 x1 x2 x3 w2).mono ?_
      rintro e w3 ⟨rfl, b3⟩
      have HB3 := Lib.hid (HB1.out.trans (b3.mono HB1.out.size))
      clear b3
      go_wp2
      go_roundw
      case rel => exact ⟨k + 1, by omega, by go_num, HB3.out⟩
      case measure => simp [intOf]; omega
    · have hge : (l.length : Int) ≤ (k : Int) := by omega
      go_wp2
      go_ret
      exact ⟨rfl, HB.out⟩
/-- n structs of numbers from k on -/
def marksSt (k : Int) (n : Nat) : List StT := (List.range n).map fun (i : Nat) => (k + 4 * (i : Int), k + 4 * (i : Int) + 1, k + 4 * (i : Int) + 2, k + 4 * (i : Int) + 3)
theorem marksSt_length (k : Int) (n : Nat) : (marksSt k n).length = n := by simp [marksSt]
theorem marksSt_get (k : Int) (n i : Nat) (h : i < (marksSt k n).length) : (marksSt k n)[i] = (k + 4 * (i : Int), k + 4 * (i : Int) + 1, k + 4 * (i : Int) + 2, k + 4 * (i : Int) + 3) := by simp [marksSt]
def partSt (k : Int) (l : List StT) (i : Nat) : List StT := marksSt k i ++ l.drop i
theorem partSt_zero (k : Int) (l : List StT) : partSt k l 0 = l := by simp [partSt, marksSt]
theorem partSt_length (k : Int) (l : List StT) (i : Nat) (h : i ≤ l.length) : (partSt k l i).length = l.length := by simp [partSt, marksSt_length]; omega
theorem partSt_all (k : Int) (l : List StT) : partSt k l l.length = marksSt k l.length := by simp [partSt]
theorem partSt_step (k : Int) (l : List StT) (i : Nat) (h : i < l.length) : (partSt k l i).set i (k + 4 * (i : Int), k + 4 * (i : Int) + 1, k + 4 * (i : Int) + 2, k + 4 * (i : Int) + 3) = partSt k l (i + 1) := by
  unfold partSt
  rw [List.set_append_right _ _ (by rw [marksSt_length]; omega), marksSt_length, Nat.sub_self, List.drop_eq_getElem_cons h, List.set_cons_zero]
  unfold marksSt
  rw [List.range_succ, List.map_append, List.append_assoc]
  rfl
set_option maxRecDepth 100000 in
set_option maxHeartbeats 4000000 in
theorem markSts_any (a : Option Addr) (l : List StT) (c g : Nat) (k0 : Int) (w : World) (hl : AtSt w a g l) (hn : l.length ≤ 1048576) (h0 : 0 ≤ k0) (h1 : k0 ≤ 8388608) :
    Calls Try.prog 26 #[.slice a l.length c, .int .i64 k0] w fun e w' => e = .returned (.int .i64 (k0 + 4 * (l.length : Int))) ∧ AtSt w' a g (marksSt k0 l.length) ∧ Only g w w' := by
  have HL := Lib.hid hl
  clear hl
  go_enter Try.func26, Try.ntmps26
  go_wp2
  go_loopw [1, 5] (fun q i wr => ∃ k : Nat, k ≤ l.length ∧ i = .int .i64 k ∧ q = .int .i64 (k0 + 4 * (k : Int)) ∧ AtSt wr a g (partSt k0 l k) ∧ Only g w wr) (fun _ i _ => l.length - (intOf i).toNat)
  case atStart => exact ⟨0, Nat.zero_le _, rfl, by simp, by rw [partSt_zero]; exact HL.out, Only.refl g w⟩
  case round =>
    obtain ⟨k, hk, rfl, rfl, hat, ho⟩ := hrel
    have hpl := partSt_length k0 l k hk
    by_cases hlt : k < l.length
    · rcases hat with hat | ⟨rfl, hrow⟩
      · rw [hat] at hpl; simp at hpl; omega
      · have hnl := stv_length (partSt k0 l k)
        obtain ⟨z0, hc0⟩ : ∃ z, wr.cell? ⟨g, k * 4, none⟩ = some z := ⟨_, hrow.cell (k := k * 4) (by omega)⟩
        obtain ⟨z1, hc1⟩ : ∃ z, wr.cell? ⟨g, k * 4 + 1, none⟩ = some z := ⟨_, hrow.cell (k := k * 4 + 1) (by omega)⟩
        obtain ⟨z2, hc2⟩ : ∃ z, wr.cell? ⟨g, k * 4 + 2, none⟩ = some z := ⟨_, hrow.cell (k := k * 4 + 2) (by omega)⟩
        obtain ⟨z3, hc3⟩ : ∃ z, wr.cell? ⟨g, k * 4 + 3, none⟩ = some z := ⟨_, hrow.cell (k := k * 4 + 3) (by omega)⟩
        have hf0 := hrow.frozen (k * 4)
        have hf1 := hrow.frozen (k * 4 + 1)
        have hf2 := hrow.frozen (k * 4 + 2)
        have hf3 := hrow.frozen (k * 4 + 3)
        have HR := Lib.hid ((((hrow.set (k * 4) (.int .i64 (k0 + 4 * (k : Int)))).set (k * 4 + 1) (.int .i64 (k0 + 4 * (k : Int) + 1))).set (k * 4 + 2) (.int .i64 (k0 + 4 * (k : Int) + 2))).set (k * 4 + 3) (.int .i64 (k0 + 4 * (k : Int) + 3)))
        have HNS := Lib.hid (stv_set (partSt k0 l k) k (k0 + 4 * (k : Int)) (k0 + 4 * (k : Int) + 1) (k0 + 4 * (k : Int) + 2) (k0 + 4 * (k : Int) + 3) (by omega))
        have HO := Lib.hid ho
        have HS := Lib.hid (partSt_step k0 l k hlt)
        have hi : (k : Int) < (l.length : Int) := by omega
        have hi0 : (0 : Int) ≤ (k : Int) := by omega
        obtain ⟨m0, hm0⟩ : ∃ m, k0 + 4 * (k : Int) = m := ⟨_, rfl⟩
        have hmb : 0 ≤ m0 ∧ m0 ≤ 16777216 := by omega
        rw [hm0] at HR HNS HS
        have HM := Lib.hid hm0
        clear hpl hrow ho HL hnl
        rw [hm0]
        clear hm0
        have e2 : m0 + 2 = m0 + 1 + 1 := by omega
        rw [e2] at HR HNS HS
        have e3 : m0 + 3 = m0 + 1 + 1 + 1 := by omega
        rw [e3] at HR HNS HS
        have HE := Lib.hid (show k0 + 4 * (k : Int) = m0 from HM.out)
        clear e2 e3
        go_wp2
        go_roundw
        case rel => exact ⟨k + 1, by omega, by go_num, by have := HE.out; rw [Value.int.injEq]; exact ⟨rfl, by omega⟩, .inr ⟨rfl, by have := HR.out; rw [HNS.out, HS.out] at this; exact this⟩, ((((HO.out.setCell (k * 4) _).setCell (k * 4 + 1) _).setCell (k * 4 + 2) _).setCell (k * 4 + 3) _)⟩
        case measure => simp [intOf]; omega
    · obtain rfl : k = l.length := by omega
      have HP := Lib.hid (partSt_all k0 l)
      clear hpl HL
      go_wp2
      go_ret
      exact ⟨rfl, by rw [← HP.out]; exact hat, ho⟩
set_option maxRecDepth 100000 in
set_option maxHeartbeats 4000000 in
theorem heldSts_any (a : Option Addr) (n c : Nat) (k0 : Int) (w : World) (hl : Sts w w.heap.size a (marksSt k0 n)) (hn : n ≤ 1048576) (h0 : 0 ≤ k0) (h1 : k0 ≤ 8388608) :
    Calls Try.prog 40 #[.slice a n c, .int .i64 k0] w fun e w' => e = .returned (.int .i64 (k0 + 4 * (n : Int))) ∧ w = w' := by
  have HL := Lib.hid hl
  clear hl
  go_enter Try.func40, Try.ntmps40
  go_wp2
  go_loop [1, 5] (fun q i => ∃ k : Nat, k ≤ n ∧ i = .int .i64 k ∧ q = .int .i64 (k0 + 4 * (k : Int))) (fun _ i => n - (intOf i).toNat)
  case atStart => exact ⟨0, Nat.zero_le _, rfl, by simp⟩
  case round =>
    obtain ⟨k, hk, rfl, rfl⟩ := hrel
    by_cases hlt : k < n
    · obtain ⟨b, o, rfl, hb, c0, c1, c2, c3⟩ := HL.out.at_ (j := k) (by rw [marksSt_length]; exact hlt)
      rw [marksSt_get] at c0 c1 c2 c3
      simp only at c0 c1 c2 c3
      obtain ⟨m0, hm0⟩ : ∃ m, k0 + 4 * (k : Int) = m := ⟨_, rfl⟩
      have hmb : 0 ≤ m0 ∧ m0 ≤ 16777216 := by omega
      have hi : (k : Int) < (n : Int) := by omega
      have hi0 : (0 : Int) ≤ (k : Int) := by omega
      rw [hm0] at c0 c1 c2 c3
      rw [hm0]
      have HM := Lib.hid hm0
      clear hm0
      have e2 : m0 + 2 = m0 + 1 + 1 := by omega
      rw [e2] at c2
      have e3 : m0 + 3 = m0 + 1 + 1 + 1 := by omega
      rw [e3] at c3
      have HE := Lib.hid (show k0 + 4 * (k : Int) = m0 from HM.out)
      clear e2 e3
      go_wp2
      go_round
      case rel => exact ⟨k + 1, by omega, by go_num, by have := HE.out; rw [Value.int.injEq]; exact ⟨rfl, by omega⟩⟩
      case measure => simp [intOf]; omega
    · obtain rfl : k = n := by omega
      go_wp2
      go_ret
      exact ⟨rfl, rfl⟩
end Go.Proofs.Ythceffkkokgpnaa
