/- The laws' helpers on Share. -/
import Derived.Test.YtjpiiidjocilcaaShs
import Derived.Test.YtjpiiidjocilcaaBox
import Derived.Laws.MakeOwn
import Derived.StillTailTactics
namespace Go.Proofs.Ytjpiiidjocilcaa
open Go.RowKit
set_option linter.unusedVariables false
set_option linter.unusedSimpArgs false
theorem shv_set (l : List ShT) : ∀ (k : Nat) (x0 x1 : Int), k < l.length → ((shv l).set (k * 2) (.int .i64 x0)).set (k * 2 + 1) (.int .i64 x1) = shv (l.set k (x0, x1)) := by
  induction l with
  | nil => intro k x0 x1 h; simp at h
  | cons q r ih =>
    intro k x0 x1 h
    cases k with
    | zero => rfl
    | succ k =>
      have e : (k + 1) * 2 = k * 2 + 1 + 1 := by omega
      rw [shv_cons, e]
      show Value.int .i64 q.1 :: Value.int .i64 q.2 :: ((shv r).set (k * 2) (.int .i64 x0)).set (k * 2 + 1) (.int .i64 x1) = _
      rw [ih k x0 x1 (by simpa using h)]
      rfl
theorem shv_zero (n : Nat) : shv (List.replicate n ((0, 0) : ShT)) = List.replicate (n * 2) (.int .i64 0) := by
  induction n with
  | zero => rfl
  | succ n ih =>
    rw [List.replicate_succ, shv_cons, ih, show (n + 1) * 2 = n * 2 + 1 + 1 by omega, List.replicate_succ, List.replicate_succ]
/-- the first k copied, the others nothing -/
def mixSh (l : List ShT) (k : Nat) : List ShT := l.take k ++ List.replicate (l.length - k) (0, 0)
theorem mixSh_zero (l : List ShT) : mixSh l 0 = List.replicate l.length (0, 0) := by simp [mixSh]
theorem mixSh_len (l : List ShT) (k : Nat) (h : k ≤ l.length) : (mixSh l k).length = l.length := by simp [mixSh]; omega
theorem mixSh_all (l : List ShT) : mixSh l l.length = l := by simp [mixSh]
theorem mixSh_step (l : List ShT) (k : Nat) (h : k < l.length) : (mixSh l k).set k l[k] = mixSh l (k + 1) := by
  unfold mixSh
  rw [List.set_append_right _ _ (by simp; omega), List.length_take, Nat.min_eq_left (by omega), Nat.sub_self, show l.length - k = (l.length - (k + 1)) + 1 by omega, List.replicate_succ, List.set_cons_zero, List.take_succ_eq_append_getElem h, List.append_assoc]
  rfl
theorem infoSh : (Try.prog.info? 38).map (fun i => (i.zero, i.size, i.bytes)) = some (some (.agg #[.int .i64 0, .int .i64 0]), 2, 16) := by kernel_rfl
theorem run_make_sh (n : Nat) (h : n ≤ 1048576) (W : World) :
    (Instr.makeSlice 43 (.int .i64 (n : Int)) (.int .i64 (n : Int))).run Try.prog W = .ok (.slice (some ⟨W.heap.size, 0, none⟩) n n) (W.alloc (.cells (madeCells #[.int .i64 0, .int .i64 0] (n * 2)) 38)) := by
  obtain ⟨i, hi, hzz⟩ := Option.map_eq_some_iff.1 infoSh
  simp only [Prod.mk.injEq] at hzz
  obtain ⟨hz, hs, hb⟩ := hzz
  have hr := run_make (P := Try.prog) W 43 38 i (.agg #[.int .i64 0, .int .i64 0]) Try.underlying43 hi hz .i64 .i64 n n (by omega) (Int.le_refl _) (by rw [hb]; omega) (by omega)
  simp only [Int.toNat_natCast, hs] at hr
  exact hr
theorem row_made_sh (n : Nat) (W : World) : Row (W.alloc (.cells (madeCells #[.int .i64 0, .int .i64 0] (n * 2)) 38)) W.heap.size 38 (shv (List.replicate n ((0, 0) : ShT))) := by
  refine ⟨_, heap_alloc_new W _, fun k hk => ?_⟩
  rw [shv_length, List.length_replicate] at hk
  have e : (shv (List.replicate n ((0, 0) : ShT)))[k]? = some (.int .i64 0) := by rw [shv_zero]; simp [hk]
  rw [← List.getElem?_eq_getElem, e]
  have hm : k % 2 = 0 ∨ k % 2 = 1 := by omega
  rcases hm with hm | hm <;> simp [madeCells, hk, hm]
theorem szSh_any (a : Option Addr) (n c : Nat) (left : Int) (w : World) (hn : n ≤ maxLen) (h0 : 0 ≤ left) (h1 : left ≤ 1048576) :
    Calls Try.prog 37 #[.slice a n c, .int .i64 left] w fun e w' => e = .returned (.int .i64 (if (n : Int) ≤ left then left - n else -1)) ∧ w = w' := by
  unfold maxLen at hn
  by_cases h : (n : Int) ≤ left
  · rw [if_pos h]
    go_enter Try.func37, Try.ntmps37
    go_wp2
    go_ret
    exact ⟨rfl, rfl⟩
  · rw [if_neg h]
    go_enter Try.func37, Try.ntmps37
    go_wp2
    go_ret
    exact ⟨rfl, rfl⟩
set_option maxHeartbeats 1000000 in
theorem toSh_is (x0 x1 : Int) (w : World) : Calls Try.prog 42 #[.agg #[.int .i64 x0, .int .i64 x1]] w fun e w' => e = .returned (.agg #[.int .i64 x0, .int .i64 x1]) ∧ Below w.heap.size w w' := by
  go_enter Try.func42, Try.ntmps42
  go_wp2
  refine bodyPost_ret (v := .agg #[.int .i64 x0, .int .i64 x1]) (by simp [results, Try.results42, go_sem]) rfl ⟨rfl, ?_⟩
  have b3 : ∀ o1 o2 o3, Below w.heap.size w (((w.alloc o1).alloc o2).alloc o3) := fun o1 o2 o3 => (((Below.refl _ _).alloc (Nat.le_refl _) _).alloc (by simp) _).alloc (by simp; omega) _
  repeat' first | exact b3 _ _ _ | refine Below.setCell ?_ (by simp <;> omega) _
set_option maxHeartbeats 1000000 in
theorem eqSh_yes (x0 x1 : Int) (w : World) : Calls Try.prog 26 #[.agg #[.int .i64 x0, .int .i64 x1], .agg #[.int .i64 x0, .int .i64 x1]] w fun e w' => e = .returned (.bool true) ∧ Below w.heap.size w w' := by
  go_enter Try.func26, Try.ntmps26
  go_wp2
  go_ret
  exact ⟨rfl, ((Below.refl _ _).alloc (Nat.le_refl _) _).alloc (by simp) _⟩
set_option maxRecDepth 100000 in
set_option maxHeartbeats 4000000 in
theorem toShs_any (a : Option Addr) (l : List ShT) (c : Nat) (w : World) (hl : Shs w w.heap.size a l) (hn : l.length ≤ 1048576) :
    Calls Try.prog 39 #[.slice a l.length c] w fun e w' => e = .returned (.slice (some ⟨w.heap.size, 0, none⟩) l.length l.length) ∧ Row w' w.heap.size 38 (shv l) ∧ Below w.heap.size w w' ∧ w.heap.size < w'.heap.size := by
  have HL := Lib.hid hl
  clear hl
  have hmk := fun W => run_make_sh l.length (by omega) W
  have HR0 := Lib.hid (row_made_sh l.length w)
  go_enter Try.func39, Try.ntmps39
  go_wp2
  clear hmk
  go_loopw [4] (fun i wr => ∃ k : Nat, k ≤ l.length ∧ i = .int .i64 k ∧ Row wr w.heap.size 38 (shv (mixSh l k)) ∧ Below w.heap.size w wr) (fun i _ => l.length - (intOf i).toNat)
  case atStart => exact ⟨0, Nat.zero_le _, rfl, by rw [mixSh_zero]; exact HR0.out, (Below.refl _ _).alloc (Nat.le_refl _) _⟩
  case round =>
    obtain ⟨k, hk, rfl, hrow, hB⟩ := hrel
    have HR := Lib.hid hrow
    have HB := Lib.hid hB
    by_cases hlt : k < l.length
    · obtain ⟨b, o, rfl, hb, q0, q1⟩ := (HL.out.below hB (Nat.le_refl _)).at_ hlt
      have hml := mixSh_len l k hk
      have hnl := shv_length (mixSh l k)
      obtain ⟨u0, hu0⟩ : ∃ u, wr.cell? ⟨w.heap.size, k * 2, none⟩ = some u := ⟨_, hrow.cell (k := k * 2) (by omega)⟩
      obtain ⟨u1, hu1⟩ : ∃ u, wr.cell? ⟨w.heap.size, k * 2 + 1, none⟩ = some u := ⟨_, hrow.cell (k := k * 2 + 1) (by omega)⟩
      have f0 := hrow.frozen (k * 2)
      have f1 := hrow.frozen (k * 2 + 1)
      have hz := hrow.lt
      have HST := Lib.hid (mixSh_step l k hlt)
      have HNS := Lib.hid (fun x0 x1 => shv_set (mixSh l k) k x0 x1 (by omega))
      clear hrow hB hml hnl
      have hi : (k : Int) < (l.length : Int) := by omega
      have hi0 : (0 : Int) ≤ (k : Int) := by omega
      obtain ⟨x0, hx0⟩ : ∃ x, l[k].1 = x := ⟨_, rfl⟩
      rw [hx0] at q0
      obtain ⟨x1, hx1⟩ : ∃ x, l[k].2 = x := ⟨_, rfl⟩
      rw [hx1] at q1
      have HXY := Lib.hid (show l[k] = (x0, x1) by rw [← hx0, ← hx1])
      clear hx0 hx1
      go_wp2_with fail
      refine (toSh_is x0 x1 wr).mono ?_
      rintro e w1 ⟨rfl, b1⟩
      have hu0' : w1.cell? ⟨w.heap.size, k * 2, none⟩ = some u0 := (b1.cell (p := ⟨w.heap.size, k * 2, none⟩) hz).trans hu0
      have hu1' : w1.cell? ⟨w.heap.size, k * 2 + 1, none⟩ = some u1 := (b1.cell (p := ⟨w.heap.size, k * 2 + 1, none⟩) hz).trans hu1
      have f0' : w1.frozen? ⟨w.heap.size, k * 2, none⟩ = false := (b1.frozen (p := ⟨w.heap.size, k * 2, none⟩) hz).trans f0
      have f1' : w1.frozen? ⟨w.heap.size, k * 2 + 1, none⟩ = false := (b1.frozen (p := ⟨w.heap.size, k * 2 + 1, none⟩) hz).trans f1
      have HR1 := Lib.hid (HR.out.of_block (b1.block w.heap.size hz))
      have HB1 := Lib.hid (HB.out.trans (b1.mono HB.out.size))
      clear hu0 f0 hu1 f1 b1 q0 q1
      go_wp2
      go_roundw
      case rel =>
        refine ⟨k + 1, by omega, by go_num, ?_, ((HB1.out.setCell (p := ⟨w.heap.size, k * 2, none⟩) (Nat.le_refl _) _).setCell (p := ⟨w.heap.size, k * 2 + 1, none⟩) (Nat.le_refl _) _)⟩
        have h := ((HR1.out.set (k * 2) (.int .i64 x0)).set (k * 2 + 1) (.int .i64 x1))
        rw [HNS.out, ← HXY.out, HST.out] at h
        exact h
      case measure => simp [intOf]; omega
    · obtain rfl : k = l.length := by omega
      rw [mixSh_all] at HR
      have hz := hrow.lt
      clear hrow hB
      go_wp2
      go_ret
      exact ⟨rfl, HR.out, HB.out, hz⟩
set_option maxRecDepth 100000 in
set_option maxHeartbeats 2000000 in
theorem eqShs_yes (a a' : Option Addr) (l : List ShT) (c c' : Nat) (w : World) (hl : Shs w w.heap.size a l) (hl' : Shs w w.heap.size a' l) (hn : l.length ≤ 1048576) :
    Calls Try.prog 29 #[.slice a l.length c, .slice a' l.length c'] w fun e w' => e = .returned (.bool true) ∧ Below w.heap.size w w' := by
  have HL := Lib.hid hl
  have HL' := Lib.hid hl'
  clear hl hl'
  go_enter Try.func29, Try.ntmps29
  go_wp2
  go_loopw [5] (fun i wr => ∃ k : Nat, k ≤ l.length ∧ i = .int .i64 k ∧ Below w.heap.size w wr) (fun i _ => l.length - (intOf i).toNat)
  case atStart => exact ⟨0, Nat.zero_le _, rfl, Below.refl _ _⟩
  case round =>
    obtain ⟨k, hk, rfl, hB⟩ := hrel
    have HB := Lib.hid hB
    by_cases hlt : k < l.length
    · obtain ⟨b, o, rfl, hb, q0, q1⟩ := (HL.out.below hB (Nat.le_refl _)).at_ hlt
      obtain ⟨b', o', rfl, hb', p0, p1⟩ := (HL'.out.below hB (Nat.le_refl _)).at_ hlt
      clear hB
      have hi : (k : Int) < (l.length : Int) := by omega
      have hi0 : (0 : Int) ≤ (k : Int) := by omega
      generalize l[k].1 = x0 at *
      generalize l[k].2 = x1 at *
      go_wp2_with fail
      go_still_tail 8, (by kernel_rfl)
      change wpList _ _ _ _ _ wr.drew
      have HB1 := Lib.hid (HB.out.drew)
      generalize wr.drew = w2 at *
      go_wp2_with fail
      refine (eqSh_yes x0 x1 w2).mono ?_
      rintro e w3 ⟨rfl, b3⟩
      have HB3 := Lib.hid (HB1.out.trans (b3.mono HB1.out.size))
      clear b3
      go_wp2
      go_roundw
      case rel => exact ⟨k + 1, by omega, by go_num, HB3.out⟩
      case measure => simp [intOf]; omega
    · have hge : (l.length : Int) ≤ (k : Int) := by omega
      go_wp2
      go_ret
      exact ⟨rfl, HB.out⟩
/-- n structs of numbers from k on -/
def marksSh (k : Int) (n : Nat) : List ShT := (List.range n).map fun (i : Nat) => (k + 2 * (i : Int), k + 2 * (i : Int) + 1)
theorem marksSh_length (k : Int) (n : Nat) : (marksSh k n).length = n := by simp [marksSh]
theorem marksSh_get (k : Int) (n i : Nat) (h : i < (marksSh k n).length) : (marksSh k n)[i] = (k + 2 * (i : Int), k + 2 * (i : Int) + 1) := by simp [marksSh]
def partSh (k : Int) (l : List ShT) (i : Nat) : List ShT := marksSh k i ++ l.drop i
theorem partSh_zero (k : Int) (l : List ShT) : partSh k l 0 = l := by simp [partSh, marksSh]
theorem partSh_length (k : Int) (l : List ShT) (i : Nat) (h : i ≤ l.length) : (partSh k l i).length = l.length := by simp [partSh, marksSh_length]; omega
theorem partSh_all (k : Int) (l : List ShT) : partSh k l l.length = marksSh k l.length := by simp [partSh]
theorem partSh_step (k : Int) (l : List ShT) (i : Nat) (h : i < l.length) : (partSh k l i).set i (k + 2 * (i : Int), k + 2 * (i : Int) + 1) = partSh k l (i + 1) := by
  unfold partSh
  rw [List.set_append_right _ _ (by rw [marksSh_length]; omega), marksSh_length, Nat.sub_self, List.drop_eq_getElem_cons h, List.set_cons_zero]
  unfold marksSh
  rw [List.range_succ, List.map_append, List.append_assoc]
  rfl
set_option maxRecDepth 100000 in
set_option maxHeartbeats 4000000 in
theorem markShs_any (a : Option Addr) (l : List ShT) (c g : Nat) (k0 : Int) (w : World) (hl : AtSh w a g l) (hn : l.length ≤ 1048576) (h0 : 0 ≤ k0) (h1 : k0 ≤ 4194304) :
    Calls Try.prog 30 #[.slice a l.length c, .int .i64 k0] w fun e w' => e = .returned (.int .i64 (k0 + 2 * (l.length : Int))) ∧ AtSh w' a g (marksSh k0 l.length) ∧ Only g w w' := by
  have HL := Lib.hid hl
  clear hl
  go_enter Try.func30, Try.ntmps30
  go_wp2
  go_loopw [1, 5] (fun q i wr => ∃ k : Nat, k ≤ l.length ∧ i = .int .i64 k ∧ q = .int .i64 (k0 + 2 * (k : Int)) ∧ AtSh wr a g (partSh k0 l k) ∧ Only g w wr) (fun _ i _ => l.length - (intOf i).toNat)
  case atStart => exact ⟨0, Nat.zero_le _, rfl, by simp, by rw [partSh_zero]; exact HL.out, Only.refl g w⟩
  case round =>
    obtain ⟨k, hk, rfl, rfl, hat, ho⟩ := hrel
    have hpl := partSh_length k0 l k hk
    by_cases hlt : k < l.length
    · rcases hat with hat | ⟨rfl, hrow⟩
      · rw [hat] at hpl; simp at hpl; omega
      · have hnl := shv_length (partSh k0 l k)
        obtain ⟨z0, hc0⟩ : ∃ z, wr.cell? ⟨g, k * 2, none⟩ = some z := ⟨_, hrow.cell (k := k * 2) (by omega)⟩
        obtain ⟨z1, hc1⟩ : ∃ z, wr.cell? ⟨g, k * 2 + 1, none⟩ = some z := ⟨_, hrow.cell (k := k * 2 + 1) (by omega)⟩
        have hf0 := hrow.frozen (k * 2)
        have hf1 := hrow.frozen (k * 2 + 1)
        have HR := Lib.hid ((hrow.set (k * 2) (.int .i64 (k0 + 2 * (k : Int)))).set (k * 2 + 1) (.int .i64 (k0 + 2 * (k : Int) + 1)))
        have HNS := Lib.hid (shv_set (partSh k0 l k) k (k0 + 2 * (k : Int)) (k0 + 2 * (k : Int) + 1) (by omega))
        have HO := Lib.hid ho
        have HS := Lib.hid (partSh_step k0 l k hlt)
        have hi : (k : Int) < (l.length : Int) := by omega
        have hi0 : (0 : Int) ≤ (k : Int) := by omega
        obtain ⟨m0, hm0⟩ : ∃ m, k0 + 2 * (k : Int) = m := ⟨_, rfl⟩
        have hmb : 0 ≤ m0 ∧ m0 ≤ 16777216 := by omega
        rw [hm0] at HR HNS HS
        have HM := Lib.hid hm0
        clear hpl hrow ho HL hnl
        rw [hm0]
        clear hm0
        have HE := Lib.hid (show k0 + 2 * (k : Int) = m0 from HM.out)
        clear hi0
        go_wp2
        go_roundw
        case rel => exact ⟨k + 1, by omega, by go_num, by have := HE.out; rw [Value.int.injEq]; exact ⟨rfl, by omega⟩, .inr ⟨rfl, by have := HR.out; rw [HNS.out, HS.out] at this; exact this⟩, ((HO.out.setCell (k * 2) _).setCell (k * 2 + 1) _)⟩
        case measure => simp [intOf]; omega
    · obtain rfl : k = l.length := by omega
      have HP := Lib.hid (partSh_all k0 l)
      clear hpl HL
      go_wp2
      go_ret
      exact ⟨rfl, by rw [← HP.out]; exact hat, ho⟩
set_option maxRecDepth 100000 in
set_option maxHeartbeats 4000000 in
theorem heldShs_any (a : Option Addr) (n c : Nat) (k0 : Int) (w : World) (hl : Shs w w.heap.size a (marksSh k0 n)) (hn : n ≤ 1048576) (h0 : 0 ≤ k0) (h1 : k0 ≤ 4194304) :
    Calls Try.prog 31 #[.slice a n c, .int .i64 k0] w fun e w' => e = .returned (.int .i64 (k0 + 2 * (n : Int))) ∧ w = w' := by
  have HL := Lib.hid hl
  clear hl
  go_enter Try.func31, Try.ntmps31
  go_wp2
  go_loop [1, 5] (fun q i => ∃ k : Nat, k ≤ n ∧ i = .int .i64 k ∧ q = .int .i64 (k0 + 2 * (k : Int))) (fun _ i => n - (intOf i).toNat)
  case atStart => exact ⟨0, Nat.zero_le _, rfl, by simp⟩
  case round =>
    obtain ⟨k, hk, rfl, rfl⟩ := hrel
    by_cases hlt : k < n
    · obtain ⟨b, o, rfl, hb, c0, c1⟩ := HL.out.at_ (j := k) (by rw [marksSh_length]; exact hlt)
      rw [marksSh_get] at c0 c1
      simp only at c0 c1
      obtain ⟨m0, hm0⟩ : ∃ m, k0 + 2 * (k : Int) = m := ⟨_, rfl⟩
      have hmb : 0 ≤ m0 ∧ m0 ≤ 16777216 := by omega
      have hi : (k : Int) < (n : Int) := by omega
      have hi0 : (0 : Int) ≤ (k : Int) := by omega
      rw [hm0] at c0 c1
      rw [hm0]
      have HM := Lib.hid hm0
      clear hm0
      have HE := Lib.hid (show k0 + 2 * (k : Int) = m0 from HM.out)
      go_wp2
      go_round
      case rel => exact ⟨k + 1, by omega, by go_num, by have := HE.out; rw [Value.int.injEq]; exact ⟨rfl, by omega⟩⟩
      case measure => simp [intOf]; omega
    · obtain rfl : k = n := by omega
      go_wp2
      go_ret
      exact ⟨rfl, rfl⟩
end Go.Proofs.Ytjpiiidjocilcaa
