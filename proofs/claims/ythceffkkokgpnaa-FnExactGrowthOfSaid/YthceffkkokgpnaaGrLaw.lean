/- The laws' helpers on pairs of numbers. -/
import Derived.Test.YthceffkkokgpnaaGrs
import Derived.Test.YthceffkkokgpnaaBox
import Derived.Laws.MakeOwn
import Derived.StillTailTactics
import Derived.BigQuiet
import Derived.Deep.QuietTactic
namespace Go.Proofs.Ythceffkkokgpnaa
open Go.RowKit
set_option linter.unusedVariables false
set_option linter.unusedSimpArgs false
theorem grv_set (l : List GrT) : ∀ (k : Nat) (x0 x1 : Int), k < l.length → ((grv l).set (k * 2) (.int .i64 x0)).set (k * 2 + 1) (.int .i64 x1) = grv (l.set k (x0, x1)) := by
  induction l with
  | nil => intro k x0 x1 h; simp at h
  | cons q r ih =>
    intro k x0 x1 h
    cases k with
    | zero => rfl
    | succ k =>
      have e : (k + 1) * 2 = k * 2 + 1 + 1 := by omega
      rw [grv_cons, e]
      show Value.int .i64 q.1 :: Value.int .i64 q.2 :: ((grv r).set (k * 2) (.int .i64 x0)).set (k * 2 + 1) (.int .i64 x1) = _
      rw [ih k x0 x1 (by simpa using h)]
      rfl
theorem grv_zero (n : Nat) : grv (List.replicate n ((0, 0) : GrT)) = List.replicate (n * 2) (.int .i64 0) := by
  induction n with
  | zero => rfl
  | succ n ih =>
    rw [List.replicate_succ, grv_cons, ih, show (n + 1) * 2 = n * 2 + 1 + 1 by omega, List.replicate_succ, List.replicate_succ]
theorem infoGr : (Try.prog.info? 109).map (fun i => (i.zero, i.size, i.bytes)) = some (some (.agg #[.int .i64 0, .int .i64 0]), 2, 16) := by kernel_rfl
theorem run_make_gr (n : Nat) (h : n ≤ 1048576) (W : World) :
    (Instr.makeSlice 44 (.int .i64 (n : Int)) (.int .i64 (n : Int))).run Try.prog W = .ok (.slice (some ⟨W.heap.size, 0, none⟩) n n) (W.alloc (.cells (madeCells #[.int .i64 0, .int .i64 0] (n * 2)) 109)) := by
  obtain ⟨i, hi, hzz⟩ := Option.map_eq_some_iff.1 infoGr
  simp only [Prod.mk.injEq] at hzz
  obtain ⟨hz, hs, hb⟩ := hzz
  have hr := run_make (P := Try.prog) W 44 109 i (.agg #[.int .i64 0, .int .i64 0]) Try.underlying44 hi hz .i64 .i64 n n (by omega) (Int.le_refl _) (by rw [hb]; omega) (by omega)
  simp only [Int.toNat_natCast, hs] at hr
  exact hr
theorem row_made_gr (n : Nat) (W : World) : Row (W.alloc (.cells (madeCells #[.int .i64 0, .int .i64 0] (n * 2)) 109)) W.heap.size 109 (grv (List.replicate n ((0, 0) : GrT))) := by
  refine ⟨_, heap_alloc_new W _, fun k hk => ?_⟩
  rw [grv_length, List.length_replicate] at hk
  have e : (grv (List.replicate n ((0, 0) : GrT)))[k]? = some (.int .i64 0) := by rw [grv_zero]; simp [hk]
  rw [← List.getElem?_eq_getElem, e]
  have hm : k % 2 = 0 ∨ k % 2 = 1 := by omega
  rcases hm with hm | hm <;> simp [madeCells, hk, hm]
set_option maxRecDepth 100000 in
set_option maxHeartbeats 4000000 in
theorem eqGr_yes (x0 x1 : Int) (w : World) : Calls Try.prog 83 #[.agg #[.int .i64 x0, .int .i64 x1], .agg #[.int .i64 x0, .int .i64 x1]] w fun e w' => e = .returned (.bool true) ∧ Below w.heap.size w w' := by
  have B0 := Lib.hid ((below_all w (.cells #[.int .i64 x0, .int .i64 x1] 109)).alloc (by simp) (.cells #[.int .i64 x0, .int .i64 x1] 109))
  obtain ⟨W, hW⟩ : ∃ q, (w.alloc (.cells #[.int .i64 x0, .int .i64 x1] 109)).alloc (.cells #[.int .i64 x0, .int .i64 x1] 109) = q := ⟨_, rfl⟩
  have a0 : W.cell? ⟨w.heap.size, 0, none⟩ = some (.int .i64 x0) := by rw [← hW]; simp [go_sem]
  have a1 : W.cell? ⟨w.heap.size, 1, none⟩ = some (.int .i64 x1) := by rw [← hW]; simp [go_sem]
  have c0 : W.cell? ⟨w.heap.size + 1, 0, none⟩ = some (.int .i64 x0) := by rw [← hW]; simp [go_sem]
  have c1 : W.cell? ⟨w.heap.size + 1, 1, none⟩ = some (.int .i64 x1) := by rw [← hW]; simp [go_sem]
  have HC := Lib.hid (And.intro (And.intro a0 a1) (And.intro c0 c1))
  have HW := Lib.hid hW
  rw [hW] at B0
  clear hW a0 a1 c0 c1
  go_enter Try.func83, Try.ntmps83
  go_wp2
  rw [HW.out]
  go_loopw [5] (fun i wr => ∃ k : Nat, k ≤ 2 ∧ i = .int .i64 k ∧ Drew W wr) (fun i _ => 2 - (intOf i).toNat)
  case atStart => exact ⟨0, by omega, rfl, Drew.refl _⟩
  case round =>
    obtain ⟨k, hk, rfl, hd⟩ := hrel
    have HD := Lib.hid hd
    have a0 := (hd.cell ⟨w.heap.size, 0, none⟩).trans HC.out.1.1
    have a1 := (hd.cell ⟨w.heap.size, 1, none⟩).trans HC.out.1.2
    have c0 := (hd.cell ⟨w.heap.size + 1, 0, none⟩).trans HC.out.2.1
    have c1 := (hd.cell ⟨w.heap.size + 1, 1, none⟩).trans HC.out.2.2
    clear hd
    have hcase : k = 0 ∨ k = 1 ∨ k = 2 := by omega
    rcases hcase with rfl | rfl | rfl
    · have hx : (x0 != x0) = false := by simp
      go_wp2_with fail
      go_quiet (fail)
      go_wp2
      go_roundw
      case rel => exact ⟨1, by omega, rfl, HD.out.more _⟩
      case measure => simp [intOf]
    · have hx : (x1 != x1) = false := by simp
      go_wp2_with fail
      go_quiet (fail)
      go_wp2
      go_roundw
      case rel => exact ⟨2, by omega, rfl, HD.out.more _⟩
      case measure => simp [intOf]
    · go_wp2
      go_ret
      exact ⟨rfl, B0.out.trans (HD.out.below _)⟩
set_option maxRecDepth 100000 in
set_option maxHeartbeats 2000000 in
theorem eqGrs_yes (a a' : Option Addr) (l : List GrT) (c c' : Nat) (w : World) (hl : Grs w w.heap.size a l) (hl' : Grs w w.heap.size a' l) (hn : l.length ≤ 1048576) :
    Calls Try.prog 31 #[.slice a l.length c, .slice a' l.length c'] w fun e w' => e = .returned (.bool true) ∧ Below w.heap.size w w' := by
  have HL := Lib.hid hl
  have HL' := Lib.hid hl'
  clear hl hl'
  go_enter Try.func31, Try.ntmps31
  go_wp2
  go_loopw [5] (fun i wr => ∃ k : Nat, k ≤ l.length ∧ i = .int .i64 k ∧ Below w.heap.size w wr) (fun i _ => l.length - (intOf i).toNat)
  case atStart => exact ⟨0, Nat.zero_le _, rfl, Below.refl _ _⟩
  case round =>
    obtain ⟨k, hk, rfl, hB⟩ := hrel
    have HB := Lib.hid hB
    by_cases hlt : k < l.length
    · obtain ⟨b, o, rfl, hb, q0, q1⟩ := (HL.out.below hB (Nat.le_refl _)).at_ hlt
      obtain ⟨b', o', rfl, hb', p0, p1⟩ := (HL'.out.below hB (Nat.le_refl _)).at_ hlt
      clear hB
      have hi : (k : Int) < (l.length : Int) := by omega
      have hi0 : (0 : Int) ≤ (k : Int) := by omega
      generalize l[k].1 = x0 at *
      generalize l[k].2 = x1 at *
      go_wp2_with fail
      go_still_tail 8, (by kernel_rfl)
      change wpList _ _ _ _ _ wr.drew
      have HB1 := Lib.hid (HB.out.drew)
      generalize wr.drew = w2 at *
      go_wp2_with fail
      refine (eqGr_yes x0 x1 w2).mono ?_
      rintro e w3 ⟨rfl, b3⟩
      have HB3 := Lib.hid (HB1.out.trans (b3.mono HB1.out.size))
      clear b3
      go_wp2
      go_roundw
      case rel => exact ⟨k + 1, by omega, by go_num, HB3.out⟩
      case measure => simp [intOf]; omega
    · have hge : (l.length : Int) ≤ (k : Int) := by omega
      go_wp2
      go_ret
      exact ⟨rfl, HB.out⟩
/-- n structs of numbers from k on -/
def marksGr (k : Int) (n : Nat) : List GrT := (List.range n).map fun (i : Nat) => (k + 2 * (i : Int), k + 2 * (i : Int) + 1)
theorem marksGr_length (k : Int) (n : Nat) : (marksGr k n).length = n := by simp [marksGr]
theorem marksGr_get (k : Int) (n i : Nat) (h : i < (marksGr k n).length) : (marksGr k n)[i] = (k + 2 * (i : Int), k + 2 * (i : Int) + 1) := by simp [marksGr]
def partGr (k : Int) (l : List GrT) (i : Nat) : List GrT := marksGr k i ++ l.drop i
theorem partGr_zero (k : Int) (l : List GrT) : partGr k l 0 = l := by simp [partGr, marksGr]
theorem partGr_length (k : Int) (l : List GrT) (i : Nat) (h : i ≤ l.length) : (partGr k l i).length = l.length := by simp [partGr, marksGr_length]; omega
theorem partGr_all (k : Int) (l : List GrT) : partGr k l l.length = marksGr k l.length := by simp [partGr]
theorem partGr_step (k : Int) (l : List GrT) (i : Nat) (h : i < l.length) : (partGr k l i).set i (k + 2 * (i : Int), k + 2 * (i : Int) + 1) = partGr k l (i + 1) := by
  unfold partGr
  rw [List.set_append_right _ _ (by rw [marksGr_length]; omega), marksGr_length, Nat.sub_self, List.drop_eq_getElem_cons h, List.set_cons_zero]
  unfold marksGr
  rw [List.range_succ, List.map_append, List.append_assoc]
  rfl
set_option maxRecDepth 100000 in
set_option maxHeartbeats 4000000 in
theorem markGrs_any (a : Option Addr) (l : List GrT) (c g : Nat) (k0 : Int) (w : World) (hl : AtGr w a g l) (hn : l.length ≤ 1048576) (h0 : 0 ≤ k0) (h1 : k0 ≤ 8388608) :
    Calls Try.prog 32 #[.slice a l.length c, .int .i64 k0] w fun e w' => e = .returned (.int .i64 (k0 + 2 * (l.length : Int))) ∧ AtGr w' a g (marksGr k0 l.length) ∧ Only g w w' := by
  have HL := Lib.hid hl
  clear hl
  go_enter Try.func32, Try.ntmps32
  go_wp2
  go_loopw [1, 5] (fun q i wr => ∃ k : Nat, k ≤ l.length ∧ i = .int .i64 k ∧ q = .int .i64 (k0 + 2 * (k : Int)) ∧ AtGr wr a g (partGr k0 l k) ∧ Only g w wr) (fun _ i _ => l.length - (intOf i).toNat)
  case atStart => exact ⟨0, Nat.zero_le _, rfl, by simp, by rw [partGr_zero]; exact HL.out, Only.refl g w⟩
  case round =>
    obtain ⟨k, hk, rfl, rfl, hat, ho⟩ := hrel
    have hpl := partGr_length k0 l k hk
    by_cases hlt : k < l.length
    · rcases hat with hat | ⟨rfl, hrow⟩
      · rw [hat] at hpl; simp at hpl; omega
      · have hnl := grv_length (partGr k0 l k)
        have HRW := Lib.hid hrow
        have HNL := Lib.hid hnl
        have HNS := Lib.hid (grv_set (partGr k0 l k) k (k0 + 2 * (k : Int)) (k0 + 2 * (k : Int) + 1) (by omega))
        have HO := Lib.hid ho
        have HS := Lib.hid (partGr_step k0 l k hlt)
        have HPL := Lib.hid hpl
        have hi : (k : Int) < (l.length : Int) := by omega
        have hi0 : (0 : Int) ≤ (k : Int) := by omega
        obtain ⟨m0, hm0⟩ : ∃ m, k0 + 2 * (k : Int) = m := ⟨_, rfl⟩
        have hmb : 0 ≤ m0 ∧ m0 ≤ 16777216 := by omega
        rw [hm0] at HNS HS
        have HM := Lib.hid hm0
        clear hpl hrow ho HL hnl
        rw [hm0]
        clear hm0
        go_wp2
        go_loopw [1, 6] (fun q j wq => ∃ m : Nat, m ≤ 2 ∧ j = .int .i64 m ∧ q = .int .i64 (m0 + (m : Int)) ∧ Row wq g 109 (if m = 0 then grv (partGr k0 l k) else if m = 1 then (grv (partGr k0 l k)).set (k * 2) (.int .i64 m0) else ((grv (partGr k0 l k)).set (k * 2) (.int .i64 m0)).set (k * 2 + 1) (.int .i64 (m0 + 1))) ∧ Only g w wq) (fun _ j _ => 2 - (intOf j).toNat)
        case atStart => exact ⟨0, by omega, rfl, by simp, HRW.out, HO.out⟩
        case round =>
          obtain ⟨m, hm, rfl, rfl, hrow, ho⟩ := hrel
          have HO2 := Lib.hid ho
          have hlen := HNL.out
          have hpl := HPL.out
          have hcase : m = 0 ∨ m = 1 ∨ m = 2 := by omega
          rcases hcase with rfl | rfl | rfl
          · rw [if_pos rfl] at hrow
            obtain ⟨z0, hc0⟩ : ∃ z, wr.cell? ⟨g, k * 2, none⟩ = some z := ⟨_, hrow.cell (k := k * 2) (by omega)⟩
            have hf0 := hrow.frozen (k * 2)
            have HR := Lib.hid (hrow.set (k * 2) (.int .i64 m0))
            clear hrow ho hlen hpl
            go_wp2
            go_roundw
            case rel => exact ⟨1, by omega, rfl, by simp, by rw [if_neg (by omega), if_pos rfl]; exact HR.out, HO2.out.setCell (k * 2) _⟩
            case measure => simp [intOf]
          · rw [if_neg (by omega), if_pos rfl] at hrow
            obtain ⟨z0, hc0⟩ : ∃ z, wr.cell? ⟨g, k * 2 + 1, none⟩ = some z := ⟨_, hrow.cell (k := k * 2 + 1) (by simp; omega)⟩
            have hf0 := hrow.frozen (k * 2 + 1)
            have HR := Lib.hid (hrow.set (k * 2 + 1) (.int .i64 (m0 + 1)))
            clear hrow ho hlen hpl
            go_wp2
            go_roundw
            case rel => exact ⟨2, by omega, rfl, by rw [Value.int.injEq]; exact ⟨rfl, by omega⟩, by rw [if_neg (by omega), if_neg (by omega)]; exact HR.out, HO2.out.setCell (k * 2 + 1) _⟩
            case measure => simp [intOf]
          · rw [if_neg (by omega), if_neg (by omega), HNS.out, HS.out] at hrow
            have HR := Lib.hid hrow
            clear hrow ho hlen hpl
            go_wp2
            go_roundw
            case rel => exact ⟨k + 1, by omega, by go_num, by have := HM.out; rw [Value.int.injEq]; exact ⟨rfl, by omega⟩, .inr ⟨rfl, HR.out⟩, HO2.out⟩
            case measure => simp [intOf]; omega
    · obtain rfl : k = l.length := by omega
      have HP := Lib.hid (partGr_all k0 l)
      clear hpl HL
      go_wp2
      go_ret
      exact ⟨rfl, by rw [← HP.out]; exact hat, ho⟩
set_option maxRecDepth 100000 in
set_option maxHeartbeats 4000000 in
theorem heldGrs_any (a : Option Addr) (n c : Nat) (k0 : Int) (w : World) (hl : Grs w w.heap.size a (marksGr k0 n)) (hn : n ≤ 1048576) (h0 : 0 ≤ k0) (h1 : k0 ≤ 8388608) :
    Calls Try.prog 33 #[.slice a n c, .int .i64 k0] w fun e w' => e = .returned (.int .i64 (k0 + 2 * (n : Int))) ∧ w = w' := by
  have HL := Lib.hid hl
  clear hl
  go_enter Try.func33, Try.ntmps33
  go_wp2
  go_loop [1, 5] (fun q i => ∃ k : Nat, k ≤ n ∧ i = .int .i64 k ∧ q = .int .i64 (k0 + 2 * (k : Int))) (fun _ i => n - (intOf i).toNat)
  case atStart => exact ⟨0, Nat.zero_le _, rfl, by simp⟩
  case round =>
    obtain ⟨k, hk, rfl, rfl⟩ := hrel
    by_cases hlt : k < n
    · obtain ⟨b, o, rfl, hb, c0, c1⟩ := HL.out.at_ (j := k) (by rw [marksGr_length]; exact hlt)
      rw [marksGr_get] at c0 c1
      simp only at c0 c1
      obtain ⟨m0, hm0⟩ : ∃ m, k0 + 2 * (k : Int) = m := ⟨_, rfl⟩
      have hmb : 0 ≤ m0 ∧ m0 ≤ 16777216 := by omega
      have hi : (k : Int) < (n : Int) := by omega
      have hi0 : (0 : Int) ≤ (k : Int) := by omega
      rw [hm0] at c0 c1
      rw [hm0]
      have HM := Lib.hid hm0
      clear hm0
      go_wp2
      go_loop [1, 6] (fun q j => ∃ m : Nat, m ≤ 2 ∧ j = .int .i64 m ∧ q = .int .i64 (m0 + (m : Int))) (fun _ j => 2 - (intOf j).toNat)
      case atStart => exact ⟨0, by omega, rfl, by simp⟩
      case round =>
        obtain ⟨m, hm, rfl, rfl⟩ := hrel
        have hcase : m = 0 ∨ m = 1 ∨ m = 2 := by omega
        rcases hcase with rfl | rfl | rfl
        · have hx : (m0 != m0) = false := by simp
          go_wp2
          go_round
          case rel => exact ⟨1, by omega, rfl, by simp⟩
          case measure => simp [intOf]
        · have hx : (m0 + 1 != m0 + 1) = false := by simp
          go_wp2
          go_round
          case rel => exact ⟨2, by omega, rfl, by rw [Value.int.injEq]; exact ⟨rfl, by omega⟩⟩
          case measure => simp [intOf]
        · go_wp2
          go_round
          case rel => exact ⟨k + 1, by omega, by go_num, by have := HM.out; rw [Value.int.injEq]; exact ⟨rfl, by omega⟩⟩
          case measure => simp [intOf]; omega
    · obtain rfl : k = n := by omega
      go_wp2
      go_ret
      exact ⟨rfl, rfl⟩
end Go.Proofs.Ythceffkkokgpnaa
