/- The laws' helpers on Motion. -/
import Derived.Test.YtggdkibbfmjelaaMos
import Derived.Test.YtggdkibbfmjelaaBox
import Derived.Laws.MakeOwn
import Derived.StillTailTactics
namespace Go.Proofs.Ytggdkibbfmjelaa
open Go.RowKit
set_option linter.unusedVariables false
set_option linter.unusedSimpArgs false
theorem mov_set (l : List MoT) : ∀ (k : Nat) (x0 x1 : Int), k < l.length → ((mov l).set (k * 2) (.int .i64 x0)).set (k * 2 + 1) (.int .i64 x1) = mov (l.set k (x0, x1)) := by
  induction l with
  | nil => intro k x0 x1 h; simp at h
  | cons q r ih =>
    intro k x0 x1 h
    cases k with
    | zero => rfl
    | succ k =>
      have e : (k + 1) * 2 = k * 2 + 1 + 1 := by omega
      rw [mov_cons, e]
      show Value.int .i64 q.1 :: Value.int .i64 q.2 :: ((mov r).set (k * 2) (.int .i64 x0)).set (k * 2 + 1) (.int .i64 x1) = _
      rw [ih k x0 x1 (by simpa using h)]
      rfl
theorem mov_zero (n : Nat) : mov (List.replicate n ((0, 0) : MoT)) = List.replicate (n * 2) (.int .i64 0) := by
  induction n with
  | zero => rfl
  | succ n ih =>
    rw [List.replicate_succ, mov_cons, ih, show (n + 1) * 2 = n * 2 + 1 + 1 by omega, List.replicate_succ, List.replicate_succ]
/-- the first k copied, the others nothing -/
def mixMo (l : List MoT) (k : Nat) : List MoT := l.take k ++ List.replicate (l.length - k) (0, 0)
theorem mixMo_zero (l : List MoT) : mixMo l 0 = List.replicate l.length (0, 0) := by simp [mixMo]
theorem mixMo_len (l : List MoT) (k : Nat) (h : k ≤ l.length) : (mixMo l k).length = l.length := by simp [mixMo]; omega
theorem mixMo_all (l : List MoT) : mixMo l l.length = l := by simp [mixMo]
theorem mixMo_step (l : List MoT) (k : Nat) (h : k < l.length) : (mixMo l k).set k l[k] = mixMo l (k + 1) := by
  unfold mixMo
  rw [List.set_append_right _ _ (by simp; omega), List.length_take, Nat.min_eq_left (by omega), Nat.sub_self, show l.length - k = (l.length - (k + 1)) + 1 by omega, List.replicate_succ, List.set_cons_zero, List.take_succ_eq_append_getElem h, List.append_assoc]
  rfl
theorem infoMo : (Try.prog.info? 24).map (fun i => (i.zero, i.size, i.bytes)) = some (some (.agg #[.int .i64 0, .int .i64 0]), 2, 16) := by kernel_rfl
theorem run_make_mo (n : Nat) (h : n ≤ 1048576) (W : World) :
    (Instr.makeSlice 46 (.int .i64 (n : Int)) (.int .i64 (n : Int))).run Try.prog W = .ok (.slice (some ⟨W.heap.size, 0, none⟩) n n) (W.alloc (.cells (madeCells #[.int .i64 0, .int .i64 0] (n * 2)) 24)) := by
  obtain ⟨i, hi, hzz⟩ := Option.map_eq_some_iff.1 infoMo
  simp only [Prod.mk.injEq] at hzz
  obtain ⟨hz, hs, hb⟩ := hzz
  have hr := run_make (P := Try.prog) W 46 24 i (.agg #[.int .i64 0, .int .i64 0]) Try.underlying46 hi hz .i64 .i64 n n (by omega) (Int.le_refl _) (by rw [hb]; omega) (by omega)
  simp only [Int.toNat_natCast, hs] at hr
  exact hr
theorem row_made_mo (n : Nat) (W : World) : Row (W.alloc (.cells (madeCells #[.int .i64 0, .int .i64 0] (n * 2)) 24)) W.heap.size 24 (mov (List.replicate n ((0, 0) : MoT))) := by
  refine ⟨_, heap_alloc_new W _, fun k hk => ?_⟩
  rw [mov_length, List.length_replicate] at hk
  have e : (mov (List.replicate n ((0, 0) : MoT)))[k]? = some (.int .i64 0) := by rw [mov_zero]; simp [hk]
  rw [← List.getElem?_eq_getElem, e]
  have hm : k % 2 = 0 ∨ k % 2 = 1 := by omega
  rcases hm with hm | hm <;> simp [madeCells, hk, hm]
set_option maxHeartbeats 1000000 in
theorem toMo_is (x0 x1 : Int) (w : World) : Calls Try.prog 15 #[.agg #[.int .i64 x0, .int .i64 x1]] w fun e w' => e = .returned (.agg #[.int .i64 x0, .int .i64 x1]) ∧ Below w.heap.size w w' := by
  go_enter Try.func15, Try.ntmps15
  go_wp2
  refine bodyPost_ret (v := .agg #[.int .i64 x0, .int .i64 x1]) (by simp [results, Try.results15, go_sem]) rfl ⟨rfl, ?_⟩
  have b3 : ∀ o1 o2 o3, Below w.heap.size w (((w.alloc o1).alloc o2).alloc o3) := fun o1 o2 o3 => (((Below.refl _ _).alloc (Nat.le_refl _) _).alloc (by simp) _).alloc (by simp; omega) _
  repeat' first | exact b3 _ _ _ | refine Below.setCell ?_ (by simp <;> omega) _
set_option maxHeartbeats 1000000 in
theorem eqMo_yes (x0 x1 : Int) (w : World) : Calls Try.prog 17 #[.agg #[.int .i64 x0, .int .i64 x1], .agg #[.int .i64 x0, .int .i64 x1]] w fun e w' => e = .returned (.bool true) ∧ Below w.heap.size w w' := by
  go_enter Try.func17, Try.ntmps17
  go_wp2
  go_ret
  exact ⟨rfl, ((Below.refl _ _).alloc (Nat.le_refl _) _).alloc (by simp) _⟩
set_option maxRecDepth 100000 in
set_option maxHeartbeats 2000000 in
theorem eqMos_yes (a a' : Option Addr) (l : List MoT) (c c' : Nat) (w : World) (hl : Mos w w.heap.size a l) (hl' : Mos w w.heap.size a' l) (hn : l.length ≤ 1048576) :
    Calls Try.prog 31 #[.slice a l.length c, .slice a' l.length c'] w fun e w' => e = .returned (.bool true) ∧ Below w.heap.size w w' := by
  have HL := Lib.hid hl
  have HL' := Lib.hid hl'
  clear hl hl'
  go_enter Try.func31, Try.ntmps31
  go_wp2
  go_loopw [5] (fun i wr => ∃ k : Nat, k ≤ l.length ∧ i = .int .i64 k ∧ Below w.heap.size w wr) (fun i _ => l.length - (intOf i).toNat)
  case atStart => exact ⟨0, Nat.zero_le _, rfl, Below.refl _ _⟩
  case round =>
    obtain ⟨k, hk, rfl, hB⟩ := hrel
    have HB := Lib.hid hB
    by_cases hlt : k < l.length
    · obtain ⟨b, o, rfl, hb, q0, q1⟩ := (HL.out.below hB (Nat.le_refl _)).at_ hlt
      obtain ⟨b', o', rfl, hb', p0, p1⟩ := (HL'.out.below hB (Nat.le_refl _)).at_ hlt
      clear hB
      have hi : (k : Int) < (l.length : Int) := by omega
      have hi0 : (0 : Int) ≤ (k : Int) := by omega
      generalize l[k].1 = x0 at *
      generalize l[k].2 = x1 at *
      go_wp2_with fail
      go_still_tail 8, (by kernel_rfl)
      change wpList _ _ _ _ _ wr.drew
      have HB1 := Lib.hid (HB.out.drew)
      generalize wr.drew = w2 at *
      go_wp2_with fail
      refine (eqMo_yes x0 x1 w2).mono ?_
      rintro e w3 ⟨rfl, b3⟩
      have HB3 := Lib.hid (HB1.out.trans (b3.mono HB1.out.size))
      clear b3
      go_wp2
      go_roundw
      case rel => exact ⟨k + 1, by omega, by go_num, HB3.out⟩
      case measure => simp [intOf]; omega
    · have hge : (l.length : Int) ≤ (k : Int) := by omega
      go_wp2
      go_ret
      exact ⟨rfl, HB.out⟩
/-- n structs of numbers from k on -/
def marksMo (k : Int) (n : Nat) : List MoT := (List.range n).map fun (i : Nat) => (k + 2 * (i : Int), k + 2 * (i : Int) + 1)
theorem marksMo_length (k : Int) (n : Nat) : (marksMo k n).length = n := by simp [marksMo]
theorem marksMo_get (k : Int) (n i : Nat) (h : i < (marksMo k n).length) : (marksMo k n)[i] = (k + 2 * (i : Int), k + 2 * (i : Int) + 1) := by simp [marksMo]
def partMo (k : Int) (l : List MoT) (i : Nat) : List MoT := marksMo k i ++ l.drop i
theorem partMo_zero (k : Int) (l : List MoT) : partMo k l 0 = l := by simp [partMo, marksMo]
theorem partMo_length (k : Int) (l : List MoT) (i : Nat) (h : i ≤ l.length) : (partMo k l i).length = l.length := by simp [partMo, marksMo_length]; omega
theorem partMo_all (k : Int) (l : List MoT) : partMo k l l.length = marksMo k l.length := by simp [partMo]
theorem partMo_step (k : Int) (l : List MoT) (i : Nat) (h : i < l.length) : (partMo k l i).set i (k + 2 * (i : Int), k + 2 * (i : Int) + 1) = partMo k l (i + 1) := by
  unfold partMo
  rw [List.set_append_right _ _ (by rw [marksMo_length]; omega), marksMo_length, Nat.sub_self, List.drop_eq_getElem_cons h, List.set_cons_zero]
  unfold marksMo
  rw [List.range_succ, List.map_append, List.append_assoc]
  rfl
set_option maxRecDepth 100000 in
set_option maxHeartbeats 4000000 in
theorem markMos_any (a : Option Addr) (l : List MoT) (c g : Nat) (k0 : Int) (w : World) (hl : AtMo w a g l) (hn : l.length ≤ 1048576) (h0 : 0 ≤ k0) (h1 : k0 ≤ 4194304) :
    Calls Try.prog 32 #[.slice a l.length c, .int .i64 k0] w fun e w' => e = .returned (.int .i64 (k0 + 2 * (l.length : Int))) ∧ AtMo w' a g (marksMo k0 l.length) ∧ Only g w w' := by
  have HL := Lib.hid hl
  clear hl
  go_enter Try.func32, Try.ntmps32
  go_wp2
  go_loopw [1, 5] (fun q i wr => ∃ k : Nat, k ≤ l.length ∧ i = .int .i64 k ∧ q = .int .i64 (k0 + 2 * (k : Int)) ∧ AtMo wr a g (partMo k0 l k) ∧ Only g w wr) (fun _ i _ => l.length - (intOf i).toNat)
  case atStart => exact ⟨0, Nat.zero_le _, rfl, by simp, by rw [partMo_zero]; exact HL.out, Only.refl g w⟩
  case round =>
    obtain ⟨k, hk, rfl, rfl, hat, ho⟩ := hrel
    have hpl := partMo_length k0 l k hk
    by_cases hlt : k < l.length
    · rcases hat with hat | ⟨rfl, hrow⟩
      · rw [hat] at hpl; simp at hpl; omega
      · have hnl := mov_length (partMo k0 l k)
        obtain ⟨z0, hc0⟩ : ∃ z, wr.cell? ⟨g, k * 2, none⟩ = some z := ⟨_, hrow.cell (k := k * 2) (by omega)⟩
        obtain ⟨z1, hc1⟩ : ∃ z, wr.cell? ⟨g, k * 2 + 1, none⟩ = some z := ⟨_, hrow.cell (k := k * 2 + 1) (by omega)⟩
        have hf0 := hrow.frozen (k * 2)
        have hf1 := hrow.frozen (k * 2 + 1)
        have HR := Lib.hid ((hrow.set (k * 2) (.int .i64 (k0 + 2 * (k : Int)))).set (k * 2 + 1) (.int .i64 (k0 + 2 * (k : Int) + 1)))
        have HNS := Lib.hid (mov_set (partMo k0 l k) k (k0 + 2 * (k : Int)) (k0 + 2 * (k : Int) + 1) (by omega))
        have HO := Lib.hid ho
        have HS := Lib.hid (partMo_step k0 l k hlt)
        have hi : (k : Int) < (l.length : Int) := by omega
        have hi0 : (0 : Int) ≤ (k : Int) := by omega
        obtain ⟨m0, hm0⟩ : ∃ m, k0 + 2 * (k : Int) = m := ⟨_, rfl⟩
        have hmb : 0 ≤ m0 ∧ m0 ≤ 16777216 := by omega
        rw [hm0] at HR HNS HS
        have HM := Lib.hid hm0
        clear hpl hrow ho HL hnl
        rw [hm0]
        clear hm0
        have HE := Lib.hid (show k0 + 2 * (k : Int) = m0 from HM.out)
        clear hi0
        go_wp2
        go_roundw
        case rel => exact ⟨k + 1, by omega, by go_num, by have := HE.out; rw [Value.int.injEq]; exact ⟨rfl, by omega⟩, .inr ⟨rfl, by have := HR.out; rw [HNS.out, HS.out] at this; exact this⟩, ((HO.out.setCell (k * 2) _).setCell (k * 2 + 1) _)⟩
        case measure => simp [intOf]; omega
    · obtain rfl : k = l.length := by omega
      have HP := Lib.hid (partMo_all k0 l)
      clear hpl HL
      go_wp2
      go_ret
      exact ⟨rfl, by rw [← HP.out]; exact hat, ho⟩
set_option maxRecDepth 100000 in
set_option maxHeartbeats 4000000 in
theorem heldMos_any (a : Option Addr) (n c : Nat) (k0 : Int) (w : World) (hl : Mos w w.heap.size a (marksMo k0 n)) (hn : n ≤ 1048576) (h0 : 0 ≤ k0) (h1 : k0 ≤ 4194304) :
    Calls Try.prog 33 #[.slice a n c, .int .i64 k0] w fun e w' => e = .returned (.int .i64 (k0 + 2 * (n : Int))) ∧ w = w' := by
  have HL := Lib.hid hl
  clear hl
  go_enter Try.func33, Try.ntmps33
  go_wp2
  go_loop [1, 5] (fun q i => ∃ k : Nat, k ≤ n ∧ i = .int .i64 k ∧ q = .int .i64 (k0 + 2 * (k : Int))) (fun _ i => n - (intOf i).toNat)
  case atStart => exact ⟨0, Nat.zero_le _, rfl, by simp⟩
  case round =>
    obtain ⟨k, hk, rfl, rfl⟩ := hrel
    by_cases hlt : k < n
    · obtain ⟨b, o, rfl, hb, c0, c1⟩ := HL.out.at_ (j := k) (by rw [marksMo_length]; exact hlt)
      rw [marksMo_get] at c0 c1
      simp only at c0 c1
      obtain ⟨m0, hm0⟩ : ∃ m, k0 + 2 * (k : Int) = m := ⟨_, rfl⟩
      have hmb : 0 ≤ m0 ∧ m0 ≤ 16777216 := by omega
      have hi : (k : Int) < (n : Int) := by omega
      have hi0 : (0 : Int) ≤ (k : Int) := by omega
      rw [hm0] at c0 c1
      rw [hm0]
      have HM := Lib.hid hm0
      clear hm0
      have HE := Lib.hid (show k0 + 2 * (k : Int) = m0 from HM.out)
      go_wp2
      go_round
      case rel => exact ⟨k + 1, by omega, by go_num, by have := HE.out; rw [Value.int.injEq]; exact ⟨rfl, by omega⟩⟩
      case measure => simp [intOf]; omega
    · obtain rfl : k = n := by omega
      go_wp2
      go_ret
      exact ⟨rfl, rfl⟩
end Go.Proofs.Ytggdkibbfmjelaa
