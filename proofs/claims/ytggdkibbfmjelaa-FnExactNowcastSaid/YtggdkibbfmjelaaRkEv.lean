/- The program's everyMotion. -/
import Derived.Test.YtggdkibbfmjelaaRkMath
import Derived.Test.YtggdkibbfmjelaaMoLaw
import Derived.Test.YtggdkibbfmjelaaMts
import Derived.Test.YtggdkibbfmjelaaMake
import Derived.Deep.AppendLies
namespace Go.Proofs.Ytggdkibbfmjelaa
open Go.RowKit
set_option linter.unusedVariables false
set_option linter.unusedSimpArgs false
theorem ownMo_of {w : World} {B n : Nat} {v : Value} {l : List MoT} (h : w.ownsRow B 24 2 v n (mov l)) (hn : n = l.length) : ∃ a c, v = .slice a l.length c ∧ OwnMo w B a l := by
  subst hn
  obtain ⟨h1, ⟨h2, h3⟩ | ⟨g, cap, cur, h2, hb, hh, hc, _, hcs, hx⟩⟩ := h
  · refine ⟨none, 0, by rw [h2, h3], ?_⟩
    have : l = [] := List.eq_nil_of_length_eq_zero h3
    subst this
    exact OwnMo.none_
  · subst h2
    refine ⟨_, _, rfl, g, hb, .inr ⟨rfl, cur, hh, fun k hk => ?_⟩⟩
    have hk' := hk
    rw [mov_length] at hk'
    have e : (mov l)[k]? = cur[k]? := by
      rw [← hx, List.getElem?_take, if_pos hk']
      simp
    rw [← e]
    exact List.getElem?_eq_getElem hk
set_option maxRecDepth 100000 in
set_option maxHeartbeats 4000000 in
theorem implEvery_any (w : World) : Calls Try.prog 102 #[] w fun e w' => ∃ a c, e = .returned (.slice a 25 c) ∧ OwnMo w' w.heap.size a (moL 25) ∧ Below w.heap.size w w' := by
  obtain ⟨i0, hi0', hz0, hz1, hz2⟩ := info_parts infoMo
  go_enter Try.func102, Try.ntmps102
  go_wp2
  go_loopw [1, 2] (fun q i wr => ∃ j : Nat, j ≤ 5 ∧ i = .int .i64 ((j : Int) - 2) ∧ wr.ownsRow w.heap.size 24 2 q (5 * j) (mov (moL (5 * j))) ∧ Below w.heap.size w wr) (fun _ i _ => 5 - (intOf i + 2).toNat)
  case atStart => exact ⟨0, by omega, rfl, World.ownsRow_made (base := w.heap.size) (e := 24) (size := 2) w #[] 0 (Nat.le_refl _) (by unfold maxLen; omega) rfl, below_all _ _⟩
  case round =>
    obtain ⟨j, hj, rfl, hown, hB⟩ := hrel
    have HO := Lib.hid hown
    have HB := Lib.hid hB
    clear hown hB
    by_cases hlt : j < 5
    · have hi : (j : Int) - 2 ≤ 2 := by omega
      go_wp2
      go_loopw [1, 3] (fun q i wr => ∃ k : Nat, k ≤ 5 ∧ i = .int .i64 ((k : Int) - 2) ∧ wr.ownsRow w.heap.size 24 2 q (5 * j + k) (mov (moL (5 * j + k))) ∧ Below w.heap.size w wr) (fun _ i _ => 5 - (intOf i + 2).toNat)
      case atStart => exact ⟨0, by omega, rfl, HO.out, HB.out⟩
      case round =>
        clear HO HB
        obtain ⟨k, hk, rfl, hown, hB⟩ := hrel
        have HO := Lib.hid hown
        have HB := Lib.hid hB
        have hsz := hB.size
        clear hown hB
        by_cases hlt2 : k < 5
        · have hi2 : (k : Int) - 2 ≤ 2 := by omega
          obtain ⟨e1, e2⟩ := mo_at (j := j) hlt2
          have HE := Lib.hid (moL_step (5 * j + k))
          rw [e1, e2] at HE
          clear e1 e2
          have hml := moL_len (5 * j + k)
          have HML := Lib.hid hml
          clear hml
          have w1 := IntWalk.i64_in ((k : Int) - 2 + 1) (by omega)
          go_wp2_with (at_builtin; go_loud (refine wpList_append_own _ rfl _ _ 46 rfl w.heap.size 24 i0 (.agg #[.int .i64 0, .int .i64 0]) 2 16 Try.underlying46 hi0' hz0 hz1 hz2 rfl (by decide) _ (5 * j + k) (mov (moL (5 * j + k))) rfl (HO.out.alloc _) ⟨wr.heap.size, 0, none⟩ 1 1 [.int .i64 ((k : Int) - 2), .int .i64 ((j : Int) - 2)] rfl rfl (World.news_of_block (heap_alloc_new _ _)) (by simp [Value.oneCell']) (by unfold maxLen; omega) (by omega) (by simp; omega) ?_); intro v' w2 hown' hgr _; have HO1 := Lib.hid hown'; have HG1 := Lib.hid hgr; clear hown' hgr)
          go_roundw
          case rel =>
            refine ⟨k + 1, by omega, ?_, ?_, (HB.out.alloc HB.out.size _).grown HG1.out (by simp; omega) (fun q hq => by have := (HO.out.lt q hq).1; omega)⟩
            · congr 1; omega
            · rw [← Nat.add_assoc, HE.out, mov_append]; exact HO1.out
          case measure => simp [intOf]; omega
        · obtain rfl : k = 5 := by omega
          have w1 := IntWalk.i64_in ((j : Int) - 2 + 1) (by omega)
          go_wp2
          go_roundw
          case rel => exact ⟨j + 1, by omega, by congr 1; omega, by rw [Nat.mul_succ]; exact HO.out, HB.out⟩
          case measure => simp [intOf]; omega
    · obtain rfl : j = 5 := by omega
      obtain ⟨a', c', rfl, ho⟩ := ownMo_of HO.out (by rw [moL_len])
      have HOO := Lib.hid ho
      clear ho HO
      rw [moL_len]
      go_wp2
      go_ret
      exact ⟨a', c', rfl, HOO.out, HB.out⟩
end Go.Proofs.Ytggdkibbfmjelaa
