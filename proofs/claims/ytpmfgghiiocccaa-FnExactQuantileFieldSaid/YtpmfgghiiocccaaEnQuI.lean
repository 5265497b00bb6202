/- The program's QuantileField. -/
import Derived.Test.YtpmfgghiiocccaaEnQu
namespace Go.Proofs.Ytpmfgghiiocccaa
open Go.RowKit
set_option linter.unusedVariables false
set_option linter.unusedSimpArgs false
set_option maxRecDepth 100000 in
set_option maxHeartbeats 4000000 in
theorem implQu_any (g : Nat) (es : List FE) (c : Nat) (num den : Int) (w : World) (hl : Flds w w.heap.size (some ⟨g, 0, none⟩) es) (hn : es.length ≤ 1048576) (hs : ∀ e ∈ es, e.l.length ≤ 1048576) :
    Calls Try.prog 42 #[.slice (some ⟨g, 0, none⟩) es.length c, .int .i64 num, .int .i64 den] w (FRet (quR (plains es) num den) w) := by
  have F0 := flds_alloc (flds_alloc (flds_alloc hl (.cells #[.int .i64 num] 3)) (.cells #[.int .i64 den] 3)) (.cells #[.int .i64 0, .int .i64 0, .slice none 0 0] 31)
  have R0 := Box.new ((w.alloc (.cells #[.int .i64 num] 3)).alloc (.cells #[.int .i64 den] 3)) 31 (.int .i64 0) (.int .i64 0) (.slice none 0 0)
  simp only [World.size_alloc] at R0
  have B0 : Below w.heap.size w (((w.alloc (.cells #[.int .i64 num] 3)).alloc (.cells #[.int .i64 den] 3)).alloc (.cells #[.int .i64 0, .int .i64 0, .slice none 0 0] 31)) := ((((Below.refl w.heap.size w).alloc (by simp <;> omega) _).alloc (by simp <;> omega) _).alloc (by simp <;> omega) _)
  have C0 : (((w.alloc (.cells #[.int .i64 num] 3)).alloc (.cells #[.int .i64 den] 3)).alloc (.cells #[.int .i64 0, .int .i64 0, .slice none 0 0] 31)).cell? ⟨w.heap.size, 0, none⟩ = some (.int .i64 num) := by rw [World.cell?_alloc_past _ _ _ (by simp <;> omega)]; rw [World.cell?_alloc_past _ _ _ (by simp)]; rw [World.cell?_alloc_at _ _ _ _ (by simp)]; rfl
  have C1 : (((w.alloc (.cells #[.int .i64 num] 3)).alloc (.cells #[.int .i64 den] 3)).alloc (.cells #[.int .i64 0, .int .i64 0, .slice none 0 0] 31)).cell? ⟨w.heap.size + 1, 0, none⟩ = some (.int .i64 den) := by rw [World.cell?_alloc_past _ _ _ (by simp)]; rw [World.cell?_alloc_at _ _ _ _ (by simp)]; rfl
  have zw : (((w.alloc (.cells #[.int .i64 num] 3)).alloc (.cells #[.int .i64 den] 3)).alloc (.cells #[.int .i64 0, .int .i64 0, .slice none 0 0] 31)).heap.size = w.heap.size + 1 + 1 + 1 := by simp
  generalize hW : (((w.alloc (.cells #[.int .i64 num] 3)).alloc (.cells #[.int .i64 den] 3)).alloc (.cells #[.int .i64 0, .int .i64 0, .slice none 0 0] 31)) = W at F0 R0 B0 zw C0 C1
  have HC := Lib.hid (fun hfr => implJoin_any g es c 74 #[.pointer (some ⟨w.heap.size, 0, none⟩), .pointer (some ⟨w.heap.size + 1, 0, none⟩)] (quF num den) W F0 hn hs ent_qu (qu_rule hfr (by omega) (by omega) C0 C1))
  have HW := Lib.hid hW
  have HR := Lib.hid R0
  have HB := Lib.hid B0
  have HZ := Lib.hid zw
  unfold quR
  cases hv : frB num den with
  | false =>
    rw [if_neg (by simp)]
    obtain ⟨r0, r1, r2⟩ := R0.cells
    have g0 := R0.frozen 0
    have g1 := R0.frozen 1
    have g2 := R0.frozen 2
    have hcs : num < 0 ∨ (0 ≤ num ∧ den < num) ∨ (0 ≤ num ∧ num ≤ den ∧ den < 1) ∨ (0 ≤ num ∧ num ≤ den ∧ 1 ≤ den ∧ 100 < den) := by
      have h9 : ¬ ((0 ≤ num ∧ num ≤ den) ∧ 1 ≤ den ∧ den ≤ 100) := by rw [← frB_iff, hv]; simp
      omega
    clear hl F0 R0 B0 zw hv HC
    subst hW
    rcases hcs with h1 | ⟨h1, h2⟩ | ⟨h1, h2, h3⟩ | ⟨h1, h2, h3, h4⟩
    all_goals
      go_enter Try.func42, Try.ntmps42
      go_wp2
      refine bodyPost_ret (v := .tuple #[.agg #[.int .i64 0, .int .i64 0, .slice none 0 0], .bool false]) (by simp [results, Try.results42, go_sem, r0, r1, r2]) rfl ⟨none, 0, rfl, OwnI.none_, ?_⟩
      first | exact HB.out | exact ((HB.out.setCell (p := ⟨w.heap.size + 1 + 1, 0, none⟩) (by show w.heap.size ≤ w.heap.size + 1 + 1; omega) _).setCell (p := ⟨w.heap.size + 1 + 1, 1, none⟩) (by show w.heap.size ≤ w.heap.size + 1 + 1; omega) _).setCell (p := ⟨w.heap.size + 1 + 1, 2, none⟩) (by show w.heap.size ≤ w.heap.size + 1 + 1; omega) _
  | true =>
    rw [if_pos rfl]
    have HC1 := Lib.hid (HC.out hv)
    obtain ⟨⟨y1, y2⟩, y3, y4⟩ := frB_iff.1 hv
    clear hl F0 R0 B0 zw hv HC
    generalize enR (quF num den) (plains es) = rr at *
    subst hW
    go_enter Try.func42, Try.ntmps42
    go_wp2_with fail
    refine HC1.out.mono ?_
    rintro e w1 ⟨a1, c1, rfl, o1, b1⟩
    have O1 := Lib.hid (o1.more (C := w.heap.size + 1 + 1 + 1) (by have := HZ.out; omega))
    have R1 := HR.out.below b1
    have B1 := Lib.hid (below_then HB.out b1)
    obtain ⟨r0, r1, r2⟩ := R1.cells
    have g0 := R1.frozen 0
    have g1 := R1.frozen 1
    have g2 := R1.frozen 2
    clear o1 b1 R1 HC1 HW HR C0 C1
    go_wp2
    refine bodyPost_ret (v := .tuple #[.agg #[.int .i64 (rW rr), .int .i64 (rH rr), .slice a1 (rL rr).length c1], .bool (rB rr)]) (by simp [results, Try.results42, go_sem, r0, r1, r2]) rfl ⟨a1, c1, rfl, ?_, ?_⟩
    · exact (ownI_set (ownI_set (ownI_set O1.out (by show w.heap.size + 1 + 1 < _; omega) _) (by show w.heap.size + 1 + 1 < _; omega) _) (by show w.heap.size + 1 + 1 < _; omega) _).more (by omega)
    · exact ((B1.out.setCell (by show w.heap.size ≤ w.heap.size + 1 + 1; omega) _).setCell (by show w.heap.size ≤ w.heap.size + 1 + 1; omega) _).setCell (by show w.heap.size ≤ w.heap.size + 1 + 1; omega) _
end Go.Proofs.Ytpmfgghiiocccaa
