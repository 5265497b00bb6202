/- Marks on a tally, from a greater number on. -/
import Derived.Test.YtjpiiidjocilcaaTlLaw
namespace Go.Proofs.Ytjpiiidjocilcaa
open Go.RowKit
set_option linter.unusedVariables false
set_option linter.unusedSimpArgs false
set_option maxHeartbeats 400000 in
theorem markTallyW_any (a b : Option Addr) (l r : List Int) (c d g h : Nat) (k0 : Int) (w : World) (hl : At w a g l) (hr : At w b h r) (hgh : g ≠ h) (hg : g < w.heap.size) (hh : h < w.heap.size) (hn : l.length ≤ 1048576) (hm : r.length ≤ 1048576) (h0 : 0 ≤ k0) (h1 : k0 ≤ 4194304) :
    Calls Try.prog 20 #[.agg #[.slice a l.length c, .slice b r.length d], .int .i64 k0] w fun e w' => e = .returned (.int .i64 (k0 + (l.length : Int) + (r.length : Int))) ∧ At w' a g (marks k0 l.length) ∧ At w' b h (marks (k0 + (l.length : Int)) r.length) ∧ Two g h w w' := by
  have HL := Lib.hid hl
  have HR := Lib.hid hr
  clear hl hr
  have bA := fun o => (Below.refl w.heap.size w).alloc (Nat.le_refl _) o
  have HM := Lib.hid (fun o => markIntsW_any a l c g k0 (w.alloc o) (HL.out.below (bA o)) hn h0 (by omega))
  go_enter Try.func20, Try.ntmps20
  go_wp2_with fail
  refine (HM.out _).mono ?_
  rintro e w1 ⟨rfl, ha, ho⟩
  have HA := Lib.hid ha
  have HO := Lib.hid ho
  have hc : ∀ o, w1.cell? ⟨w.heap.size, o, none⟩ = (w.alloc (.cells #[.slice a l.length c, .slice b r.length d] 27)).cell? ⟨w.heap.size, o, none⟩ := fun o =>
    World.cell?_of_block (ho.1.block w.heap.size (by simp) (by intro e; injection e with e; omega))
  have HR1 := Lib.hid ((HR.out.below (bA (.cells #[.slice a l.length c, .slice b r.length d] 27))).only ho (by omega))
  obtain ⟨k1, hk1⟩ : ∃ k, k0 + (l.length : Int) = k := ⟨_, rfl⟩
  have hb1 : 0 ≤ k1 ∧ k1 ≤ 16777216 := by omega
  rw [hk1]
  have HK := Lib.hid hk1
  clear ha ho hk1
  go_wp2_with fail
  refine (markIntsW_any b r d h k1 w1 HR1.out hm hb1.1 hb1.2).mono ?_
  rintro e w2 ⟨rfl, ha2, ho2⟩
  have HA2 := Lib.hid ha2
  have HO2 := Lib.hid ho2
  clear ha2 ho2
  go_wp2
  go_ret
  have x1 := HO.out
  have x2 := HO2.out
  have z1 := x1.2
  have z2 := x2.2
  simp only [World.size_alloc] at z1
  refine ⟨by rw [HK.out]; rfl, HA.out.only x2 hgh, by rw [HK.out]; exact HA2.out, ?_, ?_, ?_, by omega, fun i hi n1 n2 => ?_⟩
  · exact x2.1.os.trans (x1.1.os.trans rfl)
  · exact x2.1.tape.trans (x1.1.tape.trans rfl)
  · exact x2.1.output.trans (x1.1.output.trans rfl)
  · exact ((x2.1.block i (by omega) (by intro e; injection e with e; omega)).trans (x1.1.block i (by simp; omega) (by intro e; injection e with e; omega))).trans (Below.heap_alloc w _ i hi)
end Go.Proofs.Ytjpiiidjocilcaa
