/- The model's l1Own: a copy in memory of its own. -/
import Derived.Test.YtggdkibbfmjelaaMake
import Derived.Deep.AppendLies
import Derived.Maps.AppendAt
namespace Go.Proofs.Ytggdkibbfmjelaa
open Go.RowKit
set_option linter.unusedVariables false
set_option linter.unusedSimpArgs false
set_option maxHeartbeats 1000000 in
theorem l1Own_any (a : Option Addr) (l : List Int) (c : Nat) (w : World) (hl : Ints .i64 w w.heap.size a l) (hn : l.length ≤ 1048576) (h0 : 0 < l.length) :
    Calls Try.prog 110 #[.slice a l.length c] w (IntsPost l w) := by
  obtain ⟨i0, hi0', hz0, hz1, hz2⟩ := info_parts infoInt
  rcases hl with rfl | ⟨b, o, rfl, hb, hc⟩
  · simp at h0
  · have HC : Hid (∀ j u, (iv l)[j]? = some u → (w.alloc (.cells #[] 3)).cell? ((⟨b, o, none⟩ : Addr).add j) = some u) := by
      refine Lib.hid ?_
      intro j u hu
      obtain ⟨hj, hu⟩ := List.getElem?_eq_some_iff.1 hu
      rw [iv_length] at hj
      have e : (⟨b, o, none⟩ : Addr).add j = ⟨b, o + j, none⟩ := by unfold Addr.add; split <;> simp_all
      rw [e, World.cell?_alloc_lt _ _ _ (by simpa using hb), hc j hj, ← hu, iv_get]
    have HO := Lib.hid (World.ownsRow_made (base := w.heap.size) (e := 3) (size := 1) w #[] 0 (Nat.le_refl _) (by simp) rfl)
    clear hc
    go_enter Try.func110, Try.ntmps110
    go_wp2_with (at_builtin; refine wpList_append_own _ rfl _ _ 30 rfl w.heap.size 3 i0 (.int .i64 0) 1 8 Try.underlying30 hi0' hz0 hz1 hz2 rfl (by decide) _ 0 [] rfl HO.out ⟨b, o, none⟩ l.length c (iv l) rfl (by rw [iv_length]; simp) HC.out (iv_one l) (by unfold maxLen; omega) (by omega) (by simp) ?_; intro v' w1 hown' hgrow _; rw [Nat.zero_add, List.nil_append] at hown'; have HB := Lib.hid ((below_all w _).grown hgrow (by simp) (fun k hk => (HO.out.lt k hk).1)); obtain ⟨a', c', hv, ho⟩ := ownI_of hown' rfl; subst hv; have HO1 := Lib.hid ho; clear hown' hgrow ho)
    go_ret
    exact ⟨a', c', rfl, HO1.out, HB.out⟩
end Go.Proofs.Ytggdkibbfmjelaa
