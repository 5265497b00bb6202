/- Depth, the model's and the program's. -/
import Derived.Test.YtnomcnlmlignbaaDoorExprLaw
namespace Go.Proofs.YtnomcnlmlignbaaDoor
open Go.RowKit
set_option linter.unusedVariables false
set_option linter.unusedSimpArgs false
theorem flat_root (t : ET) : ∃ body, t.flat = body ++ [(t.kind, t.val)] := by
  cases t with
  | n0 k v => exact ⟨[], rfl⟩
  | n1 k v x => exact ⟨x.flat, rfl⟩
  | n2 k v x y => exact ⟨x.flat ++ y.flat, rfl⟩
theorem root_get {l pre post : List Nd} {t : ET} {i : Nat} (h : l = pre ++ t.flat ++ post) (hi : i + 1 = pre.length + t.flat.length) : ∃ hlt : i < l.length, l[i] = (t.kind, t.val) := by
  obtain ⟨body, hb⟩ := flat_root t
  have hp := flat_pos t
  subst h
  have hlt : i < (pre ++ t.flat ++ post).length := by rw [List.length_append, List.length_append]; omega
  refine ⟨hlt, ?_⟩
  rw [List.getElem_append_left (by rw [List.length_append]; omega), List.getElem_append_right (by have := flat_pos t; omega)]
  have key : ∀ (f : List Nd) (j : Nat) (hj : j < f.length), f = body ++ [(t.kind, t.val)] → j + 1 = f.length → f[j] = (t.kind, t.val) := by
    intro f j hj e hl
    subst e
    rw [List.length_append] at hl
    have : j = body.length := by simpa using hl
    subst this
    simp
  exact key t.flat _ _ hb (by omega)
set_option maxRecDepth 100000 in
set_option maxHeartbeats 4000000 in
theorem start_any (a : Option Addr) (l : List Nd) (c : Nat) (hn : l.length ≤ 1048576) : ∀ (t : ET) (pre post : List Nd) (i : Nat), t.ok → l = pre ++ t.flat ++ post → i + 1 = pre.length + t.flat.length → ∀ w : World, Nds w w.heap.size a l →
    Calls Tryd.prog 116 #[.slice a l.length c, .int .i64 (i : Int)] w fun e w' => e = .returned (.int .i64 (pre.length : Int)) ∧ Below w.heap.size w w' := by
  intro t
  induction t with
  | n0 k v =>
    intro pre post i hok hl hi w hnd
    obtain ⟨hlt, hg⟩ := root_get hl hi
    obtain ⟨b, o, rfl, hb, q0, q1⟩ := hnd.at_ hlt
    rw [hg] at q0 q1
    have hip : i = pre.length := by simp [ET.flat] at hi; omega
    subst hip
    have HC := Lib.hid (fun W => specArity_any k v W)
    rw [arI_some (show arity k v = some 0 from hok)] at HC
    simp only [ET.kind, ET.val] at q0 q1
    have i1 : (pre.length : Int) < (l.length : Int) := by omega
    have i0 : (0 : Int) ≤ (pre.length : Int) := by omega
    clear hnd hl hi hg hok
    go_enter Tryd.func116, Tryd.ntmps116
    go_wp2_with (go_at_call 115; refine (HC.out _).mono ?_; rintro e w1 ⟨rfl, b1⟩; have HB := Lib.hid b1; clear b1)
    go_ret
    exact ⟨rfl, HB.out⟩
  | n1 k v x ih =>
    intro pre post i hok hl hi w hnd
    obtain ⟨hlt, hg⟩ := root_get hl hi
    have HND := Lib.hid hnd
    obtain ⟨b, o, rfl, hb, q0, q1⟩ := hnd.at_ hlt
    rw [hg] at q0 q1
    have HC := Lib.hid (fun W => specArity_any k v W)
    rw [arI_some hok.1] at HC
    simp only [ET.kind, ET.val] at q0 q1
    have hp := flat_pos x
    simp only [ET.flat, List.length_append, List.length_singleton] at hi
    obtain ⟨j, hj⟩ : ∃ j, i = j + 1 := ⟨i - 1, by omega⟩
    have HR := Lib.hid (ih pre ((k, v) :: post) j hok.2 (by rw [hl]; simp [ET.flat]) (by omega))
    have i1 : (i : Int) < (l.length : Int) := by omega
    have i0 : (0 : Int) ≤ (i : Int) := by omega
    have ej : (i : Int) - 1 = (j : Int) := by omega
    clear hnd hl hi hg hok ih hj
    go_enter Tryd.func116, Tryd.ntmps116
    go_wp2_with (go_at_call 115; refine (HC.out _).mono ?_; rintro e w1 ⟨rfl, b1⟩; have HB := Lib.hid b1; clear b1)
    refine (HR.out _ (nds_below HND.out HB.out)).mono ?_
    rintro e w2 ⟨rfl, b2⟩
    have HB2 := Lib.hid (below_thenN HB.out b2)
    clear b2
    go_wp2
    go_ret
    exact ⟨rfl, HB2.out⟩
  | n2 k v x y ih1 ih2 =>
    intro pre post i hok hl hi w hnd
    obtain ⟨hlt, hg⟩ := root_get hl hi
    have HND := Lib.hid hnd
    obtain ⟨b, o, rfl, hb, q0, q1⟩ := hnd.at_ hlt
    rw [hg] at q0 q1
    have HC := Lib.hid (fun W => specArity_any k v W)
    rw [arI_some hok.1] at HC
    simp only [ET.kind, ET.val] at q0 q1
    have hpx := flat_pos x
    have hpy := flat_pos y
    simp only [ET.flat, List.length_append, List.length_singleton] at hi
    obtain ⟨j, hj⟩ : ∃ j, i = j + 1 := ⟨i - 1, by omega⟩
    obtain ⟨s, hs⟩ : ∃ s, pre.length + x.flat.length = s + 1 := ⟨pre.length + x.flat.length - 1, by omega⟩
    have HR2 := Lib.hid (ih2 (pre ++ x.flat) ((k, v) :: post) j hok.2.2 (by rw [hl]; simp [ET.flat]) (by rw [List.length_append]; omega))
    rw [List.length_append, hs] at HR2
    have HR1 := Lib.hid (ih1 pre (y.flat ++ (k, v) :: post) s hok.2.1 (by rw [hl]; simp [ET.flat]) (by omega))
    have i1 : (i : Int) < (l.length : Int) := by omega
    have i0 : (0 : Int) ≤ (i : Int) := by omega
    have ej : (i : Int) - 1 = (j : Int) := by omega
    have hs9 : s + 1 ≤ l.length := by omega
    clear hnd hl hi hg hok ih1 ih2 hj hs
    go_enter Tryd.func116, Tryd.ntmps116
    go_wp2_with (go_at_call 115; refine (HC.out _).mono ?_; rintro e w1 ⟨rfl, b1⟩; have HB := Lib.hid b1; clear b1)
    refine (HR2.out _ (nds_below HND.out HB.out)).mono ?_
    rintro e w2 ⟨rfl, b2⟩
    have HB2 := Lib.hid (below_thenN HB.out b2)
    clear b2
    have es : ((s + 1 : Nat) : Int) - 1 = (s : Int) := by omega
    go_wp2_with fail
    refine (HR1.out _ (nds_below HND.out HB2.out)).mono ?_
    rintro e w3 ⟨rfl, b3⟩
    have HB3 := Lib.hid (below_thenN HB2.out b3)
    clear b3
    go_wp2
    go_ret
    exact ⟨rfl, HB3.out⟩

end Go.Proofs.YtnomcnlmlignbaaDoor
