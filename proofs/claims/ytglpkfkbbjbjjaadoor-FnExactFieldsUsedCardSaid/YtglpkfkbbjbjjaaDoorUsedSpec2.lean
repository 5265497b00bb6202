/- The model's FieldsUsed: the walk. -/
import Derived.Test.YtglpkfkbbjbjjaaDoorUsedSpec
namespace Go.Proofs.YtglpkfkbbjbjjaaDoor
open Go.RowKit
set_option linter.unusedVariables false
set_option linter.unusedSimpArgs false
theorem opens_all : ∀ (l : List Nd) (n m : Nat), opens l n = some m → ∀ p ∈ l, arity p.1 p.2 ≠ none := by
  intro l
  induction l with
  | nil => intro n m _ p hp; simp at hp
  | cons q r ih =>
    intro n m h p hp
    unfold opens at h
    cases ha : arity q.1 q.2 with
    | none => rw [ha] at h; cases h
    | some a =>
      rw [ha] at h
      simp only at h
      by_cases hn : a ≤ n
      · rw [if_pos hn] at h
        rcases List.mem_cons.1 hp with rfl | hp
        · rw [ha]; simp
        · exact ih _ _ h p hp
      · rw [if_neg hn] at h; cases h
theorem expr_field {l : List Nd} (h : exprB l = true) {k : Nat} (hk : k < l.length) (h1 : l[k].1 = 1) : 0 ≤ l[k].2 ∧ l[k].2 ≤ 3 := by
  unfold exprB at h
  simp only [Bool.and_eq_true, decide_eq_true_eq] at h
  have e := opens_all l 0 1 h.2 l[k] (List.getElem_mem hk)
  rw [h1] at e
  unfold arity at e
  rw [if_pos rfl] at e
  by_cases q : 0 ≤ l[k].2 ∧ l[k].2 ≤ 3
  · exact q
  · rw [if_neg q] at e; exact absurd rfl e
theorem own_less {w : World} {b b' e n : Nat} {v : Value} {xs : List Value} (h : w.ownsRow b e 1 v n xs) (hb : b' ≤ b) : w.ownsRow b' e 1 v n xs :=
  ⟨h.1, h.2.imp id (fun ⟨g, cap, cur, x, y, r⟩ => ⟨g, cap, cur, x, Nat.le_trans hb y, r⟩)⟩
theorem own_facts {w : World} {B g c : Nat} {L : List Int} (h : w.ownsRow B 3 1 (.slice (some ⟨g, 0, none⟩) L.length c) L.length (iv L)) : g < w.heap.size ∧ L.length ≤ c ∧ ∀ j (hj : j < L.length), w.cell? ⟨g, j, none⟩ = some (.int .i64 L[j]) := by
  have hlt := (h.lt g rfl).2
  have hc := fun j u => h.cells (g := g) rfl j u
  obtain ⟨_, ⟨e, _⟩ | ⟨g', cap, cur, e, _, _, hcap, _⟩⟩ := h
  · cases e
  · injection e with e1 e2 e3
    subst e3
    refine ⟨hlt, hcap, fun j hj => ?_⟩
    have h1 := hc j (.int .i64 L[j]) (by rw [List.getElem?_eq_getElem (by rw [iv_length]; exact hj), iv_get])
    have hadd : (⟨g, 0, none⟩ : Addr).add j = ⟨g, j, none⟩ := by unfold Addr.add; split <;> simp_all
    rw [hadd] at h1
    exact h1
set_option maxRecDepth 100000 in
set_option maxHeartbeats 2000000 in
theorem specUsed_any (a : Option Addr) (l : List Nd) (c : Nat) (w : World) (hl : Nds w w.heap.size a l) (hn : l.length ≤ 1048576) :
    Calls Tryd.prog 19 #[.slice a l.length c] w (UPost l w) := by
  have HL := Lib.hid hl
  have HE1 := Lib.hid (fun W h => specExprGood_any a l c W h hn)
  have B0 := Lib.hid (below_all w (.cells #[] 3))
  have O0 := Lib.hid (World.ownsRow_made (base := w.heap.size) (e := 3) (size := 1) w #[] 0 (Nat.le_refl _) (by simp) rfl)
  unfold UPost
  clear hl
  cases h1 : exprB l with
  | false =>
    have hr : usedR l = [] := by unfold usedR; rw [h1]; rfl
    rw [hr]
    rw [h1] at HE1
    clear h1 hr
    go_enter Tryd.func19, Tryd.ntmps19
    go_wp2_with fail
    refine (HE1.out _ (nds_below HL.out B0.out)).mono ?_
    rintro e w1 ⟨rfl, b1⟩
    have B1 := Lib.hid (below_then B0.out b1)
    clear b1
    go_wp2
    go_ret2
    exact ⟨_, _, rfl, OwnI.none_, B1.out⟩
  | true =>
    have hr : usedR l = usedU l 4 := by unfold usedR; rw [h1]; rfl
    rw [hr]
    have HEF := Lib.hid (fun k hk => expr_field (k := k) h1 hk)
    rw [h1] at HE1
    have H0 : usedU (l.take 0) 4 = [] := by rw [List.take_zero]; rfl
    have HZ0 := Lib.hid H0
    clear h1 hr H0
    go_enter Tryd.func19, Tryd.ntmps19
    go_wp2_with fail
    refine (HE1.out _ (nds_below HL.out B0.out)).mono ?_
    rintro e w1 ⟨rfl, b1⟩
    have B1 := Lib.hid (below_then B0.out b1)
    have O1 := Lib.hid (own_keeps O0.out b1)
    clear b1 B0 O0 HE1
    go_wp2
    go_loopw [4, 5] (fun out i wr => ∃ (k g cc : Nat), k ≤ l.length ∧ i = .int .i64 k ∧ out = .slice (some ⟨g, 0, none⟩) (usedU (l.take k) 4).length cc ∧ wr.ownsRow w.heap.size 3 1 (.slice (some ⟨g, 0, none⟩) (usedU (l.take k) 4).length cc) (usedU (l.take k) 4).length (iv (usedU (l.take k) 4)) ∧ Below w.heap.size w wr) (fun _ i _ => l.length - (intOf i).toNat)
    case atStart => exact ⟨0, w.heap.size, 0, Nat.zero_le _, rfl, by rw [HZ0.out]; rfl, by rw [HZ0.out]; exact O1.out, B1.out⟩
    case round =>
      obtain ⟨k, g, cc, hk, rfl, rfl, hown, hB⟩ := hrel
      have HO := Lib.hid hown
      have HB := Lib.hid hB
      have HF := Lib.hid (own_facts hown)
      have HLN := Lib.hid (usedU_len (l.take k) 4)
      clear hown hB O1 B1
      by_cases hlt : k < l.length
      · have hi : (k : Int) < (l.length : Int) := by omega
        have hi0 : (0 : Int) ≤ (k : Int) := by omega
        obtain ⟨bk, o, rfl, hbk, c0, c1⟩ := (nds_below HL.out HB.out).at_ hlt
        have HS := Lib.hid (used_step hlt)
        have HV := Lib.hid (HEF.out k hlt)
        obtain ⟨L1, hL1⟩ : ∃ q, usedU (l.take (k + 1)) 4 = q := ⟨_, rfl⟩
        rw [hL1] at HS
        have HG1 := Lib.hid hL1
        clear hL1
        generalize usedU (l.take k) 4 = L0 at *
        generalize l[k].1 = x at *
        generalize l[k].2 = y at *
        by_cases hx : x = 1
        · subst hx
          obtain ⟨y0, y3⟩ := HV.out rfl
          have HL1 := Lib.hid (HS.out.1 rfl y0 y3)
          have HP := Lib.hid (put_any g L0 cc y wr HF.out.1 HF.out.2.2 HF.out.2.1 (by have := HLN.out; omega))
          clear y0 y3
          go_wp2_with fail
          refine HP.out.mono ?_
          rintro e w5 ⟨kk, v, L, p1, p2, p3, rfl, p5, b5⟩
          obtain rfl : L = L1 := (put_is p1 p2 p3).trans HL1.out.symm
          have B5 := Lib.hid (below_then HB.out b5)
          obtain ⟨g5, c5, rfl, o5⟩ : ∃ g5 c5, v = .slice (some ⟨g5, 0, none⟩) L.length c5 ∧ w5.ownsRow w.heap.size 3 1 (.slice (some ⟨g5, 0, none⟩) L.length c5) L.length (iv L) := by
            rcases p5 with ⟨rfl, rfl⟩ | p5
            · exact ⟨g, cc, rfl, own_keeps HO.out b5⟩
            · rcases p3 with ⟨h, _, rfl⟩ | ⟨_, e⟩
              · obtain ⟨g6, c6, e6⟩ := own_slice p5 (by omega)
                subst e6
                exact ⟨g6, c6, rfl, own_less p5 HB.out.size⟩
              · obtain ⟨g6, c6, e6⟩ := own_slice p5 (by rw [e]; simp; omega)
                subst e6
                exact ⟨g6, c6, rfl, own_less p5 HB.out.size⟩
          have O5 := Lib.hid o5
          clear p1 p2 p3 p5 b5 o5
          go_wp2
          go_roundw
          case rel => exact ⟨k + 1, g5, c5, by omega, by go_num, by rw [HG1.out], by rw [HG1.out]; exact O5.out, B5.out⟩
          case measure => simp [intOf]; omega
        · have e1 : (x == 1) = false := by rw [beq_eq_false_iff_ne]; exact hx
          have HL1 := Lib.hid (HS.out.2 hx)
          clear hx
          go_wp2
          go_roundw
          case rel => exact ⟨k + 1, g, cc, by omega, by go_num, by rw [HG1.out, HL1.out], by rw [HG1.out, HL1.out]; exact HO.out, HB.out⟩
          case measure => simp [intOf]; omega
      · obtain rfl : k = l.length := by omega
        have HO2 := OwnI.of_own HO.out
        rw [List.take_length] at HO2
        have HO3 := Lib.hid HO2
        have HTL := Lib.hid (show l.take l.length = l from List.take_length)
        clear HO HO2 HF HLN
        go_wp2
        go_ret2
        refine ⟨some ⟨g, 0, none⟩, cc, ?_, HO3.out, HB.out⟩
        show Ending.returned (.tuple #[.slice (some ⟨g, 0, none⟩) (usedU (l.take l.length) 4).length cc, .bool true]) = _
        rw [HTL.out]
end Go.Proofs.YtglpkfkbbjbjjaaDoor
