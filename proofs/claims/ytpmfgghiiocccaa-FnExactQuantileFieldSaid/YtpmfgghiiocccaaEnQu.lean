/- The program's QuantileField: its rule sorts the values. -/
import Derived.Test.YtpmfgghiiocccaaEnFld
import Derived.Test.YtpmfgghiiocccaaShelfSort
import Derived.Sort.OwnSortedInts
namespace Go.Proofs.Ytpmfgghiiocccaa
open Go.RowKit Go.Sort
set_option linter.unusedVariables false
set_option linter.unusedSimpArgs false
theorem eq_of_sorted : ∀ {a b : List Int}, a.Pairwise (· ≤ ·) → b.Pairwise (· ≤ ·) → a.Perm b → a = b
  | [], b, _, _, h => (List.Perm.nil_eq h)
  | x :: a, [], _, _, h => by have := h.length_eq; simp at this
  | x :: a, y :: b, h1, h2, h => by
    rw [List.pairwise_cons] at h1 h2
    have hx : x = y := by
      have m1 : x ∈ y :: b := h.mem_iff.1 (by simp)
      have m2 : y ∈ x :: a := h.mem_iff.2 (by simp)
      rcases List.mem_cons.1 m1 with e | e
      · exact e
      · rcases List.mem_cons.1 m2 with e2 | e2
        · exact e2.symm
        · have := h1.1 _ e2
          have := h2.1 _ e
          omega
    subst hx
    rw [eq_of_sorted h1.2 h2.2 ((List.perm_cons x).1 h)]
theorem sort_ins (vs : List Int) : (vs.mergeSort fun x y => decide (x ≤ y)) = insAll vs := by
  refine eq_of_sorted ?_ (insAll_sorted vs) ((List.mergeSort_perm vs _).trans (insAll_perm vs).symm)
  have h := List.pairwise_mergeSort (le := fun x y : Int => decide (x ≤ y)) (fun a b c h1 h2 => by simp at *; omega) (fun a b => by simp; omega) vs
  exact h.imp (fun h => by simpa using h)
theorem row_take {cur : Array Value} {ss : List Int} (h : ∀ k (hk : k < (iv ss).length), cur[k]? = some (iv ss)[k]) : cur.toList.take ss.length = ss.map (Value.int .i64) := by
  apply List.ext_getElem?
  intro j
  by_cases hj : j < ss.length
  · have h1 := h j (by rw [iv_length]; exact hj)
    rw [List.getElem?_take_of_lt hj, Array.getElem?_toList, h1]
    simp [iv, hj]
  · rw [List.getElem?_eq_none (by simp; omega), List.getElem?_eq_none (by simp; omega)]
theorem row_holds {w : World} {g : Nat} {ss : List Int} (h : Row w g 3 (iv ss)) : Holds (Value.int .i64) w g 0 ss.toArray := by
  obtain ⟨cur, h1, h2⟩ := h
  exact holds_of_blockI h1 (row_take h2)
theorem row_sorted {w : World} {g n : Nat} {os : Array Obj} {ss ts : List Int} (h : Row w g 3 (iv ss)) (hl : ts.length = ss.length) : Row (grow (putRow (Value.int .i64) (Sort.ahead w n) g 0 ts.toArray) os) g 3 (iv ts) := by
  obtain ⟨cur, h1, h2⟩ := h
  have hs : ss.length ≤ cur.size := by
    have h3 := congrArg List.length (row_take h2)
    simp at h3
    omega
  refine ⟨_, heap_sortedI _ h1, fun k hk => ?_⟩
  rw [iv_length] at hk
  have h4 := congrArg (fun l => l[k]?) (take_putCellsI cur ts (by omega))
  simp only [List.getElem?_take_of_lt hk, Array.getElem?_toList] at h4
  rw [h4]
  simp [iv, hk]
theorem ent_qu : Entered 74 := enters_of Try.func74 (by kernel_rfl) rfl
/-- sort.Ints -/
theorem ints_any (g c : Nat) (vs : List Int) (w : World) (h : Row w g 3 (iv vs)) (hn : vs.length ≤ 8) :
    Calls Try.prog 75 #[.slice (some ⟨g, 0, none⟩) vs.length c] w fun e w' => e = .returned (.tuple #[]) ∧ Row w' g 3 (iv (insAll vs)) ∧ w.grownBy w' (some g) := by
  have HS := Lib.hid (Try.slices_Sort_int g 0 c vs w (row_holds h) h.lt (by omega))
  have HR := Lib.hid (fun (n : Nat) (os : Array Obj) => row_sorted (n := n) (os := os) (ts := insAll vs) h (insAll_len vs))
  rw [sort_ins] at HS
  clear h
  go_enter Try.func75, Try.ntmps75
  go_wp2_with fail
  refine HS.out.mono ?_
  rintro e w9 ⟨rfl, n9, os9, h9⟩
  have H9 := Lib.hid h9
  clear h9 HS
  go_wp2
  go_end0
  rw [H9.out]
  exact ⟨rfl, HR.out _ _, grownBy_sortedI _⟩
theorem quotUp_is (p den : Int) (w : World) (h0 : 0 ≤ p) (h1 : p ≤ 800) (h2 : 1 ≤ den) (h3 : den ≤ 100) :
    Calls Try.prog 76 #[.int .i64 p, .int .i64 den] w fun e w' => e = .returned (.int .i64 ((p + den - 1) / den)) ∧ w = w' := by
  have h4 : ¬ den = 0 := by omega
  go_enter Try.func76, Try.ntmps76
  go_wp2
  go_ret
  exact ⟨rfl, rfl⟩
set_option maxRecDepth 100000 in
set_option maxHeartbeats 2000000 in
theorem qu_rule {b b2 : Nat} {num den : Int} {w : World} (hfr : frB num den = true) (hb0 : b < w.heap.size) (hb2 : b2 < w.heap.size) (hc : w.cell? ⟨b, 0, none⟩ = some (.int .i64 num)) (hc2 : w.cell? ⟨b2, 0, none⟩ = some (.int .i64 den)) : MbRule 74 #[.pointer (some ⟨b, 0, none⟩), .pointer (some ⟨b2, 0, none⟩)] (quF num den) w := by
  intro W vs a c B h0 h1 h2 h3 hb h4 h5
  show Calls Try.prog 74 #[.slice a vs.length c, .pointer (some ⟨b, 0, none⟩), .pointer (some ⟨b2, 0, none⟩)] W fun e w' => e = .returned (.int .i64 (quF num den vs)) ∧ Below B W w'
  have hk1 : W.cell? ⟨b, 0, none⟩ = some (.int .i64 num) := (hb.cell (p := ⟨b, 0, none⟩) hb0).trans hc
  have hk2 : W.cell? ⟨b2, 0, none⟩ = some (.int .i64 den) := (hb.cell (p := ⟨b2, 0, none⟩) hb2).trans hc2
  obtain ⟨g, hg, rfl, row⟩ : ∃ g, B ≤ g ∧ a = some ⟨g, 0, none⟩ ∧ Row W g 3 (iv vs) := by
    obtain ⟨g, h6, h7 | ⟨h7, h8⟩⟩ := h3
    · rw [h7] at h0; simp at h0
    · exact ⟨g, h6, h7, h8⟩
  have HS := Lib.hid (ints_any g c vs W row h1)
  have hfb := frB_iff.1 hfr
  have hkb := quK_bd hfr h0
  obtain ⟨P, hP⟩ : ∃ q : Int, num * (vs.length : Int) = q := ⟨_, rfl⟩
  have hP0 : 0 ≤ P := by rw [← hP]; exact Int.mul_nonneg hfb.1.1 (by omega)
  have hP1 : P ≤ 800 := by
    rw [← hP]
    have h6 : num * (vs.length : Int) ≤ 100 * (vs.length : Int) := Int.mul_le_mul_of_nonneg_right (by omega) (by omega)
    omega
  have HQ := Lib.hid (fun W' => quotUp_is P den W' hP0 hP1 hfb.2.1 hfb.2.2)
  obtain ⟨q, hq⟩ : ∃ q : Int, (P + den - 1) / den = q := ⟨_, rfl⟩
  rw [hq] at HQ
  have hKq : quK num den vs.length = max q 1 := by unfold quK; rw [hP, hq]
  have hq0 : 0 ≤ q := by rw [← hq]; exact Int.ediv_nonneg (by omega) (by omega)
  rw [hKq] at hkb
  obtain ⟨K, hK⟩ : ∃ K : Int, (if q < 1 then 1 else q) = K := ⟨_, rfl⟩
  have hKm : max q 1 = K := by rw [← hK]; split <;> omega
  rw [hKm] at hkb hKq
  obtain ⟨m, hm⟩ : ∃ m : Nat, K = (m : Int) + 1 := ⟨(K - 1).toNat, by omega⟩
  have hml : m < (insAll vs).length := by rw [insAll_len]; omega
  have hz : quF num den vs = (insAll vs)[m] := by unfold quF; rw [hKq, hm, show (m : Int) + 1 - 1 = (m : Int) by omega, Int.toNat_natCast, getD_at hml]
  have HROW := Lib.hid (fun (W' : World) (h : Row W' g 3 (iv (insAll vs))) => (h.cell (k := m) (by rw [iv_length]; exact hml)).trans (by rw [iv_get]))
  rw [hz]
  have hmv : (m : Int) < (vs.length : Int) := by have := insAll_len vs; omega
  have hm0 : (0 : Int) ≤ (m : Int) := by omega
  have HMM := Lib.hid hm
  have hbg : b ≠ g := by omega
  have hbg2 : b2 ≠ g := by omega
  have hbW : b < W.heap.size := by have := hb.size; omega
  have hbW2 : b2 < W.heap.size := by have := hb.size; omega
  have hHP := Lib.hid hP
  have HK1 := Lib.hid hk1
  have HK2 := Lib.hid hk2
  have hq9 : q ≤ 1000 := by rw [← hKm] at hkb; omega
  have hn8 : vs.length ≤ 8 := h1
  obtain ⟨y1, y2⟩ := hfb.1
  obtain ⟨y3, y4⟩ := hfb.2
  clear hP hq hKq hz hfb hkb hfr h2 row hc hc2 hk1 hk2 hb
  generalize (insAll vs)[m] = z at *
  generalize vs.length = n at *
  have hmx : max q 1 = (m : Int) + 1 := by rw [hKm]; exact HMM.out
  clear HMM hK hKm
  go_enter Try.func74, Try.ntmps74
  go_wp2_with fail
  refine HS.out.mono ?_
  rintro e w1 ⟨rfl, row1, gr1⟩
  have c1 := HROW.out _ row1
  have c2 : w1.cell? ⟨b, 0, none⟩ = some (.int .i64 num) := (World.cell?_of_block (gr1.block b hbW (by intro e; injection e with e; exact hbg e))).trans HK1.out
  have c3 : w1.cell? ⟨b2, 0, none⟩ = some (.int .i64 den) := (World.cell?_of_block (gr1.block b2 hbW2 (by intro e; injection e with e; exact hbg2 e))).trans HK2.out
  have GR := Lib.hid gr1
  clear row1 gr1 HS
  have hmul : num * (n : Int) = P := hHP.out
  go_wp2_with (go_at_call 76; refine (HQ.out _).mono ?_; rintro e w2 ⟨rfl, rfl⟩)
  go_ret
  exact ⟨rfl, (Below.refl B W).grown GR.out h5 (fun j hj => by injection hj with hj; omega)⟩
end Go.Proofs.Ytpmfgghiiocccaa
