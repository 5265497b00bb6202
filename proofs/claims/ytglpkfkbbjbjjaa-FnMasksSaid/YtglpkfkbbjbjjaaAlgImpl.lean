/- The program's field algebra: the closures, and the functions over changeValues and combineCells. -/
import Derived.Test.YtglpkfkbbjbjjaaAlgCh
import Derived.IntWalk
namespace Go.Proofs.Ytglpkfkbbjbjjaa
open Go.RowKit
set_option linter.unusedVariables false
set_option linter.unusedSimpArgs false
theorem floor_low {n d : Int} (hd : 0 < d) (h : n.tmod d < 0) : n.tdiv d - 1 = n / d := by
  have h1 := Int.tmod_add_mul_tdiv n d
  have h2 := Int.lt_tmod_of_pos n hd
  have h3 : n = (n.tmod d + d) + (n.tdiv d - 1) * d := by rw [Int.sub_mul, Int.one_mul, Int.mul_comm (n.tdiv d)]; omega
  conv => rhs; rw [h3, Int.add_mul_ediv_right _ _ (by omega), Int.ediv_eq_zero_of_lt (by omega) (by omega)]
  omega
theorem floor_at {n d : Int} (hd : 0 < d) (h : 0 ≤ n.tmod d) : n.tdiv d = n / d := by
  have h1 := Int.tmod_add_mul_tdiv n d
  have h2 := Int.tmod_lt_of_pos n hd
  have h3 : n = n.tmod d + n.tdiv d * d := by rw [Int.mul_comm (n.tdiv d)]; omega
  conv => rhs; rw [h3, Int.add_mul_ediv_right _ _ (by omega), Int.ediv_eq_zero_of_lt (by omega) (by omega)]
  omega
set_option maxHeartbeats 1000000 in
theorem quotD_is (n d : Int) (w : World) (n1 : -1000000 ≤ n) (n2 : n ≤ 1000000) (d1 : 1 ≤ d) (d2 : d ≤ 100) :
    Calls Try.prog 63 #[.int .i64 n, .int .i64 d] w fun e w' => e = .returned (.int .i64 (n / d)) ∧ w = w' := by
  have b1 : -1000000 ≤ n.tdiv d := by
    rcases Int.lt_or_le n 0 with h | h
    · have := Int.neg_tdiv (a := n) (b := d); have h3 := Int.tdiv_le_self (a := -n) d (by omega); omega
    · have := Int.tdiv_nonneg h (by omega : 0 ≤ d); omega
  have b2 : n.tdiv d ≤ 1000000 := by
    rcases Int.lt_or_le n 0 with h | h
    · have h4 := Int.tdiv_nonneg (a := -n) (b := d) (by omega) (by omega); have := Int.neg_tdiv (a := n) (b := d); omega
    · have := Int.tdiv_le_self d h; omega
  by_cases h : n.tmod d < 0
  · have HF := Lib.hid (floor_low (by omega) h)
    have e1 : decide (n.tmod d < 0) = true := decide_eq_true h
    go_enter Try.func63, Try.ntmps63
    go_wp2
    go_ret
    exact ⟨ret_int HF.out, rfl⟩
  · have HF := Lib.hid (floor_at (n := n) (d := d) (by omega) (by omega))
    have e1 : decide (n.tmod d < 0) = false := decide_eq_false h
    go_enter Try.func63, Try.ntmps63
    go_wp2
    go_ret
    exact ⟨ret_int HF.out, rfl⟩
theorem ent_abv : Entered 82 := enters_of Try.func82 (by kernel_rfl) rfl
set_option maxHeartbeats 1000000 in
theorem abv_one  {w : World}   : OneAt 82 #[] (abF) w := by
  intro W x hx hb
  show Calls Try.prog 82 #[.int .i64 x] W fun e w' => e = .returned (.int .i64 (abF x)) ∧ Below W.heap.size W w'
  obtain ⟨x1, x2⟩ := hx
  clear hb
  by_cases h : x ≤ -x
  · have e : abF x = -x := by unfold abF; omega
    rw [e]
    clear e
    go_enter Try.func82, Try.ntmps82
    go_wp2
    all_goals go_ret
    all_goals first | exact ⟨rfl, Below.refl _ _⟩ | exact ⟨ret_int (by omega), Below.refl _ _⟩
  · have e : abF x = x := by unfold abF; omega
    rw [e]
    clear e
    go_enter Try.func82, Try.ntmps82
    go_wp2
    all_goals go_ret
    all_goals first | exact ⟨rfl, Below.refl _ _⟩ | exact ⟨ret_int (by omega), Below.refl _ _⟩
theorem ent_clp : Entered 78 := enters_of Try.func78 (by kernel_rfl) rfl
set_option maxHeartbeats 1000000 in
theorem clp_one {B0 B1 : Nat} {low high : Int} {w : World} (hlow : B0 < w.heap.size) (clow : w.cell? ⟨B0, 0, none⟩ = some (.int .i64 low)) (hhigh : B1 < w.heap.size) (chigh : w.cell? ⟨B1, 0, none⟩ = some (.int .i64 high)) (hlh : low ≤ high) : OneAt 78 #[.pointer (some ⟨B0, 0, none⟩), .pointer (some ⟨B1, 0, none⟩)] (clF low high) w := by
  intro W x hx hb
  show Calls Try.prog 78 #[.int .i64 x, .pointer (some ⟨B0, 0, none⟩), .pointer (some ⟨B1, 0, none⟩)] W fun e w' => e = .returned (.int .i64 (clF low high x)) ∧ Below W.heap.size W w'
  have dlow := cell_below clow hlow hb
  have dhigh := cell_below chigh hhigh hb
  obtain ⟨x1, x2⟩ := hx
  clear hb clow chigh
  by_cases h1 : x ≤ low
  · by_cases h2 : low ≤ high
    · have e : clF low high x = low := by unfold clF; omega
      rw [e]
      clear e
      go_enter Try.func78, Try.ntmps78
      go_wp2
      all_goals go_ret
      all_goals first | exact ⟨rfl, Below.refl _ _⟩ | exact ⟨ret_int (by omega), Below.refl _ _⟩
    · exact absurd hlh h2
  · by_cases h2 : x ≤ high
    · have e : clF low high x = x := by unfold clF; omega
      rw [e]
      clear e
      go_enter Try.func78, Try.ntmps78
      go_wp2
      all_goals go_ret
      all_goals first | exact ⟨rfl, Below.refl _ _⟩ | exact ⟨ret_int (by omega), Below.refl _ _⟩
    · have e : clF low high x = high := by unfold clF; omega
      rw [e]
      clear e
      go_enter Try.func78, Try.ntmps78
      go_wp2
      all_goals go_ret
      all_goals first | exact ⟨rfl, Below.refl _ _⟩ | exact ⟨ret_int (by omega), Below.refl _ _⟩
theorem scale_hi {x n : Int} (x1 : -9000 ≤ x) (x2 : x ≤ 9000) (k1 : -100 ≤ n) (k2 : n ≤ 100) : x * n ≤ 900000 := by
  rcases Int.lt_or_le n 0 with h | h
  · have h1 : (9000 + x) * -n ≥ 0 := Int.mul_nonneg (by omega) (by omega)
    rw [Int.add_mul, Int.mul_neg, Int.mul_neg] at h1
    omega
  · have h1 : (9000 - x) * n ≥ 0 := Int.mul_nonneg (by omega) (by omega)
    rw [Int.sub_mul] at h1
    omega
theorem scale_lo {x n : Int} (x1 : -9000 ≤ x) (x2 : x ≤ 9000) (k1 : -100 ≤ n) (k2 : n ≤ 100) : -900000 ≤ x * n := by
  have h := scale_hi (x := -x) (n := n) (by omega) (by omega) k1 k2
  rw [Int.neg_mul] at h
  omega
theorem ent_scl : Entered 62 := enters_of Try.func62 (by kernel_rfl) rfl
set_option maxHeartbeats 1000000 in
theorem scl_one {B0 B1 : Nat} {num den : Int} {w : World} (hnum : B0 < w.heap.size) (cnum : w.cell? ⟨B0, 0, none⟩ = some (.int .i64 num)) (hden : B1 < w.heap.size) (cden : w.cell? ⟨B1, 0, none⟩ = some (.int .i64 den)) (k1 : -100 ≤ num) (k2 : num ≤ 100) (k3 : 1 ≤ den) (k4 : den ≤ 100) : OneAt 62 #[.pointer (some ⟨B0, 0, none⟩), .pointer (some ⟨B1, 0, none⟩)] (scF num den) w := by
  intro W x hx hb
  show Calls Try.prog 62 #[.int .i64 x, .pointer (some ⟨B0, 0, none⟩), .pointer (some ⟨B1, 0, none⟩)] W fun e w' => e = .returned (.int .i64 (scF num den x)) ∧ Below W.heap.size W w'
  have dnum := cell_below cnum hnum hb
  have dden := cell_below cden hden hb
  obtain ⟨x1, x2⟩ := hx
  clear hb cnum cden
  have e : scF num den x = (x * num) / den := rfl
  rw [e]
  clear e
  obtain ⟨p, hp⟩ : ∃ p, x * num = p := ⟨_, rfl⟩
  have p1 : -900000 ≤ p := by rw [← hp]; exact scale_lo x1 x2 k1 k2
  have p2 : p ≤ 900000 := by rw [← hp]; exact scale_hi x1 x2 k1 k2
  have HQ := Lib.hid (fun W => quotD_is p den W (by omega) (by omega) k3 k4)
  rw [hp]
  go_enter Try.func62, Try.ntmps62
  go_wp2_with (go_at_call 63; refine (HQ.out _).mono ?_; rintro e w1 ⟨rfl, rfl⟩)
  go_ret
  exact ⟨rfl, Below.refl _ _⟩
set_option maxRecDepth 100000 in
set_option maxHeartbeats 4000000 in
theorem implAbs_any (wd hg : Int) (a : Option Addr) (l : List Int) (c : Nat) (w : World) (hl : Ints .i64 w w.heap.size a l) (hn : l.length ≤ 1048576) :
    Calls Try.prog 36 #[.agg #[.int .i64 wd, .int .i64 hg, .slice a l.length c]] w (FRet (absR wd hg l) w) := by
  have I0 := (ints_alloc (ints_alloc hl (.cells #[.int .i64 wd, .int .i64 hg, .slice a l.length c] 26)) (.cells #[.int .i64 0, .int .i64 0, .slice none 0 0] 26))
  have R0 := Box.new (w.alloc (.cells #[.int .i64 wd, .int .i64 hg, .slice a l.length c] 26)) 26 (.int .i64 0) (.int .i64 0) (.slice none 0 0)
  simp only [World.size_alloc] at R0
  have B0 : Below w.heap.size w ((w.alloc (.cells #[.int .i64 wd, .int .i64 hg, .slice a l.length c] 26)).alloc (.cells #[.int .i64 0, .int .i64 0, .slice none 0 0] 26)) := (((Below.refl w.heap.size w).alloc (by simp <;> omega) (.cells #[.int .i64 wd, .int .i64 hg, .slice a l.length c] 26)).alloc (by simp <;> omega) (.cells #[.int .i64 0, .int .i64 0, .slice none 0 0] 26))
  have zw : ((w.alloc (.cells #[.int .i64 wd, .int .i64 hg, .slice a l.length c] 26)).alloc (.cells #[.int .i64 0, .int .i64 0, .slice none 0 0] 26)).heap.size = w.heap.size + 1 + 1 := by simp
  generalize hW : ((w.alloc (.cells #[.int .i64 wd, .int .i64 hg, .slice a l.length c] 26)).alloc (.cells #[.int .i64 0, .int .i64 0, .slice none 0 0] 26)) = W at I0 R0 B0 zw
  unfold absR
  have HC := Lib.hid (changeV_any wd hg a l c 82 #[] (abF) W I0 hn ent_abv (abv_one))
  have HW := Lib.hid hW
  have HR := Lib.hid R0
  have HB := Lib.hid B0
  have HZ := Lib.hid zw
  clear hl I0 R0 B0 zw hW
  generalize mapR (abF) wd hg l = rr at *
  go_enter Try.func36, Try.ntmps36
  go_wp2_with fail
  rw [HW.out]
  refine HC.out.mono ?_
  rintro e w1 ⟨a1, c1, rfl, o1, b1⟩
  have O1 := Lib.hid (o1.more (C := w.heap.size + 1 + 1) (by have := HZ.out; omega))
  have R1 := HR.out.below b1
  have B1 := Lib.hid (below_then HB.out b1)
  obtain ⟨r0, r1, r2⟩ := R1.cells
  have g0 := R1.frozen 0
  have g1 := R1.frozen 1
  have g2 := R1.frozen 2
  clear o1 b1 R1 HC HW HR
  go_wp2
  refine bodyPost_ret (v := .tuple #[.agg #[.int .i64 (rW rr), .int .i64 (rH rr), .slice a1 (rL rr).length c1], .bool (rB rr)]) (by simp [results, Try.results36, go_sem, r0, r1, r2]) rfl ⟨a1, c1, rfl, ?_, ?_⟩
  · exact (ownI_set (ownI_set (ownI_set O1.out (by show w.heap.size + 1 < _; omega) _) (by show w.heap.size + 1 < _; omega) _) (by show w.heap.size + 1 < _; omega) _).more (by omega)
  · exact ((B1.out.setCell (by show w.heap.size ≤ w.heap.size + 1; omega) _).setCell (by show w.heap.size ≤ w.heap.size + 1; omega) _).setCell (by show w.heap.size ≤ w.heap.size + 1; omega) _

set_option maxRecDepth 100000 in
set_option maxHeartbeats 4000000 in
theorem implScale_any (wd hg : Int) (a : Option Addr) (l : List Int) (c : Nat) (num : Int) (den : Int) (w : World) (hl : Ints .i64 w w.heap.size a l) (hn : l.length ≤ 1048576) :
    Calls Try.prog 22 #[.agg #[.int .i64 wd, .int .i64 hg, .slice a l.length c], .int .i64 num, .int .i64 den] w (FRet (scaleR wd hg l num den) w) := by
  have I0 := (ints_alloc (ints_alloc (ints_alloc (ints_alloc hl (.cells #[.int .i64 wd, .int .i64 hg, .slice a l.length c] 26)) (.cells #[.int .i64 num] 3)) (.cells #[.int .i64 den] 3)) (.cells #[.int .i64 0, .int .i64 0, .slice none 0 0] 26))
  have R0 := Box.new (((w.alloc (.cells #[.int .i64 wd, .int .i64 hg, .slice a l.length c] 26)).alloc (.cells #[.int .i64 num] 3)).alloc (.cells #[.int .i64 den] 3)) 26 (.int .i64 0) (.int .i64 0) (.slice none 0 0)
  simp only [World.size_alloc] at R0
  have B0 : Below w.heap.size w ((((w.alloc (.cells #[.int .i64 wd, .int .i64 hg, .slice a l.length c] 26)).alloc (.cells #[.int .i64 num] 3)).alloc (.cells #[.int .i64 den] 3)).alloc (.cells #[.int .i64 0, .int .i64 0, .slice none 0 0] 26)) := (((((Below.refl w.heap.size w).alloc (by simp <;> omega) (.cells #[.int .i64 wd, .int .i64 hg, .slice a l.length c] 26)).alloc (by simp <;> omega) (.cells #[.int .i64 num] 3)).alloc (by simp <;> omega) (.cells #[.int .i64 den] 3)).alloc (by simp <;> omega) (.cells #[.int .i64 0, .int .i64 0, .slice none 0 0] 26))
  have C0 : ((((w.alloc (.cells #[.int .i64 wd, .int .i64 hg, .slice a l.length c] 26)).alloc (.cells #[.int .i64 num] 3)).alloc (.cells #[.int .i64 den] 3)).alloc (.cells #[.int .i64 0, .int .i64 0, .slice none 0 0] 26)).cell? ⟨w.heap.size + 1, 0, none⟩ = some (.int .i64 num) := by rw [World.cell?_alloc_past _ _ _ (by simp)]; rw [World.cell?_alloc_past _ _ _ (by simp)]; rw [World.cell?_alloc_at _ _ _ _ (by simp)]; rfl
  have C1 : ((((w.alloc (.cells #[.int .i64 wd, .int .i64 hg, .slice a l.length c] 26)).alloc (.cells #[.int .i64 num] 3)).alloc (.cells #[.int .i64 den] 3)).alloc (.cells #[.int .i64 0, .int .i64 0, .slice none 0 0] 26)).cell? ⟨w.heap.size + 1 + 1, 0, none⟩ = some (.int .i64 den) := by rw [World.cell?_alloc_past _ _ _ (by simp)]; rw [World.cell?_alloc_at _ _ _ _ (by simp)]; rfl
  have zw : ((((w.alloc (.cells #[.int .i64 wd, .int .i64 hg, .slice a l.length c] 26)).alloc (.cells #[.int .i64 num] 3)).alloc (.cells #[.int .i64 den] 3)).alloc (.cells #[.int .i64 0, .int .i64 0, .slice none 0 0] 26)).heap.size = w.heap.size + 1 + 1 + 1 + 1 := by simp
  generalize hW : ((((w.alloc (.cells #[.int .i64 wd, .int .i64 hg, .slice a l.length c] 26)).alloc (.cells #[.int .i64 num] 3)).alloc (.cells #[.int .i64 den] 3)).alloc (.cells #[.int .i64 0, .int .i64 0, .slice none 0 0] 26)) = W at I0 R0 B0 zw C0 C1
  unfold scaleR
  by_cases k1 : -100 ≤ num
  · by_cases k2 : num ≤ 100
    · by_cases k3 : 1 ≤ den
      · by_cases k4 : den ≤ 100
        · rw [if_pos (by unfold scB; simp [k1, k2, k3, k4])]
          have HC := Lib.hid (changeV_any wd hg a l c 62 #[.pointer (some ⟨w.heap.size + 1, 0, none⟩), .pointer (some ⟨w.heap.size + 1 + 1, 0, none⟩)] (scF num den) W I0 hn ent_scl (scl_one (by omega) C0 (by omega) C1 k1 k2 k3 k4))
          have HW := Lib.hid hW
          have HR := Lib.hid R0
          have HB := Lib.hid B0
          have HZ := Lib.hid zw
          clear hl I0 R0 B0 zw hW C0 C1
          generalize mapR (scF num den) wd hg l = rr at *
          go_enter Try.func22, Try.ntmps22
          go_wp2_with fail
          rw [HW.out]
          refine HC.out.mono ?_
          rintro e w1 ⟨a1, c1, rfl, o1, b1⟩
          have O1 := Lib.hid (o1.more (C := w.heap.size + 1 + 1 + 1 + 1) (by have := HZ.out; omega))
          have R1 := HR.out.below b1
          have B1 := Lib.hid (below_then HB.out b1)
          obtain ⟨r0, r1, r2⟩ := R1.cells
          have g0 := R1.frozen 0
          have g1 := R1.frozen 1
          have g2 := R1.frozen 2
          clear o1 b1 R1 HC HW HR
          go_wp2
          refine bodyPost_ret (v := .tuple #[.agg #[.int .i64 (rW rr), .int .i64 (rH rr), .slice a1 (rL rr).length c1], .bool (rB rr)]) (by simp [results, Try.results22, go_sem, r0, r1, r2]) rfl ⟨a1, c1, rfl, ?_, ?_⟩
          · exact (ownI_set (ownI_set (ownI_set O1.out (by show w.heap.size + 1 + 1 + 1 < _; omega) _) (by show w.heap.size + 1 + 1 + 1 < _; omega) _) (by show w.heap.size + 1 + 1 + 1 < _; omega) _).more (by omega)
          · exact ((B1.out.setCell (by show w.heap.size ≤ w.heap.size + 1 + 1 + 1; omega) _).setCell (by show w.heap.size ≤ w.heap.size + 1 + 1 + 1; omega) _).setCell (by show w.heap.size ≤ w.heap.size + 1 + 1 + 1; omega) _
        · rw [if_neg (by unfold scB; simp [k4])]
          obtain ⟨r0, r1, r2⟩ := R0.cells
          have g0 := R0.frozen 0
          have g1 := R0.frozen 1
          have g2 := R0.frozen 2
          have B1 := Lib.hid B0
          subst hW
          clear hl I0 R0 B0 zw C0 C1
          go_enter Try.func22, Try.ntmps22
          go_wp2
          refine bodyPost_ret (v := .tuple #[.agg #[.int .i64 0, .int .i64 0, .slice none 0 0], .bool false]) (by simp [results, Try.results22, go_sem, r0, r1, r2]) rfl ⟨none, 0, rfl, OwnI.none_, ?_⟩
          first | exact B1.out | exact ((B1.out.setCell (p := ⟨w.heap.size + 1 + 1 + 1, 0, none⟩) (by show w.heap.size ≤ w.heap.size + 1 + 1 + 1; omega) _).setCell (p := ⟨w.heap.size + 1 + 1 + 1, 1, none⟩) (by show w.heap.size ≤ w.heap.size + 1 + 1 + 1; omega) _).setCell (p := ⟨w.heap.size + 1 + 1 + 1, 2, none⟩) (by show w.heap.size ≤ w.heap.size + 1 + 1 + 1; omega) _
      · rw [if_neg (by unfold scB; simp [k3])]
        obtain ⟨r0, r1, r2⟩ := R0.cells
        have g0 := R0.frozen 0
        have g1 := R0.frozen 1
        have g2 := R0.frozen 2
        have B1 := Lib.hid B0
        subst hW
        clear hl I0 R0 B0 zw C0 C1
        go_enter Try.func22, Try.ntmps22
        go_wp2
        refine bodyPost_ret (v := .tuple #[.agg #[.int .i64 0, .int .i64 0, .slice none 0 0], .bool false]) (by simp [results, Try.results22, go_sem, r0, r1, r2]) rfl ⟨none, 0, rfl, OwnI.none_, ?_⟩
        first | exact B1.out | exact ((B1.out.setCell (p := ⟨w.heap.size + 1 + 1 + 1, 0, none⟩) (by show w.heap.size ≤ w.heap.size + 1 + 1 + 1; omega) _).setCell (p := ⟨w.heap.size + 1 + 1 + 1, 1, none⟩) (by show w.heap.size ≤ w.heap.size + 1 + 1 + 1; omega) _).setCell (p := ⟨w.heap.size + 1 + 1 + 1, 2, none⟩) (by show w.heap.size ≤ w.heap.size + 1 + 1 + 1; omega) _
    · rw [if_neg (by unfold scB; simp [k2])]
      obtain ⟨r0, r1, r2⟩ := R0.cells
      have g0 := R0.frozen 0
      have g1 := R0.frozen 1
      have g2 := R0.frozen 2
      have B1 := Lib.hid B0
      subst hW
      clear hl I0 R0 B0 zw C0 C1
      go_enter Try.func22, Try.ntmps22
      go_wp2
      refine bodyPost_ret (v := .tuple #[.agg #[.int .i64 0, .int .i64 0, .slice none 0 0], .bool false]) (by simp [results, Try.results22, go_sem, r0, r1, r2]) rfl ⟨none, 0, rfl, OwnI.none_, ?_⟩
      first | exact B1.out | exact ((B1.out.setCell (p := ⟨w.heap.size + 1 + 1 + 1, 0, none⟩) (by show w.heap.size ≤ w.heap.size + 1 + 1 + 1; omega) _).setCell (p := ⟨w.heap.size + 1 + 1 + 1, 1, none⟩) (by show w.heap.size ≤ w.heap.size + 1 + 1 + 1; omega) _).setCell (p := ⟨w.heap.size + 1 + 1 + 1, 2, none⟩) (by show w.heap.size ≤ w.heap.size + 1 + 1 + 1; omega) _
  · rw [if_neg (by unfold scB; simp [k1])]
    obtain ⟨r0, r1, r2⟩ := R0.cells
    have g0 := R0.frozen 0
    have g1 := R0.frozen 1
    have g2 := R0.frozen 2
    have B1 := Lib.hid B0
    subst hW
    clear hl I0 R0 B0 zw C0 C1
    go_enter Try.func22, Try.ntmps22
    go_wp2
    refine bodyPost_ret (v := .tuple #[.agg #[.int .i64 0, .int .i64 0, .slice none 0 0], .bool false]) (by simp [results, Try.results22, go_sem, r0, r1, r2]) rfl ⟨none, 0, rfl, OwnI.none_, ?_⟩
    first | exact B1.out | exact ((B1.out.setCell (p := ⟨w.heap.size + 1 + 1 + 1, 0, none⟩) (by show w.heap.size ≤ w.heap.size + 1 + 1 + 1; omega) _).setCell (p := ⟨w.heap.size + 1 + 1 + 1, 1, none⟩) (by show w.heap.size ≤ w.heap.size + 1 + 1 + 1; omega) _).setCell (p := ⟨w.heap.size + 1 + 1 + 1, 2, none⟩) (by show w.heap.size ≤ w.heap.size + 1 + 1 + 1; omega) _

set_option maxRecDepth 100000 in
set_option maxHeartbeats 4000000 in
theorem implClip_any (wd hg : Int) (a : Option Addr) (l : List Int) (c : Nat) (low : Int) (high : Int) (w : World) (hl : Ints .i64 w w.heap.size a l) (hn : l.length ≤ 1048576) :
    Calls Try.prog 33 #[.agg #[.int .i64 wd, .int .i64 hg, .slice a l.length c], .int .i64 low, .int .i64 high] w (FRet (clipR wd hg l low high) w) := by
  have I0 := (ints_alloc (ints_alloc (ints_alloc (ints_alloc hl (.cells #[.int .i64 wd, .int .i64 hg, .slice a l.length c] 26)) (.cells #[.int .i64 low] 3)) (.cells #[.int .i64 high] 3)) (.cells #[.int .i64 0, .int .i64 0, .slice none 0 0] 26))
  have R0 := Box.new (((w.alloc (.cells #[.int .i64 wd, .int .i64 hg, .slice a l.length c] 26)).alloc (.cells #[.int .i64 low] 3)).alloc (.cells #[.int .i64 high] 3)) 26 (.int .i64 0) (.int .i64 0) (.slice none 0 0)
  simp only [World.size_alloc] at R0
  have B0 : Below w.heap.size w ((((w.alloc (.cells #[.int .i64 wd, .int .i64 hg, .slice a l.length c] 26)).alloc (.cells #[.int .i64 low] 3)).alloc (.cells #[.int .i64 high] 3)).alloc (.cells #[.int .i64 0, .int .i64 0, .slice none 0 0] 26)) := (((((Below.refl w.heap.size w).alloc (by simp <;> omega) (.cells #[.int .i64 wd, .int .i64 hg, .slice a l.length c] 26)).alloc (by simp <;> omega) (.cells #[.int .i64 low] 3)).alloc (by simp <;> omega) (.cells #[.int .i64 high] 3)).alloc (by simp <;> omega) (.cells #[.int .i64 0, .int .i64 0, .slice none 0 0] 26))
  have C0 : ((((w.alloc (.cells #[.int .i64 wd, .int .i64 hg, .slice a l.length c] 26)).alloc (.cells #[.int .i64 low] 3)).alloc (.cells #[.int .i64 high] 3)).alloc (.cells #[.int .i64 0, .int .i64 0, .slice none 0 0] 26)).cell? ⟨w.heap.size + 1, 0, none⟩ = some (.int .i64 low) := by rw [World.cell?_alloc_past _ _ _ (by simp)]; rw [World.cell?_alloc_past _ _ _ (by simp)]; rw [World.cell?_alloc_at _ _ _ _ (by simp)]; rfl
  have C1 : ((((w.alloc (.cells #[.int .i64 wd, .int .i64 hg, .slice a l.length c] 26)).alloc (.cells #[.int .i64 low] 3)).alloc (.cells #[.int .i64 high] 3)).alloc (.cells #[.int .i64 0, .int .i64 0, .slice none 0 0] 26)).cell? ⟨w.heap.size + 1 + 1, 0, none⟩ = some (.int .i64 high) := by rw [World.cell?_alloc_past _ _ _ (by simp)]; rw [World.cell?_alloc_at _ _ _ _ (by simp)]; rfl
  have zw : ((((w.alloc (.cells #[.int .i64 wd, .int .i64 hg, .slice a l.length c] 26)).alloc (.cells #[.int .i64 low] 3)).alloc (.cells #[.int .i64 high] 3)).alloc (.cells #[.int .i64 0, .int .i64 0, .slice none 0 0] 26)).heap.size = w.heap.size + 1 + 1 + 1 + 1 := by simp
  generalize hW : ((((w.alloc (.cells #[.int .i64 wd, .int .i64 hg, .slice a l.length c] 26)).alloc (.cells #[.int .i64 low] 3)).alloc (.cells #[.int .i64 high] 3)).alloc (.cells #[.int .i64 0, .int .i64 0, .slice none 0 0] 26)) = W at I0 R0 B0 zw C0 C1
  unfold clipR
  by_cases k1 : low ≤ high
  · cases v_low : valB low with
    | true =>
      cases v_high : valB high with
      | true =>
        rw [if_pos (by unfold clB; simp [k1, v_low, v_high])]
        have HC := Lib.hid (changeV_any wd hg a l c 78 #[.pointer (some ⟨w.heap.size + 1, 0, none⟩), .pointer (some ⟨w.heap.size + 1 + 1, 0, none⟩)] (clF low high) W I0 hn ent_clp (clp_one (by omega) C0 (by omega) C1 k1))
        have HVlow := Lib.hid (fun W => implValue_is low true W v_low)
        have HVhigh := Lib.hid (fun W => implValue_is high true W v_high)
        clear v_low v_high
        have HW := Lib.hid hW
        have HR := Lib.hid R0
        have HB := Lib.hid B0
        have HZ := Lib.hid zw
        clear hl I0 R0 B0 zw hW C0 C1
        generalize mapR (clF low high) wd hg l = rr at *
        go_enter Try.func33, Try.ntmps33
        go_wp2_with (first | (go_at_call 77; refine (HVlow.out _).mono ?_; rintro e w9 ⟨rfl, rfl⟩) | (go_at_call 77; refine (HVhigh.out _).mono ?_; rintro e w9 ⟨rfl, rfl⟩) | fail)
        rw [HW.out]
        refine HC.out.mono ?_
        rintro e w1 ⟨a1, c1, rfl, o1, b1⟩
        have O1 := Lib.hid (o1.more (C := w.heap.size + 1 + 1 + 1 + 1) (by have := HZ.out; omega))
        have R1 := HR.out.below b1
        have B1 := Lib.hid (below_then HB.out b1)
        obtain ⟨r0, r1, r2⟩ := R1.cells
        have g0 := R1.frozen 0
        have g1 := R1.frozen 1
        have g2 := R1.frozen 2
        clear o1 b1 R1 HC HW HR
        go_wp2
        refine bodyPost_ret (v := .tuple #[.agg #[.int .i64 (rW rr), .int .i64 (rH rr), .slice a1 (rL rr).length c1], .bool (rB rr)]) (by simp [results, Try.results33, go_sem, r0, r1, r2]) rfl ⟨a1, c1, rfl, ?_, ?_⟩
        · exact (ownI_set (ownI_set (ownI_set O1.out (by show w.heap.size + 1 + 1 + 1 < _; omega) _) (by show w.heap.size + 1 + 1 + 1 < _; omega) _) (by show w.heap.size + 1 + 1 + 1 < _; omega) _).more (by omega)
        · exact ((B1.out.setCell (by show w.heap.size ≤ w.heap.size + 1 + 1 + 1; omega) _).setCell (by show w.heap.size ≤ w.heap.size + 1 + 1 + 1; omega) _).setCell (by show w.heap.size ≤ w.heap.size + 1 + 1 + 1; omega) _
      | false =>
        rw [if_neg (by unfold clB; simp [v_high])]
        have HVlow := Lib.hid (fun W => implValue_is low true W v_low)
        have HVhigh := Lib.hid (fun W => implValue_is high false W v_high)
        clear v_low v_high
        obtain ⟨r0, r1, r2⟩ := R0.cells
        have g0 := R0.frozen 0
        have g1 := R0.frozen 1
        have g2 := R0.frozen 2
        have B1 := Lib.hid B0
        subst hW
        clear hl I0 R0 B0 zw C0 C1
        go_enter Try.func33, Try.ntmps33
        go_wp2_with (first | (go_at_call 77; refine (HVlow.out _).mono ?_; rintro e w9 ⟨rfl, rfl⟩) | (go_at_call 77; refine (HVhigh.out _).mono ?_; rintro e w9 ⟨rfl, rfl⟩) | fail)
        refine bodyPost_ret (v := .tuple #[.agg #[.int .i64 0, .int .i64 0, .slice none 0 0], .bool false]) (by simp [results, Try.results33, go_sem, r0, r1, r2]) rfl ⟨none, 0, rfl, OwnI.none_, ?_⟩
        first | exact B1.out | exact ((B1.out.setCell (p := ⟨w.heap.size + 1 + 1 + 1, 0, none⟩) (by show w.heap.size ≤ w.heap.size + 1 + 1 + 1; omega) _).setCell (p := ⟨w.heap.size + 1 + 1 + 1, 1, none⟩) (by show w.heap.size ≤ w.heap.size + 1 + 1 + 1; omega) _).setCell (p := ⟨w.heap.size + 1 + 1 + 1, 2, none⟩) (by show w.heap.size ≤ w.heap.size + 1 + 1 + 1; omega) _
    | false =>
      rw [if_neg (by unfold clB; simp [v_low])]
      have HVlow := Lib.hid (fun W => implValue_is low false W v_low)
      clear v_low
      obtain ⟨r0, r1, r2⟩ := R0.cells
      have g0 := R0.frozen 0
      have g1 := R0.frozen 1
      have g2 := R0.frozen 2
      have B1 := Lib.hid B0
      subst hW
      clear hl I0 R0 B0 zw C0 C1
      go_enter Try.func33, Try.ntmps33
      go_wp2_with (first | (go_at_call 77; refine (HVlow.out _).mono ?_; rintro e w9 ⟨rfl, rfl⟩) | fail)
      refine bodyPost_ret (v := .tuple #[.agg #[.int .i64 0, .int .i64 0, .slice none 0 0], .bool false]) (by simp [results, Try.results33, go_sem, r0, r1, r2]) rfl ⟨none, 0, rfl, OwnI.none_, ?_⟩
      first | exact B1.out | exact ((B1.out.setCell (p := ⟨w.heap.size + 1 + 1 + 1, 0, none⟩) (by show w.heap.size ≤ w.heap.size + 1 + 1 + 1; omega) _).setCell (p := ⟨w.heap.size + 1 + 1 + 1, 1, none⟩) (by show w.heap.size ≤ w.heap.size + 1 + 1 + 1; omega) _).setCell (p := ⟨w.heap.size + 1 + 1 + 1, 2, none⟩) (by show w.heap.size ≤ w.heap.size + 1 + 1 + 1; omega) _
  · rw [if_neg (by unfold clB; simp [k1])]
    obtain ⟨r0, r1, r2⟩ := R0.cells
    have g0 := R0.frozen 0
    have g1 := R0.frozen 1
    have g2 := R0.frozen 2
    have B1 := Lib.hid B0
    subst hW
    clear hl I0 R0 B0 zw C0 C1
    go_enter Try.func33, Try.ntmps33
    go_wp2
    refine bodyPost_ret (v := .tuple #[.agg #[.int .i64 0, .int .i64 0, .slice none 0 0], .bool false]) (by simp [results, Try.results33, go_sem, r0, r1, r2]) rfl ⟨none, 0, rfl, OwnI.none_, ?_⟩
    first | exact B1.out | exact ((B1.out.setCell (p := ⟨w.heap.size + 1 + 1 + 1, 0, none⟩) (by show w.heap.size ≤ w.heap.size + 1 + 1 + 1; omega) _).setCell (p := ⟨w.heap.size + 1 + 1 + 1, 1, none⟩) (by show w.heap.size ≤ w.heap.size + 1 + 1 + 1; omega) _).setCell (p := ⟨w.heap.size + 1 + 1 + 1, 2, none⟩) (by show w.heap.size ≤ w.heap.size + 1 + 1 + 1; omega) _

theorem ent_msk : Entered 66 := enters_of Try.func66 (by kernel_rfl) rfl
set_option maxRecDepth 100000 in
set_option maxHeartbeats 4000000 in
theorem implMask_any (wa ha : Int) (aa : Option Addr) (la : List Int) (ca : Nat) (wb hb : Int) (ab : Option Addr) (lb : List Int) (cb : Nat) (w : World) (h1 : Ints .i64 w w.heap.size aa la) (h2 : Ints .i64 w w.heap.size ab lb) (n1 : la.length ≤ 1048576) (n2 : lb.length ≤ 1048576) :
    Calls Try.prog 25 #[.agg #[.int .i64 wa, .int .i64 ha, .slice aa la.length ca], .agg #[.int .i64 wb, .int .i64 hb, .slice ab lb.length cb]] w (FRet (maskR wa ha la wb hb lb) w) := by
  unfold maskR
  have F0 := Lib.hid (Fr2.new (wd0 := wa) (hg0 := ha) (c0 := ca) (wd1 := wb) (hg1 := hb) (c1 := cb) h1 h2)
  have HC := Lib.hid (combCells_any wa ha aa la ca wb hb ab lb cb 66 #[] _ _ F0.out.i0 F0.out.i1 n1 n2 ent_msk (mask_rule _))
  clear h1 h2
  generalize combR mkF wa ha la wb hb lb = rr at *
  go_enter Try.func25, Try.ntmps25
  go_wp2_with fail
  refine HC.out.mono ?_
  rintro e w1 ⟨a1, c1, rfl, o1, b1⟩
  have O1 := Lib.hid (o1.more (C := w.heap.size + 1 + 1 + 1) (by simp))
  have F1 := Lib.hid (F0.out.step b1)
  have B1 := Lib.hid F1.out.b
  obtain ⟨r0, r1, r2⟩ := F1.out.r.cells
  have g0 := F1.out.r.frozen 0
  have g1 := F1.out.r.frozen 1
  have g2 := F1.out.r.frozen 2
  clear o1 b1 HC F0 F1
  go_wp2
  refine bodyPost_ret (v := .tuple #[.agg #[.int .i64 (rW rr), .int .i64 (rH rr), .slice a1 (rL rr).length c1], .bool (rB rr)]) (by simp [results, Try.results25, go_sem, r0, r1, r2]) rfl ⟨a1, c1, rfl, ?_, ?_⟩
  · exact (ownI_set (ownI_set (ownI_set O1.out (by show w.heap.size + 1 + 1 < _; omega) _) (by show w.heap.size + 1 + 1 < _; omega) _) (by show w.heap.size + 1 + 1 < _; omega) _).more (by omega)
  · exact ((B1.out.setCell (by show w.heap.size ≤ w.heap.size + 1 + 1; omega) _).setCell (by show w.heap.size ≤ w.heap.size + 1 + 1; omega) _).setCell (by show w.heap.size ≤ w.heap.size + 1 + 1; omega) _
theorem ent_fil : Entered 68 := enters_of Try.func68 (by kernel_rfl) rfl
set_option maxRecDepth 100000 in
set_option maxHeartbeats 4000000 in
theorem implFill_any (wa ha : Int) (aa : Option Addr) (la : List Int) (ca : Nat) (wb hb : Int) (ab : Option Addr) (lb : List Int) (cb : Nat) (w : World) (h1 : Ints .i64 w w.heap.size aa la) (h2 : Ints .i64 w w.heap.size ab lb) (n1 : la.length ≤ 1048576) (n2 : lb.length ≤ 1048576) :
    Calls Try.prog 27 #[.agg #[.int .i64 wa, .int .i64 ha, .slice aa la.length ca], .agg #[.int .i64 wb, .int .i64 hb, .slice ab lb.length cb]] w (FRet (fillR wa ha la wb hb lb) w) := by
  unfold fillR
  have F0 := Lib.hid (Fr2.new (wd0 := wa) (hg0 := ha) (c0 := ca) (wd1 := wb) (hg1 := hb) (c1 := cb) h1 h2)
  have HC := Lib.hid (combCells_any wa ha aa la ca wb hb ab lb cb 68 #[] _ _ F0.out.i0 F0.out.i1 n1 n2 ent_fil (fill_rule _))
  clear h1 h2
  generalize combR flF wa ha la wb hb lb = rr at *
  go_enter Try.func27, Try.ntmps27
  go_wp2_with fail
  refine HC.out.mono ?_
  rintro e w1 ⟨a1, c1, rfl, o1, b1⟩
  have O1 := Lib.hid (o1.more (C := w.heap.size + 1 + 1 + 1) (by simp))
  have F1 := Lib.hid (F0.out.step b1)
  have B1 := Lib.hid F1.out.b
  obtain ⟨r0, r1, r2⟩ := F1.out.r.cells
  have g0 := F1.out.r.frozen 0
  have g1 := F1.out.r.frozen 1
  have g2 := F1.out.r.frozen 2
  clear o1 b1 HC F0 F1
  go_wp2
  refine bodyPost_ret (v := .tuple #[.agg #[.int .i64 (rW rr), .int .i64 (rH rr), .slice a1 (rL rr).length c1], .bool (rB rr)]) (by simp [results, Try.results27, go_sem, r0, r1, r2]) rfl ⟨a1, c1, rfl, ?_, ?_⟩
  · exact (ownI_set (ownI_set (ownI_set O1.out (by show w.heap.size + 1 + 1 < _; omega) _) (by show w.heap.size + 1 + 1 < _; omega) _) (by show w.heap.size + 1 + 1 < _; omega) _).more (by omega)
  · exact ((B1.out.setCell (by show w.heap.size ≤ w.heap.size + 1 + 1; omega) _).setCell (by show w.heap.size ≤ w.heap.size + 1 + 1; omega) _).setCell (by show w.heap.size ≤ w.heap.size + 1 + 1; omega) _
end Go.Proofs.Ytglpkfkbbjbjjaa
