/- The draws of FnNearest: DrawOverlapUnits, DrawRegridNearest. -/
import Derived.Test.YtccplndimdmjpaaFieldDraws
import Derived.Test.YtccplndimdmjpaaRgOv
import Derived.Deep.DeepCutAuto
namespace Go.Proofs.Ytccplndimdmjpaa
open Go.RowKit
set_option linter.unusedVariables false
set_option linter.unusedSimpArgs false
set_option maxRecDepth 100000 in
set_option maxHeartbeats 4000000 in
theorem drawOv_any (w : World) (a : Option Addr) (l : List Int) (c : Nat) (hi : Ints .u8 w w.heap.size a l) (hb : ∀ z ∈ l, 0 ≤ z ∧ z ≤ 255) (hl : l.length ≤ 1048576) :
    Calls Try.prog 25 #[.slice a l.length c] w fun e w' => ∃ x y p q : Int, e = .returned (.tuple #[.int .i64 x, .int .i64 y, .int .i64 p, .int .i64 q]) ∧ Below w.heap.size w w' := by
  have C0 := Lib.hid (cur_new w a l c hi hb hl)
  have B0 := Lib.hid (below_all w (.cells #[.slice a l.length c, .int .i64 0, .int .u64 0] 67))
  clear hi hb
  go_enter Try.func25, Try.ntmps25
  go_wp2_with fail
  refine (pick_any _ _ a l c _ 10 (by omega) (by omega) (by omega) C0.out).mono ?_
  rintro e w1 ⟨v, ⟨r1, h1, rfl⟩, rfl, hc, ho⟩
  have C1 := Lib.hid hc
  have B1 := Lib.hid (below_grown B0.out ho.1 (Nat.le_refl _))
  clear hc ho C0 B0
  go_wp2_with fail
  refine (pick_any _ _ a l c _ 10 (by omega) (by omega) (by omega) C1.out).mono ?_
  rintro e w2 ⟨v, ⟨r2, h2, rfl⟩, rfl, hc, ho⟩
  have C2 := Lib.hid hc
  have B2 := Lib.hid (below_grown B1.out ho.1 (Nat.le_refl _))
  clear hc ho C1 B1
  go_wp2_with fail
  refine (pick_any _ _ a l c _ 8 (by omega) (by omega) (by omega) C2.out).mono ?_
  rintro e w3 ⟨v, ⟨r3, h3, rfl⟩, rfl, hc, ho⟩
  have C3 := Lib.hid hc
  have B3 := Lib.hid (below_grown B2.out ho.1 (Nat.le_refl _))
  clear hc ho C2 B2
  go_wp2_with fail
  refine (pick_any _ _ a l c _ 9 (by omega) (by omega) (by omega) C3.out).mono ?_
  rintro e w4 ⟨v, ⟨r4, h4, rfl⟩, rfl, hc, ho⟩
  have C4 := Lib.hid hc
  have B4 := Lib.hid (below_grown B3.out ho.1 (Nat.le_refl _))
  clear hc ho C3 B3
  have e4 : 0 ≤ (r4 : Int) / 8 := by omega
  have e5 : (r4 : Int) / 8 ≤ 1 := by omega
  go_wp2_with fail
  refine (pick_any _ _ a l c _ 8 (by omega) (by omega) (by omega) C4.out).mono ?_
  rintro e w5 ⟨v, ⟨r5, h5, rfl⟩, rfl, hc, ho⟩
  have B5 := Lib.hid (below_grown B4.out ho.1 (Nat.le_refl _))
  clear hc ho C4 B4
  go_wp2
  refine bodyPost_ret (v := .tuple #[.int .i64 r1, .int .i64 r2, .int .i64 ((r3 : Int) - (r4 : Int) / 8), .int .i64 r5]) (by simp [results, Try.results25, go_sem]) rfl ⟨_, _, _, _, rfl, B5.out⟩
set_option maxRecDepth 100000 in
set_option maxHeartbeats 4000000 in
theorem drawNear_any (w : World) (a : Option Addr) (l : List Int) (c : Nat) (hi : Ints .u8 w w.heap.size a l) (hb : ∀ z ∈ l, 0 ≤ z ∧ z ≤ 255) (hl : l.length ≤ 1048576) :
    Calls Try.prog 26 #[.slice a l.length c] w fun e w' => ∃ (wd hg : Int) (L : List Int) (a1 : Addr) (c1 : Nat) (x y : Int), L.length ≤ 64 ∧ e = .returned (.tuple #[.agg #[.int .i64 wd, .int .i64 hg, .slice (some a1) L.length c1], .int .i64 x, .int .i64 y]) ∧ Own2 w' w.heap.size (some a1) L ∧ Below w.heap.size w w' := by
  have i1 := ints_alloc hi (.cells #[.int .i64 0, .int .i64 0, .slice none 0 0] 29)
  have hcn := cur_new (w.alloc (.cells #[.int .i64 0, .int .i64 0, .slice none 0 0] 29)) a l c i1 hb hl
  rw [World.size_alloc] at hcn
  obtain ⟨W0, hW0⟩ : ∃ W, (w.alloc (.cells #[.int .i64 0, .int .i64 0, .slice none 0 0] 29)).alloc (.cells #[.slice a l.length c, .int .i64 0, .int .u64 0] 67) = W := ⟨_, rfl⟩
  rw [hW0] at hcn
  have C0 := Lib.hid hcn
  have R0 := Lib.hid (show Box W0 w.heap.size 29 (.int .i64 0) (.int .i64 0) (.slice none 0 0) by rw [← hW0]; exact (Box.new w _ _ _ _).alloc _)
  have B0 := Lib.hid (show Below w.heap.size w W0 by rw [← hW0]; exact ((below_all w _).alloc (by simp) _))
  clear hi hb hcn i1
  go_enter Try.func26, Try.ntmps26
  go_wp2_with fail
  refine (anyField_any W0 (w.heap.size + 1) a l c 0 (by omega) C0.out).mono ?_
  rintro e w1 ⟨wd, hg, L, a1, c1, ⟨m1, m2, m3, m4, m5, m6⟩, rfl, o1, hc, ho⟩
  have hz0 := C0.out.lt
  have R1 := Lib.hid (R0.out.turn ho (by omega))
  have B1 := Lib.hid (below_grown B0.out ho (by omega))
  have C1 := Lib.hid hc
  have O1 := Lib.hid o1
  clear hc ho o1 R0 B0 C0
  go_wp2_with fail
  refine (pick_any _ _ a l c _ 9 (by omega) (by omega) (by omega) C1.out).mono ?_
  rintro e w2 ⟨v, ⟨r1, h1, rfl⟩, rfl, hc, ho⟩
  have R2 := Lib.hid (R1.out.turn ho.1 (by omega))
  have B2 := Lib.hid (below_grown B1.out ho.1 (by omega))
  have C2 := Lib.hid hc
  have O2 := Lib.hid (O1.out.turn ho.1 (by omega))
  clear hc ho R1 B1 C1 O1
  go_wp2_with fail
  refine (pick_any _ _ a l c _ 9 (by omega) (by omega) (by omega) C2.out).mono ?_
  rintro e w3 ⟨v, ⟨r2, h2, rfl⟩, rfl, hc, ho⟩
  have R3 := Lib.hid (R2.out.turn ho.1 (by omega))
  have B3 := Lib.hid (below_grown B2.out ho.1 (by omega))
  have O3 := Lib.hid (O2.out.turn ho.1 (by omega))
  clear hc ho R2 B2 C2 O2
  obtain ⟨t0, t1, t2⟩ := R3.out.cells
  have g0 := R3.out.frozen 0
  have g1 := R3.out.frozen 1
  have g2 := R3.out.frozen 2
  go_wp2
  refine bodyPost_ret (v := .tuple #[.agg #[.int .i64 wd, .int .i64 hg, .slice (some a1) L.length c1], .int .i64 r1, .int .i64 (1 + (r2 : Int))]) (by simp [results, Try.results26, go_sem, t0, t1, t2]) rfl ⟨wd, hg, L, a1, c1, _, _, m1, rfl, ?_, ?_⟩
  · exact (((O3.out.set (by omega) _).set (by omega) _).set (by omega) _).more (by omega)
  · exact ((B3.out.setCell (Nat.le_refl _) _).setCell (Nat.le_refl _) _).setCell (Nat.le_refl _) _
/-- the overlaps of a column with the first m of the others -/
def sumO (a c i : Int) (m : Int) : Int := min (max (m * a) (i * c)) ((i + 1) * c) - i * c
theorem sumO_step {a c i m : Int} (h : ovB a c i m = true) : sumO a c i m + ovl a c i m = sumO a c i (m + 1) := by
  obtain ⟨⟨a1, a2⟩, ⟨c1, c2⟩, ⟨i1, i2⟩, k1, k2⟩ := ov_bd h
  obtain ⟨p1, p2, p3, p4, e1, e2, e3, e4, _⟩ := ov_nat h
  have h12 : (i + 1) * c = i * c + c := by rw [Int.add_mul, Int.one_mul]
  have h34 : (m + 1) * a = m * a + a := by rw [Int.add_mul, Int.one_mul]
  unfold sumO ovl
  rw [e1, e2, e3, e4] at *
  omega
theorem sumO_zero {a c i : Int} (hi : 0 ≤ i) (hc : 1 ≤ c) : sumO a c i 0 = 0 := by
  have h1 : 0 ≤ i * c := Int.mul_nonneg hi (by omega)
  have h12 : (i + 1) * c = i * c + c := by rw [Int.add_mul, Int.one_mul]
  unfold sumO
  rw [Int.zero_mul, h12]
  generalize i * c = x at *
  omega
theorem sumO_all {a c i : Int} (h0 : 0 ≤ i) (hi : i < a) (hc : 1 ≤ c) : sumO a c i c = c := by
  have h1 : (i + 1) * c ≤ a * c := Int.mul_le_mul_of_nonneg_right (by omega) (by omega)
  have h12 : (i + 1) * c = i * c + c := by rw [Int.add_mul, Int.one_mul]
  unfold sumO
  rw [h12] at h1 ⊢
  rw [Int.mul_comm a c] at h1
  generalize i * c = x at *
  generalize c * a = y at *
  omega
theorem sumO_bd {a c i : Int} (h0 : 0 ≤ i) (hc : 1 ≤ c) (m : Int) : 0 ≤ sumO a c i m ∧ sumO a c i m ≤ c := by
  have h12 : (i + 1) * c = i * c + c := by rw [Int.add_mul, Int.one_mul]
  unfold sumO
  rw [h12]
  generalize i * c = x at *
  generalize m * a = y at *
  omega
theorem ovl_back (a c i k : Int) : ovl c a k i = ovl a c i k := by
  unfold ovl
  rw [Int.min_comm, Int.max_comm (k * a)]
theorem ovB_back {a c i k : Int} (h : ovB a c i k = true) : ovB c a k i = true := by
  obtain ⟨⟨a1, a2⟩, ⟨c1, c2⟩, ⟨i1, i2⟩, k1, k2⟩ := ov_bd h
  unfold ovB
  rw [shapeB_iff.2 (by omega), inB_iff.2 (by omega)]
  rfl
/-- to the own shape nothing is changed -/
theorem nr_self {a k : Nat} (ha : 1 ≤ a) (h : k < a) : nr a a k = k := by
  unfold nr
  have e : (2 * k + 1) * a - 1 = (a - 1) + k * (2 * a) := by
    have h1 : (2 * k + 1) * a = k * (2 * a) + a := by rw [Nat.add_mul, Nat.one_mul, Nat.mul_comm 2 k, Nat.mul_assoc]
    omega
  rw [e, Nat.add_mul_div_right _ _ (by omega), Nat.div_eq_of_lt (by omega), Nat.zero_add]
theorem nearL_self {W H : Nat} {l : List Int} (hW : 1 ≤ W) (hH : 1 ≤ H) (hl : l.length = W * H) : nearL W H W H l = l := by
  apply List.ext_getElem
  · rw [nearL_len, hl]
  · intro k h1 h2
    rw [nearL_len] at h1
    simp only [nearL, List.getElem_map, List.getElem_range]
    have hv : k / W < H := by rw [Nat.div_lt_iff_lt_mul (by omega), Nat.mul_comm]; exact h1
    rw [nr_self hH hv, nr_self hW (Nat.mod_lt _ (by omega))]
    have e : k / W * W + k % W = k := by rw [Nat.mul_comm]; exact Nat.div_add_mod k W
    rw [e, gd_at h2]
theorem nearR_self {wd hg : Int} {l : List Int} (h : goodB wd hg l = true) : nearR wd hg l wd hg = some (wd, hg, l) := by
  rw [nearR_yes (by unfold nearB; rw [h, good_shape h]; rfl)]
  obtain ⟨W, H, rfl, rfl, w1, w2, w3, w4, hl⟩ := good_nat h
  simp only [Int.toNat_natCast]
  rw [nearL_self w1 w3 hl]
theorem nearL_mem {W H P Q : Nat} {l : List Int} (hW : 1 ≤ W) (hH : 1 ≤ H) (hP : 1 ≤ P) (hl : l.length = W * H) : ∀ z ∈ nearL W H P Q l, z ∈ l := by
  intro z hz
  obtain ⟨k, hk, rfl⟩ := List.mem_map.1 hz
  have hk' : k < P * Q := by simpa using hk
  have := near_at (W := W) (H := H) hW hH hP hk'
  rw [gd_at (by omega)]
  exact List.getElem_mem _
end Go.Proofs.Ytccplndimdmjpaa
