/- The program's DifferentCells, whole. -/
import Derived.Test.YtglpkfkbbjbjjaaPairB
import Derived.Test.YtglpkfkbbjbjjaaDiffSpec
namespace Go.Proofs.Ytglpkfkbbjbjjaa
open Go.RowKit
set_option linter.unusedVariables false
set_option linter.unusedSimpArgs false
structure Lw2X (w : World) (wd0 hg0 : Int) (a0 : Option Addr) (l0 : List Int) (c0 : Nat) (wd1 hg1 : Int) (a1 : Option Addr) (l1 : List Int) (c1 : Nat) (w' : World) : Prop where
  b : Below w.heap.size w w'
  s0 : Ints .i64 w w.heap.size a0 l0
  s1 : Ints .i64 w w.heap.size a1 l1
  i0 : Ints .i64 w' w'.heap.size a0 l0
  i1 : Ints .i64 w' w'.heap.size a1 l1
  k0 : Box w' (w.heap.size) 26 (.int .i64 wd0) (.int .i64 hg0) (.slice a0 l0.length c0)
  k1 : Box w' (w.heap.size + 1) 26 (.int .i64 wd1) (.int .i64 hg1) (.slice a1 l1.length c1)
theorem Lw2X.new {w : World} {wd0 hg0 wd1 hg1 : Int} {a0 a1 : Option Addr} {l0 l1 : List Int} {c0 c1 : Nat} (h0 : Ints .i64 w w.heap.size a0 l0) (h1 : Ints .i64 w w.heap.size a1 l1) : Lw2X w wd0 hg0 a0 l0 c0 wd1 hg1 a1 l1 c1 ((w.alloc (.cells #[.int .i64 wd0, .int .i64 hg0, .slice a0 l0.length c0] 26)).alloc (.cells #[.int .i64 wd1, .int .i64 hg1, .slice a1 l1.length c1] 26)) := by
  constructor
  · exact (((Below.refl w.heap.size w).alloc (by simp <;> omega) _).alloc (by simp <;> omega) _)
  · exact h0
  · exact h1
  · exact (ints_alloc (ints_alloc h0 _) _)
  · exact (ints_alloc (ints_alloc h1 _) _)
  · have h := ((Box.new w 26 (.int .i64 wd0) (.int .i64 hg0) (.slice a0 l0.length c0)).alloc (.cells #[.int .i64 wd1, .int .i64 hg1, .slice a1 l1.length c1] 26))
    try simp only [World.size_alloc] at h
    exact h
  · have h := (Box.new (w.alloc (.cells #[.int .i64 wd0, .int .i64 hg0, .slice a0 l0.length c0] 26)) 26 (.int .i64 wd1) (.int .i64 hg1) (.slice a1 l1.length c1))
    try simp only [World.size_alloc] at h
    exact h
section
variable {w w1 w2 : World} {wd0 hg0 wd1 hg1 : Int} {a0 a1 : Option Addr} {l0 l1 : List Int} {c0 c1 : Nat}
theorem Lw2X.step (h : Lw2X w wd0 hg0 a0 l0 c0 wd1 hg1 a1 l1 c1 w1) (b : Below w1.heap.size w1 w2) : Lw2X w wd0 hg0 a0 l0 c0 wd1 hg1 a1 l1 c1 w2 :=
  ⟨below_then h.b b, h.s0, h.s1, ints_below h.i0 b, ints_below h.i1 b, h.k0.below b, h.k1.below b⟩
theorem Lw2X.turn {g : Nat} (h : Lw2X w wd0 hg0 a0 l0 c0 wd1 hg1 a1 l1 c1 w1) (t : w1.grownBy w2 (some g)) (hg : w.heap.size + 2 ≤ g) : Lw2X w wd0 hg0 a0 l0 c0 wd1 hg1 a1 l1 c1 w2 :=
  ⟨below_turn h.b t h.b.size (by omega), h.s0, h.s1, ints_turn h.s0 h.b t (by omega), ints_turn h.s1 h.b t (by omega), h.k0.turn t (by omega), h.k1.turn t (by omega)⟩
end
theorem madeB_all (L : List Bool) (n : Nat) (hn : L.length ≤ n) (k : Nat) (h : k < L.length) : madeB L n k = .bool L[k] := by
  unfold madeB
  rw [if_pos (by omega)]
  simp [h]
theorem difU_step {a b : List Int} (h : a.length = b.length) (k : Nat) (hk : k < a.length) (v : Bool) (hv : v = (a[k] != b[k]'(by omega))) : diffU a b (k + 1) = diffU a b k + if v = true then 1 else 0 := by
  rw [diff_step h k hk, hv]
  by_cases e : a[k] = b[k]'(by omega) <;> simp [e]
set_option maxRecDepth 100000 in
set_option maxHeartbeats 4000000 in
theorem implDiff_any (wa ha : Int) (aa : Option Addr) (la : List Int) (ca : Nat) (wb hb : Int) (ab : Option Addr) (lb : List Int) (cb : Nat) (w : World) (h1 : Ints .i64 w w.heap.size aa la) (h2 : Ints .i64 w w.heap.size ab lb) (n1 : la.length ≤ 1048576) (n2 : lb.length ≤ 1048576) :
    Calls Try.prog 28 #[.agg #[.int .i64 wa, .int .i64 ha, .slice aa la.length ca], .agg #[.int .i64 wb, .int .i64 hb, .slice ab lb.length cb]] w fun e w' => e = .returned (.tuple #[.int .i64 (diffR wa ha la wb hb lb), .bool (sameB wa ha la wb hb lb)]) ∧ Below w.heap.size w w' := by
  have F0 := Lib.hid (Lw2X.new (wd0 := wa) (hg0 := ha) (c0 := ca) (wd1 := wb) (hg1 := hb) (c1 := cb) h1 h2)
  have H1 := Lib.hid h1
  have H2 := Lib.hid h2
  clear h1 h2
  cases hs : sameB wa ha la wb hb lb with
  | false =>
    rw [show diffR wa ha la wb hb lb = 0 from if_neg (by rw [hs]; simp)]
    have hS := oneShape_is _ 2 2 _ _ _ _ _ false _ (fldRow_two (wa := wa) (ha := ha) (wb := wb) (hb := hb) (ca := ca) (cb := cb) 26 F0.out.i0 F0.out.i1 n1 n2) (by omega) (by omega) ((oneB_two wa ha la wb hb lb).trans hs)
    simp only [World.size_alloc] at hS
    have HS := Lib.hid hS
    clear hS hs
    go_enter Try.func28, Try.ntmps28
    go_wp2_with fail
    refine HS.out.mono ?_
    rintro e w1 ⟨rfl, b1⟩
    have B1 := Lib.hid (below_then (below_then F0.out.b (below_all _ _)) (by simpa using b1))
    clear b1
    go_wp2
    go_ret2
    exact ⟨rfl, B1.out⟩
  | true =>
    rw [show diffR wa ha la wb hb lb = (diffN la lb : Int) from if_pos hs]
    have hS := oneShape_is _ 2 2 _ _ _ _ _ true _ (fldRow_two (wa := wa) (ha := ha) (wb := wb) (hb := hb) (ca := ca) (cb := cb) 26 F0.out.i0 F0.out.i1 n1 n2) (by omega) (by omega) ((oneB_two wa ha la wb hb lb).trans hs)
    simp only [World.size_alloc] at hS
    have HS := Lib.hid hS
    have hle := same_len hs
    have HL := Lib.hid hle
    have HZ := Lib.hid (difL_len hle)
    have HP := Lib.hid (fun W i1 i2 => pairB_any aa ab la lb ca cb 71 W i1 i2 hle n1 ent_dif (fun W x y => difC_is x y W))
    clear hS hs hle
    go_enter Try.func28, Try.ntmps28
    go_wp2_with fail
    refine HS.out.mono ?_
    rintro e w1 ⟨rfl, b1⟩
    have F1 := Lib.hid ((F0.out.step (below_all _ _)).step (by simpa using b1))
    obtain ⟨k0, k1, k2⟩ := F1.out.k0.cells
    obtain ⟨l0, l1, l2⟩ := F1.out.k1.cells
    clear b1 F0 HS
    go_wp2_with fail
    refine (HP.out _ F1.out.i0 F1.out.i1).mono ?_
    rintro e w2 ⟨g, hg, rfl, hrow, b2⟩
    have B2 := Lib.hid (below_then F1.out.b b2)
    have HROW := Lib.hid hrow
    clear hrow b2 k0 k1 k2 l0 l1 l2 HP
    have hln : (difL la lb).length ≤ 1048576 := by rw [HZ.out]; exact n1
    go_wp2
    go_loop [6, 20] (fun m i => ∃ k : Nat, k ≤ (difL la lb).length ∧ i = .int .i64 k ∧ m = .int .i64 (diffU la lb k)) (fun _ i => (difL la lb).length - (intOf i).toNat)
    case atStart => exact ⟨0, Nat.zero_le _, rfl, by rw [diff_zero]; rfl⟩
    case round =>
      obtain ⟨k, hk, rfl, rfl⟩ := hrel
      have hle := diff_le la lb k
      have hi0 : (0 : Int) ≤ (k : Int) := by omega
      by_cases hlt : k < (difL la lb).length
      · have hi : (k : Int) < ((difL la lb).length : Int) := by omega
        have hka : k < la.length := by have := HZ.out; omega
        have hkb : k < lb.length := by have := HL.out; omega
        have hc : w2.cell? ⟨g, k, none⟩ = some (.bool (difL la lb)[k]) := by rw [HROW.out.cell hlt, madeB_all _ _ (Nat.le_refl _) k hlt]
        have HS := Lib.hid (difU_step HL.out k hka (difL la lb)[k] (difL_get k hlt hka hkb))
        generalize (difL la lb)[k] = v at *
        generalize diffU la lb k = m at *
        cases v with
        | false =>
          have HN := Lib.hid (show diffU la lb (k + 1) = m by rw [HS.out]; rfl)
          clear HS
          go_wp2
          go_round
          case rel => exact ⟨k + 1, by omega, by go_num, by rw [HN.out]⟩
          case measure => simp [intOf]; omega
        | true =>
          have HN := Lib.hid (show diffU la lb (k + 1) = m + 1 by rw [HS.out]; rfl)
          clear HS
          go_wp2
          go_round
          case rel => exact ⟨k + 1, by omega, by go_num, by rw [HN.out]; go_num⟩
          case measure => simp [intOf]; omega
      · obtain rfl : k = (difL la lb).length := by omega
        have HA := Lib.hid (show diffU la lb (difL la lb).length = diffN la lb by rw [HZ.out]; exact diff_all HL.out)
        rw [HA.out]
        clear hle
        go_wp2
        go_ret2
        exact ⟨rfl, B2.out⟩
end Go.Proofs.Ytglpkfkbbjbjjaa
