/- The program's groups of a calibration: lastFalls, joinLastTwo. -/
import Derived.Test.YtjpiiidjocilcaaCalS
import Derived.Test.YtjpiiidjocilcaaMonoI
import Derived.Test.YtjpiiidjocilcaaMake
import Derived.Deep.AppendLies
import Derived.Deep.RegionLaw
namespace Go.Proofs.Ytjpiiidjocilcaa
open Go.RowKit
set_option linter.unusedVariables false
set_option linter.unusedSimpArgs false
def okC (p : CgT) : Prop := 1 ≤ p.2.1 ∧ 0 ≤ p.2.2 ∧ p.2.2 ≤ p.2.1 ∧ p.2.1 ≤ 100000
def fallC (y x : CgT) : Bool := decide (x.2.2 * y.2.1 < y.2.2 * x.2.1)
theorem fall_cmp {x y : CgT} (hx : okC x) (hy : okC y) : decide (cmpS (redN x.2.2 x.2.1) (redD x.2.2 x.2.1) (redN y.2.2 y.2.1) (redD y.2.2 y.2.1) < 0) = fallC y x := by
  unfold okC at hx hy
  unfold fallC
  rw [← lsB_cmp]
  unfold lsB
  by_cases h : x.2.2 * y.2.1 < y.2.2 * x.2.1
  · rw [decide_eq_true h, decide_eq_true ((red_less (by omega) (by omega) (by omega) (by omega)).2 h)]
  · rw [decide_eq_false h, decide_eq_false (fun h2 => h ((red_less (by omega) (by omega) (by omega) (by omega)).1 h2))]
set_option maxHeartbeats 2000000 in
theorem lastFalls_few (a : Option Addr) (n c : Nat) (w : World) (hn : n ≤ 1) :
    Calls Try.prog 87 #[.slice a n c] w fun e w' => e = .returned (.bool false) ∧ Below w.heap.size w w' := by
  rcases (show n = 0 ∨ n = 1 by omega) with rfl | rfl
  all_goals
    go_enter Try.func87, Try.ntmps87
    go_wp2_with fail
    refine wp_region_later (by kernel_rfl) (by kernel_rfl) ?_
    repeat (go_big_quiet_step (fail))
    refine wpQuiet_nil ?_
    intro _ hw'
    obtain ⟨pq, hw''⟩ := hw'
    subst hw''
    have B1 := Lib.hid pq.below
    go_wp2
    go_ret
    exact ⟨rfl, B1.out⟩
set_option maxHeartbeats 2000000 in
theorem lastFalls_two (a : Option Addr) (l : List CgT) (c n : Nat) (w : World) (hl : Cgs w w.heap.size a l) (hn : l.length = n + 2) (hs : n ≤ 100) (x y : CgT) (hx : l[n + 1]'(by omega) = x) (hy : l[n]'(by omega) = y) (ox : okC x) (oy : okC y) (v : Bool) (hv : fallC y x = v) :
    Calls Try.prog 87 #[.slice a l.length c] w fun e w' => e = .returned (.bool v) ∧ Below w.heap.size w w' := by
  have hv2 := fall_cmp ox oy
  rw [hv] at hv2
  obtain ⟨b1, o1, rfl, hb1, c0, c1, c2⟩ := hl.at_ (j := n + 1) (by omega)
  obtain ⟨b2, o2, e2, hb2, d0, d1, d2⟩ := hl.at_ (j := n) (by omega)
  injection e2 with e2
  injection e2 with e3 e4 e5
  subst e3
  subst e4
  clear e5
  rw [hx] at c0 c1 c2
  rw [hy] at d0 d1 d2
  obtain ⟨x0, x1, x2⟩ := x
  obtain ⟨y0, y1, y2⟩ := y
  have ox1 := ox
  have oy1 := oy
  unfold okC at ox1 oy1
  simp only at c0 c1 c2 d0 d1 d2 ox1 oy1 hv2
  have C1 := Lib.hid (fun W => freqG_any x0 x1 x2 W (by omega) (by omega) (by omega) (by omega))
  have C2 := Lib.hid (fun W => freqG_any y0 y1 y2 W (by omega) (by omega) (by omega) (by omega))
  have C3 := Lib.hid (fun W => cmp_any _ _ _ _ W (red_share (a := x2) (b := x1) (by omega) (by omega) (by omega) (by omega)) (red_share (a := y2) (b := y1) (by omega) (by omega) (by omega) (by omega)))
  have p0 := later_cell c0 hb1
  have p1 := later_cell c1 hb1
  have p2 := later_cell c2 hb1
  have p3 := later_cell d0 hb1
  have p4 := later_cell d1 hb1
  have p5 := later_cell d2 hb1
  clear c0 c1 c2 d0 d1 d2 hx hy ox oy ox1 oy1 hl
  generalize cmpS _ _ _ _ = z at *
  generalize redN x2 x1 = xn at *
  generalize redD x2 x1 = xd at *
  generalize redN y2 y1 = yn at *
  generalize redD y2 y1 = yd at *
  have hv3 : decide (z < 0) = v := hv2
  clear hv2 hv
  rw [hn]
  have g0 : IntKind.i64.wrap (((n + 2 : Nat) : Int) - 1) = (n : Int) + 1 := by rw [show ((n + 2 : Nat) : Int) - 1 = (n : Int) + 1 by omega]; exact IntWalk.i64_in _ (by omega)
  have g1 : IntKind.i64.wrap ((n : Int) + 1 - 1) = (n : Int) := by rw [show (n : Int) + 1 - 1 = (n : Int) by omega]; exact IntWalk.i64_in _ (by omega)
  have i1 : (n : Int) + 1 < ((n + 2 : Nat) : Int) := by omega
  have i2 : (n : Int) < ((n + 2 : Nat) : Int) := by omega
  have i3 : (0 : Int) ≤ (n : Int) + 1 := by omega
  have i4 : (0 : Int) ≤ (n : Int) := by omega
  have i5 : (n : Int) + 1 > 0 := by omega
  have i6 : (0 : Int) < (n : Int) + 1 := by omega
  generalize hq : n + 2 = q at *
  clear hq hn
  go_enter Try.func87, Try.ntmps87
  go_wp2_with fail
  cases v
  all_goals
    simp only [decide_eq_true_eq, decide_eq_false_iff_not] at hv3
    refine wp_region_later (by kernel_rfl) (by kernel_rfl) ?_
    repeat (go_big_quiet_step (first | (go_at_call 66; first | (with_reducible exact calls_later (C1.out _)) | (with_reducible exact calls_later (C2.out _))) | (go_at_call 77; exact calls_later (C3.out _))))
    refine wpQuiet_nil ?_
    intro _ hw'
    obtain ⟨pq, hw''⟩ := hw'
    subst hw''
    have B1 := Lib.hid pq.below
    clear p0 p1 p2 p3 p4 p5
    go_wp2
    go_ret
    exact ⟨rfl, B1.out⟩

theorem own_shrink {w : World} {base e size n m g cap : Nat} {xs : List Value} (h : w.ownsRow base e size (.slice (some ⟨g, 0, none⟩) n cap) n xs) (hle : m ≤ n) : w.ownsRow base e size (.slice (some ⟨g, 0, none⟩) m cap) m (xs.take (m * size)) := by
  have hlen := h.1
  rcases h.2 with ⟨h1, _⟩ | ⟨g', cap', cur, h1, h2, h3, h4, h5, h6, h7⟩
  · cases h1
  · cases h1
    have hm := Nat.mul_le_mul_right size hle
    refine ⟨by rw [List.length_take]; omega, .inr ⟨g, cap, cur, rfl, h2, h3, by omega, h5, h6, ?_⟩⟩
    rw [← h7, List.take_take, Nat.min_eq_left hm]
/-- an append onto a row of the call's own, as a step of a region -/
theorem step_own {P : Program} {w : World} {ops : Array Oper} {o : Oper} {a : Act} {K : Act → World → Prop} {Q : Exit → Act → World → Prop} {E : Prop} (hgd : o.guard = none) (s x : Operand) (t : TypeId)
    (ho : o.op = .call { callee := .builtin .append, args := #[s, x], argTypes := #[t, t] })
    (base : Nat) (e : TypeId) (i : TypeInfo) (z : Value) (size bytes : Nat) (ht : P.underlying t = some (.slice e)) (hi : P.info? e = some i) (hz : i.zero = some z)
    (hsize : i.size = size) (hby : i.bytes = bytes) (hzs : z.cells.size = size) (hsz : 0 < size)
    (v : Value) (n : Nat) (xs : List Value) (hs : a.eval s = v) (hown : w.ownsRow base e size v n xs)
    (ad : Addr) (m c : Nat) (news : List Value) (hx : a.eval x = .slice (some ad) m c) (hl : news.length = m * size) (hnews : ∀ j u, news[j]? = some u → w.cell? (ad.add j) = some u) (h1 : ∀ u ∈ news, u.oneCell' = true)
    (h63 : n + m ≤ maxLen) (hbytes : (n + m) * bytes ≤ 140737488355328) (hbase : base ≤ w.heap.size)
    (h : ∀ v' w', w'.ownsRow base e size v' (n + m) (xs ++ news) → w.grownBy w' v.ownBlock → K (a.put o.dst v') w') :
    if Region.wanted o (yielded ops a.tmps) = true then Oper.wp P o a w K Q else E := by
  rw [if_pos (by simp [Region.wanted, hgd])]
  exact wp_append_own w s x t ho base e i z size bytes ht hi hz hsize hby hzs hsz v n xs hs hown ad m c news hx hl hnews h1 h63 hbytes hbase fun v' w' h2 h3 _ => h v' w' h2 h3
theorem infoCg : (Try.prog.info? 83).map (fun i => (i.zero, i.size, i.bytes)) = some (some (.agg #[.int .i64 0, .int .i64 0, .int .i64 0]), 3, 24) := by kernel_rfl
theorem gb_none {w w' : World} (h : Below w.heap.size w w') : w.grownBy w' none := ⟨h.os, h.tape, h.output, h.size, fun i hi _ => h.block i hi⟩
theorem gb_below' {w w1 w2 : World} {g : Nat} (h : Below w.heap.size w w1) (k : w1.grownBy w2 (some g)) : w.grownBy w2 (some g) :=
  ⟨k.os.trans h.os, k.tape.trans h.tape, k.output.trans h.output, Nat.le_trans h.size k.size, fun i hi hne => (k.block i (Nat.lt_of_lt_of_le hi h.size) hne).trans (h.block i hi)⟩
def joinC (y x : CgT) : CgT := (y.1, y.2.1 + x.2.1, y.2.2 + x.2.2)
theorem cg_take (L : List CgT) (r : List CgT) : (cgv (L ++ r)).take (L.length * 3) = cgv L := by
  rw [cgv_append, ← cgv_length, List.take_left]
set_option maxHeartbeats 4000000 in
theorem joinTwo_any (base g cap n : Nat) (L : List CgT) (y x : CgT) (w : World) (hn : L.length = n) (hs : n ≤ 100) (hbase : base ≤ w.heap.size)
    (how : w.ownsRow base 83 3 (.slice (some ⟨g, 0, none⟩) (n + 2) cap) (n + 2) (cgv (L ++ [y, x])))
    (b1 : 0 ≤ y.2.1 + x.2.1 ∧ y.2.1 + x.2.1 ≤ 100000) (b2 : 0 ≤ y.2.2 + x.2.2 ∧ y.2.2 + x.2.2 ≤ 100000) :
    Calls Try.prog 88 #[.slice (some ⟨g, 0, none⟩) (n + 2) cap] w fun e w' => ∃ v, e = .returned v ∧ w'.ownsRow base 83 3 v (n + 1) (cgv (L ++ [joinC y x])) ∧ w.grownBy w' (some g) := by
  obtain ⟨iP, hP', hPz, hP1, hP2⟩ := info_parts infoCg
  obtain ⟨y0, y1, y2⟩ := y
  obtain ⟨x0, x1, x2⟩ := x
  have hll : (L ++ [(y0, y1, y2), (x0, x1, x2)]).length = n + 2 := by simp [hn]
  have gy := cgv_get (L ++ [(y0, y1, y2), (x0, x1, x2)]) n (by omega)
  have gx := cgv_get (L ++ [(y0, y1, y2), (x0, x1, x2)]) (n + 1) (by omega)
  have ey : (L ++ [(y0, y1, y2), (x0, x1, x2)])[n]'(by omega) = (y0, y1, y2) := by subst hn; simp
  have ex : (L ++ [(y0, y1, y2), (x0, x1, x2)])[n + 1]'(by omega) = (x0, x1, x2) := by subst hn; simp
  rw [ey] at gy
  rw [ex] at gx
  have hg := how.lt g rfl
  have c0 := (how.cellAt (n * 3) (by omega)).trans gy.1
  have c1 := (how.cellAt (n * 3 + 1) (by omega)).trans gy.2.1
  have c2 := (how.cellAt (n * 3 + 2) (by omega)).trans gy.2.2
  have d0 := (how.cellAt ((n + 1) * 3) (by omega)).trans gx.1
  have d1 := (how.cellAt ((n + 1) * 3 + 1) (by omega)).trans gx.2.1
  have d2 := (how.cellAt ((n + 1) * 3 + 2) (by omega)).trans gx.2.2
  simp only at c0 c1 c2 d0 d1 d2 b1 b2
  have hcap : n + 2 ≤ cap := by
    rcases how.2 with ⟨h1, _⟩ | ⟨g', cap', cur, h1, h2, h3, h4, h5, h6, h7⟩
    · cases h1
    · cases h1; exact h4
  have HO := Lib.hid (show w.ownsRow base 83 3 (.slice (some ⟨g, 0, none⟩) n cap) n (cgv L) by
    have h9 := own_shrink (m := n) how (by omega)
    rw [← hn, cg_take, hn] at h9
    exact h9)
  have n1 : ¬ g = w.heap.size := by omega
  have n2 : ¬ w.heap.size = g := by omega
  have g0 : IntKind.i64.wrap (((n + 2 : Nat) : Int) - 2) = (n : Int) := by rw [show ((n + 2 : Nat) : Int) - 2 = (n : Int) by omega]; exact IntWalk.i64_in _ (by omega)
  have w1 : IntKind.i64.wrap (y1 + x1) = y1 + x1 := IntWalk.i64_in _ (by omega)
  have w2 : IntKind.i64.wrap (y2 + x2) = y2 + x2 := IntWalk.i64_in _ (by omega)
  have hq : (n : Int) < ((n + 2 : Nat) : Int) := by omega
  have hq1 : (n : Int) + 1 < ((n + 2 : Nat) : Int) := by omega
  have hq2 : (0 : Int) ≤ (n : Int) := by omega
  have hq3 : (0 : Int) ≤ (n : Int) + 1 := by omega
  have hq4 : (n : Int) ≤ (cap : Int) := by omega
  obtain ⟨s1, hs1⟩ : ∃ s, y1 + x1 = s := ⟨_, rfl⟩
  obtain ⟨s2, hs2⟩ : ∃ s, y2 + x2 = s := ⟨_, rfl⟩
  rw [hs1] at w1
  rw [hs2] at w2
  have HJ := Lib.hid (show joinC (y0, y1, y2) (x0, x1, x2) = (y0, s1, s2) by unfold joinC; rw [hs1, hs2])
  clear how gy gx ey ex hll hn b1 b2
  generalize hN : n + 2 = N at *
  go_enter Try.func88, Try.ntmps88
  go_wp2_with fail
  go_region
  go_wp2_with fail
  go_region
  go_wp2_with fail
  have BW := Lib.hid (show Below w.heap.size w (w.alloc (.cells #[.int .i64 y0, .int .i64 s1, .int .i64 s2] 83)).drew.drew from (below_all _ _).drew.drew)
  have hsz : (w.alloc (.cells #[.int .i64 y0, .int .i64 s1, .int .i64 s2] 83)).drew.drew.heap.size = w.heap.size + 1 := by show (w.alloc _).heap.size = _; simp
  have e0 : (w.alloc (.cells #[.int .i64 y0, .int .i64 s1, .int .i64 s2] 83)).drew.drew.cell? ⟨w.heap.size, 0, none⟩ = some (.int .i64 y0) := by show (w.alloc _).cell? _ = _; simp [go_sem]
  have e1 : (w.alloc (.cells #[.int .i64 y0, .int .i64 s1, .int .i64 s2] 83)).drew.drew.cell? ⟨w.heap.size, 1, none⟩ = some (.int .i64 s1) := by show (w.alloc _).cell? _ = _; simp [go_sem]
  have e2 : (w.alloc (.cells #[.int .i64 y0, .int .i64 s1, .int .i64 s2] 83)).drew.drew.cell? ⟨w.heap.size, 2, none⟩ = some (.int .i64 s2) := by show (w.alloc _).cell? _ = _; simp [go_sem]
  generalize (w.alloc (.cells #[.int .i64 y0, .int .i64 s1, .int .i64 s2] 83)).drew.drew = W at *
  have OB := Lib.hid (HO.out.kept (gb_none BW.out) (.inr (by simp [Value.ownBlock])))
  have hb2 : base ≤ W.heap.size := by omega
  clear hsz
  go_region_law (first
    | (refine step_own (by rfl) _ _ _ (by rfl) base 83 iP (.agg #[.int .i64 0, .int .i64 0, .int .i64 0]) 3 24 Try.underlying87 hP' hPz hP1 hP2 rfl (by decide) (.slice (some ⟨g, 0, none⟩) n cap) n (cgv L) (by rfl) (show (W.drew.alloc (.cells #[.int .i64 y0, .int .i64 s1, .int .i64 s2] 83)).ownsRow _ _ _ _ _ _ from OB.out.alloc _) ⟨W.heap.size, 0, none⟩ 1 1 [.int .i64 y0, .int .i64 s1, .int .i64 s2] (by rfl) (by rfl) (World.news_of_block (heap_alloc_new W.drew _)) (by simp [Value.oneCell']) (by unfold maxLen; omega) (by omega) (by show base ≤ (W.drew.alloc _).heap.size; rw [World.size_alloc]; show base ≤ W.heap.size + 1; omega) ?_; intro v1 w3 hown3 hgrow3; have O3 := Lib.hid hown3; have G3 := Lib.hid (gb_below' (((Below.refl W.heap.size W).drew).alloc (Nat.le_refl _) _) hgrow3); clear hown3 hgrow3))
  all_goals
    go_wp2
    go_ret
    exact ⟨v1, rfl, by rw [HJ.out, cgv_append]; exact O3.out, gb_below' BW.out G3.out⟩
end Go.Proofs.Ytjpiiidjocilcaa
