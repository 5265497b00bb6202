/- The model's DifferentCells. -/
import Derived.Test.YtjppaolhknjpaaaSame
import Derived.Test.YtjppaolhknjpaaaFr
import Derived.Test.YtjppaolhknjpaaaLws
namespace Go.Proofs.Ytjppaolhknjpaaa
open Go.RowKit
set_option linter.unusedVariables false
set_option linter.unusedSimpArgs false
set_option maxRecDepth 100000 in
set_option maxHeartbeats 2000000 in
theorem specDiff_any (wa ha : Int) (aa : Option Addr) (la : List Int) (ca : Nat) (wb hb : Int) (ab : Option Addr) (lb : List Int) (cb : Nat) (w : World) (h1 : Ints .i64 w w.heap.size aa la) (h2 : Ints .i64 w w.heap.size ab lb) (n1 : la.length ≤ 1048576) (n2 : lb.length ≤ 1048576) :
    Calls Try.prog 55 #[.agg #[.int .i64 wa, .int .i64 ha, .slice aa la.length ca], .agg #[.int .i64 wb, .int .i64 hb, .slice ab lb.length cb]] w fun e w' => e = .returned (.tuple #[.int .i64 (diffR wa ha la wb hb lb), .bool (sameB wa ha la wb hb lb)]) ∧ Below w.heap.size w w' := by
  have b0 : Below w.heap.size w ((w.alloc (.cells #[.int .i64 wa, .int .i64 ha, .slice aa la.length ca] 26)).alloc (.cells #[.int .i64 wb, .int .i64 hb, .slice ab lb.length cb] 26)) := ((Below.refl _ _).alloc (Nat.le_refl _) _).alloc (by simp) _
  have i1 := ints_alloc (ints_alloc h1 (.cells #[.int .i64 wa, .int .i64 ha, .slice aa la.length ca] 26)) (.cells #[.int .i64 wb, .int .i64 hb, .slice ab lb.length cb] 26)
  have i2 := ints_alloc (ints_alloc h2 (.cells #[.int .i64 wa, .int .i64 ha, .slice aa la.length ca] 26)) (.cells #[.int .i64 wb, .int .i64 hb, .slice ab lb.length cb] 26)
  have x1 := (Box.new w 26 (.int .i64 wa) (.int .i64 ha) (.slice aa la.length ca)).alloc (.cells #[.int .i64 wb, .int .i64 hb, .slice ab lb.length cb] 26)
  have x2 := Box.new (w.alloc (.cells #[.int .i64 wa, .int .i64 ha, .slice aa la.length ca] 26)) 26 (.int .i64 wb) (.int .i64 hb) (.slice ab lb.length cb)
  simp only [World.size_alloc] at x2
  have HB := Lib.hid b0
  have HI1 := Lib.hid i1
  have HI2 := Lib.hid i2
  have HX1 := Lib.hid x1
  have HX2 := Lib.hid x2
  clear h1 h2 b0 i1 i2 x1 x2
  cases hs : sameB wa ha la wb hb lb with
  | false =>
    rw [show diffR wa ha la wb hb lb = 0 from if_neg (by rw [hs]; simp)]
    have HC := Lib.hid (specSame_is wa ha aa la ca wb hb ab lb cb false _ HI1.out HI2.out n1 n2 hs)
    clear hs
    go_enter Try.func55, Try.ntmps55
    go_wp2_with fail
    refine HC.out.mono ?_
    rintro e w1 ⟨rfl, b⟩
    have HB1 := Lib.hid (below_then HB.out b)
    clear b
    go_wp2
    go_ret2
    exact ⟨rfl, HB1.out⟩
  | true =>
    rw [show diffR wa ha la wb hb lb = (diffN la lb : Int) from if_pos hs]
    have HC := Lib.hid (specSame_is wa ha aa la ca wb hb ab lb cb true _ HI1.out HI2.out n1 n2 hs)
    have HL := Lib.hid (same_len hs)
    clear hs
    go_enter Try.func55, Try.ntmps55
    go_wp2_with fail
    refine HC.out.mono ?_
    rintro e w1 ⟨rfl, b⟩
    have HB1 := Lib.hid (below_then HB.out b)
    have HJ1 := Lib.hid (ints_below HI1.out b)
    have HJ2 := Lib.hid (ints_below HI2.out b)
    have HY1 := Lib.hid (HX1.out.below b)
    have HY2 := Lib.hid (HX2.out.below b)
    clear b
    go_wp2
    go_loopw [6, 7] (fun m i wr => ∃ k : Nat, k ≤ la.length ∧ i = .int .i64 k ∧ m = .int .i64 (diffU la lb k) ∧ Drew w1 wr) (fun _ i _ => la.length - (intOf i).toNat)
    case atStart => exact ⟨0, Nat.zero_le _, rfl, by rw [diff_zero]; rfl, Drew.refl w1⟩
    case round =>
      obtain ⟨k, hk, rfl, rfl, hd⟩ := hrel
      have HD := Lib.hid hd
      obtain ⟨k0, k1, k2⟩ := (HY1.out.below (hd.below _)).cells
      obtain ⟨l0, l1, l2⟩ := (HY2.out.below (hd.below _)).cells
      have hle := diff_le la lb k
      have hi0 : (0 : Int) ≤ (k : Int) := by omega
      by_cases hlt : k < la.length
      · have hlb : k < lb.length := by have := HL.out; omega
        have hi : (k : Int) < (la.length : Int) := by omega
        have hi2 : (k : Int) < (lb.length : Int) := by omega
        obtain ⟨b1, o1, rfl, hb1, hc1⟩ := (HJ1.out.drew hd).at_ hlt
        obtain ⟨b2, o2, rfl, hb2, hc2⟩ := (HJ2.out.drew hd).at_ hlb
        have HS := Lib.hid (diff_step HL.out k hlt)
        generalize la[k] = x at *
        generalize lb[k] = y at *
        generalize diffU la lb k = m at *
        clear hd
        by_cases hxy : x = y
        · have e0 : (x != y) = false := by simp [hxy]
          have HN := Lib.hid (show diffU la lb (k + 1) = m by rw [HS.out, if_pos hxy]; rfl)
          clear hxy HS
          go_wp2
          go_quiet (fail)
          go_wp2
          go_roundw
          case rel => exact ⟨k + 1, by omega, by go_num, by rw [HN.out], HD.out.more _⟩
          case measure => simp [intOf]; omega
        · have e0 : (x != y) = true := by simp [hxy]
          have HN := Lib.hid (show diffU la lb (k + 1) = m + 1 by rw [HS.out, if_neg hxy])
          clear hxy HS
          go_wp2
          go_quiet (fail)
          go_wp2
          go_roundw
          case rel => exact ⟨k + 1, by omega, by go_num, by rw [HN.out]; go_num, HD.out.more _⟩
          case measure => simp [intOf]; omega
      · obtain rfl : k = la.length := by omega
        have HA := Lib.hid (diff_all HL.out)
        rw [HA.out]
        clear hd hle
        go_wp2
        go_ret2
        exact ⟨rfl, HB1.out.trans (HD.out.below _)⟩
end Go.Proofs.Ytjppaolhknjpaaa
