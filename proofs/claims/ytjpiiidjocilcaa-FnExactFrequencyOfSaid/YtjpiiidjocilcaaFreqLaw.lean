/- The walk of FnExactFrequencyOf. -/
import Derived.Test.YtjpiiidjocilcaaFreq
import Derived.Test.YtjpiiidjocilcaaFreqI
import Derived.Test.YtjpiiidjocilcaaTlLaw
import Derived.Test.YtjpiiidjocilcaaShLaw
namespace Go.Proofs.Ytjpiiidjocilcaa
open Go.RowKit
set_option linter.unusedVariables false
set_option linter.unusedSimpArgs false
set_option maxRecDepth 100000 in
set_option maxHeartbeats 16000000 in
theorem walk_FreqLaw (a0 b0 : Option Addr) (l0 r0 : List Int) (c0 d0 : Nat) (x1 : Int) (w : World) (hl0 : Ints .i64 w w.heap.size a0 l0) (hr0 : Ints .i64 w w.heap.size b0 r0) (hm0 : l0.length ≤ maxLen) (hn0 : r0.length ≤ maxLen) :
    Calls Try.prog 6 #[.agg #[.slice a0 l0.length c0, .slice b0 r0.length d0], .int .i64 x1] w fun e w' => e = .returned (.bool true) ∧ Below w.heap.size w w' := by
  have HZ := Lib.hid (fun W => szTally_any a0 b0 l0.length c0 r0.length d0 1048576 W hm0 hn0 (by omega) (by omega))
  by_cases hn : ((l0.length + r0.length : Nat) : Int) ≤ 1048576
  · rw [if_pos hn] at HZ
    have q0 : l0.length ≤ 1048576 := by omega
    have q1 : r0.length ≤ 1048576 := by omega
    have hz : ¬ (1048576 : Int) - ((l0.length + r0.length : Nat) : Int) < 0 := by omega
    generalize (1048576 : Int) - ((l0.length + r0.length : Nat) : Int) = z at *
    have G0 := Lib.hid (below_all w (.cells #[.slice a0 l0.length c0, .slice b0 r0.length d0] 24))
    have HT := Lib.hid (fun W (G : Below w.heap.size w W) => toTally_any a0 b0 l0 r0 c0 d0 W ((hl0.below G (Nat.le_refl _)).more G.size) ((hr0.below G (Nat.le_refl _)).more G.size) q0 q1)
    have HS := Lib.hid (fun p q W (h : Ints .i64 W W.heap.size (some ⟨p, 0, none⟩) l0) (h' : Ints .i64 W W.heap.size (some ⟨q, 0, none⟩) r0) => specFreq_any (some ⟨p, 0, none⟩) (some ⟨q, 0, none⟩) l0 r0 l0.length r0.length x1 W h h')
    have HI := Lib.hid (fun p q W (h : Ints .i64 W W.heap.size (some ⟨p, 0, none⟩) l0) (h' : Ints .i64 W W.heap.size (some ⟨q, 0, none⟩) r0) => implFreq_any (some ⟨p, 0, none⟩) (some ⟨q, 0, none⟩) l0 r0 l0.length r0.length x1 W h h')
    have HE := Lib.hid (fun p q p' q' W (h : Ints .i64 W W.heap.size (some ⟨p, 0, none⟩) l0) (h' : Ints .i64 W W.heap.size (some ⟨p', 0, none⟩) l0) (k : Ints .i64 W W.heap.size (some ⟨q, 0, none⟩) r0) (k' : Ints .i64 W W.heap.size (some ⟨q', 0, none⟩) r0) => eqTally_yes (some ⟨p, 0, none⟩) (some ⟨p', 0, none⟩) (some ⟨q, 0, none⟩) (some ⟨q', 0, none⟩) l0 r0 l0.length l0.length r0.length r0.length W h h' k k' q0 q1)
    have BX := Lib.hid (fun W (G : Below (w.alloc (.cells #[.slice a0 l0.length c0, .slice b0 r0.length d0] 24)).heap.size (w.alloc (.cells #[.slice a0 l0.length c0, .slice b0 r0.length d0] 24)) W) => show W.cell? ⟨w.heap.size, 0, none⟩ = some (.slice a0 l0.length c0) ∧ W.cell? ⟨w.heap.size, 1, none⟩ = some (.slice b0 r0.length d0) from
      ⟨(G.cell (p := ⟨w.heap.size, 0, none⟩) (by simp)).trans (by simp [go_sem]), (G.cell (p := ⟨w.heap.size, 1, none⟩) (by simp)).trans (by simp [go_sem])⟩)
    have D0 := Lib.hid (Below.refl (w.alloc (.cells #[.slice a0 l0.length c0, .slice b0 r0.length d0] 24)).heap.size (w.alloc (.cells #[.slice a0 l0.length c0, .slice b0 r0.length d0] 24)))
    clear hl0 hr0 hn
    generalize frqN l0 r0 x1 = fn at *
    generalize frqD l0 r0 x1 = fd at *
    generalize frqB l0 r0 x1 = rb at *
    go_enter Try.func6, Try.ntmps6
    go_wp2_with fail
    refine (HZ.out _).mono ?_
    rintro e w1 ⟨rfl, b1⟩
    have D1 := Lib.hid (D0.out.trans (b1.mono (Nat.le_refl _)))
    clear b1 D0
    obtain ⟨y0, y1⟩ := BX.out _ D1.out
    go_wp2_with fail
    refine (HT.out _ (G0.out.trans (D1.out.mono G0.out.size))).mono ?_
    rintro e w2 ⟨g2, h2, u2, v2, z2, rfl, p2, k2, b2⟩
    have D2 := Lib.hid (D1.out.trans (b2.mono D1.out.size))
    have P2 := Lib.hid p2.ints
    have K2 := Lib.hid k2.ints
    clear p2 k2 b2 D1 y0 y1
    go_wp2_with fail
    refine (HS.out _ _ _ P2.out K2.out).mono ?_
    rintro e w3 ⟨rfl, b3⟩
    have D3 := Lib.hid ((D2.out.trans (b3.mono D2.out.size)).alloc ((D2.out.trans (b3.mono D2.out.size)).size) (.cells #[.int .i64 fn, .int .i64 fd] 38))
    have WB := Lib.hid (fun W (G : Below (w3.alloc (.cells #[.int .i64 fn, .int .i64 fd] 38)).heap.size (w3.alloc (.cells #[.int .i64 fn, .int .i64 fd] 38)) W) => show W.cell? ⟨w3.heap.size, 0, none⟩ = some (.int .i64 fn) ∧ W.cell? ⟨w3.heap.size, 1, none⟩ = some (.int .i64 fd) from
      ⟨(G.cell (p := ⟨w3.heap.size, 0, none⟩) (by simp)).trans (by simp [go_sem]), (G.cell (p := ⟨w3.heap.size, 1, none⟩) (by simp)).trans (by simp [go_sem])⟩)
    clear b3 P2 K2 D2
    obtain ⟨y0, y1⟩ := BX.out _ D3.out
    go_wp2_with fail
    refine (HT.out _ (G0.out.trans (D3.out.mono G0.out.size))).mono ?_
    rintro e w4 ⟨g4, h4, u4, v4, z4, rfl, p4, k4, b4⟩
    have D4 := Lib.hid (D3.out.trans (b4.mono D3.out.size))
    have F4q := Lib.hid b4
    have P4 := Lib.hid p4.ints
    have K4 := Lib.hid k4.ints
    clear p4 k4 b4 D3 y0 y1
    have DB := Lib.hid (D4.out.alloc D4.out.size (.cells #[.slice (some ⟨g4, 0, none⟩) l0.length l0.length, .slice (some ⟨h4, 0, none⟩) r0.length r0.length] 27))
    have PB := Lib.hid (ints_alloc P4.out (.cells #[.slice (some ⟨g4, 0, none⟩) l0.length l0.length, .slice (some ⟨h4, 0, none⟩) r0.length r0.length] 27))
    have KB := Lib.hid (ints_alloc K4.out (.cells #[.slice (some ⟨g4, 0, none⟩) l0.length l0.length, .slice (some ⟨h4, 0, none⟩) r0.length r0.length] 27))
    have XB := Lib.hid (fun W (G : Below (w4.alloc (.cells #[.slice (some ⟨g4, 0, none⟩) l0.length l0.length, .slice (some ⟨h4, 0, none⟩) r0.length r0.length] 27)).heap.size (w4.alloc (.cells #[.slice (some ⟨g4, 0, none⟩) l0.length l0.length, .slice (some ⟨h4, 0, none⟩) r0.length r0.length] 27)) W) => show W.cell? ⟨w4.heap.size, 0, none⟩ = some (.slice (some ⟨g4, 0, none⟩) l0.length l0.length) ∧ W.cell? ⟨w4.heap.size, 1, none⟩ = some (.slice (some ⟨h4, 0, none⟩) r0.length r0.length) from
      ⟨(G.cell (p := ⟨w4.heap.size, 0, none⟩) (by simp)).trans (by simp [go_sem]), (G.cell (p := ⟨w4.heap.size, 1, none⟩) (by simp)).trans (by simp [go_sem])⟩)
    have F4 := Lib.hid (F4q.out.alloc F4q.out.size (.cells #[.slice (some ⟨g4, 0, none⟩) l0.length l0.length, .slice (some ⟨h4, 0, none⟩) r0.length r0.length] 27))
    clear F4q
    clear P4 K4 D4 u4 v4 z4 u2 v2 z2
    go_wp2_with fail
    refine (HI.out _ _ _ PB.out KB.out).mono ?_
    rintro e w5 ⟨rfl, b5⟩
    have D5 := Lib.hid ((DB.out.trans (b5.mono DB.out.size)).alloc ((DB.out.trans (b5.mono DB.out.size)).size) (.cells #[.int .i64 fn, .int .i64 fd] 38))
    have E5 := Lib.hid (b5.alloc b5.size (.cells #[.int .i64 fn, .int .i64 fd] 38))
    have F5 := Lib.hid (F4.out.trans (E5.out.mono F4.out.size))
    have P5 := Lib.hid (ints_alloc (ints_below PB.out b5) (.cells #[.int .i64 fn, .int .i64 fd] 38))
    have K5 := Lib.hid (ints_alloc (ints_below KB.out b5) (.cells #[.int .i64 fn, .int .i64 fd] 38))
    obtain ⟨v0, v1⟩ := WB.out _ F5.out
    clear b5 DB PB KB
    go_wp2_with fail
    refine (eqSh_yes fn fd _).mono ?_
    rintro e w6 ⟨rfl, b6⟩
    have D6 := Lib.hid ((D5.out.trans (b6.mono D5.out.size)).drew)
    have E6 := Lib.hid ((E5.out.trans (b6.mono E5.out.size)).drew)
    have P6 := Lib.hid (ints_below (w' := w6.drew) (ints_below P5.out b6) ⟨rfl, rfl, rfl, Nat.le_refl _, fun _ _ => rfl⟩)
    have K6 := Lib.hid (ints_below (w' := w6.drew) (ints_below K5.out b6) ⟨rfl, rfl, rfl, Nat.le_refl _, fun _ _ => rfl⟩)
    clear b6 D5 E5 F5 P5 K5 v0 v1 F4 WB
    cases rb <;> (go_wp2_with fail)
    all_goals
      obtain ⟨y0, y1⟩ := BX.out _ D6.out
      obtain ⟨z0, z1⟩ := XB.out _ E6.out
      go_region_held3 (fun w' => (w'.cell? ⟨w.heap.size, 0, none⟩ = some (.slice a0 l0.length c0) ∧ w'.cell? ⟨w.heap.size, 1, none⟩ = some (.slice b0 r0.length d0)) ∧
          (w'.cell? ⟨w4.heap.size, 0, none⟩ = some (.slice (some ⟨g4, 0, none⟩) l0.length l0.length) ∧ w'.cell? ⟨w4.heap.size, 1, none⟩ = some (.slice (some ⟨h4, 0, none⟩) r0.length r0.length)))
        (first | exact ⟨BX.out _ D8.out, XB.out _ E8.out⟩ | exact ⟨BX.out _ D7.out, XB.out _ E7.out⟩ | go_keep)
        (first
          | (go_at_call 15; refine (HT.out _ (G0.out.trans (D6.out.mono G0.out.size))).mono ?_; rintro e w7 ⟨g7, h7, u7, v7, q7, rfl, p7, k7, b7⟩; have D7 := Lib.hid (D6.out.trans (b7.mono D6.out.size)); have E7 := Lib.hid (E6.out.trans (b7.mono E6.out.size)); have P7 := Lib.hid (ints_below P6.out b7); have K7 := Lib.hid (ints_below K6.out b7); have F7 := Lib.hid p7.ints; have M7 := Lib.hid k7.ints; clear p7 k7 b7)
          | (go_at_call 17; refine (HE.out _ _ _ _ _ P7.out F7.out K7.out M7.out).mono ?_; rintro e w8 ⟨rfl, b8⟩; have D8 := Lib.hid (D7.out.trans (b8.mono D7.out.size)); have E8 := Lib.hid (E7.out.trans (b8.mono E7.out.size)); clear b8))
      go_wp2
      go_ret
      exact ⟨rfl, G0.out.trans (D8.out.mono G0.out.size)⟩

  · rw [if_neg hn] at HZ
    go_enter Try.func6, Try.ntmps6
    go_wp2_with fail
    refine (HZ.out _).mono ?_
    rintro e w1 ⟨rfl, b1⟩
    have G1 := Lib.hid b1
    clear b1
    go_wp2_with fail
    go_ret
    exact ⟨rfl, below_then (below_all _ _) G1.out⟩
end Go.Proofs.Ytjpiiidjocilcaa
