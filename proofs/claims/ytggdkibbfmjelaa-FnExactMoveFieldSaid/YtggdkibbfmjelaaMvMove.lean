/- The program's MoveField. -/
import Derived.Test.YtggdkibbfmjelaaMvP
import Derived.Test.YtggdkibbfmjelaaMvSmall
import Derived.Test.YtggdkibbfmjelaaRgBk
import Derived.Test.YtggdkibbfmjelaaPtFn
import Derived.BigQuiet
namespace Go.Proofs.Ytggdkibbfmjelaa
open Go.RowKit
set_option linter.unusedVariables false
set_option linter.unusedSimpArgs false
/-- a field and a motion by value, a field as a result -/
structure Fm1 (w : World) (wd hg : Int) (a : Option Addr) (l : List Int) (c : Nat) (mx my : Int) (w' : World) : Prop where
  b : Below w.heap.size w w'
  s0 : Ints .i64 w w.heap.size a l
  i0 : Ints .i64 w' w'.heap.size a l
  k0 : Box w' w.heap.size 34 (.int .i64 wd) (.int .i64 hg) (.slice a l.length c)
  m : MBox w' (w.heap.size + 1) 24 mx my
  r : Box w' (w.heap.size + 2) 34 (.int .i64 0) (.int .i64 0) (.slice none 0 0)
section
variable {w w1 w2 : World} {ob g c cap : Nat} {wd hg mx my P Q : Int} {a : Option Addr} {l S : List Int}
theorem Fm1.new (h : Ints .i64 w w.heap.size a l) (mx my : Int) : Fm1 w wd hg a l c mx my (((w.alloc (.cells #[.int .i64 wd, .int .i64 hg, .slice a l.length c] 34)).alloc (.cells #[.int .i64 mx, .int .i64 my] 24)).alloc (.cells #[.int .i64 0, .int .i64 0, .slice none 0 0] 34)) := by
  refine ⟨(((Below.refl w.heap.size w).alloc (by simp) _).alloc (by simp) _).alloc (by simp; omega) _, h, ints_alloc (ints_alloc (ints_alloc h _) _) _, ?_, ?_, ?_⟩
  · exact ((Box.new w _ _ _ _).alloc _).alloc _
  · have h1 := (MBox.new (w.alloc (.cells #[.int .i64 wd, .int .i64 hg, .slice a l.length c] 34)) 24 mx my).below (below_all _ (.cells #[.int .i64 0, .int .i64 0, .slice none 0 0] 34))
    simp only [World.size_alloc] at h1
    exact h1
  · have h1 := Box.new ((w.alloc (.cells #[.int .i64 wd, .int .i64 hg, .slice a l.length c] 34)).alloc (.cells #[.int .i64 mx, .int .i64 my] 24)) 34 (.int .i64 0) (.int .i64 0) (.slice none 0 0)
    simp only [World.size_alloc] at h1
    exact h1
theorem Fm1.step (h : Fm1 w wd hg a l c mx my w1) (b : Below w1.heap.size w1 w2) : Fm1 w wd hg a l c mx my w2 := ⟨below_then h.b b, h.s0, ints_below h.i0 b, h.k0.below b, h.m.below b, h.r.below b⟩
theorem Fm1.turn {g : Nat} (h : Fm1 w wd hg a l c mx my w1) (t : w1.grownBy w2 (some g)) (hg' : w.heap.size + 3 ≤ g) : Fm1 w wd hg a l c mx my w2 :=
  ⟨below_turn h.b t h.b.size (by omega), h.s0, ints_turn h.s0 h.b t (by omega), h.k0.turn t (by omega), h.m.turn t (by omega), h.r.turn t (by omega)⟩
/-- the field that is written, in box ob, its cells S in block g -/
structure Bm (w : World) (ob g : Nat) (wd hg : Int) (a : Option Addr) (l : List Int) (c : Nat) (mx my P Q : Int) (S : List Int) (cap : Nat) (wr : World) : Prop where
  f : Fm1 w wd hg a l c mx my wr
  x : Box wr ob 34 (.int .i64 P) (.int .i64 Q) (.slice (some ⟨g, 0, none⟩) S.length cap)
  o : Row wr g 3 (iv S)
  n : w.heap.size + 2 < ob
  m : w.heap.size + 2 < g
  ne : g ≠ ob
theorem Bm.step (h : Bm w ob g wd hg a l c mx my P Q S cap w1) (b : Below w1.heap.size w1 w2) : Bm w ob g wd hg a l c mx my P Q S cap w2 :=
  ⟨h.f.step b, h.x.below b, h.o.of_block (b.block g h.o.lt), h.n, h.m, h.ne⟩
theorem Bm.put (h : Bm w ob g wd hg a l c mx my P Q S cap w1) (j : Nat) (z : Int) : Bm w ob g wd hg a l c mx my P Q (S.set j z) cap (w1.setCell ⟨g, j, none⟩ (.int .i64 z)) :=
  ⟨h.f.turn (turn_set w1 g j _) (by have := h.m; omega), by rw [List.length_set]; exact h.x.other (show ob ≠ g from Ne.symm h.ne) _, by have := h.o.set j (.int .i64 z); rw [iv_set] at this; exact this, h.n, h.m, h.ne⟩
theorem Bm.get (h : Bm w ob g wd hg a l c mx my P Q S cap w1) {j : Nat} (hj : j < S.length) : w1.cell? ⟨g, j, none⟩ = some (.int .i64 S[j]) := by
  rw [h.o.cell (k := j) (by rw [iv_length]; exact hj), iv_get]
theorem Bm.new {a1 : Option Addr} (hf : Fm1 w wd hg a l c mx my w1) (o1 : OwnI w1 (w.heap.size + 3) a1 S) (h0 : 0 < S.length) :
    ∃ g, a1 = some ⟨g, 0, none⟩ ∧ Bm w w1.heap.size g wd hg a l c mx my P Q S cap (w1.alloc (.cells #[.int .i64 P, .int .i64 Q, .slice a1 S.length cap] 34)) := by
  obtain ⟨g, h1, rfl, h3⟩ := o1.row h0
  have hz := hf.r.lt
  exact ⟨g, rfl, hf.step (below_all _ _), Box.new _ _ _ _ _, h3.alloc _, by omega, by omega, by have := h3.lt; omega⟩
theorem Bm.own (h : Bm w ob g wd hg a l c mx my P Q S cap w1) : OwnI w1 (w.heap.size + 3) (some ⟨g, 0, none⟩) S := ⟨g, h.m, .inr ⟨rfl, h.o⟩⟩
theorem Bm.ret2 (h : Bm w ob g wd hg a l c mx my P Q S cap w1) {e : Ending} (he : e = .returned (.tuple #[.agg #[.int .i64 P, .int .i64 Q, .slice (some ⟨g, 0, none⟩) S.length cap], .bool true])) (u0 u1 u2 : Value) :
    FRet (some (P, Q, S)) w e (((w1.setCell ⟨w.heap.size + 2, 0, none⟩ u0).setCell ⟨w.heap.size + 2, 1, none⟩ u1).setCell ⟨w.heap.size + 2, 2, none⟩ u2) :=
  ⟨_, _, he, (ownI_set (ownI_set (ownI_set h.own (by simp) _) (by simp) _) (by simp) _).more (by omega), ((h.f.b.setCell (p := ⟨w.heap.size + 2, 0, none⟩) (by simp) _).setCell (p := ⟨w.heap.size + 2, 1, none⟩) (by simp) _).setCell (p := ⟨w.heap.size + 2, 2, none⟩) (by simp) _⟩
end
set_option maxRecDepth 100000 in
set_option maxHeartbeats 8000000 in
theorem implMove_any (wd hg : Int) (a : Option Addr) (l : List Int) (c : Nat) (mx my : Int) (w : World) (hl : Ints .i64 w w.heap.size a l) (hn : l.length ≤ 1048576) :
    Calls Try.prog 21 #[.agg #[.int .i64 wd, .int .i64 hg, .slice a l.length c], .agg #[.int .i64 mx, .int .i64 my]] w (FRet (moveR wd hg l mx my) w) := by
  have F0 := Lib.hid (Fm1.new (wd := wd) (hg := hg) (c := c) hl mx my)
  obtain ⟨W0, hW0⟩ : ∃ W, ((w.alloc (.cells #[.int .i64 wd, .int .i64 hg, .slice a l.length c] 34)).alloc (.cells #[.int .i64 mx, .int .i64 my] 24)).alloc (.cells #[.int .i64 0, .int .i64 0, .slice none 0 0] 34) = W := ⟨_, rfl⟩
  rw [hW0] at F0
  have HW := Lib.hid hW0
  clear hl hW0
  cases hs : goodB wd hg l with
  | false =>
    rw [moveR_no (by unfold movB; rw [hs]; rfl)]
    have HC := Lib.hid (fun W i => implGood_is wd hg a l c _ false W i (Nat.le_refl _) hn hs)
    clear hs
    go_enter Try.func21, Try.ntmps21
    go_wp2_with fail
    rw [HW.out]
    refine (HC.out _ F0.out.i0).mono ?_
    rintro e w1 ⟨rfl, b1⟩
    have F1 := Lib.hid (F0.out.step b1)
    clear b1 F0
    obtain ⟨r0, r1, r2⟩ := F1.out.r.cells
    have g0 := F1.out.r.frozen 0
    have g1 := F1.out.r.frozen 1
    have g2 := F1.out.r.frozen 2
    go_wp2
    refine bodyPost_ret (v := .tuple #[.agg #[.int .i64 0, .int .i64 0, .slice none 0 0], .bool false]) (by simp [results, Try.results21, go_sem, r0, r1, r2]) rfl ⟨none, 0, rfl, OwnI.none_, ?_⟩
    exact ((F1.out.b.setCell (by simp <;> omega) _).setCell (by simp <;> omega) _).setCell (by simp <;> omega) _
  | true =>
    have HC := Lib.hid (fun W i => implGood_is wd hg a l c _ true W i (Nat.le_refl _) hn hs)
    cases hmt : motB mx my with
    | false =>
      rw [moveR_no (by unfold movB; rw [hmt]; simp)]
      have HG := Lib.hid (fun W => implMot_is mx my false W hmt)
      clear hs hmt
      go_enter Try.func21, Try.ntmps21
      go_wp2_with fail
      rw [HW.out]
      refine (HC.out _ F0.out.i0).mono ?_
      rintro e w1 ⟨rfl, b1⟩
      have F1 := Lib.hid (F0.out.step b1)
      clear b1 F0
      obtain ⟨m0, m1⟩ := F1.out.m.cells
      go_wp2_with fail
      refine (HG.out _).mono ?_
      rintro e w2 ⟨rfl, b2⟩
      have F2 := Lib.hid (F1.out.step b2)
      clear b2 F1 m0 m1
      obtain ⟨r0, r1, r2⟩ := F2.out.r.cells
      have g0 := F2.out.r.frozen 0
      have g1 := F2.out.r.frozen 1
      have g2 := F2.out.r.frozen 2
      go_wp2
      refine bodyPost_ret (v := .tuple #[.agg #[.int .i64 0, .int .i64 0, .slice none 0 0], .bool false]) (by simp [results, Try.results21, go_sem, r0, r1, r2]) rfl ⟨none, 0, rfl, OwnI.none_, ?_⟩
      exact ((F2.out.b.setCell (by simp <;> omega) _).setCell (by simp <;> omega) _).setCell (by simp <;> omega) _
    | true =>
      rw [moveR_yes (movB_iff.2 ⟨hs, hmt⟩)]
      have HG := Lib.hid (fun W => implMot_is mx my true W hmt)
      have HNEW := Lib.hid (fun W' => implNew_any wd hg (-9999) W')
      unfold FRet at HNEW
      have hsh := good_shape hs
      rw [newR_yes (by rw [hsh]; rfl)] at HNEW
      simp only [rW, rH, rL, rB] at HNEW
      obtain ⟨⟨s1, s2⟩, s3, s4⟩ := shapeB_iff.1 hsh
      obtain ⟨⟨v1, v2⟩, v3, v4⟩ := motB_iff.1 hmt
      have hlen := good_len hs
      obtain ⟨W, rfl⟩ := Int.eq_ofNat_of_zero_le (show 0 ≤ wd by omega)
      obtain ⟨H, rfl⟩ := Int.eq_ofNat_of_zero_le (show 0 ≤ hg by omega)
      rw [← Int.natCast_mul] at hlen HNEW
      rw [Int.toNat_natCast] at HNEW
      simp only [Int.toNat_natCast]
      have hlw : l.length = W * H := by omega
      have W1 : 1 ≤ W ∧ W ≤ 8 := by omega
      have H1 : 1 ≤ H ∧ H ≤ 8 := by omega
      have hWH : W * H ≤ 64 := Nat.mul_le_mul W1.2 H1.2
      have hWH0 : 0 < W * H := Nat.mul_pos (by omega) (by omega)
      rw [← mvP_zero W H l mx my] at HNEW
      rw [← mvP_all l mx my W1 H1]
      have HPL := Lib.hid (fun x y (h : inB (W : Int) (H : Int) x y = true) => place_int hsh h)
      have HHAS := Lib.hid (fun x y v Wd h => implHas_is (W : Int) (H : Int) a l.length c x y v Wd h)
      have HPT := Lib.hid (fun i Wd h3 h4 => pointAt_any (W : Int) i Wd (by omega) (by omega) h3 h4)
      have HMISS := Lib.hid (fun k hk h => mvP_miss (l := l) (mx := mx) (my := my) (k := k) W1 H1 hk h)
      have HHIT := Lib.hid (fun k hk z hz h => mvP_hitZ (l := l) (mx := mx) (my := my) (k := k) W1 H1 hlw hk z hz h)
      have HLEN := Lib.hid (mvP_len W H l mx my)
      have HGC := Lib.hid (fun (i : Nat) hi => grid_cell (W := W) (H := H) (i := i) (by omega) hi)
      have HLW := Lib.hid hlw
      clear hs hmt hsh hlen hlw
      generalize hP : mvP W H l mx my = P at *
      clear hP
      go_enter Try.func21, Try.ntmps21
      go_wp2_with fail
      rw [HW.out]
      refine (HC.out _ F0.out.i0).mono ?_
      rintro e w1 ⟨rfl, b1⟩
      have F1 := Lib.hid (F0.out.step b1)
      clear b1 F0
      obtain ⟨m0, m1⟩ := F1.out.m.cells
      go_wp2_with fail
      refine (HG.out _).mono ?_
      rintro e w2 ⟨rfl, b2⟩
      have F2 := Lib.hid (F1.out.step b2)
      clear b2 F1 m0 m1
      obtain ⟨k0, k1, k2⟩ := F2.out.k0.cells
      go_wp2_with fail
      refine (HNEW.out _).mono ?_
      rintro e w3 ⟨a3, c3, rfl, o3, b3⟩
      have F3 := Lib.hid (F2.out.step b3)
      have hz3 := F2.out.r.lt
      obtain ⟨g, rfl, hB⟩ := Bm.new (P := (W : Int)) (Q := (H : Int)) (cap := c3) F3.out (o3.more (by omega)) (by rw [HLEN.out]; exact hWH0)
      have HB := Lib.hid hB
      have hzr := F3.out.r.lt
      clear b3 F2 k0 k1 k2 o3 hB hz3
      obtain ⟨k0, k1, k2⟩ := F3.out.k0.cells
      have q3 : w.heap.size < w3.heap.size := by omega
      have q4 : ¬ w.heap.size = w3.heap.size := by omega
      go_wp2
      generalize w3.heap.size = ob at *
      clear k0 k1 k2 q3 q4 F3 hzr
      go_loopw [33] (fun i wr => ∃ k : Nat, k ≤ l.length ∧ i = .int .i64 k ∧ Bm w ob g W H a l c mx my W H (P k) c3 wr) (fun i _ => l.length - (intOf i).toNat)
      case atStart => exact ⟨0, Nat.zero_le _, rfl, HB.out⟩
      case round =>
        clear HB
        obtain ⟨k, hk, rfl, hB⟩ := hrel
        have HB := Lib.hid hB
        by_cases hlt : k < l.length
        · have hkW : k < W * H := by rw [← HLW.out]; exact hlt
          have hi : (k : Int) < (l.length : Int) := by omega
          have hi0 : (0 : Int) ≤ (k : Int) := by omega
          obtain ⟨b, o, rfl, hb, hc⟩ := hB.f.i0.at_ hlt
          obtain ⟨k0, k1, k2⟩ := hB.f.k0.cells
          have hgc := HGC.out k hkW
          obtain ⟨⟨c1, c2⟩, c3', c4⟩ := inB_iff.1 hgc
          have HPK := Lib.hid (fun Wd => HPT.out (k : Int) Wd hi0 (by omega))
          have hMS := Lib.hid (HMISS.out k hkW)
          have hHT := Lib.hid (HHIT.out k hkW _ (getD_at hlt))
          generalize l[k] = z at *
          generalize (k : Int) % (W : Int) = x at *
          generalize (k : Int) / (W : Int) = y at *
          clear hB hgc
          go_wp2_with fail
          refine (HPK.out _).mono ?_
          rintro e w4 ⟨rfl, b4⟩
          have HB4 := Lib.hid (HB.out.step b4)
          clear b4 k0 k1 k2 hc HB
          have hz4 := HB4.out.f.r.lt
          obtain ⟨W5, hW5⟩ : ∃ x', w4.alloc (.cells #[.int .i64 x, .int .i64 y] 83) = x' := ⟨_, rfl⟩
          have HB5 := Lib.hid (HB4.out.step (below_all w4 (.cells #[.int .i64 x, .int .i64 y] 83)))
          have HP5 := Lib.hid (MBox.new w4 83 x y)
          rw [hW5] at HB5 HP5
          have HW5 := Lib.hid hW5
          clear hW5 HB4
          go_wp2_with fail
          rw [HW5.out]
          obtain ⟨p0, p1⟩ := HP5.out.cells
          obtain ⟨n0, n1⟩ := HB5.out.f.m.cells
          generalize w4.heap.size = pb at *
          have hwx := IntWalk.i64_in (x + mx) (by omega)
          have hwy := IntWalk.i64_in (y + my) (by omega)
          go_quiet (fail)
          clear p0 p1 n0 n1 HW5
          generalize hW6 : W5.drewN _ = W6
          have HB6 : Hid (Bm w ob g W H (some ⟨b, o, none⟩) l c mx my W H (P k) c3 W6) := Lib.hid (by rw [← hW6]; exact HB5.out.step (below_drewN (Below.refl _ _) _))
          clear hW6 HB5 HP5
          obtain ⟨k0, k1, k2⟩ := HB6.out.f.k0.cells
          cases hin : inB (W : Int) (H : Int) (x + mx) (y + my) with
          | false =>
            have HC2 := Lib.hid (fun Wd => HHAS.out _ _ false Wd hin)
            have HE := Lib.hid (hMS.out hin)
            clear hin hHT hMS
            go_wp2_with fail
            refine (HC2.out _).mono ?_
            rintro e w7 ⟨rfl, b7⟩
            have HB7 := Lib.hid (HB6.out.step b7)
            clear b7 k0 k1 k2
            go_wp2
            go_roundw
            case rel => exact ⟨k + 1, by omega, by go_num, by rw [HE.out]; exact HB7.out⟩
            case measure => simp [intOf]; omega
          | true =>
            have HC2 := Lib.hid (fun Wd => HHAS.out _ _ true Wd hin)
            have HE := Lib.hid (hHT.out hin)
            obtain ⟨p1, p2, p3, p4⟩ := HPL.out _ _ hin
            obtain ⟨⟨i1, i2⟩, i3, i4⟩ := inB_iff.1 hin
            rw [← Int.natCast_mul] at p2
            generalize place (W : Int) (x + mx) (y + my) = q at *
            clear hin hHT hMS
            go_wp2_with fail
            refine (HC2.out _).mono ?_
            rintro e w7 ⟨rfl, b7⟩
            have HB7 := Lib.hid (HB6.out.step b7)
            clear b7 k0 k1 k2 HB6
            obtain ⟨k0, k1, k2⟩ := HB7.out.f.k0.cells
            obtain ⟨x0, x1, x2⟩ := HB7.out.x.cells
            have hlp : (P k).length = W * H := HLEN.out k
            obtain ⟨ov, hov⟩ : ∃ ov, w7.cell? ⟨g, q, none⟩ = some (.int .i64 ov) := ⟨_, HB7.out.get (j := q) (by omega)⟩
            have hof := HB7.out.o.frozen q
            have hq0 : (0 : Int) ≤ (q : Int) := by omega
            have hq1 : (q : Int) < ((P k).length : Int) := by omega
            have e1 : (y + my) * (W : Int) = (q : Int) - (x + mx) := by omega
            have w1' := IntWalk.i64_in ((y + my) * (W : Int)) (by omega)
            have w2' := IntWalk.i64_in (q : Int) (by omega)
            have HPT2 : Hid (Bm w ob g W H (some ⟨b, o, none⟩) l c mx my W H ((P k).set q z) c3 (w7.setCell ⟨g, q, none⟩ (.int .i64 z))) := Lib.hid (HB7.out.put q z)
            rw [HE.out] at HPT2
            clear hlp e1
            go_wp2
            go_roundw
            case rel => exact ⟨k + 1, by omega, by go_num, HPT2.out⟩
            case measure => simp [intOf]; omega
        · obtain rfl : k = l.length := by omega
          have hBB := hB
          rw [HLW.out] at hBB
          have HBB := Lib.hid hBB
          obtain ⟨x0, x1, x2⟩ := hBB.x.cells
          obtain ⟨r0, r1, r2⟩ := hB.f.r.cells
          have g0 := hB.f.r.frozen 0
          have g1 := hB.f.r.frozen 1
          have g2 := hB.f.r.frozen 2
          have q7 : ¬ w.heap.size + 2 = ob := by have := hB.n; omega
          have q8 : ¬ ob = w.heap.size + 2 := by omega
          clear hB hBB
          generalize P (W * H) = L at *
          go_wp2
          refine bodyPost_ret (v := .tuple #[.agg #[.int .i64 W, .int .i64 H, .slice (some ⟨g, 0, none⟩) L.length c3], .bool true]) (by simp [results, Try.results21, go_sem, r0, r1, r2]) rfl ?_
          exact HBB.out.ret2 rfl _ _ _
end Go.Proofs.Ytggdkibbfmjelaa
