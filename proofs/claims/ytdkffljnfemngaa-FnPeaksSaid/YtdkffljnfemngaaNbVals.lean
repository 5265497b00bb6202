/- The model's values of a neighborhood, in order: l6Values. -/
import Derived.Test.YtdkffljnfemngaaNbMath
import Derived.Test.YtdkffljnfemngaaSame
import Derived.Test.YtdkffljnfemngaaHas
import Derived.Test.YtdkffljnfemngaaMake
import Derived.IntWalk
import Derived.Deep.DeepCutAuto
import Derived.Deep.CutBlock
import Derived.OwnWalk
import Derived.Maps.AppendAt
namespace Go.Proofs.Ytdkffljnfemngaa
open Go.RowKit
set_option linter.unusedVariables false
set_option linter.unusedSimpArgs false
theorem own_set {w : World} {B g cap n k : Nat} {e : TypeId} {xs : List Value} (h : w.ownsRow B e 1 (.slice (some ⟨g, 0, none⟩) n cap) n xs) (u : Value) : (w.setCell ⟨g, k, none⟩ u).ownsRow B e 1 (.slice (some ⟨g, 0, none⟩) n cap) n (xs.set k u) := by
  obtain ⟨h1, ⟨h2, _⟩ | ⟨g', cap', cur, e1, h3, h4, h5, h6, h7, h8⟩⟩ := h
  · cases h2
  · injection e1 with e1 _ e2
    injection e1 with e1
    injection e1 with e1
    subst e1 e2
    refine ⟨by rw [List.length_set]; exact h1, .inr ⟨g, cap, cur.setIfInBounds k u, rfl, h3, by simp [World.setCell, Array.getElem?_modify, h4], h5, h6, by simp [h7], ?_⟩⟩
    rw [← h8, Array.toList_setIfInBounds, List.take_set]
/-- what the model's loops know of a world: the field's box, and a list of its own so far -/
structure SpAt (w : World) (v0 v1 v2 : Value) (s : List Int) (out : Value) (wr : World) : Prop where
  x : Box wr w.heap.size 26 v0 v1 v2
  o : wr.ownsRow w.heap.size 3 1 out s.length (iv s)
  b : Below w.heap.size w wr
section
variable {w wr w1 : World} {v0 v1 v2 out out' : Value} {s s' : List Int}
theorem SpAt.append {ob : Obj} (h : SpAt w v0 v1 v2 s out wr) (hg : (wr.alloc ob).grownBy w1 out.ownBlock) (ho : w1.ownsRow w.heap.size 3 1 out' s'.length (iv s')) : SpAt w v0 v1 v2 s' out' w1 :=
  ⟨(h.x.alloc ob).grown hg (Ne.symm (own_ne_box h.o h.x (by decide))), ho, (h.b.alloc h.b.size ob).grown hg (by have := h.b.size; simp; omega) (fun k hk => (h.o.lt k hk).1)⟩
theorem SpAt.step (h : SpAt w v0 v1 v2 s out wr) (hb : Below wr.heap.size wr w1) : SpAt w v0 v1 v2 s out w1 := /- 3 -/
  ⟨h.x.below hb, own_keeps h.o hb, below_then h.b hb⟩
theorem SpAt.set {g cap n : Nat} (h : SpAt w v0 v1 v2 s (.slice (some ⟨g, 0, none⟩) n cap) wr) (hn : s.length = n) (k : Nat) (z : Int) : SpAt w v0 v1 v2 (s.set k z) (.slice (some ⟨g, 0, none⟩) n cap) (wr.setCell ⟨g, k, none⟩ (.int .i64 z)) := by /- 3 -/
  subst hn
  have hne := own_ne_box h.o h.x (by decide)
  have hg : g ≠ w.heap.size := by intro e; exact hne (by simp [Value.ownBlock, e])
  have hB : w.heap.size ≤ g := (h.o.lt g rfl).1
  refine ⟨h.x.other (p := ⟨g, k, none⟩) (Ne.symm hg) _, ?_, h.b.setCell (p := ⟨g, k, none⟩) hB _⟩
  rw [List.length_set, ← iv_set]
  exact own_set h.o _
theorem SpAt.cell {g cap n : Nat} (h : SpAt w v0 v1 v2 s (.slice (some ⟨g, 0, none⟩) n cap) wr) (hn : s.length = n) {k : Nat} (hk : k < s.length) : wr.cell? ⟨g, k, none⟩ = some (.int .i64 s[k]) := by /- 3 -/
  subst hn
  obtain ⟨c, g', e, h1, h2, h3⟩ := Row.of_own h.o (by omega)
  injection e with e
  injection e with e
  injection e with e
  subst e
  rw [h2.cell (k := k) (by rw [iv_length]; exact hk), iv_get]
theorem SpAt.frozen {g cap n : Nat} (h : SpAt w v0 v1 v2 s (.slice (some ⟨g, 0, none⟩) n cap) wr) (hn : s.length = n) (h0 : 0 < n) (k : Nat) : wr.frozen? ⟨g, k, none⟩ = false := by /- 3 -/
  subst hn
  obtain ⟨c, g', e, h1, h2, h3⟩ := Row.of_own h.o h0
  injection e with e
  injection e with e
  injection e with e
  subst e
  exact h2.frozen k
end
theorem SpAt.form {w wr : World} {v0 v1 v2 out : Value} {s : List Int} (h : SpAt w v0 v1 v2 s out wr) : ∃ ao cap, out = .slice ao s.length cap ∧ (0 < s.length → ∃ g, ao = some ⟨g, 0, none⟩) := by /- 3 -/
  rcases h.o.2 with ⟨h1, h2⟩ | ⟨g, cap, cur, h1, _⟩
  · exact ⟨none, 0, by rw [h1, h2], fun h3 => by omega⟩
  · exact ⟨_, cap, h1, fun _ => ⟨g, rfl⟩⟩
theorem ins_gap (s : List Int) (n : Int) : ins s n = gap s n (spotN s n s.length) := rfl
set_option maxRecDepth 100000 in
set_option maxHeartbeats 4000000 in
theorem specVals_any (W H b o c x y r : Nat) (l : List Int) (xi yi ri : Int) (w : World) (hxi : (x : Int) = xi) (hyi : (y : Int) = yi) (hri : (r : Int) = ri) (hW8 : W ≤ 8) (hH8 : H ≤ 8) (hn : l.length = W * H) (hx : x < W) (hy : y < H) (hr : r ≤ 3)
    (hl : Ints .i64 w w.heap.size (some ⟨b, o, none⟩) l) :
    Calls Try.prog 72 #[.agg #[.int .i64 W, .int .i64 H, .slice (some ⟨b, o, none⟩) l.length c], .int .i64 xi, .int .i64 yi, .int .i64 ri] w (IntsPost (insAll (nbv l W H x y r)) w) := by
  obtain ⟨i0, hi0', hz0, hz1, hz2⟩ := info_parts infoInt
  have HLE := Lib.hid (nbv_le (l := l) (x := x) (y := y) (r := r) hW8 hH8)
  have HL := Lib.hid hl
  have HN := Lib.hid hn
  have hn64 : l.length ≤ 64 := by rw [hn]; exact Nat.mul_le_mul hW8 hH8
  unfold nbv at *
  obtain ⟨X0, hX0⟩ : ∃ q, x - r = q := ⟨_, rfl⟩
  obtain ⟨X1, hX1⟩ : ∃ q, min (x + r + 1) W = q := ⟨_, rfl⟩
  obtain ⟨Y0, hY0⟩ : ∃ q, y - r = q := ⟨_, rfl⟩
  obtain ⟨Y1, hY1⟩ : ∃ q, min (y + r + 1) H = q := ⟨_, rfl⟩
  obtain ⟨Q, hQ⟩ : ∃ q, Y1 - Y0 = q := ⟨_, rfl⟩
  obtain ⟨P, hP⟩ : ∃ q, X1 - X0 = q := ⟨_, rfl⟩
  rw [hX0, hX1, hY0, hY1, hQ] at HLE ⊢
  obtain ⟨d1, hd1⟩ : ∃ d, yi - ri = d := ⟨_, rfl⟩
  obtain ⟨s1, hs1⟩ : ∃ d, yi + ri = d := ⟨_, rfl⟩
  obtain ⟨d3, hd3⟩ : ∃ d, xi - ri = d := ⟨_, rfl⟩
  obtain ⟨s3, hs3⟩ : ∃ d, xi + ri = d := ⟨_, rfl⟩
  obtain ⟨H1, hH1⟩ : ∃ d, (H : Int) - 1 = d := ⟨_, rfl⟩
  obtain ⟨W1, hW1⟩ : ∃ d, (W : Int) - 1 = d := ⟨_, rfl⟩
  obtain ⟨t1, ht1⟩ : ∃ d, min H1 s1 = d := ⟨_, rfl⟩
  obtain ⟨t3, ht3⟩ : ∃ d, min W1 s3 = d := ⟨_, rfl⟩
  have C1 := Lib.hid (fun Wd => l1Most_is 0 d1 Wd)
  rw [show max 0 d1 = (Y0 : Int) by omega] at C1
  have C2 := Lib.hid (fun Wd => l1Least_is H1 s1 Wd)
  rw [ht1] at C2
  have C3 := Lib.hid (fun Wd => l1Most_is 0 d3 Wd)
  rw [show max 0 d3 = (X0 : Int) by omega] at C3
  have C4 := Lib.hid (fun Wd => l1Least_is W1 s3 Wd)
  rw [ht3] at C4
  have ht1' : t1 + 1 = (Y1 : Int) := by omega
  have ht3' : t3 + 1 = (X1 : Int) := by omega
  have HT1 := Lib.hid ht1'
  have HT3 := Lib.hid ht3'
  have hw1 : IntKind.i64.wrap (yi - ri) = d1 := by rw [IntWalk.i64_in _ (by omega)]; exact hd1
  have hw2 : IntKind.i64.wrap (yi + ri) = s1 := by rw [IntWalk.i64_in _ (by omega)]; exact hs1
  have hw4 : IntKind.i64.wrap (xi - ri) = d3 := by rw [IntWalk.i64_in _ (by omega)]; exact hd3
  have hw5 : IntKind.i64.wrap (xi + ri) = s3 := by rw [IntWalk.i64_in _ (by omega)]; exact hs3
  have hw7 : IntKind.i64.wrap ((H : Int) - 1) = H1 := by rw [IntWalk.i64_in _ (by omega)]; exact hH1
  have hw8 : IntKind.i64.wrap ((W : Int) - 1) = W1 := by rw [IntWalk.i64_in _ (by omega)]; exact hW1
  have xW : X1 ≤ W := by omega
  have xX : X0 < X1 := by omega
  have yQ : Y0 + Q ≤ H := by omega
  have yQ1 : Y0 + Q = Y1 := by omega
  have xP1 : X0 + P = X1 := by omega
  have hQ8 : Q ≤ 8 := by omega
  have hP8 : P ≤ 8 := by omega
  have HW8 := Lib.hid hW8
  clear hX0 hX1 hY0 hY1 hxi hyi hri hx hy hr hn hl hd1 hs1 hd3 hs3 hH1 hW1 ht1 ht3 ht1' ht3' hQ
  have O0 := World.ownsRow_made (base := w.heap.size) (e := 3) (size := 1) (w.alloc (.cells #[.int .i64 W, .int .i64 H, .slice (some ⟨b, o, none⟩) l.length c] 26)) #[] 0 (by simp) (by simp) rfl
  have S0 : SpAt w (.int .i64 W) (.int .i64 H) (.slice (some ⟨b, o, none⟩) l.length c) (insAll (nbRows l W X0 X1 Y0 0)) (.slice (some ⟨w.heap.size + 1, 0, none⟩) 0 0) ((w.alloc (.cells #[.int .i64 W, .int .i64 H, .slice (some ⟨b, o, none⟩) l.length c] 26)).alloc (.cells #[] 3)) :=
    ⟨(Box.new w 26 _ _ _).alloc _, by rw [World.size_alloc] at O0; exact O0, ((Below.refl _ _).alloc (Nat.le_refl _) _).alloc (by simp) _⟩
  have HS0 := Lib.hid S0
  clear O0 S0
  go_enter Try.func72, Try.ntmps72
  go_wp2_with (go_at_call 78; refine (C1.out _).mono ?_; rintro e w1 ⟨rfl, rfl⟩)
  clear C1 hw1
  go_loopw [9, 10] (fun out i wr => ∃ k v : Nat, k ≤ Q ∧ v = Y0 + k ∧ i = .int .i64 v ∧ SpAt w (.int .i64 W) (.int .i64 H) (.slice (some ⟨b, o, none⟩) l.length c) (insAll (nbRows l W X0 X1 Y0 k)) out wr) (fun _ i _ => Y1 - (intOf i).toNat)
  case atStart => exact ⟨0, Y0, Nat.zero_le _, rfl, rfl, HS0.out⟩
  case round =>
    obtain ⟨k, v, hk, hv, rfl, hA⟩ := hrel
    have hv1 : v ≤ Y0 + k := by omega
    have hv2 : Y0 + k ≤ v := by omega
    have HVK := Lib.hid hv
    clear hv
    clear HS0
    have HA := Lib.hid hA
    obtain ⟨k0, k1, k2⟩ := hA.x.cells
    clear hA
    by_cases hlt : k < Q
    · have hi : (v : Int) ≤ t1 := by have := HT1.out; omega
      have hvH : v < H := by omega
      have hvY : v < Y1 := by omega
      go_wp2_with (first | (go_at_call 94; refine (C2.out _).mono ?_; rintro e w1 ⟨rfl, rfl⟩) | (go_at_call 78; refine (C3.out _).mono ?_; rintro e w1 ⟨rfl, rfl⟩))
      clear k0 k1 k2 hi
      have hfit := cut_fits (x1 := W) HN.out (Nat.le_refl _) hvH
      have hclen := cutR_len HN.out (Nat.le_of_lt xX) xW hvH
      rw [hP] at hclen
      have HGET := Lib.hid (fun m h h2 => cutR_get (l := l) (W := W) (x0 := X0) (x1 := X1) (y := v) (m := m) h h2)
      have hall := nbPart_all l W X0 X1 Y0 k P (by rw [← HVK.out, hclen]; exact Nat.le_refl _)
      have hhit := fun m h hz => nbPart_hit (l := l) (W := W) (x0 := X0) (x1 := X1) (y0 := Y0) (k := k) (m := m) h hz
      have hmis := fun m h hz => nbPart_miss (l := l) (W := W) (x0 := X0) (x1 := X1) (y0 := Y0) (k := k) (m := m) h hz
      rw [← HVK.out] at hhit hmis
      have HALL := Lib.hid hall
      have HHIT := Lib.hid hhit
      have HMIS := Lib.hid hmis
      have HCL := Lib.hid hclen
      have HPL := Lib.hid (fun m => nbPart_le l W X0 X1 Y0 k m)
      have hPL2 : (k + 1) * (X1 - X0) ≤ 64 := by rw [hP]; exact Nat.le_trans (Nat.mul_le_mul (by omega : k + 1 ≤ 8) hP8) (by omega)
      have HZERO := Lib.hid (nbPart_zero l W X0 X1 Y0 k)
      have HPL2 := Lib.hid hPL2
      obtain ⟨p, hp⟩ : ∃ q, v * W = q := ⟨_, rfl⟩
      have hpi : (v : Int) * (W : Int) = (p : Int) := by rw [← hp]; push_cast; rfl
      rw [hp] at HGET hfit
      have hp64 : p ≤ 64 := by omega
      have HFIT := Lib.hid hfit
      have HAT := Lib.hid (fun Wd B u j h hB hj (hju : p + u = j) (hu : u ≤ 8) => specAt_any (W : Int) (H : Int) (some ⟨b, o, none⟩) l c B (u : Int) (v : Int) j Wd h hB hj (by omega) (by rw [hpi]; omega) (by rw [hpi]; omega) (by rw [hpi]; omega) (by omega) (by omega))
      clear hfit hclen hall hhit hmis hp hpi hPL2
      go_loopw [9, 11] (fun out i wr' => ∃ m u : Nat, m ≤ P ∧ u = X0 + m ∧ i = .int .i64 u ∧ SpAt w (.int .i64 W) (.int .i64 H) (.slice (some ⟨b, o, none⟩) l.length c) (insAll (nbPart l W X0 X1 Y0 k m)) out wr') (fun _ i _ => X1 - (intOf i).toNat)
      case atStart => exact ⟨0, X0, Nat.zero_le _, rfl, rfl, by rw [HZERO.out]; exact HA.out⟩
      case round =>
        obtain ⟨m, u, hm, hu, rfl, hA⟩ := hrel
        have hu1 : u ≤ X0 + m := by omega
        have hu2 : X0 + m ≤ u := by omega
        clear hu
        clear HA
        have HAm := Lib.hid hA
        obtain ⟨k0, k1, k2⟩ := hA.x.cells
        by_cases hlt2 : m < P
        · have hi : (u : Int) ≤ t3 := by have := HT3.out; omega
          have hml : m < (cutR l W X0 X1 v).length := by rw [HCL.out]; exact hlt2
          have hin : p + u < l.length := by have := HFIT.out; omega
          have hcall := HAT.out wr w.heap.size u (p + u) (HL.out.below hA.b (Nat.le_refl _)) hA.b.size hin rfl (by omega)
          have hget := HGET.out m hml (by omega)
          have hpu : p + X0 + m = p + u := by omega
          simp only [hpu] at hget
          rw [← hget] at hcall
          have hh := HHIT.out m hml
          have hs := HMIS.out m hml
          have hle2 := HPL.out m
          have hle3 := HPL2.out
          have hlen := insAll_len (nbPart l W X0 X1 Y0 k m)
          obtain ⟨z, hzz⟩ : ∃ z, (cutR l W X0 X1 v)[m] = z := ⟨_, rfl⟩
          rw [hzz] at hcall hh hs
          have HCALL := Lib.hid hcall
          clear hA hzz hget hcall
          by_cases hz : z = -9999
          · have hne : (z == -9999) = true := by simp [hz]
            have HV := Lib.hid (hh hz)
            clear hz hh hs
            go_wp2_with (first | (go_at_call 94; refine (C4.out _).mono ?_; rintro e w1 ⟨rfl, rfl⟩) | (go_at_call 71; refine HCALL.out.mono ?_; rintro e w8 ⟨rfl, b8⟩; have HA8 := Lib.hid (HAm.out.step b8); clear b8))
            go_roundw
            case rel => exact ⟨m + 1, u + 1, by omega, by omega, by go_num, by rw [HV.out]; exact HA8.out⟩
            case measure => simp [intOf]; omega
          · have hne : (z == -9999) = false := by simp [hz]
            have HV := Lib.hid (hs hz)
            clear hz hh hs
            generalize nbPart l W X0 X1 Y0 k m = vs at *
            have HSN := Lib.hid (insAll_snoc vs z)
            obtain ⟨ao, cap, rfl, hao⟩ := HAm.out.form
            have hsl : (insAll vs).length ≤ 64 := by omega
            clear hlen hle2
            generalize insAll vs = s at *
            go_upto_block 4 with (first | (go_at_call 94; refine (C4.out _).mono ?_; rintro e w1 ⟨rfl, rfl⟩) | (go_at_call 71; refine HCALL.out.mono ?_; rintro e w8 ⟨rfl, b8⟩; have HA8 := Lib.hid (HAm.out.step b8); clear b8) | fail)
            clear k0 k1 k2 hi HAm HCALL
            go_cut [13] (fun kk wx => ∃ q : Nat, q ≤ s.length ∧ kk = .int .i64 q ∧ spotN s z s.length = q ∧ wx = w8)
            case first =>
              go_wp2_with fail
              go_loop [13] (fun kk => ∃ q : Nat, q ≤ s.length ∧ kk = .int .i64 q ∧ spotN s z q = spotN s z s.length) (fun kk => (intOf kk).toNat)
              case atStart => exact ⟨s.length, Nat.le_refl _, rfl, rfl⟩
              case round =>
                obtain ⟨q, hq, rfl, hsp⟩ := hrel
                have HSP := Lib.hid hsp
                clear hsp
                rcases Nat.eq_zero_or_pos q with h0 | h0
                · subst h0
                  go_wp2
                  go_meet
                  exact ⟨0, Nat.zero_le _, rfl, HSP.out.symm, rfl⟩
                · obtain ⟨g, rfl⟩ := hao (by omega)
                  obtain ⟨t, rfl⟩ : ∃ t, q = t + 1 := ⟨q - 1, by omega⟩
                  have ht : t < s.length := by omega
                  have hc := HA8.out.cell rfl ht
                  have p1 : ((t + 1 : Nat) : Int) - 1 = (t : Int) := by omega
                  have pp0 : (0 : Int) ≤ (t : Int) := by omega
                  have pp1 : (t : Int) < (s.length : Int) := by omega
                  have pp2 : (0 : Int) < ((t + 1 : Nat) : Int) := by omega
                  have HDN := Lib.hid (fun h => spotN_down (n := z) ht h)
                  have HSTP := Lib.hid (fun h => spotN_stop (n := z) ht h)
                  generalize s[t] = y at *
                  by_cases hy : z < y
                  · have HD := Lib.hid (HDN.out hy)
                    go_wp2
                    go_round
                    case rel => exact ⟨t, by omega, by go_num, by rw [← HSP.out, HD.out]⟩
                    case measure => simp [intOf] <;> omega
                  · have HD := Lib.hid (HSTP.out hy)
                    go_wp2
                    go_meet
                    exact ⟨t + 1, by omega, by go_num, by rw [← HSP.out, HD.out], rfl⟩
            case rest =>
              obtain ⟨q, hq, rfl, hsq, rfl⟩ := hcut
              have HSQ := Lib.hid hsq
              clear hsq
              go_wp2_with (at_builtin; refine wpList_append_own _ rfl _ _ 24 rfl w.heap.size 3 i0 (.int .i64 0) 1 8 Try.underlying24 hi0' hz0 hz1 hz2 rfl (by decide) _ s.length (iv s) rfl (HA8.out.o.alloc _) ⟨wc.heap.size, 0, none⟩ 1 1 [.int .i64 z] rfl rfl (cell_one_new _ _ _) (by simp [Value.oneCell']) (by unfold maxLen; omega) (by omega) (by have := HA8.out.b.size; simp; omega) ?_; intro v' w1 hown' hgrow _; obtain ⟨g', cap', rfl⟩ := own_slice hown' (by omega); have HA9 := Lib.hid (HA8.out.append (s' := s ++ [z]) hgrow (by rw [iv_snoc, List.length_append]; exact hown')); clear hown' hgrow)
              have HGE := Lib.hid (gap_end s z)
              have q64 : q ≤ 64 := by omega
              go_loopw [14] (fun i wr' => ∃ (t : Nat) (y : Int), q ≤ t ∧ t ≤ s.length ∧ i = .int .i64 t ∧ SpAt w (.int .i64 W) (.int .i64 H) (.slice (some ⟨b, o, none⟩) l.length c) (gap s y t) (.slice (some ⟨g', 0, none⟩) (s.length + 1) cap') wr') (fun i _ => (intOf i).toNat)
              case atStart => exact ⟨s.length, z, hq, Nat.le_refl _, by go_num, by rw [HGE.out]; exact HA9.out⟩
              case round =>
                obtain ⟨t, y, hq1, ht, rfl, hA⟩ := hrel
                have hgl := gap_len (g := y) ht
                by_cases hlt3 : q < t
                · obtain ⟨j, rfl⟩ : ∃ j, t = j + 1 := ⟨t - 1, by omega⟩
                  have hj : j < s.length := by omega
                  have hc := hA.cell hgl (k := j) (by omega)
                  rw [gap_get hj] at hc
                  have hfz := hA.frozen hgl (by omega) (j + 1)
                  have hov := hA.cell hgl (k := j + 1) (by omega)
                  have hst := hA.set hgl (j + 1) s[j]
                  rw [gap_step hj] at hst
                  have HST := Lib.hid hst
                  have p1 : ((j + 1 : Nat) : Int) - 1 = (j : Int) := by omega
                  have p2 : (q : Int) < ((j + 1 : Nat) : Int) := by omega
                  have pp0 : (0 : Int) ≤ (j : Int) := by omega
                  have pp1 : (j : Int) < ((s.length + 1 : Nat) : Int) := by omega
                  have pp2 : (0 : Int) ≤ ((j + 1 : Nat) : Int) := by omega
                  have pp3 : ((j + 1 : Nat) : Int) < ((s.length + 1 : Nat) : Int) := by omega
                  generalize s[j] = yj at *
                  clear hst hA
                  go_wp2
                  go_roundw
                  case rel => exact ⟨j, yj, by omega, by omega, by go_num, HST.out⟩
                  case measure => simp [intOf] <;> omega
                · obtain rfl : t = q := by omega
                  have hfz := hA.frozen hgl (by omega) t
                  have hov := hA.cell hgl (k := t) (by omega)
                  have hst := hA.set hgl t z
                  rw [gap_fill ht] at hst
                  have HST := Lib.hid hst
                  have p2 : ¬ (t : Int) < (t : Int) := by omega
                  have pp2 : (0 : Int) ≤ (t : Int) := by omega
                  have pp3 : (t : Int) < ((s.length + 1 : Nat) : Int) := by omega
                  clear hst hA
                  go_wp2
                  go_roundw
                  case rel => exact ⟨m + 1, u + 1, by omega, by omega, by go_num, by rw [HV.out, HSN.out, ins_gap, HSQ.out]; exact HST.out⟩
                  case measure => simp [intOf]; omega
        · obtain rfl : m = P := by omega
          have hi : ¬ (u : Int) ≤ t3 := by have := HT3.out; omega
          rw [HALL.out] at hA
          have HAe := Lib.hid hA
          clear hA HAm
          go_wp2_with (first | (go_at_call 94; refine (C4.out _).mono ?_; rintro e w1 ⟨rfl, rfl⟩))
          go_roundw
          case rel => exact ⟨k + 1, v + 1, by omega, by omega, by go_num, HAe.out⟩
          case measure => simp [intOf]; omega
    · obtain rfl : k = Q := by omega
      have hi : ¬ (v : Int) ≤ t1 := by have := HT1.out; omega
      go_wp2_with (go_at_call 94; refine (C2.out _).mono ?_; rintro e w1 ⟨rfl, rfl⟩)
      have hA := HA.out
      obtain ⟨a', c', hv', ho⟩ := ownI_of hA.o rfl
      subst hv'
      have HO2 := Lib.hid ho
      have HB2 := Lib.hid hA.b
      clear ho hA HA
      go_ret
      exact ⟨a', c', rfl, HO2.out, HB2.out⟩
end Go.Proofs.Ytdkffljnfemngaa
