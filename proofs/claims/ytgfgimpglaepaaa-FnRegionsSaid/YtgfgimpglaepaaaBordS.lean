/- The sides of a region, the model's (l8Sides). -/
import Derived.Test.YtgfgimpglaepaaaBord
import Derived.Deep.DeepCutAuto
namespace Go.Proofs.Ytgfgimpglaepaaa
open Go.RowKit
set_option linter.unusedVariables false
set_option linter.unusedSimpArgs false
def cnX (x : Int) (d : Nat) : Int := if d = 1 ∨ d = 2 then x + 1 else x
def cnY (y : Int) (d : Nat) : Int := if d = 2 ∨ d = 3 then y + 1 else y
/-- the model's cells of sides: where one begins, and its direction -/
def sv (wd : Int) (S : List (Int × Nat)) : List Value := S.flatMap fun s => [.int .i64 (cnX (s.1 % wd) s.2), .int .i64 (cnY (s.1 / wd) s.2), .int .i64 (s.2 : Int)]
theorem sv_snoc (wd : Int) (S : List (Int × Nat)) (z : Int) (d : Nat) : sv wd (S ++ [(z, d)]) = sv wd S ++ [.int .i64 (cnX (z % wd) d), .int .i64 (cnY (z / wd) d), .int .i64 (d : Int)] := by
  unfold sv; rw [List.flatMap_append]; rfl
structure Sd (w : World) (wd : Int) (S : List (Int × Nat)) (q : Value) (wr : World) : Prop where
  o : wr.ownsRow w.heap.size 116 3 q S.length (sv wd S)
  b : Below w.heap.size w wr
section
variable {w w1 w2 : World} {wd : Int} {S : List (Int × Nat)} {q q' : Value}
theorem Sd.step (h : Sd w wd S q w1) (k : Below w1.heap.size w1 w2) : Sd w wd S q w2 :=
  ⟨h.o.kept (row := none) ⟨k.os, k.tape, k.output, k.size, fun i hi _ => k.block i hi⟩ (by cases h1 : q.ownBlock with | none => exact .inl rfl | some k => exact .inr (by simp)), h.b.trans (k.mono h.b.size)⟩
theorem Sd.put (h : Sd w wd S q w1) (g : w1.grownBy w2 q.ownBlock) {z : Int} {d : Nat} {X Y e : Int} (hX : cnX (z % wd) d = X) (hY : cnY (z / wd) d = Y) (he : (d : Int) = e)
    (ho : w2.ownsRow w.heap.size 116 3 q' (S.length + 1) (sv wd S ++ [.int .i64 X, .int .i64 Y, .int .i64 e])) : Sd w wd (S ++ [(z, d)]) q' w2 :=
  ⟨by rw [sv_snoc, hX, hY, he, List.length_append]; exact ho, h.b.grown g h.b.size (fun j e => (h.o.lt j e).1)⟩
end
theorem infoSide : (Try.prog.info? 116).map (fun i => (i.zero, i.size, i.bytes)) = some (some (.agg #[.int .i64 0, .int .i64 0, .int .i64 0]), 3, 24) := by kernel_rfl
/-- the sides are returned -/
def SidesPost (wd : Int) (S : List (Int × Nat)) (w : World) (e : Ending) (w' : World) : Prop := ∃ a c, e = .returned (.slice a S.length c) ∧ w'.ownsRow w.heap.size 116 3 (.slice a S.length c) S.length (sv wd S) ∧ Below w.heap.size w w'
theorem own_value {w : World} {base e n size : Nat} {v : Value} {xs : List Value} (h : w.ownsRow base e size v n xs) : ∃ a c, v = .slice a n c := by
  rcases h.2 with ⟨h1, h2⟩ | ⟨g, cap, cur, h1, _⟩
  · exact ⟨none, 0, by rw [h1, h2]⟩
  · exact ⟨_, cap, h1⟩
set_option maxRecDepth 100000 in
set_option maxHeartbeats 8000000 in
theorem specSides_any (wd hg : Int) (a : Option Addr) (l : List Int) (c : Nat) (w : World) (hl : Ints .i64 w w.heap.size a l) (hn : l.length ≤ 1048576) (hr : regB wd hg l = true) :
    Calls Try.prog 85 #[.int .i64 wd, .int .i64 hg, .slice a l.length c] w (SidesPost wd (sidesL wd l l) w) := by
  obtain ⟨iS, hS, hSz, hS1, hS2⟩ := info_parts infoSide
  have HL := Lib.hid hl
  have hs := shapeB_iff.1 (reg_shape hr)
  have hp := prod_bd (reg_shape hr)
  have hll := reg_len hr
  have HBD := Lib.hid (reg_bd hr)
  have HS := Lib.hid (reg_shape hr)
  have HIH := Lib.hid (fun x y => inP_has hr x y)
  clear hl hr
  have O0 := Lib.hid (World.ownsRow_made (base := w.heap.size) (e := 116) (size := 3) w #[] 0 (Nat.le_refl _) (by unfold maxLen; omega) rfl)
  go_enter Try.func85, Try.ntmps85
  go_wp2
  go_loopw [7, 8] (fun q i wr => ∃ k : Nat, k ≤ l.length ∧ i = .int .i64 k ∧ Sd w wd (sidesL wd l (l.take k)) q wr) (fun _ i _ => l.length - (intOf i).toNat)
  case atStart => exact ⟨0, Nat.zero_le _, rfl, ⟨O0.out, below_all _ _⟩⟩
  case round =>
    obtain ⟨k, hk, rfl, hsd⟩ := hrel
    have H0 := Lib.hid hsd
    clear hsd
    by_cases hlt : k < l.length
    · obtain ⟨b, o, rfl, hb, hc⟩ := (HL.out.below H0.out.b (Nat.le_refl _)).at_ hlt
      have hi : (k : Int) < (l.length : Int) := by omega
      have hi0 : (0 : Int) ≤ (k : Int) := by omega
      have hz := HBD.out _ (List.getElem_mem hlt)
      have HTK := Lib.hid (List.take_succ_eq_append_getElem hlt)
      obtain ⟨z, hzz⟩ : ∃ z, l[k] = z := ⟨_, rfl⟩
      rw [hzz] at hc hz HTK
      clear hzz
      have hin := cell_in HS.out hz.1 hz.2
      have HYES := Lib.hid (fun d h => sidesOne_yes (wd := wd) (l := l) (i := z) (n := d) h)
      have HNO := Lib.hid (fun d h => sidesOne_no (wd := wd) (l := l) (i := z) (n := d) h)
      have hPlen := sidesL_len wd l (l.take k)
      rw [List.length_take] at hPlen
      have HSN := Lib.hid (sidesL_snoc wd l (l.take k) z)
      obtain ⟨P, hP⟩ : ∃ P, sidesL wd l (l.take k) = P := ⟨_, rfl⟩
      rw [hP] at H0 hPlen HSN
      have hPl : P.length ≤ 256 := by omega
      clear hP hPlen
      have hw0 : ¬ wd = 0 := by omega
      have HX0 := Lib.hid (show z % wd = z % wd from rfl)
      obtain ⟨x, hx⟩ : ∃ x, z % wd = x := ⟨_, rfl⟩
      obtain ⟨y, hy⟩ : ∃ y, z / wd = y := ⟨_, rfl⟩
      have HX := Lib.hid hx
      have HY := Lib.hid hy
      rw [hx, hy] at hin HYES HNO
      have z64 : z ≤ 64 := by omega
      have HC := Lib.hid (fun W h x y v hx hy hv => specHasR_is wd hg (some ⟨b, o, none⟩) l c w.heap.size x y v W h hn HS.out hx hy hv)
      have HLI := Lib.hid (fun W (h : Below w.heap.size w W) => HL.out.below h (Nat.le_refl _))
      clear HX0
      go_wp2_with fail
      go_quiet (fail)
      rw [hx, hy]
      clear hx hy hc
      have D0 := Lib.hid (H0.out.step (w2 := wr.drewN nq) ⟨rfl, rfl, rfl, Nat.le_refl _, fun _ _ => rfl⟩)
      clear H0
      rw [show P = P ++ sidesOne wd l z 0 by rw [sidesOne_zero, List.append_nil]] at D0
      generalize wr.drewN nq = W0 at *
      go_wp2_with fail
      obtain ⟨v0, hv0⟩ : ∃ v, hasR wd hg l x (y - 1) = v := ⟨_, rfl⟩
      refine (HC.out _ (HLI.out _ D0.out.b) x (y - 1) v0 (by omega) (by omega) hv0).mono ?_
      rintro e w0_ ⟨rfl, rfl⟩
      rw [← HIH.out] at hv0
      have hn0 : (P ++ sidesOne wd l z 0).length ≤ 300 := by have := sidesOne_len wd l z 0; rw [List.length_append]; omega
      have HV0 := Lib.hid hv0
      clear hv0
      go_upto_if 37 with fail
      go_cut [7] (fun q wx => Sd w wd (P ++ sidesOne wd l z 1) q wx)
      case first =>
        cases v0 with
        | true =>
          have HE := Lib.hid (show sidesOne wd l z 1 = sidesOne wd l z 0 from HYES.out 0 HV0.out)
          go_wp2_with fail
          go_meet
          rw [HE.out]
          exact D0.out
        | false =>
          have HE := Lib.hid (show sidesOne wd l z 1 = sidesOne wd l z 0 ++ [(z, 0)] from HNO.out 0 HV0.out)
          obtain ⟨S, hS_⟩ : ∃ S, P ++ sidesOne wd l z 0 = S := ⟨_, rfl⟩
          rw [hS_] at D0 hn0
          have HSS := Lib.hid hS_
          clear hS_
          go_wp2_with (at_builtin; refine wpList_append_own _ rfl _ _ 102 rfl w.heap.size 116 iS (.agg #[.int .i64 0, .int .i64 0, .int .i64 0]) 3 24 Try.underlying102 hS hSz hS1 hS2 rfl (by decide) _ S.length (sv wd S) rfl (D0.out.o.alloc _) ⟨_, 0, none⟩ 1 1 [.int .i64 x, .int .i64 y, .int .i64 0] rfl rfl (World.news_of_block (heap_alloc_new _ _)) (by simp [Value.oneCell']) (by unfold maxLen; omega) (by omega) (by have := D0.out.b.size; simp; omega) ?_; intro v' w9 hown9 hgrow9 _; have HO9 := Lib.hid hown9; have HG9 := Lib.hid hgrow9; clear hown9 hgrow9)
          go_meet
          rw [HE.out, ← List.append_assoc, HSS.out]
          exact (D0.out.step (below_all _ _)).put HG9.out (by rw [HX.out]; rfl) (by rw [HY.out]; rfl) rfl HO9.out
      case rest =>
        have D1 := Lib.hid hcut
        clear hcut D0 HV0 hn0
        go_wp2_with fail
        obtain ⟨v1, hv1⟩ : ∃ v, hasR wd hg l (x + 1) y = v := ⟨_, rfl⟩
        refine (HC.out _ (HLI.out _ D1.out.b) (x + 1) y v1 (by omega) (by omega) hv1).mono ?_
        rintro e w1_ ⟨rfl, rfl⟩
        rw [← HIH.out] at hv1
        have hn1 : (P ++ sidesOne wd l z 1).length ≤ 300 := by have := sidesOne_len wd l z 1; rw [List.length_append]; omega
        have HV1 := Lib.hid hv1
        clear hv1
        go_upto_if 51 with fail
        go_cut [7] (fun q wx => Sd w wd (P ++ sidesOne wd l z 2) q wx)
        case first =>
          cases v1 with
          | true =>
            have HE := Lib.hid (show sidesOne wd l z 2 = sidesOne wd l z 1 from HYES.out 1 HV1.out)
            go_wp2_with fail
            go_meet
            rw [HE.out]
            exact D1.out
          | false =>
            have HE := Lib.hid (show sidesOne wd l z 2 = sidesOne wd l z 1 ++ [(z, 1)] from HNO.out 1 HV1.out)
            obtain ⟨S, hS_⟩ : ∃ S, P ++ sidesOne wd l z 1 = S := ⟨_, rfl⟩
            rw [hS_] at D1 hn1
            have HSS := Lib.hid hS_
            clear hS_
            go_wp2_with (at_builtin; refine wpList_append_own _ rfl _ _ 102 rfl w.heap.size 116 iS (.agg #[.int .i64 0, .int .i64 0, .int .i64 0]) 3 24 Try.underlying102 hS hSz hS1 hS2 rfl (by decide) _ S.length (sv wd S) rfl (D1.out.o.alloc _) ⟨_, 0, none⟩ 1 1 [.int .i64 (x + 1), .int .i64 y, .int .i64 1] rfl rfl (World.news_of_block (heap_alloc_new _ _)) (by simp [Value.oneCell']) (by unfold maxLen; omega) (by omega) (by have := D1.out.b.size; simp; omega) ?_; intro v' w9 hown9 hgrow9 _; have HO9 := Lib.hid hown9; have HG9 := Lib.hid hgrow9; clear hown9 hgrow9)
            go_meet
            rw [HE.out, ← List.append_assoc, HSS.out]
            exact (D1.out.step (below_all _ _)).put HG9.out (by rw [HX.out]; rfl) (by rw [HY.out]; rfl) rfl HO9.out
        case rest =>
          have D2 := Lib.hid hcut
          clear hcut D1 HV1 hn1
          go_wp2_with fail
          obtain ⟨v2, hv2⟩ : ∃ v, hasR wd hg l x (y + 1) = v := ⟨_, rfl⟩
          refine (HC.out _ (HLI.out _ D2.out.b) x (y + 1) v2 (by omega) (by omega) hv2).mono ?_
          rintro e w2_ ⟨rfl, rfl⟩
          rw [← HIH.out] at hv2
          have hn2 : (P ++ sidesOne wd l z 2).length ≤ 300 := by have := sidesOne_len wd l z 2; rw [List.length_append]; omega
          have HV2 := Lib.hid hv2
          clear hv2
          go_upto_if 66 with fail
          go_cut [7] (fun q wx => Sd w wd (P ++ sidesOne wd l z 3) q wx)
          case first =>
            cases v2 with
            | true =>
              have HE := Lib.hid (show sidesOne wd l z 3 = sidesOne wd l z 2 from HYES.out 2 HV2.out)
              go_wp2_with fail
              go_meet
              rw [HE.out]
              exact D2.out
            | false =>
              have HE := Lib.hid (show sidesOne wd l z 3 = sidesOne wd l z 2 ++ [(z, 2)] from HNO.out 2 HV2.out)
              obtain ⟨S, hS_⟩ : ∃ S, P ++ sidesOne wd l z 2 = S := ⟨_, rfl⟩
              rw [hS_] at D2 hn2
              have HSS := Lib.hid hS_
              clear hS_
              go_wp2_with (at_builtin; refine wpList_append_own _ rfl _ _ 102 rfl w.heap.size 116 iS (.agg #[.int .i64 0, .int .i64 0, .int .i64 0]) 3 24 Try.underlying102 hS hSz hS1 hS2 rfl (by decide) _ S.length (sv wd S) rfl (D2.out.o.alloc _) ⟨_, 0, none⟩ 1 1 [.int .i64 (x + 1), .int .i64 (y + 1), .int .i64 2] rfl rfl (World.news_of_block (heap_alloc_new _ _)) (by simp [Value.oneCell']) (by unfold maxLen; omega) (by omega) (by have := D2.out.b.size; simp; omega) ?_; intro v' w9 hown9 hgrow9 _; have HO9 := Lib.hid hown9; have HG9 := Lib.hid hgrow9; clear hown9 hgrow9)
              go_meet
              rw [HE.out, ← List.append_assoc, HSS.out]
              exact (D2.out.step (below_all _ _)).put HG9.out (by rw [HX.out]; rfl) (by rw [HY.out]; rfl) rfl HO9.out
          case rest =>
            have D3 := Lib.hid hcut
            clear hcut D2 HV2 hn2
            go_wp2_with fail
            obtain ⟨v3, hv3⟩ : ∃ v, hasR wd hg l (x - 1) y = v := ⟨_, rfl⟩
            refine (HC.out _ (HLI.out _ D3.out.b) (x - 1) y v3 (by omega) (by omega) hv3).mono ?_
            rintro e w3_ ⟨rfl, rfl⟩
            rw [← HIH.out] at hv3
            have hn3 : (P ++ sidesOne wd l z 3).length ≤ 300 := by have := sidesOne_len wd l z 3; rw [List.length_append]; omega
            have HV3 := Lib.hid hv3
            clear hv3
            cases v3 with
            | true =>
              have HE := Lib.hid (show sidesOne wd l z 4 = sidesOne wd l z 3 from HYES.out 3 HV3.out)
              go_wp2
              go_roundw
              case rel => exact ⟨k + 1, by omega, by go_num, by rw [HTK.out, HSN.out, HE.out]; exact D3.out⟩
              case measure => simp [intOf]; omega
            | false =>
              have HE := Lib.hid (show sidesOne wd l z 4 = sidesOne wd l z 3 ++ [(z, 3)] from HNO.out 3 HV3.out)
              obtain ⟨S, hS_⟩ : ∃ S, P ++ sidesOne wd l z 3 = S := ⟨_, rfl⟩
              rw [hS_] at D3 hn3
              have HSS := Lib.hid hS_
              clear hS_
              go_wp2_with (at_builtin; refine wpList_append_own _ rfl _ _ 102 rfl w.heap.size 116 iS (.agg #[.int .i64 0, .int .i64 0, .int .i64 0]) 3 24 Try.underlying102 hS hSz hS1 hS2 rfl (by decide) _ S.length (sv wd S) rfl (D3.out.o.alloc _) ⟨_, 0, none⟩ 1 1 [.int .i64 x, .int .i64 (y + 1), .int .i64 3] rfl rfl (World.news_of_block (heap_alloc_new _ _)) (by simp [Value.oneCell']) (by unfold maxLen; omega) (by omega) (by have := D3.out.b.size; simp; omega) ?_; intro v' w9 hown9 hgrow9 _; have HO9 := Lib.hid hown9; have HG9 := Lib.hid hgrow9; clear hown9 hgrow9)
              go_roundw
              case rel => exact ⟨k + 1, by omega, by go_num, by rw [HTK.out, HSN.out, HE.out, ← List.append_assoc, HSS.out]; exact (D3.out.step (below_all _ _)).put HG9.out (by rw [HX.out]; rfl) (by rw [HY.out]; rfl) rfl HO9.out⟩
              case measure => simp [intOf]; omega
    · obtain rfl : k = l.length := by omega
      rw [List.take_length] at H0
      obtain ⟨a', c', rfl⟩ := own_value H0.out.o
      go_wp2
      go_ret
      exact ⟨a', c', rfl, H0.out.o, H0.out.b⟩
end Go.Proofs.Ytgfgimpglaepaaa
