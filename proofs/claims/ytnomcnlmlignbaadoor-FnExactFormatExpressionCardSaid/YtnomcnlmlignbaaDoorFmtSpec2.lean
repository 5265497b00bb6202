/- l5Text over a whole tree. -/
import Derived.Test.YtnomcnlmlignbaaDoorFmtSpec
import Derived.Deep.RegionWith
namespace Go.Proofs.YtnomcnlmlignbaaDoor
open Go.RowKit
set_option linter.unusedVariables false
set_option linter.unusedSimpArgs false
theorem txt_k5 (v : Int) (x y : ET) : txtE (.n2 5 v x y) = minS ++ txtE x ++ comS ++ txtE y ++ clsS := by rw [txtE, if_pos rfl]
theorem txt_k6 (v : Int) (x y : ET) : txtE (.n2 6 v x y) = maxS ++ txtE x ++ comS ++ txtE y ++ clsS := by rw [txtE, if_neg (by omega), if_pos rfl]
theorem txt_k3 (v : Int) (x y : ET) : txtE (.n2 3 v x y) = txtE x ++ pluS ++ parS y.kind (txtE y) := by rw [txtE, if_neg (by omega), if_neg (by omega), if_pos rfl]
theorem txt_k4 (v : Int) (x y : ET) : txtE (.n2 4 v x y) = txtE x ++ mnsS ++ parS y.kind (txtE y) := by rw [txtE, if_neg (by omega), if_neg (by omega), if_neg (by omega)]
/-- a text that a call gives, whatever the world -/
def GivesT (w0 : World) (f : Nat) (args : Array Value) (v : Value) (a : Option Addr) (l : List Nd) : Prop := ∀ W : World, Nds W W.heap.size a l → Calls Tryd.prog f args W fun e w' => e = .returned v ∧ Below W.heap.size W w'
set_option maxRecDepth 100000 in
set_option maxHeartbeats 2000000 in
theorem text_two (k : Int) (hk : k = 3 ∨ k = 4 ∨ k = 5 ∨ k = 6) (b o i j s : Nat) (l : List Nd) (c : Nat) (tx ty : ByteArray) (yk yv : Int) (w : World) (hnd : Nds w w.heap.size (some ⟨b, o, none⟩) l) (hi : i < l.length) (hij : i = j + 1) (hn : l.length ≤ 1048576) (hs : s + 1 ≤ l.length)
    (q0 : w.cell? ⟨b, o + i * 2, none⟩ = some (.int .i64 k)) (q1 : w.cell? ⟨b, o + i * 2 + 1, none⟩ = some (.int .i64 0)) (hj : l[j]? = some (yk, yv)) (hb : b < w.heap.size)
    (R2 : ∀ W : World, Nds W W.heap.size (some ⟨b, o, none⟩) l → Calls Tryd.prog 90 #[.slice (some ⟨b, o, none⟩) l.length c, .int .i64 (j : Int)] W fun e w' => e = .returned (.string ty) ∧ Below W.heap.size W w')
    (ST : ∀ W : World, Nds W W.heap.size (some ⟨b, o, none⟩) l → Calls Tryd.prog 116 #[.slice (some ⟨b, o, none⟩) l.length c, .int .i64 (j : Int)] W fun e w' => e = .returned (.int .i64 ((s + 1 : Nat) : Int)) ∧ Below W.heap.size W w')
    (R1 : ∀ W : World, Nds W W.heap.size (some ⟨b, o, none⟩) l → Calls Tryd.prog 90 #[.slice (some ⟨b, o, none⟩) l.length c, .int .i64 (s : Int)] W fun e w' => e = .returned (.string tx) ∧ Below W.heap.size W w')
    (zx : tx.size ≤ 20000) (zy : ty.size ≤ 20000) :
    Calls Tryd.prog 90 #[.slice (some ⟨b, o, none⟩) l.length c, .int .i64 (i : Int)] w fun e w' => e = .returned (.string (if k = 5 then minS ++ tx ++ comS ++ ty ++ clsS else if k = 6 then maxS ++ tx ++ comS ++ ty ++ clsS else if k = 3 then tx ++ pluS ++ parS yk ty else tx ++ mnsS ++ parS yk ty)) ∧ Below w.heap.size w w' := by
  have HND := Lib.hid hnd
  have HR2 := Lib.hid R2
  have HST := Lib.hid ST
  have HR1 := Lib.hid R1
  clear R1 ST R2
  have i1 : (i : Int) < (l.length : Int) := by omega
  have i0 : (0 : Int) ≤ (i : Int) := by omega
  have j1 : (j : Int) < (l.length : Int) := by omega
  have j0 : (0 : Int) ≤ (j : Int) := by omega
  have ej : (i : Int) - 1 = (j : Int) := by omega
  have HLS := Lib.hid lit_sizes
  have hjl : j < l.length := by omega
  have hjg : l[j] = (yk, yv) := by rw [List.getElem?_eq_getElem hjl] at hj; injection hj
  obtain ⟨b2, o2, e2, _, p0, p1⟩ := hnd.at_ hjl
  injection e2 with e2
  injection e2 with e3 e4
  subst e3 e4
  rw [hjg] at p0 p1
  simp only at p0 p1
  have HP := Lib.hid (And.intro p0 p1)
  have HB0 := Lib.hid (below_all w (.cells #[.int .i64 k, .int .i64 0] 112))
  have HX0 := Lib.hid (BoxC.new w 112 #[.int .i64 k, .int .i64 0])
  have HSZ := Lib.hid (And.intro zx zy)
  clear hnd hj hjg p0 p1 hij
  rcases hk with rfl | rfl | rfl | rfl
  · skip
    go_enter Tryd.func90, Tryd.ntmps90
    go_wp2_with fail
    refine (HR2.out _ (nds_below HND.out HB0.out)).mono ?_
    rintro e w2 ⟨rfl, b2⟩
    have HB2 := Lib.hid (below_thenN HB0.out b2)
    have HX2 := Lib.hid (HX0.out.below b2)
    clear b2 q0 q1
    go_wp2_with fail
    refine (HST.out _ (nds_below HND.out HB2.out)).mono ?_
    rintro e w3 ⟨rfl, b3⟩
    have HB3 := Lib.hid (below_thenN HB2.out b3)
    have HX3 := Lib.hid (HX2.out.below b3)
    clear b3
    have es : ((s + 1 : Nat) : Int) - 1 = (s : Int) := by omega
    go_wp2_with fail
    refine (HR1.out _ (nds_below HND.out HB3.out)).mono ?_
    rintro e w4 ⟨rfl, b4⟩
    have HB4 := Lib.hid (below_thenN HB3.out b4)
    have HX4 := Lib.hid (HX3.out.below b4)
    clear b4
    have x0 := HX4.out.cell 0
    have x1 := HX4.out.cell 1
    simp at x0 x1
    have zz := HSZ.out
    obtain ⟨a1, a2, a3, a4, a5, a6, a7, a8⟩ := HLS.out
    have hp0 := (HB4.out.cell (p := ⟨b, o + j * 2, none⟩) hb).trans HP.out.1
    have hp1 := (HB4.out.cell (p := ⟨b, o + j * 2 + 1, none⟩) hb).trans HP.out.2
    have HSM := Lib.hid (fun W => sum_is yk yv W)
    cases hsk : sumK yk with
    | false =>
      rw [hsk] at HSM
      have HPR := Lib.hid (show parS yk ty = ty by unfold parS; rw [hsk]; rfl)
      have e1 := cat_run3 Tryd.prog tx pluS (by omega)
      have e2 := cat_run3 Tryd.prog (tx ++ pluS) ty (by rw [ByteArray.size_append]; omega)
      simp only [pluS] at e1 e2
      clear a1 a2 a3 a4 a5 a6 a7 a8
      clear hsk
      go_wp2_with fail
      refine (HSM.out _).mono ?_
      rintro e w5 ⟨rfl, b5⟩
      have HB5 := Lib.hid (below_thenN HB4.out b5)
      have HX5 := HX4.out.below b5
      clear x0 x1
      have x0 := HX5.cell 0
      simp at x0
      clear b5 HX5
      go_wp2
      go_ret
      exact ⟨by rw [HPR.out]; rfl, HB5.out⟩
    | true =>
      rw [hsk] at HSM
      have HPR := Lib.hid (show parS yk ty = opnS ++ ty ++ clsS by unfold parS; rw [hsk]; rfl)
      have e1 := cat_run3 Tryd.prog opnS ty (by omega)
      have e2 := cat_run3 Tryd.prog (opnS ++ ty) clsS (by rw [ByteArray.size_append]; omega)
      have e3 := cat_run3 Tryd.prog tx pluS (by omega)
      have e4 := cat_run3 Tryd.prog (tx ++ pluS) (opnS ++ ty ++ clsS) (by rw [ByteArray.size_append, ByteArray.size_append, ByteArray.size_append]; omega)
      simp only [pluS] at e3 e4
      simp only [opnS, clsS] at e1 e2 e4
      clear a1 a2 a3 a4 a5 a6 a7 a8
      clear hsk
      go_wp2_with fail
      refine (HSM.out _).mono ?_
      rintro e w5 ⟨rfl, b5⟩
      have HB5 := Lib.hid (below_thenN HB4.out b5)
      have HX5 := HX4.out.below b5
      clear x0 x1
      have x0 := HX5.cell 0
      simp at x0
      clear b5 HX5
      go_wp2
      go_ret
      exact ⟨by rw [HPR.out]; rfl, HB5.out⟩
  · skip
    go_enter Tryd.func90, Tryd.ntmps90
    go_wp2_with fail
    refine (HR2.out _ (nds_below HND.out HB0.out)).mono ?_
    rintro e w2 ⟨rfl, b2⟩
    have HB2 := Lib.hid (below_thenN HB0.out b2)
    have HX2 := Lib.hid (HX0.out.below b2)
    clear b2 q0 q1
    go_wp2_with fail
    refine (HST.out _ (nds_below HND.out HB2.out)).mono ?_
    rintro e w3 ⟨rfl, b3⟩
    have HB3 := Lib.hid (below_thenN HB2.out b3)
    have HX3 := Lib.hid (HX2.out.below b3)
    clear b3
    have es : ((s + 1 : Nat) : Int) - 1 = (s : Int) := by omega
    go_wp2_with fail
    refine (HR1.out _ (nds_below HND.out HB3.out)).mono ?_
    rintro e w4 ⟨rfl, b4⟩
    have HB4 := Lib.hid (below_thenN HB3.out b4)
    have HX4 := Lib.hid (HX3.out.below b4)
    clear b4
    have x0 := HX4.out.cell 0
    have x1 := HX4.out.cell 1
    simp at x0 x1
    have zz := HSZ.out
    obtain ⟨a1, a2, a3, a4, a5, a6, a7, a8⟩ := HLS.out
    have hp0 := (HB4.out.cell (p := ⟨b, o + j * 2, none⟩) hb).trans HP.out.1
    have hp1 := (HB4.out.cell (p := ⟨b, o + j * 2 + 1, none⟩) hb).trans HP.out.2
    have HSM := Lib.hid (fun W => sum_is yk yv W)
    cases hsk : sumK yk with
    | false =>
      rw [hsk] at HSM
      have HPR := Lib.hid (show parS yk ty = ty by unfold parS; rw [hsk]; rfl)
      have e1 := cat_run3 Tryd.prog tx mnsS (by omega)
      have e2 := cat_run3 Tryd.prog (tx ++ mnsS) ty (by rw [ByteArray.size_append]; omega)
      simp only [mnsS] at e1 e2
      clear a1 a2 a3 a4 a5 a6 a7 a8
      clear hsk
      go_wp2_with fail
      refine (HSM.out _).mono ?_
      rintro e w5 ⟨rfl, b5⟩
      have HB5 := Lib.hid (below_thenN HB4.out b5)
      have HX5 := HX4.out.below b5
      clear x0 x1
      have x0 := HX5.cell 0
      simp at x0
      clear b5 HX5
      go_wp2
      go_ret
      exact ⟨by rw [HPR.out]; rfl, HB5.out⟩
    | true =>
      rw [hsk] at HSM
      have HPR := Lib.hid (show parS yk ty = opnS ++ ty ++ clsS by unfold parS; rw [hsk]; rfl)
      have e1 := cat_run3 Tryd.prog opnS ty (by omega)
      have e2 := cat_run3 Tryd.prog (opnS ++ ty) clsS (by rw [ByteArray.size_append]; omega)
      have e3 := cat_run3 Tryd.prog tx mnsS (by omega)
      have e4 := cat_run3 Tryd.prog (tx ++ mnsS) (opnS ++ ty ++ clsS) (by rw [ByteArray.size_append, ByteArray.size_append, ByteArray.size_append]; omega)
      simp only [mnsS] at e3 e4
      simp only [opnS, clsS] at e1 e2 e4
      clear a1 a2 a3 a4 a5 a6 a7 a8
      clear hsk
      go_wp2_with fail
      refine (HSM.out _).mono ?_
      rintro e w5 ⟨rfl, b5⟩
      have HB5 := Lib.hid (below_thenN HB4.out b5)
      have HX5 := HX4.out.below b5
      clear x0 x1
      have x0 := HX5.cell 0
      simp at x0
      clear b5 HX5
      go_wp2
      go_ret
      exact ⟨by rw [HPR.out]; rfl, HB5.out⟩
  · skip
    go_enter Tryd.func90, Tryd.ntmps90
    go_wp2_with fail
    refine (HR2.out _ (nds_below HND.out HB0.out)).mono ?_
    rintro e w2 ⟨rfl, b2⟩
    have HB2 := Lib.hid (below_thenN HB0.out b2)
    have HX2 := Lib.hid (HX0.out.below b2)
    clear b2 q0 q1
    go_wp2_with fail
    refine (HST.out _ (nds_below HND.out HB2.out)).mono ?_
    rintro e w3 ⟨rfl, b3⟩
    have HB3 := Lib.hid (below_thenN HB2.out b3)
    have HX3 := Lib.hid (HX2.out.below b3)
    clear b3
    have es : ((s + 1 : Nat) : Int) - 1 = (s : Int) := by omega
    go_wp2_with fail
    refine (HR1.out _ (nds_below HND.out HB3.out)).mono ?_
    rintro e w4 ⟨rfl, b4⟩
    have HB4 := Lib.hid (below_thenN HB3.out b4)
    have HX4 := Lib.hid (HX3.out.below b4)
    clear b4
    have x0 := HX4.out.cell 0
    have x1 := HX4.out.cell 1
    simp at x0 x1
    have zz := HSZ.out
    obtain ⟨a1, a2, a3, a4, a5, a6, a7, a8⟩ := HLS.out
    have e1 := cat_run3 Tryd.prog minS tx (by omega)
    have e2 := cat_run3 Tryd.prog (minS ++ tx) comS (by rw [ByteArray.size_append]; omega)
    have e3 := cat_run3 Tryd.prog (minS ++ tx ++ comS) ty (by rw [ByteArray.size_append, ByteArray.size_append]; omega)
    have e4 := cat_run3 Tryd.prog (minS ++ tx ++ comS ++ ty) clsS (by rw [ByteArray.size_append, ByteArray.size_append, ByteArray.size_append]; omega)
    simp only [minS, comS, clsS] at e1 e2 e3 e4
    clear a1 a2 a3 a4 a5 a6 a7 a8
    go_wp2
    go_ret
    exact ⟨rfl, HB4.out⟩
  · skip
    go_enter Tryd.func90, Tryd.ntmps90
    go_wp2_with fail
    refine (HR2.out _ (nds_below HND.out HB0.out)).mono ?_
    rintro e w2 ⟨rfl, b2⟩
    have HB2 := Lib.hid (below_thenN HB0.out b2)
    have HX2 := Lib.hid (HX0.out.below b2)
    clear b2 q0 q1
    go_wp2_with fail
    refine (HST.out _ (nds_below HND.out HB2.out)).mono ?_
    rintro e w3 ⟨rfl, b3⟩
    have HB3 := Lib.hid (below_thenN HB2.out b3)
    have HX3 := Lib.hid (HX2.out.below b3)
    clear b3
    have es : ((s + 1 : Nat) : Int) - 1 = (s : Int) := by omega
    go_wp2_with fail
    refine (HR1.out _ (nds_below HND.out HB3.out)).mono ?_
    rintro e w4 ⟨rfl, b4⟩
    have HB4 := Lib.hid (below_thenN HB3.out b4)
    have HX4 := Lib.hid (HX3.out.below b4)
    clear b4
    have x0 := HX4.out.cell 0
    have x1 := HX4.out.cell 1
    simp at x0 x1
    have zz := HSZ.out
    obtain ⟨a1, a2, a3, a4, a5, a6, a7, a8⟩ := HLS.out
    have e1 := cat_run3 Tryd.prog maxS tx (by omega)
    have e2 := cat_run3 Tryd.prog (maxS ++ tx) comS (by rw [ByteArray.size_append]; omega)
    have e3 := cat_run3 Tryd.prog (maxS ++ tx ++ comS) ty (by rw [ByteArray.size_append, ByteArray.size_append]; omega)
    have e4 := cat_run3 Tryd.prog (maxS ++ tx ++ comS ++ ty) clsS (by rw [ByteArray.size_append, ByteArray.size_append, ByteArray.size_append]; omega)
    simp only [maxS, comS, clsS] at e1 e2 e3 e4
    clear a1 a2 a3 a4 a5 a6 a7 a8
    go_wp2
    go_ret
    exact ⟨rfl, HB4.out⟩
end Go.Proofs.YtnomcnlmlignbaaDoor
