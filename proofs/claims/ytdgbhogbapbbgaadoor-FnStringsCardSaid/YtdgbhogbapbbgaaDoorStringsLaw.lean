/- FnStrings. -/
import Derived.Test.YtdgbhogbapbbgaaDoorDetect
import Derived.Test.YtdgbhogbapbbgaaDoorDraw
import Derived.Test.YtdgbhogbapbbgaaDoorParseLaw
import Derived.StillTailTactics
namespace Go.Proofs.YtdgbhogbapbbgaaDoor
open Go.RowKit
set_option linter.unusedVariables false
theorem syn_global : Tryd.prog.globalNamed "strconv.ErrSyntax" = some 0 := by kernel_rfl
theorem ran_global : Tryd.prog.globalNamed "strconv.ErrRange" = some 1 := by kernel_rfl
theorem var_below {w w' : World} {n : String} {g : Nat} {tp : TypeId} {p : Value} (hg : Tryd.prog.globalNamed n = some g) (hb : Below w.heap.size w w') (h : w.var? Tryd.prog n = some #[.iface tp p]) : w'.var? Tryd.prog n = some #[.iface tp p] := by
  unfold World.var? at *
  rw [hg] at *
  simp only [Option.bind_some] at *
  rcases Nat.lt_or_ge g w.heap.size with hlt | hge
  · rw [hb.block _ hlt]; exact h
  · rw [Array.getElem?_eq_none hge] at h; cases h
theorem Errs.below {w w' : World} (h : Errs w) (hb : Below w.heap.size w w') : Errs w' := by
  obtain ⟨⟨a, b, h1⟩, c, d, h2⟩ := h
  exact ⟨⟨a, b, var_below syn_global hb h1⟩, c, d, var_below ran_global hb h2⟩
/-- what the law knows of a later world -/
def Good (w : World) (a : Option Addr) (l : List Int) (w' : World) : Prop := Below w.heap.size w w' ∧ Tab w' ∧ Errs w' ∧ Ints .u8 w' w'.heap.size a l
theorem Good.step {w w1 w2 : World} {a : Option Addr} {l : List Int} (h : Good w a l w1) (hb : Below w1.heap.size w1 w2) : Good w a l w2 :=
  ⟨h.1.trans (hb.mono h.1.size), h.2.1.below hb, h.2.2.1.below hb, (h.2.2.2.below hb (Nat.le_refl _)).more hb.size⟩
theorem fmtS_size (n : Int) (h0 : -1000000 ≤ n) (h1 : n ≤ 1000000) : (fmtS n).size ≤ 21 := by
  cases h : inR n with
  | false => rw [fmtS_no h]; simp [ByteArray.size]
  | true => rw [fmtS_yes h]; have := Lib.itoa_length_le n (by omega) (by omega); simpa [ByteArray.size] using this
/-- a text turned into bytes: a row of the call's own -/
theorem to_bytes (w : World) (s : ByteArray) : ∃ cap wb, (convert 9 22 (.string s)).run Tryd.prog w = .ok (.slice (some ⟨w.heap.size, 0, none⟩) s.size cap) wb ∧ s.size ≤ cap ∧
    (∀ j (h : j < s.size), wb.cell? ⟨w.heap.size, j, none⟩ = some (.int .u8 (s[j].toNat : Int))) ∧ (∀ j, j < s.size → wb.frozen? ⟨w.heap.size, j, none⟩ = false) ∧ Below w.heap.size w wb ∧ w.heap.size < wb.heap.size := by
  refine ⟨_, _, Lib.run_convert_string_bytes (P := Tryd.prog) w 9 22 5 s Tryd.underlying9 Tryd.underlying22 Tryd.underlying5, grownCap_ge _ _ _ _, fun j h => ?_, fun j h => ?_, Lib.bytesWorld_below w _ s, by rw [Lib.bytesWorld_size]; omega⟩
  · rw [Lib.bytesWorld_cell w _ s j h]
    have h2 : s.data.toList[j]? = some s[j] := by rw [List.getElem?_eq_getElem (by simpa using h)]; rfl
    simp [List.getD, h2]
  · have hb := Lib.bytesWorld_at_new w 5 s
    have hs : s.size ≤ (Lib.bytesCells w 5 s).size := by simp [Lib.bytesCells]
    unfold World.frozen?
    simp only []
    rw [hb]
    simp
    omega
theorem ap_size {x : ByteArray} : (apS x).size ≤ 4000 ∧ (apB x = true → 0 < (apS x).size) := by
  cases h : apB x with
  | false => rw [apS_no h]; simp [ByteArray.size]
  | true =>
    rw [apS_yes h, mk_size]
    refine ⟨?_, fun _ => by simp [sealL]; omega⟩
    rcases Nat.lt_or_ge 4000 (sealL x.data.toList).length with h1 | h1
    · rw [apB_out h1] at h; cases h
    · exact h1
/-- a byte changed by a number from 1 to 255 is another byte -/
theorem xor_byte (c : UInt8) (r : Int) (h0 : 0 ≤ r) (h1 : r ≤ 255) : ∃ b : UInt8, bits BinOp.xor IntKind.u8 (c.toNat : Int) (IntKind.u8.wrap (IntKind.i64.wrap (1 + r.tmod 255))) = (b.toNat : Int) ∧ b ≠ c := by
  have e1 : r.tmod 255 = r % 255 := Int.tmod_eq_emod_of_nonneg h0
  obtain ⟨d, hd, hd0, hd1⟩ : ∃ d : Nat, 1 + r.tmod 255 = (d : Int) ∧ 1 ≤ d ∧ d ≤ 255 := ⟨(1 + r % 255).toNat, by rw [e1]; omega, by omega, by omega⟩
  rw [hd, IntWalk.i64_in _ (by omega)]
  have e2 : IntKind.u8.wrap (d : Int) = (d : Int) := by rw [IntKind.wrap_u8]; omega
  rw [e2]
  have hlt : (BitVec.ofInt 8 (c.toNat : Int) ^^^ BitVec.ofInt 8 (d : Int)).toNat < 256 := (BitVec.ofInt 8 (c.toNat : Int) ^^^ BitVec.ofInt 8 (d : Int)).isLt
  refine ⟨UInt8.ofBitVec (BitVec.ofInt 8 (c.toNat : Int) ^^^ BitVec.ofInt 8 (d : Int)), ?_, fun h => ?_⟩
  · show IntKind.u8.wrap ((BitVec.ofInt 8 (c.toNat : Int) ^^^ BitVec.ofInt 8 (d : Int)).toNat : Int) = ((BitVec.ofInt 8 (c.toNat : Int) ^^^ BitVec.ofInt 8 (d : Int)).toNat : Int)
    generalize (BitVec.ofInt 8 (c.toNat : Int) ^^^ BitVec.ofInt 8 (d : Int)).toNat = m at *
    rw [IntKind.wrap_u8]; omega
  · have h2 : BitVec.ofInt 8 (c.toNat : Int) ^^^ BitVec.ofInt 8 (d : Int) = c.toBitVec := congrArg UInt8.toBitVec h
    have h3 : BitVec.ofInt 8 (c.toNat : Int) = c.toBitVec := by
      apply BitVec.eq_of_toNat_eq
      rw [BitVec.toNat_ofInt]
      have := c.toNat_lt
      show ((c.toNat : Int) % 256).toNat = c.toNat
      omega
    rw [h3] at h2
    have h4 : BitVec.ofInt 8 (d : Int) = 0#8 := by
      have := congrArg (fun z => c.toBitVec ^^^ z) h2
      simpa [← BitVec.xor_assoc] using this
    have h5 := congrArg BitVec.toNat h4
    rw [BitVec.toNat_ofInt] at h5
    simp at h5
    omega
theorem set_bytes (y : ByteArray) (k : Nat) (b : UInt8) : ∃ Y : ByteArray, Y.data.toList = y.data.toList.set k b ∧ Y.size = y.size ∧ ∀ j (h : j < Y.size) (h' : j < y.size), Y[j] = if j = k then b else y[j] := by
  refine ⟨⟨(y.data.toList.set k b).toArray⟩, rfl, by rw [mk_size, List.length_set]; exact Array.length_toList, fun j h h' => ?_⟩
  rw [ByteArray.getElem_eq_getElem_data]
  simp only [List.getElem_toArray, List.getElem_set]
  by_cases e : k = j
  · subst e; simp
  · rw [if_neg e, if_neg (fun h => e h.symm), ByteArray.getElem_eq_getElem_data]; simp
/-- the law's own look into the code -/
def atV (l : List Int) (i : Nat) : Int := if h : i < l.length then l[i] else (((i * 7 + l.length) % 256 : Nat) : Int)
theorem atV_bd {l : List Int} (i : Nat) (hb : ∀ z ∈ l, 0 ≤ z ∧ z ≤ 255) : 0 ≤ atV l i ∧ atV l i ≤ 255 := by
  unfold atV
  split
  · exact hb _ (List.getElem_mem _)
  · omega
set_option maxHeartbeats 400000 in
theorem vAt_any (a : Option Addr) (l : List Int) (c B i : Nat) (w : World) (hi : Ints .u8 w B a l) (hb : ∀ z ∈ l, 0 ≤ z ∧ z ≤ 255) (hl : l.length ≤ 65536) (hii : i ≤ 1000) :
    Calls Tryd.prog 16 #[.slice a l.length c, .int .i64 (i : Int)] w fun e w' => e = .returned (.int .i64 (atV l i)) ∧ w = w' := by
  by_cases h : i < l.length
  · have hv : atV l i = l[i] := dif_pos h
    rw [hv]
    obtain ⟨b, o, rfl, hbb, hc⟩ := hi.at_ h
    have hz := hb l[i] (List.getElem_mem h)
    generalize l[i] = z at *
    clear hi hb hv
    go_enter Tryd.func16, Tryd.ntmps16
    go_wp2
    go_ret
    exact ⟨rfl, rfl⟩
  · have hv : atV l i = (((i * 7 + l.length) % 256 : Nat) : Int) := dif_neg h
    rw [hv]
    clear hi hb hv
    go_enter Tryd.func16, Tryd.ntmps16
    go_wp2
    go_ret
    exact ⟨by go_num, rfl⟩

set_option maxRecDepth 100000 in
set_option maxHeartbeats 4000000 in
theorem strings_walk (a : Option Addr) (l : List Int) (c : Nat) (w : World) (hi : Ints .u8 w w.heap.size a l) (hb : ∀ z ∈ l, 0 ≤ z ∧ z ≤ 255) (hlm : l.length ≤ maxLen) (ht : Tab w) (he : Errs w) :
    Calls Tryd.prog 3 #[.slice a l.length c] w fun e w' => e = .returned (.bool true) ∧ Below w.heap.size w w' := by
  unfold maxLen at hlm
  by_cases hbig : (65536 : Int) < (l.length : Int)
  · clear hi hb ht he
    go_enter Tryd.func3, Tryd.ntmps3
    go_wp2
    go_ret
    exact ⟨rfl, Below.refl _ _⟩
  · have G0 := Lib.hid (show Good w a l w from ⟨Below.refl _ _, ht, he, hi⟩)
    have HBY := Lib.hid hb
    have hl : l.length ≤ 65536 := by omega
    clear hi hb ht he hlm
    go_enter Tryd.func3, Tryd.ntmps3
    go_wp2_with (first | (go_at_call 5; go_in) | fail)
    refine (drawFormat_any _ a l c G0.out.2.2.2 HBY.out (by omega)).mono ?_
    rintro e w1 ⟨n, hn0, hn1, rfl, b1⟩
    have G1 := Lib.hid (G0.out.step b1)
    clear b1 G0
    go_wp2_with fail
    refine (implFormat_any n _ G1.out.2.1).mono ?_
    rintro e w2 ⟨rfl, b2⟩
    have G2 := Lib.hid (G1.out.step b2)
    clear b2 G1
    go_wp2_with fail
    refine (specFormat_any n _).mono ?_
    rintro e w3 ⟨rfl, d3⟩
    have G3 := Lib.hid (G2.out.step (d3.below _))
    clear d3 G2
    go_wp2_with fail
    refine (drawParse_any _ a l c G3.out.2.2.2 HBY.out (by omega)).mono ?_
    rintro e w4 ⟨t, ht4, rfl, b4⟩
    have G4 := Lib.hid (G3.out.step b4)
    clear b4 G3
    go_wp2_with fail
    refine (implParse_any t _ (by omega) G4.out.2.1 G4.out.2.2.1).mono ?_
    rintro e w5 ⟨rfl, b5⟩
    have G5 := Lib.hid (G4.out.step b5)
    clear b5 G4
    go_wp2_with fail
    refine (specParse_any t _ (by omega)).mono ?_
    rintro e w6 ⟨rfl, d6⟩
    have G6 := Lib.hid (G5.out.step (d6.below _))
    clear d6 G5
    generalize pN t = pn at *
    generalize pB t = pb at *
    go_wp2_with fail
    refine (drawAppend_any _ a l c G6.out.2.2.2 HBY.out (by omega)).mono ?_
    rintro e w7 ⟨x, hx7, rfl, b7⟩
    have G7 := Lib.hid (G6.out.step b7)
    clear b7 G6
    go_wp2_with fail
    refine (implAppend_any x _ (by unfold maxLen; omega) G7.out.2.1).mono ?_
    rintro e w8 ⟨rfl, b8⟩
    have G8 := Lib.hid (G7.out.step b8)
    clear b8 G7
    go_wp2_with fail
    refine (specAppend_any x _ (by omega)).mono ?_
    rintro e w9 ⟨rfl, d9⟩
    have G9 := Lib.hid (G8.out.step (d9.below _))
    clear d9 G8
    have HFP := Lib.hid (fun h => fmt_parse (n := n) h)
    have hfs := fmtS_size n hn0 hn1
    have HIP := Lib.hid (implParse_any (fmtS n) w9 (by omega) G9.out.2.1 G9.out.2.2.1)
    have HVS := Lib.hid (fun h => ver_sealed (x := x) h)
    have HVC := Lib.hid (fun h k v hk hv y hy => ver_changed (x := x) h (k := k) (v := v) hk hv y hy)
    have HAN := Lib.hid (fun h => apS_no (s := x) h)
    have HSZ := Lib.hid (ap_size (x := x))
    generalize pN (fmtS n) = pn2 at *
    generalize pB (fmtS n) = pb2 at *
    generalize fmtS n = fs at *
    generalize inR n = fb at *
    generalize hap : apB x = ab at *
    generalize apS x = y at *
    have HAP := Lib.hid hap
    clear hap
    have hcase : fb = false ∨ (fb = true ∧ pb2 = true ∧ pn2 = n) := by
      cases fb with
      | false => exact .inl rfl
      | true => exact .inr ⟨rfl, HFP.out rfl⟩
    clear HFP
    rcases hcase with rfl | ⟨rfl, rfl, rfl⟩
    all_goals
      go_wp2_with fail
      refine HIP.out.mono ?_
      rintro e w10 ⟨rfl, b10⟩
      have G10 := Lib.hid (G9.out.step b10)
      clear b10 G9 HIP
      cases ab with
      | false =>
        have hy := HAN.out rfl
        subst hy
        go_wp2
        go_ret
        exact ⟨rfl, G10.out.1⟩
      | true =>
        have hy0 := HSZ.out.2 rfl
        have hy1 := HSZ.out.1
        have hvv := HVS.out rfl
        have HV1 := Lib.hid (implVerify_any y w10 (by omega) G10.out.2.1)
        rw [hvv.1, hvv.2] at HV1
        clear hvv HVS
        go_wp2_with fail
        refine HV1.out.mono ?_
        rintro e w11 ⟨rfl, b11⟩
        have G11 := Lib.hid (G10.out.step b11)
        clear b11 G10 HV1
        obtain ⟨cap, wb, hcv, hcap, hcells, hfroz, bB, zB⟩ := to_bytes w11 y
        have G12 := Lib.hid (G11.out.step bB)
        have HCE := Lib.hid hcells
        have HFR := Lib.hid hfroz
        have HBB := Lib.hid bB
        clear hcells hfroz bB
        go_wp2_with fail
        clear hcv
        refine (vAt_any a l c _ 9 _ G12.out.2.2.2 HBY.out hl (by omega)).mono ?_
        rintro e w13 ⟨rfl, rfl⟩
        have hr1 := atV_bd 9 HBY.out
        have hr2 := atV_bd 10 HBY.out
        have HA2 := Lib.hid (fun W (e : W.heap = wb.heap) => vAt_any a l c wb.heap.size 10 W (G12.out.2.2.2.keep (fun p _ => by simp [World.cell?, e])) HBY.out hl (by omega))
        generalize atV l 9 = r1 at *
        generalize atV l 10 = r2 at *
        go_wp2_with fail
        obtain ⟨k, hk1, hk2⟩ : ∃ k : Nat, r1 % (y.size : Int) = (k : Int) ∧ k < y.size := ⟨(r1 % (y.size : Int)).toNat, by have := Int.emod_nonneg r1 (b := (y.size : Int)) (by omega); omega, by have h1 := Int.emod_nonneg r1 (b := (y.size : Int)) (by omega); have h2 := Int.emod_lt_of_pos r1 (b := (y.size : Int)) (by omega); omega⟩
        rw [hk1]
        have hck := HCE.out k hk2
        have hfk := HFR.out k hk2
        clear hk1
        have hyk : y[k].toNat < 256 := y[k].toNat_lt
        have i1 : (k : Int) < (y.size : Int) := by omega
        have i0 : (0 : Int) ≤ (k : Int) := by omega
        refine wp_region_still_tail 13 (by kernel_rfl) (by kernel_rfl) ?_
        simp only [List.take_succ_cons, List.take_zero, List.drop_succ_cons, List.drop_zero]
        obtain ⟨wd, hwd⟩ : ∃ wd, wd = wb.drew := ⟨_, rfl⟩
        change wpStill _ _ wb.drew (fun a' => wpList _ _ _ _ a' wb.drew) _ _
        have HA3 := Lib.hid (quietSame (HA2.out wd (by rw [hwd]; rfl)))
        have hcd : wd.cell? ⟨w11.heap.size, k, none⟩ = some (.int .u8 (y[k].toNat : Int)) := by rw [hwd]; exact hck
        have hfd : wd.frozen? ⟨w11.heap.size, k, none⟩ = false := by rw [hwd]; exact hfk
        have HWD := Lib.hid hwd
        rw [← hwd]
        clear hwd hck hfk HA2
        repeat still_step
        still_call HA3.out
        repeat still_step
        refine wpStill_nil ?_
        obtain ⟨bv, hbv, hbne⟩ := xor_byte y[k] r2 hr2.1 hr2.2
        rw [hbv]
        obtain ⟨Y, hY0, hYs, hYb⟩ := set_bytes y k bv
        have hYv := HVC.out trivial k bv hk2 (fun e => hbne e.symm) Y hY0
        clear hY0
        have hbel : Below w11.heap.size w11 (wd.setCell ⟨w11.heap.size, k, none⟩ (.int .u8 (bv.toNat : Int))) := by
          rw [HWD.out]
          exact (HBB.out.trans ((Drew.more (Drew.refl wb) 1).below _)).setCell (p := ⟨w11.heap.size, k, none⟩) (Nat.le_refl _) _
        have hbytes : Lib.Bytes (wd.setCell ⟨w11.heap.size, k, none⟩ (.int .u8 (bv.toNat : Int))) w11.heap.size 0 Y := by
          intro j hj
          rw [Nat.zero_add, hYb j hj (by omega)]
          by_cases e : j = k
          · subst e
            rw [if_pos rfl]
            exact World.cell?_setCell_same' _ _ _ (by rw [hcd]; rfl)
          · rw [if_neg e, World.cell?_setCell_other _ _ _ _ (by intro h; injection h with _ h; exact e h.symm)]
            rw [HWD.out]
            exact HCE.out j (by omega)
        have hcv2 := Lib.run_convert_whole (P := Tryd.prog) (wd.setCell ⟨w11.heap.size, k, none⟩ (.int .u8 (bv.toNat : Int))) 22 5 9 Tryd.underlying22 Tryd.underlying5 Tryd.underlying9 w11.heap.size 0 Y hbytes cap
        rw [hYs] at hcv2
        have GS := Lib.hid (G11.out.step hbel)
        have HV2 := Lib.hid (implVerify_any Y _ (by omega) GS.out.2.1)
        rw [vS_no hYv, hYv] at HV2
        clear hbytes hbel hYb hYv hbv hbne
        obtain ⟨bi, hbi⟩ : ∃ bi : Int, (bv.toNat : Int) = bi := ⟨_, rfl⟩
        rw [hbi] at hcv2 GS HV2 ⊢
        go_wp2_with fail
        refine HV2.out.mono ?_
        rintro e w20 ⟨rfl, b20⟩
        have G20 := Lib.hid (GS.out.step b20)
        clear b20 hcv2
        go_wp2
        go_ret
        exact ⟨rfl, G20.out.1⟩
end Go.Proofs.YtdgbhogbapbbgaaDoor
