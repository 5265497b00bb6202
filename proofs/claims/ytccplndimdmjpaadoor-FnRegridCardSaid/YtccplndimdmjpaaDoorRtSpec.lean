/- The model's RegridTotal. -/
import Derived.Test.YtccplndimdmjpaaDoorRtMath
import Derived.Test.YtccplndimdmjpaaDoorRgFull
import Derived.Test.YtccplndimdmjpaaDoorRgOv
import Derived.Test.YtccplndimdmjpaaDoorRgBk
import Derived.Test.YtccplndimdmjpaaDoorSpSpec
import Derived.Test.YtccplndimdmjpaaDoorHas
import Derived.Deep.RegionLaw
import Derived.Deep.AppendLies
namespace Go.Proofs.YtccplndimdmjpaaDoor
open Go.RowKit
set_option linter.unusedVariables false
set_option linter.unusedSimpArgs false
theorem Bk.grown {w w1 w2 : World} {ob g c cap B : Nat} {wd hg P Q : Int} {a : Option Addr} {l S : List Int} {row : Option Nat} (h : Bk w ob g wd hg a l c P Q S cap w1) (t : w1.grownBy w2 row) (hr : ∀ k, row = some k → B ≤ k) (n1 : ob < B) (n2 : g < B) : Bk w ob g wd hg a l c P Q S cap w2 := by
  have hn := h.n
  have hb : Below w.heap.size w w2 := h.f.b.grown t h.f.b.size (fun k hk => by have := hr k hk; omega)
  refine ⟨⟨hb, h.f.s0, (h.f.s0.below hb (Nat.le_refl _)).more hb.size, h.f.k0.grown t ?_, h.f.r.grown t ?_⟩, h.x.grown t ?_, h.o.of_block (t.block g h.o.lt ?_), h.n, h.m, h.ne⟩
  all_goals
    intro e
    have := hr _ e.symm
    omega
/-- .. and the list of weights that is laid beside it -/
structure Wk (w : World) (ob g B : Nat) (wd hg : Int) (a : Option Addr) (l : List Int) (c : Nat) (P Q : Int) (S : List Int) (cap : Nat) (xs : List Int) (out : Value) (wr : World) : Prop where
  k : Bk w ob g wd hg a l c P Q S cap wr
  o : wr.ownsRow B 3 1 out xs.length (iv xs)
  n1 : ob < B
  n2 : g < B
  n3 : B ≤ wr.heap.size
section
variable {w w1 w2 : World} {ob g c cap B : Nat} {wd hg P Q : Int} {a : Option Addr} {l S xs ys : List Int} {out out' : Value}
theorem Wk.step (h : Wk w ob g B wd hg a l c P Q S cap xs out w1) (b : Below w1.heap.size w1 w2) : Wk w ob g B wd hg a l c P Q S cap xs out w2 :=
  ⟨h.k.step b, own_keeps h.o b, h.n1, h.n2, by have := h.n3; have := b.size; omega⟩
theorem Wk.put {p : Obj} (h : Wk w ob g B wd hg a l c P Q S cap xs out w1) (hg1 : (w1.alloc p).grownBy w2 out.ownBlock) (ho : w2.ownsRow B 3 1 out' ys.length (iv ys)) : Wk w ob g B wd hg a l c P Q S cap ys out' w2 :=
  ⟨(h.k.step (below_all w1 p)).grown hg1 (fun k hk => (h.o.lt k hk).1) h.n1 h.n2, ho, h.n1, h.n2, by have := h.n3; have := hg1.size; rw [World.size_alloc] at this; omega⟩
end
theorem mod_row {W x y : Nat} (h : x < W) : (y * W + x) % W = x ∧ (y * W + x) / W = y := by
  have hW : 0 < W := by omega
  constructor
  · rw [Nat.add_comm, Nat.add_mul_mod_self_right, Nat.mod_eq_of_lt h]
  · rw [Nat.add_comm, Nat.add_mul_div_right _ _ hW, Nat.div_eq_of_lt h, Nat.zero_add]
theorem row_fit {W H x y : Nat} (hx : x < W) (hy : y < H) : y * W + x < W * H := by
  have := Nat.mul_le_mul_right W (show y + 1 ≤ H by omega)
  rw [Nat.add_mul, Nat.one_mul] at this
  rw [Nat.mul_comm W H]; omega
theorem ovW_next {W H P Q x y u v : Nat} (hx : x < W) (hu : u < P) (hv : v < Q) : (ovW W H P Q (y * W + x)).take (v * P + u + 1) = (ovW W H P Q (y * W + x)).take (v * P + u) ++ [ovl W P (x : Nat) (u : Nat) * ovl H Q (y : Nat) (v : Nat)] := by
  have hk : v * P + u < (ovW W H P Q (y * W + x)).length := by rw [ovW_len]; exact row_fit hu hv
  rw [snoc_takeI _ _ hk, ovW_get, (mod_row hx).1, (mod_row hx).2, (mod_row hu).1, (mod_row hu).2]
theorem ovW_part (W H P Q i k : Nat) : ((ovW W H P Q i).take k).length ≤ P * Q := by rw [List.length_take, ovW_len]; omega
theorem ovW_whole (W H P Q i : Nat) : (ovW W H P Q i).take (Q * P) = ovW W H P Q i := List.take_of_length_le (by rw [ovW_len, Nat.mul_comm]; exact Nat.le_refl _)
theorem reg_nextS (W H P Q : Nat) (l : List Int) (k : Nat) : mixR (fun x y => x + y) (regK W H P Q l k) (partsOf W H P Q l k) (P * Q) = regK W H P Q l (k + 1) := by
  have h := mix_all (fun x y : Int => x + y) (a := regK W H P Q l k) (b := partsOf W H P Q l k) (by rw [regK_len, partsOf_len])
  rw [regK_len] at h
  rw [h]
  rfl
set_option maxRecDepth 100000 in
set_option maxHeartbeats 8000000 in
theorem specReg_any (wd hg : Int) (a : Option Addr) (l : List Int) (c : Nat) (p q : Int) (w : World) (hl : Ints .i64 w w.heap.size a l) (hn : l.length ≤ 1048576) :
    Calls Tryd.prog 13 #[.agg #[.int .i64 wd, .int .i64 hg, .slice a l.length c], .int .i64 p, .int .i64 q] w (FRet (regR wd hg l p q) w) := by
  have F0 := Lib.hid (Fr1.new (wd0 := wd) (hg0 := hg) (c0 := c) hl)
  cases hf : fullB wd hg l with
  | false =>
    rw [regR_no (by unfold regB; rw [hf]; rfl)]
    have C1 := Lib.hid (fun W h => specFull_is wd hg a l c false W h hn hf)
    clear hl hf
    go_enter Tryd.func13, Tryd.ntmps13
    obtain ⟨k0, k1, k2⟩ := F0.out.k0.cells
    go_wp2_with fail
    refine (C1.out _ F0.out.i0).mono ?_
    rintro e w1 ⟨rfl, b⟩
    have F1 := Lib.hid (F0.out.step b)
    clear b F0 k0 k1 k2
    obtain ⟨r0, r1, r2⟩ := F1.out.r.cells
    have g0 := F1.out.r.frozen 0
    have g1 := F1.out.r.frozen 1
    have g2 := F1.out.r.frozen 2
    go_wp2
    refine bodyPost_ret (v := .tuple #[.agg #[.int .i64 0, .int .i64 0, .slice none 0 0], .bool false]) (by simp [results, Tryd.results13, go_sem, r0, r1, r2]) rfl ⟨none, 0, rfl, OwnI.none_, ?_⟩
    first | exact F1.out.b | exact ((F1.out.b.setCell (p := ⟨w.heap.size + 1, 0, none⟩) (by show w.heap.size ≤ w.heap.size + 1; omega) _).setCell (p := ⟨w.heap.size + 1, 1, none⟩) (by show w.heap.size ≤ w.heap.size + 1; omega) _).setCell (p := ⟨w.heap.size + 1, 2, none⟩) (by show w.heap.size ≤ w.heap.size + 1; omega) _
  | true =>
    have C1 := Lib.hid (fun W h => specFull_is wd hg a l c true W h hn hf)
    cases hs : shapeB p q with
    | false =>
      rw [regR_no (by unfold regB; rw [hs]; simp)]
      have C2 := Lib.hid (fun W => specShape_is p q false W hs)
      clear hl hf hs
      go_enter Tryd.func13, Tryd.ntmps13
      obtain ⟨k0, k1, k2⟩ := F0.out.k0.cells
      go_wp2_with fail
      refine (C1.out _ F0.out.i0).mono ?_
      rintro e w1 ⟨rfl, b⟩
      have F1 := Lib.hid (F0.out.step b)
      clear b F0 k0 k1 k2
      go_wp2_with fail
      refine (C2.out _).mono ?_
      rintro e w2 ⟨rfl, rfl⟩
      obtain ⟨r0, r1, r2⟩ := F1.out.r.cells
      have g0 := F1.out.r.frozen 0
      have g1 := F1.out.r.frozen 1
      have g2 := F1.out.r.frozen 2
      go_wp2
      refine bodyPost_ret (v := .tuple #[.agg #[.int .i64 0, .int .i64 0, .slice none 0 0], .bool false]) (by simp [results, Tryd.results13, go_sem, r0, r1, r2]) rfl ⟨none, 0, rfl, OwnI.none_, ?_⟩
      first | exact F1.out.b | exact ((F1.out.b.setCell (p := ⟨w.heap.size + 1, 0, none⟩) (by show w.heap.size ≤ w.heap.size + 1; omega) _).setCell (p := ⟨w.heap.size + 1, 1, none⟩) (by show w.heap.size ≤ w.heap.size + 1; omega) _).setCell (p := ⟨w.heap.size + 1, 2, none⟩) (by show w.heap.size ≤ w.heap.size + 1; omega) _
    | true =>
      have C2 := Lib.hid (fun W => specShape_is p q true W hs)
      have hrb : regB wd hg l p q = true := by unfold regB; rw [hf, hs]; rfl
      rw [regR_yes hrb]
      have hcell := full_cell hf
      obtain ⟨W, H, P, Q, rfl, rfl, rfl, rfl, n1, n2, n3, n4, p1, p8, q1, q8, hln⟩ := reg_nat hrb
      have HNEW := Lib.hid (fun W' => fill_any (P : Int) (Q : Int) 0 W' hs)
      have e9 : ((P : Int) * (Q : Int)).toNat = P * Q := by rw [← Int.natCast_mul]; exact Int.toNat_natCast _
      rw [e9] at HNEW
      obtain ⟨S0, hS0⟩ : ∃ S, List.replicate (P * Q) (0 : Int) = S := ⟨_, rfl⟩
      rw [hS0] at HNEW
      have hSl : S0.length = P * Q := by rw [← hS0, List.length_replicate]
      have hPQ : 1 ≤ P * Q := Nat.mul_le_mul p1 q1
      have hPQ8 : P * Q ≤ 64 := Nat.mul_le_mul p8 q8
      have hl0 : 0 < S0.length := by omega
      have HS0E := Lib.hid (show S0 = regK W H P Q l (0 * W) by rw [Nat.zero_mul]; exact hS0.symm)
      have HCELL := Lib.hid hcell
      have HN := Lib.hid hln
      have HOK := Lib.hid (fun i (hi : i < W * H) v v1 v2 => ovW_ok n1 n2 n4 p1 p8 q1 q8 hi (v := v) v1 v2)
      have HRB := Lib.hid (fun k hk => regK_bd n1 n2 n4 p1 p8 q1 q8 hcell k hk)
      have HPB := Lib.hid (fun k hk => partsOf_bd n1 n2 n4 p1 p8 q1 q8 hcell (k := k) hk)
      have HRL := Lib.hid (fun k => regK_len W H P Q l k)
      have HTL := Lib.hid (fun k => partsOf_len W H P Q l k)
      have HNX := Lib.hid (fun k => reg_nextS W H P Q l k)
      have HOL := Lib.hid (fun k => ovW_len W H P Q k)
      have HOP := Lib.hid (fun i k => ovW_part W H P Q i k)
      have hl64 : l.length ≤ 64 := by rw [hln]; exact Nat.mul_le_mul n2 n4
      have hWH : W * H ≤ 64 := Nat.mul_le_mul n2 n4
      obtain ⟨i0, hi0', hz0, hz1, hz2⟩ := info_parts infoInt
      simp only [Int.toNat_natCast]
      obtain ⟨m, hm⟩ : ∃ m, P * Q = m := ⟨_, rfl⟩
      rw [hm] at hPQ hPQ8 HRL HTL HNX HOL HOP
      clear hl hs hf hrb hln hS0 hcell hm hSl e9
      go_enter Tryd.func13, Tryd.ntmps13
      obtain ⟨k0, k1, k2⟩ := F0.out.k0.cells
      go_wp2_with fail
      refine (C1.out _ F0.out.i0).mono ?_
      rintro e w1 ⟨rfl, b⟩
      have F1 := Lib.hid (F0.out.step b)
      clear b F0 k0 k1 k2
      go_wp2_with fail
      refine (C2.out _).mono ?_
      rintro e w2 ⟨rfl, rfl⟩
      go_wp2_with fail
      refine (HNEW.out _).mono ?_
      rintro e w2 ⟨a1, c1, rfl, o1, b⟩
      have F2 := Lib.hid (F1.out.step b)
      obtain ⟨g, rfl, hB⟩ := Bk.new (P := P) (Q := Q) (cap := c1) F2.out (o1.more (by have := F1.out.r.lt; omega)) hl0
      have HB := Lib.hid hB
      clear b o1 hB hl0 F1 C1 C2 HNEW
      go_wp2
      clear F2
      have hz7 := HB.out.m
      generalize w2.heap.size = ob at *
      go_loopw [9] (fun t wr => ∃ y : Nat, y ≤ H ∧ t = .int .i64 y ∧ Bk w ob g W H a l c P Q (regK W H P Q l (y * W)) c1 wr) (fun t _ => H - (intOf t).toNat)
      case atStart => exact ⟨0, Nat.zero_le _, rfl, by rw [← HS0E.out]; exact HB.out⟩
      case round =>
        clear HB HS0E
        obtain ⟨y, hy, rfl, hS⟩ := hrel
        have HS := Lib.hid hS
        obtain ⟨k0, k1, k2⟩ := hS.f.k0.cells
        by_cases hlty : y < H
        · have hiy : (y : Int) < (H : Int) := by omega
          clear hS
          go_wp2
          clear k0 k1 k2
          go_loopw [10] (fun t wr => ∃ x : Nat, x ≤ W ∧ t = .int .i64 x ∧ Bk w ob g W H a l c P Q (regK W H P Q l (y * W + x)) c1 wr) (fun t _ => W - (intOf t).toNat)
          case atStart => exact ⟨0, Nat.zero_le _, rfl, HS.out⟩
          case round =>
            clear HS
            obtain ⟨x, hx, rfl, hS⟩ := hrel
            have HS := Lib.hid hS
            obtain ⟨k0, k1, k2⟩ := hS.f.k0.cells
            by_cases hltx : x < W
            · have hix : (x : Int) < (W : Int) := by omega
              have hkH : y * W + x < W * H := row_fit hltx hlty
              have hlt : y * W + x < l.length := by rw [HN.out]; exact hkH
              have hkH8 : y * W + x ≤ 64 := by omega
              have HNEXT := Lib.hid (fun u v (hu : u < P) (hv : v < Q) => ovW_next (H := H) (y := y) hltx hu hv)
              have HWHOLE := Lib.hid (ovW_whole W H P Q (y * W + x))
              have hv := HCELL.out _ (List.getElem_mem hlt)
              have hok := HOK.out _ hkH l[y * W + x] hv.1 hv.2
              have HSP := Lib.hid (fun a' c' B' W' h hB => l7Split_any l[y * W + x] a' (ovW W H P Q (y * W + x)) c' B' W' h hB hok)
              rw [show splitD l[y * W + x] (tot (ovW W H P Q (y * W + x))) (ovW W H P Q (y * W + x)) = partsOf W H P Q l (y * W + x) by unfold partsOf; rw [gd_at hlt]] at HSP
              unfold IntsPost at HSP
              have HAT := Lib.hid (fun W' h => specAt_any (W : Int) H a l c _ (x : Int) (y : Int) (y * W + x) W' h (Nat.le_refl _) hlt (by omega) (by push_cast; rfl) (by rw [← Int.natCast_mul]; omega) (by rw [← Int.natCast_mul]; omega) (by omega) (by omega))
              have hlT := HTL.out (y * W + x)
              have HTB := Lib.hid (HPB.out _ hkH)
              have HKB := Lib.hid (HRB.out (y * W + x) (by omega))
              have hlR := HRL.out (y * W + x)
              have HNXk := Lib.hid (HNX.out (y * W + x))
              have HO2 := Lib.hid (HOL.out (y * W + x))
              have HOPk := Lib.hid (fun k => HOP.out (y * W + x) k)
              clear hok
              generalize hk : y * W + x = k at *
              have HKE2 := Lib.hid hk
              clear hk
              have HST : Hid (∀ j (hj : j < (regK W H P Q l k).length) (ht : j < (partsOf W H P Q l k).length) v, v = (regK W H P Q l k)[j] + (partsOf W H P Q l k)[j] → (mixR (fun x y : Int => x + y) (regK W H P Q l k) (partsOf W H P Q l k) j).set j v = mixR (fun x y : Int => x + y) (regK W H P Q l k) (partsOf W H P Q l k) (j + 1)) := Lib.hid (fun j hj ht v hv => mix_step (fun x y : Int => x + y) (by rw [hlT, hlR]) j hj v hv)
              have HML : Hid (∀ j, j ≤ (regK W H P Q l k).length → (mixR (fun x y : Int => x + y) (regK W H P Q l k) (partsOf W H P Q l k) j).length = (regK W H P Q l k).length) := Lib.hid (fun j hj => mix_len (fun x y : Int => x + y) (by rw [hlT, hlR]) j hj)
              have HMG : Hid (∀ j (hj : j < (regK W H P Q l k).length) (h2 : j < (mixR (fun x y : Int => x + y) (regK W H P Q l k) (partsOf W H P Q l k) j).length), (mixR (fun x y : Int => x + y) (regK W H P Q l k) (partsOf W H P Q l k) j)[j] = (regK W H P Q l k)[j]) := Lib.hid (fun j hj h2 => mix_get (fun x y : Int => x + y) (by rw [hlT, hlR]) j hj h2)
              have HM0 := Lib.hid (mix_zero (fun x y : Int => x + y) (regK W H P Q l k) (partsOf W H P Q l k))
              have HLT := Lib.hid hlT
              have HLR := Lib.hid hlR
              rw [hlT] at HSP
              clear hlT hlR
              generalize ovW W H P Q k = OV at *
              generalize partsOf W H P Q l k = T at *
              generalize regK W H P Q l k = R at *
              generalize l[k] = z at *
              have hgz := hS.o.lt
              have hoz := hS.x.lt
              have hn9 := hS.n
              clear hS
              obtain ⟨B, hBe⟩ : ∃ B, wr.heap.size = B := ⟨_, rfl⟩
              have HW0 : Hid (Wk w ob g B W H a l c P Q R c1 (OV.take (0 * P)) (.slice (some ⟨wr.heap.size, 0, none⟩) 0 0) (wr.alloc (.cells #[] 3))) := by
                have O0 := World.ownsRow_made (base := B) (e := 3) (size := 1) wr #[] 0 (by omega) (by simp) rfl
                refine Lib.hid ⟨HS.out.step (below_all _ _), ?_, by omega, by omega, by rw [World.size_alloc]; omega⟩
                rw [Nat.zero_mul]
                exact O0
              rw [hBe] at hgz hoz
              clear hBe HS
              go_wp2
              clear k0 k1 k2
              go_loopw [11, 12] (fun s t wv => ∃ v : Nat, v ≤ Q ∧ t = .int .i64 v ∧ Wk w ob g B W H a l c P Q R c1 (OV.take (v * P)) s wv) (fun _ t _ => Q - (intOf t).toNat)
              case atStart => exact ⟨0, Nat.zero_le _, rfl, by first | exact HW0.out | trace_state⟩
              case round =>
                clear HW0
                obtain ⟨v, hv9, rfl, hWv⟩ := hrel
                have HWv := Lib.hid hWv
                by_cases hltv : v < Q
                · have hiv : (v : Int) < (Q : Int) := by omega
                  clear hWv
                  go_wp2
                  go_loopw [11, 13] (fun s t wu => ∃ u : Nat, u ≤ P ∧ t = .int .i64 u ∧ Wk w ob g B W H a l c P Q R c1 (OV.take (v * P + u)) s wu) (fun _ t _ => P - (intOf t).toNat)
                  case atStart => exact ⟨0, Nat.zero_le _, rfl, HWv.out⟩
                  case round =>
                    clear HWv
                    obtain ⟨u, hu9, rfl, hWu⟩ := hrel
                    obtain ⟨k0, k1, k2⟩ := hWu.k.f.k0.cells
                    by_cases hltu : u < P
                    · have hiu : (u : Int) < (P : Int) := by omega
                      have HWd := Lib.hid (hWu.step (drew_below _))
                      have HO1 := Lib.hid (fun W' => l7Overlap_is (W : Int) (P : Int) (x : Int) (u : Int) W' (ovB_nat n1 n2 p1 p8 hltx hltu))
                      have HO3 := Lib.hid (fun W' => l7Overlap_is (H : Int) (Q : Int) (y : Int) (v : Int) W' (ovB_nat n3 n4 q1 q8 hlty hltv))
                      have b1 := ovl_bd (k := u) hltx n2 p8
                      have b2 := ovl_bd (k := v) hlty n4 q8
                      have HNE := Lib.hid (HNEXT.out u v hltu hltv)
                      have hxl : (OV.take (v * P + u)).length ≤ 64 := by have := HOPk.out (v * P + u); omega
                      generalize ovl (W : Int) (P : Int) (x : Int) (u : Int) = o1 at *
                      generalize ovl (H : Int) (Q : Int) (y : Int) (v : Int) = o2 at *
                      have c0 := Int.mul_nonneg b1.1 b2.1
                      have c2 := Int.mul_le_mul b1.2 b2.2 b2.1 (by omega)
                      obtain ⟨pr, hpr⟩ : ∃ pr, o1 * o2 = pr := ⟨_, rfl⟩
                      rw [hpr] at c0 c2 HNE
                      have e10 : IntKind.i64.wrap pr = pr := IntWalk.i64_in _ (by omega)
                      generalize OV.take (v * P + u) = xs at *
                      have hBs := hWu.n3
                      clear hWu b1 b2
                      go_wp2_with fail
                      go_region_law (first
                        | (refine step_append_lies _ (by rfl) _ _ _ (by rfl) B 3 i0 _ 1 8 Tryd.underlying22 hi0' hz0 hz1 hz2 rfl (by omega) u11 xs.length (iv xs) (by rfl) (HWd.out.o.alloc _) ⟨wr.heap.size, 0, none⟩ 1 1 [.int .i64 pr] (by rfl) (by rfl) (cell_one_new _ _ _) (by simp [Value.oneCell']) (by omega) (by unfold maxLen; omega) (by omega) (by simp; omega) (wr.heap.size + 1) (by simp) ?_; intro gg cap8 w8 hown8 hgrow8 hat8 hlt8; have HP8 := Lib.hid (HWd.out.put (ys := xs ++ [pr]) hgrow8 (by rw [iv_snoc, List.length_append]; exact hown8)); clear hown8 hgrow8 hat8)
                        | (go_simp; go_at_call 40; (first | (with_reducible refine (HO1.out _).mono ?_) | (with_reducible refine (HO3.out _).mono ?_)); rintro e w7 ⟨rfl, rfl⟩))
                      all_goals
                        go_wp2
                        go_roundw
                        case rel => exact ⟨u + 1, by omega, by go_num, by rw [← Nat.add_assoc, HNE.out]; exact HP8.out⟩
                        case measure => simp [intOf]; omega
                    · obtain rfl : u = P := by omega
                      have hrow : v * u + u = (v + 1) * u := by rw [Nat.add_mul, Nat.one_mul]
                      rw [hrow] at hWu
                      have HWu := Lib.hid hWu
                      clear hWu k0 k1 k2
                      go_wp2
                      go_roundw
                      case rel => exact ⟨v + 1, by omega, by go_num, HWu.out⟩
                      case measure => simp [intOf]; omega
                · obtain rfl : v = Q := by omega
                  rw [HWHOLE.out] at hWv
                  obtain ⟨a3, c3, hv3, ho3⟩ := ownI_of hWv.o rfl
                  subst hv3
                  have HB3 := Lib.hid hWv.k
                  have O3 := Lib.hid ho3
                  obtain ⟨k0, k1, k2⟩ := hWv.k.f.k0.cells
                  have hgw := hWv.n2
                  clear hWv HWv ho3
                  go_wp2_with fail
                  refine (HAT.out _ HB3.out.f.i0).mono ?_
                  rintro e w4 ⟨rfl, b4⟩
                  have HB4 := Lib.hid (HB3.out.step b4)
                  have O4 := Lib.hid (O3.out.below b4)
                  clear b4 HB3 O3 k0 k1 k2
                  go_wp2_with fail
                  refine (HSP.out _ _ _ _ O4.out.ints (Nat.le_refl _)).mono ?_
                  rintro e w5 ⟨a5, c5, rfl, o5, b5⟩
                  have HB5 := Lib.hid (HB4.out.step b5)
                  have hgB : g < w4.heap.size := HB4.out.o.lt
                  have O5 := Lib.hid o5
                  clear b5 o5 HB4 O4
                  generalize w4.heap.size = B3 at *
                  go_wp2
                  go_loopw [15] (fun t wx => ∃ j : Nat, j ≤ m ∧ t = .int .i64 j ∧ Bk w ob g W H a l c P v (mixR (fun x y => x + y) R T j) c1 wx ∧ OwnI wx B3 a5 T) (fun t _ => m - (intOf t).toNat)
                  case atStart => exact ⟨0, Nat.zero_le _, rfl, by rw [HM0.out]; exact HB5.out, O5.out⟩
                  case round =>
                    clear HB5 O5
                    obtain ⟨j, hj, rfl, hSj, hOj⟩ := hrel
                    have HSj := Lib.hid hSj
                    have HOj := Lib.hid hOj
                    by_cases hltj : j < m
                    · have hjT : j < T.length := by rw [HLT.out]; exact hltj
                      have hjR : j < R.length := by rw [HLR.out]; exact hltj
                      obtain ⟨bt, ot, rfl, hbt, hct⟩ := hOj.ints.at_ hjT
                      have hml := HML.out j (by omega)
                      rw [HLR.out] at hml
                      obtain ⟨x0, x1, x2⟩ := hSj.x.cells
                      rw [hml] at x2
                      have cg := hSj.get (j := j) (by omega)
                      rw [HMG.out j hjR] at cg
                      have fg := hSj.o.frozen j
                      have hbT := HTB.out _ (List.getElem_mem hjT)
                      have hbR := HKB.out _ (List.getElem_mem hjR)
                      have HPUT := Lib.hid (fun W' (h : Bk w ob g W H a l c P v (mixR (fun x y => x + y) R T j) c1 W') v hv => by have h9 := h.put j v; rw [HST.out j hjR hjT v hv] at h9; exact h9)
                      have HP2 := Lib.hid (fun W' h => HPUT.out W' h (R[j] + T[j]) rfl)
                      have hjI : (j : Int) < (m : Int) := by omega
                      have hj0 : (0 : Int) ≤ (j : Int) := by omega
                      have HSd := Lib.hid hSj.drew
                      have HOd := Lib.hid (hOj.below (drew_below _))
                      have HO9 := Lib.hid (fun W' (h : OwnI W' B3 (some ⟨bt, ot, none⟩) T) => ownI_set (i := j) h hgB (.int .i64 (R[j] + T[j])))
                      have e10 : IntKind.i64.wrap (R[j] + T[j]) = R[j] + T[j] := IntWalk.i64_in _ (by omega)
                      clear hSj hOj HPUT hml HSj HOj
                      generalize R[j] = rr at *
                      generalize T[j] = tt at *
                      go_wp2_with fail
                      go_region_law (fail)
                      all_goals
                        go_wp2
                        go_roundw
                        case rel => exact ⟨j + 1, by omega, by go_num, HP2.out _ HSd.out, HO9.out _ HOd.out⟩
                        case measure => simp [intOf]; omega
                    · obtain rfl : j = m := by omega
                      rw [HNXk.out] at HSj
                      clear hSj hOj
                      go_wp2
                      go_roundw
                      case rel => exact ⟨x + 1, by omega, by go_num, by rw [← Nat.add_assoc, HKE2.out]; exact HSj.out⟩
                      case measure => simp [intOf]; omega
            · obtain rfl : x = W := by omega
              have hrow : y * x + x = (y + 1) * x := by rw [Nat.add_mul, Nat.one_mul]
              rw [hrow] at HS
              clear hS
              go_wp2
              go_roundw
              case rel => exact ⟨y + 1, by omega, by go_num, HS.out⟩
              case measure => simp [intOf]; omega
        · obtain rfl : y = H := by omega
          have hlR := HRL.out (y * W)
          have hs64 : (regK W y P Q l (y * W)).length ≤ 64 := by rw [hlR]; exact hPQ8
          have HWR := Lib.hid (show regK W y P Q l (W * y) = regK W y P Q l (y * W) by rw [Nat.mul_comm])
          clear hlR HS
          generalize regK W y P Q l (y * W) = R at *
          obtain ⟨x0, x1, x2⟩ := hS.x.cells
          have HB := Lib.hid hS
          clear hS
          cases hf : fullB (P : Int) (Q : Int) R with
          | false =>
            have C3 := Lib.hid (fun W' a c h => specFull_is (P : Int) (Q : Int) a R c false W' h (by omega) hf)
            have HFU := Lib.hid hf
            clear hf
            go_wp2_with fail
            refine (C3.out _ _ _ (HB.out.own.ints)).mono ?_
            rintro e w3 ⟨rfl, b3⟩
            have HB3 := Lib.hid (HB.out.step b3)
            clear b3 HB x0 x1 x2
            obtain ⟨r0, r1, r2⟩ := HB3.out.f.r.cells
            have g0 := HB3.out.f.r.frozen 0
            have g1 := HB3.out.f.r.frozen 1
            have g2 := HB3.out.f.r.frozen 2
            go_wp2
            rw [HWR.out, wholeR_no HFU.out]
            refine bodyPost_ret (v := .tuple #[.agg #[.int .i64 0, .int .i64 0, .slice none 0 0], .bool false]) (by simp [results, Tryd.results13, go_sem, r0, r1, r2]) rfl ⟨none, 0, rfl, OwnI.none_, ?_⟩
            first | exact HB3.out.f.b | exact ((HB3.out.f.b.setCell (p := ⟨w.heap.size + 1, 0, none⟩) (by show w.heap.size ≤ w.heap.size + 1; omega) _).setCell (p := ⟨w.heap.size + 1, 1, none⟩) (by show w.heap.size ≤ w.heap.size + 1; omega) _).setCell (p := ⟨w.heap.size + 1, 2, none⟩) (by show w.heap.size ≤ w.heap.size + 1; omega) _
          | true =>
            have C3 := Lib.hid (fun W' a c h => specFull_is (P : Int) (Q : Int) a R c true W' h (by omega) hf)
            have HFU := Lib.hid hf
            clear hf
            go_wp2_with fail
            refine (C3.out _ _ _ (HB.out.own.ints)).mono ?_
            rintro e w3 ⟨rfl, b3⟩
            have HB3 := Lib.hid (HB.out.step b3)
            clear b3 HB x0 x1 x2
            obtain ⟨x0, x1, x2⟩ := HB3.out.x.cells
            have q7 : ¬ w.heap.size + 1 = ob := by have := HB3.out.n; omega
            have q8 : ¬ ob = w.heap.size + 1 := by omega
            obtain ⟨r0, r1, r2⟩ := HB3.out.f.r.cells
            have g0 := HB3.out.f.r.frozen 0
            have g1 := HB3.out.f.r.frozen 1
            have g2 := HB3.out.f.r.frozen 2
            go_wp2
            rw [HWR.out, wholeR_yes HFU.out]
            refine bodyPost_ret (v := .tuple #[.agg #[.int .i64 P, .int .i64 Q, .slice (some ⟨g, 0, none⟩) R.length c1], .bool true]) (by simp [results, Tryd.results13, go_sem, r0, r1, r2]) rfl ?_
            exact HB3.out.ret2 rfl (.inr rfl) _ _ _
end Go.Proofs.YtccplndimdmjpaaDoor

