/- GrowRegion: the model's and the program's. -/
import Derived.Test.YtgfgimpglaepaaaPtFn
import Derived.Test.YtgfgimpglaepaaaSvRet
import Derived.Deep.LoopGhost
import Derived.Test.YtgfgimpglaepaaaAppF
namespace Go.Proofs.Ytgfgimpglaepaaa
open Go.RowKit
set_option linter.unusedVariables false
set_option linter.unusedSimpArgs false
/-- the grown region so far, in own memory; the set of the cells -/
structure Gr (w : World) (B mb : Nat) (wd : Int) (l r : List Int) (q : Value) (wr : World) : Prop where
  o : wr.ownsRow B 3 1 q r.length (iv r)
  m : PSet wr mb 64 (inP wd l)
  b : Below w.heap.size w wr
  z : B < wr.heap.size
  lt : mb < B
  lo : w.heap.size ≤ B
theorem Gr.step {w : World} {B mb : Nat} {wd : Int} {l r : List Int} {q : Value} {w1 w2 : World} (h : Gr w B mb wd l r q w1) (k : Below w1.heap.size w1 w2) : Gr w B mb wd l r q w2 :=
  ⟨own_keeps h.o k, h.m.below k h.m.lt, h.b.trans (k.mono h.b.size), Nat.lt_of_lt_of_le h.z k.size, h.lt, h.lo⟩
theorem Gr.put {w : World} {B mb : Nat} {wd : Int} {l r r' : List Int} {q q' : Value} {w1 w2 : World} (h : Gr w B mb wd l r q w1) (k : w1.grownBy w2 q.ownBlock) (ho : w2.ownsRow B 3 1 q' r'.length (iv r')) : Gr w B mb wd l r' q' w2 :=
  ⟨ho, h.m.kept k (by intro e; have := (h.o.lt mb e.symm).1; have := h.lt; omega), h.b.grown k h.b.size (fun j e => by have := (h.o.lt j e).1; have := h.lo; omega), Nat.lt_of_lt_of_le h.z k.size, h.lt, h.lo⟩
/-- the neighbors of (x, y), and itself -/
def nbL (x y : Int) : List Pt := [(x, y - 1), (x + 1, y), (x, y + 1), (x - 1, y), (x, y)]
theorem nbL_get {x y : Int} {j : Nat} (h : j < (nbL x y).length) : (nbL x y)[j] = (nbX x j, nbY y j) := by
  have h5 : j < 5 := h
  rcases (by omega : j = 0 ∨ j = 1 ∨ j = 2 ∨ j = 3 ∨ j = 4) with rfl | rfl | rfl | rfl | rfl <;> rfl
theorem nearP_succ (wd : Int) (l : List Int) (i : Int) (j : Nat) : nearP wd l i (j + 1) = (nearP wd l i j || inP wd l (nbX (i % wd) j) (nbY (i / wd) j)) := by
  unfold nearP; rw [List.range_succ, List.any_append]; simp
theorem nearP_hit {wd : Int} {l : List Int} {i : Int} {j : Nat} (hj : j < 5) (h : inP wd l (nbX (i % wd) j) (nbY (i / wd) j) = true) : nearB wd l i = true := by
  rw [near_is]; unfold nearP; rw [List.any_eq_true]; exact ⟨j, List.mem_range.2 hj, h⟩
set_option maxRecDepth 100000 in
set_option maxHeartbeats 4000000 in
theorem implGrow_any (wd hg : Int) (a : Option Addr) (l : List Int) (c : Nat) (w : World) (hl : Ints .i64 w w.heap.size a l) (hn : l.length ≤ 1048576) :
    Calls Try.prog 20 #[.int .i64 wd, .int .i64 hg, .slice a l.length c] w (SvRet (growR wd hg l) (regB wd hg l) w) := by
  obtain ⟨i0, hi0', hz0, hz1, hz2⟩ := info_parts infoInt
  have HL := Lib.hid hl
  cases hr : regB wd hg l with
  | false =>
    rw [growR_no hr]
    have C := Lib.hid (fun W h => implRegion_is wd hg a l c w.heap.size false W h hn hr)
    clear hl hr
    go_enter Try.func20, Try.ntmps20
    go_wp2
    go_step3
    go_wp2_with fail
    refine (C.out _ HL.out).mono ?_
    rintro e w1 ⟨rfl, rfl⟩
    go_wp2
    rw [Exit.noGoto_ret]
    go_ret2
    exact ⟨_, _, rfl, OwnI.none_, below_all _ _⟩
  | true =>
    rw [growR_yes hr]
    have C := Lib.hid (fun W h => implRegion_is wd hg a l c w.heap.size true W h hn hr)
    have C2 := Lib.hid (fun W h => cellsOf_any wd hg a l c W h hr)
    have hp := prod_bd (reg_shape hr)
    have hs := shapeB_iff.1 (reg_shape hr)
    obtain ⟨p, hpp⟩ : ∃ p : Nat, (wd * hg).toNat = p := ⟨_, rfl⟩
    have hpi : wd * hg = (p : Int) := by omega
    rw [hpp]
    rw [hpi] at hp
    have HP := Lib.hid hpi
    have HS := Lib.hid (reg_shape hr)
    clear hl hr hpp
    go_enter Try.func20, Try.ntmps20
    go_wp2
    go_step3
    go_wp2_with fail
    refine (C.out _ HL.out).mono ?_
    rintro e w1 ⟨rfl, rfl⟩
    go_wp2_with fail
    refine (C2.out _ HL.out).mono ?_
    rintro e w2 ⟨mb, rfl, hmb, hm, b2⟩
    have M2 := Lib.hid hm
    have B2 := Lib.hid b2
    have z2 := b2.size
    have zm := hm.lt
    clear hm b2
    go_wp2
    go_step3
    go_wp2
    have hcap := Lib.hid (World.ownsRow_made (base := w2.heap.size) (e := 3) (size := 1) w2 #[] 0 (Nat.le_refl _) (by unfold maxLen; omega) rfl)
    have HGR := Lib.hid (fun W (h : Below w2.heap.size w2 W) (ho : W.ownsRow w2.heap.size 3 1 (.slice (some ⟨w2.heap.size, 0, none⟩) 0 0) 0 []) (hz : w2.heap.size < W.heap.size) => (⟨ho, M2.out.below h zm, B2.out.trans (h.mono B2.out.size), hz, zm, B2.out.size⟩ : Gr w w2.heap.size mb wd l [] (.slice (some ⟨w2.heap.size, 0, none⟩) 0 0) W))
    obtain ⟨iP, hP', hPz, hP1, hP2⟩ := info_parts infoPt
    go_loopg [9, 28] p (fun g q i wr => ∃ k : Nat, k ≤ p ∧ g + k = p ∧ i = .int .i64 k ∧ Gr w w2.heap.size mb wd l (growP wd l k) q wr)
    case atStart => exact ⟨0, Nat.zero_le _, rfl, rfl, HGR.out _ (below_all _ _) hcap.out (by simp)⟩
    case round =>
      obtain ⟨k, hk, hg, rfl, hgr⟩ := hrel
      have HG := Lib.hid hg
      have HR := Lib.hid hgr
      have zr := hgr.z
      clear hg hgr
      by_cases hlt : k < p
      · have hi : (k : Int) < (p : Int) := by omega
        have hi0 : (0 : Int) ≤ (k : Int) := by omega
        have hin := cell_in HS.out hi0 (by rw [HP.out]; exact hi)
        have HIT := Lib.hid (fun j hj h => nearP_hit (wd := wd) (l := l) (i := (k : Int)) (j := j) hj h)
        have HSU := Lib.hid (nearP_succ wd l (k : Int))
        have HNE := Lib.hid (near_is (wd := wd) l (k : Int))
        have HGY := Lib.hid (fun h => growP_yes (wd := wd) (l := l) (k := k) h)
        have HGN := Lib.hid (fun h => growP_no (wd := wd) (l := l) (k := k) h)
        have hlen := growP_len wd l k
        obtain ⟨x, hx⟩ : ∃ x, (k : Int) % wd = x := ⟨_, rfl⟩
        obtain ⟨y, hy⟩ : ∃ y, (k : Int) / wd = y := ⟨_, rfl⟩
        rw [hx, hy] at hin HIT HSU
        have HPT := Lib.hid (fun W => pointAt_any wd (k : Int) W (by omega) (by omega) (by omega) (by omega))
        rw [hx, hy] at HPT
        have HNB := Lib.hid (fun W => neighbors_any x y W (by omega) (by omega))
        have HGET := Lib.hid (fun j (h : j < (nbL x y).length) => nbL_get h)
        clear hx hy
        go_wp2_with fail
        refine (HPT.out _).mono ?_
        rintro e w3 ⟨rfl, b3⟩
        have R3 := Lib.hid (HR.out.step b3)
        clear b3 HR
        go_wp2_with fail
        refine (HNB.out _).mono ?_
        rintro e w4 ⟨rfl, b4⟩
        have X4 := (heap_alloc_new w3 (.cells #[.int .i64 x, .int .i64 y] 48))
        have X4' := (b4.block w3.heap.size (by simp)).trans X4
        have b4' := below_then (below_all w3 _) b4
        have R4 := Lib.hid (R3.out.step b4')
        have z4 := b4.size
        simp only [World.size_alloc] at z4
        clear b4 R3 X4 b4'
        go_wp2
        obtain ⟨W5, hW5⟩ : ∃ W5, w4.alloc (.cells #[.int .i64 x, .int .i64 (y - 1), .int .i64 (x + 1), .int .i64 y, .int .i64 x, .int .i64 (y + 1), .int .i64 (x - 1), .int .i64 y] 80) = W5 := ⟨_, rfl⟩
        have R5 : Hid (Gr w w2.heap.size mb wd l (growP wd l k) u9 W5) := Lib.hid (by rw [← hW5]; exact R4.out.step (below_all _ _))
        have X5 : W5.heap[w3.heap.size]? = some (.cells #[.int .i64 x, .int .i64 y] 48 (0, 0)) := by rw [← hW5]; exact (Below.heap_alloc w4 _ _ (by omega)).trans X4'
        have Y5 : W5.heap[w4.heap.size]? = some (.cells #[.int .i64 x, .int .i64 (y - 1), .int .i64 (x + 1), .int .i64 y, .int .i64 x, .int .i64 (y + 1), .int .i64 (x - 1), .int .i64 y] 80 (0, 0)) := by rw [← hW5]; exact heap_alloc_new w4 _
        have s5 : W5.heap.size = w4.heap.size + 1 := by rw [← hW5]; simp
        rw [hW5]
        have q0 : W5.cell? ⟨w3.heap.size, 0, none⟩ = some (.int .i64 x) := by simp [World.cell?, X5]
        have q1 : W5.cell? ⟨w3.heap.size, 1, none⟩ = some (.int .i64 y) := by simp [World.cell?, X5]
        have HOL := Lib.hid (fun Wd (h : Below W5.heap.size W5 Wd) b' (e : some (⟨w4.heap.size, 0, none⟩ : Addr) = some b') => (by
          have e2 := Option.some.inj e
          subst e2
          exact World.news_of_block ((h.block w4.heap.size (by omega)).trans Y5) : ∀ j u, [Value.int .i64 x, .int .i64 (y - 1), .int .i64 (x + 1), .int .i64 y, .int .i64 x, .int .i64 (y + 1), .int .i64 (x - 1), .int .i64 y][j]? = some u → Wd.cell? (b'.add j) = some u))
        clear X4' X5 Y5 hW5 R4
        have HS5 := Lib.hid s5
        have s5' : w4.heap.size < W5.heap.size := by omega
        clear s5
        go_region_held3 (fun w' => w'.cell? ⟨w3.heap.size, 0, none⟩ = some (.int .i64 x) ∧ w'.cell? ⟨w3.heap.size, 1, none⟩ = some (.int .i64 y)) (first | exact ⟨kk0, kk1⟩ | go_keep)
          ((refine step_append_full (by rfl) _ _ _ (by rfl) 48 iP _ 2 16 Try.underlying46 hP' hPz hP1 hP2 rfl (by omega) (some ⟨w4.heap.size, 0, none⟩) 4 4 [Value.int .i64 x, .int .i64 (y - 1), .int .i64 (x + 1), .int .i64 y, .int .i64 x, .int .i64 (y + 1), .int .i64 (x - 1), .int .i64 y] (by rfl) (fun h => by cases h) (by rfl) (HOL.out _ (by first | exact (below_all _ _).drew | exact below_all _ _)) ⟨W5.heap.size, 0, none⟩ 1 1 [.int .i64 x, .int .i64 y] (by rfl) (by rfl) (World.news_of_block (heap_alloc_new _ _)) (by simp [Value.oneCell']) (by omega) 5 (by rfl) (by omega) (by unfold maxLen; omega) (by omega) ?_; intro gg cap8 w8 hown8 hgrow8 hge8 hlt8; have kk0 : w8.cell? ⟨w3.heap.size, 0, none⟩ = some (.int .i64 x) := (hgrow8.cell_far _ (by simp; omega) (by simp)).trans (((below_all W5 _).cell (p := ⟨w3.heap.size, 0, none⟩) (by show w3.heap.size < W5.heap.size; omega)).trans q0); have kk1 : w8.cell? ⟨w3.heap.size, 1, none⟩ = some (.int .i64 y) := (hgrow8.cell_far _ (by simp; omega) (by simp)).trans (((below_all W5 _).cell (p := ⟨w3.heap.size, 1, none⟩) (by show w3.heap.size < W5.heap.size; omega)).trans q1); have HP8 := Lib.hid (pts_of_own (l := nbL x y) hown8 rfl hlt8); have HR8 := Lib.hid (R5.out.step (((below_all W5 _).drew).grown hgrow8 (by simp) (fun j e => by cases e)))))
        clear q0 q1 kk0 kk1 hown8 hgrow8 HOL R5
        rename_i hHeld
        clear hHeld
        go_wp2
        go_loopg [9, 41] 5 (fun g q i wr => ∃ j : Nat, j ≤ 5 ∧ g + j = 5 ∧ i = .int .i64 j ∧ nearP wd l (k : Int) j = false ∧ Pts wr wr.heap.size (some ⟨gg, 0, none⟩) (nbL x y) ∧ Gr w w2.heap.size mb wd l (growP wd l k) q wr)
        case atStart => exact ⟨0, by omega, rfl, rfl, rfl, HP8.out, HR8.out⟩
        case round =>
          obtain ⟨j, hj, hg2, rfl, hno, hp, hgr⟩ := hrel
          have HG2 := Lib.hid hg2
          have HN := Lib.hid hno
          have HPP := Lib.hid hp
          have HRR := Lib.hid hgr
          clear hg2 hno hp hgr
          by_cases hj5 : j < 5
          · obtain ⟨b, o, e, _, c0, c1⟩ := HPP.out.at_ (j := j) hj5
            have e2 := Option.some.inj e
            injection e2 with e3 e4
            subst e3 e4
            rw [Nat.zero_add, HGET.out j hj5] at c0
            rw [Nat.zero_add, HGET.out j hj5] at c1
            have hbx : -1 ≤ nbX x j ∧ nbX x j ≤ 9 := by unfold nbX; (repeat' split) <;> omega
            have hby : -1 ≤ nbY y j ∧ nbY y j ≤ 9 := by unfold nbY; (repeat' split) <;> omega
            have hjs := HSU.out j
            rw [HN.out] at hjs
            have HH := HIT.out j hj5
            clear e
            generalize nbX x j = px at *
            generalize nbY y j = py at *
            have hi5 : (j : Int) < 5 := by omega
            have hij0 : (0 : Int) ≤ (j : Int) := by omega
            have o0 := Lib.hid (show okI px by unfold okI; omega)
            have o1 := Lib.hid (show okI py by unfold okI; omega)
            have HA := Lib.hid (HRR.out.step (below_all wr (.cells #[.int .i64 px, .int .i64 py] 48)))
            have HPA := Lib.hid (pts_alloc HPP.out (.cells #[.int .i64 px, .int .i64 py] 48))
            have HJS := Lib.hid hjs
            have HHH := Lib.hid HH
            clear hjs HH hbx hby
            cases hv : inP wd l px py with
            | true =>
              have hnb := HHH.out hv
              have HE := Lib.hid (HGY.out hnb)
              have HV := Lib.hid hv
              have hneb := Lib.hid (show True from trivial)
              clear hv hnb
              go_wp2_with (first | (at_lookup; refine wpList_look_set _ rfl _ _ 73 rfl Try.underlying73 mb 64 (inP wd l) rfl HA.out.m px py rfl o0.out o1.out true HV.out ?_) | (at_builtin; refine wpList_append_own _ rfl _ _ 24 rfl w2.heap.size 3 i0 (.int .i64 0) 1 8 Try.underlying24 hi0' hz0 hz1 hz2 rfl (by decide) _ (growP wd l k).length (iv (growP wd l k)) rfl (HA.out.o.alloc _) ⟨wr.heap.size + 1, 0, none⟩ 1 1 [.int .i64 (k : Int)] rfl rfl (by have := cell_one_new (wr.alloc (.cells #[.int .i64 px, .int .i64 py] 48)) (.int .i64 (k : Int)) 3; rw [World.size_alloc] at this; exact this) (by simp [Value.oneCell']) (by unfold maxLen; omega) (by omega) (by have := HA.out.z; simp at this ⊢; omega) ?_; intro v' w9 hown9 hgrow9 _; have HB9 := Lib.hid ((HA.out.step (below_all _ _)).put (r' := growP wd l k ++ [(k : Int)]) hgrow9 (by rw [iv_snoc, List.length_append]; exact hown9)); clear hown9 hgrow9))
              go_roundg (p - (k + 1))
              case rel => exact ⟨k + 1, by omega, by omega, by go_num, by rw [HE.out]; exact HB9.out⟩
              case measure => have := HG.out; omega
            | false =>
              have HV := Lib.hid hv
              rw [hv] at HJS
              clear hv
              go_wp2_with (at_lookup; refine wpList_look_set _ rfl _ _ 73 rfl Try.underlying73 mb 64 (inP wd l) rfl HA.out.m px py rfl o0.out o1.out false HV.out ?_)
              go_roundg (gk - 1)
              case rel => exact ⟨j + 1, by omega, by have := HG2.out; omega, by go_num, by rw [HJS.out]; rfl, HPA.out, HA.out⟩
              case measure => have := HG2.out; omega
          · obtain rfl : j = 5 := by omega
            have hnb := HNE.out
            rw [HN.out] at hnb
            have HE := Lib.hid (HGN.out hnb)
            clear hnb
            go_wp2
            go_roundg (p - (k + 1))
            case rel => exact ⟨k + 1, by omega, by omega, by go_num, by rw [HE.out]; exact HRR.out⟩
            case measure => have := HG.out; omega
      · obtain rfl : k = p := by omega
        obtain ⟨a', c', rfl, ho⟩ := ownI_of HR.out.o rfl
        have HOO := Lib.hid ho
        have HB := Lib.hid HR.out.b
        clear ho HR
        go_wp2
        rw [Exit.noGoto_ret]
        go_ret2
        exact ⟨a', c', rfl, HOO.out.more (by omega), HB.out⟩
end Go.Proofs.Ytgfgimpglaepaaa
