/- The model's ReplaceField. -/
import Derived.Test.YtglpkfkbbjbjjaaDoorReplMath
import Derived.Test.YtglpkfkbbjbjjaaDoorExprLaw
import Derived.OwnWalk
import Derived.Maps.AppendAt
import Derived.Deep.AppendLies
import Derived.IntWalk
namespace Go.Proofs.YtglpkfkbbjbjjaaDoor
open Go.RowKit
set_option linter.unusedVariables false
set_option linter.unusedSimpArgs false
set_option maxRecDepth 100000 in
set_option maxHeartbeats 2000000 in
theorem specRepl_any (a : Option Addr) (l : List Nd) (c : Nat) (f : Int) (ab : Option Addr) (b : List Nd) (cb : Nat) (w : World) (hl : Nds w w.heap.size a l) (hb : Nds w w.heap.size ab b) (hn : l.length ≤ 1048576) (hnb : b.length ≤ 1048576) :
    Calls Tryd.prog 15 #[.slice a l.length c, .int .i64 f, .slice ab b.length cb] w (RPost l f b w) := by
  obtain ⟨i0, hi0', hz0, hz1, hz2⟩ := info_parts infoNode
  have HL := Lib.hid hl
  have HBY := Lib.hid hb
  have HE1 := Lib.hid (fun W h => specExprGood_any a l c W h hn)
  have HE2 := Lib.hid (fun W h => specExprGood_any ab b cb W h hnb)
  unfold RPost
  clear hl hb
  have B0 := Lib.hid (below_all w (.cells #[] 60))
  cases h1 : exprB l with
  | false =>
    have hr : replB l f b = false := by unfold replB; rw [h1]; rfl
    rw [repl_no hr, hr]
    rw [h1] at HE1
    clear h1 hr
    go_enter Tryd.func15, Tryd.ntmps15
    go_wp2_with fail
    refine (HE1.out _ (nds_below HL.out B0.out)).mono ?_
    rintro e w1 ⟨rfl, b1⟩
    have B1 := Lib.hid (below_then B0.out b1)
    clear b1
    go_wp2
    go_ret2
    exact ⟨_, _, rfl, OwnN.none_, B1.out⟩
  | true =>
    rw [h1] at HE1
    cases h2 : exprB b with
    | false =>
      have hr : replB l f b = false := by unfold replB; rw [h1, h2]; rfl
      rw [repl_no hr, hr]
      rw [h2] at HE2
      clear h1 h2 hr
      go_enter Tryd.func15, Tryd.ntmps15
      go_wp2_with fail
      refine (HE1.out _ (nds_below HL.out B0.out)).mono ?_
      rintro e w1 ⟨rfl, b1⟩
      have B1 := Lib.hid (below_then B0.out b1)
      clear b1
      go_wp2_with fail
      refine (HE2.out _ (nds_below HBY.out B1.out)).mono ?_
      rintro e w2 ⟨rfl, b2⟩
      have B2 := Lib.hid (below_then B1.out b2)
      clear b2
      go_wp2
      go_ret2
      exact ⟨_, _, rfl, OwnN.none_, B2.out⟩
    | true =>
      rw [h2] at HE2
      cases h3 : inF f with
      | false =>
        have hr : replB l f b = false := by unfold replB; rw [h1, h2, h3]; rfl
        rw [repl_no hr, hr]
        have HI := Lib.hid (fun W => l1In_is f 0 3 false W (by rw [← h3]; rfl))
        clear h1 h2 h3 hr
        go_enter Tryd.func15, Tryd.ntmps15
        go_wp2_with fail
        refine (HE1.out _ (nds_below HL.out B0.out)).mono ?_
        rintro e w1 ⟨rfl, b1⟩
        have B1 := Lib.hid (below_then B0.out b1)
        clear b1
        go_wp2_with fail
        refine (HE2.out _ (nds_below HBY.out B1.out)).mono ?_
        rintro e w2 ⟨rfl, b2⟩
        have B2 := Lib.hid (below_then B1.out b2)
        clear b2
        go_wp2_with fail
        refine (HI.out _).mono ?_
        rintro e w3 ⟨rfl, rfl⟩
        go_wp2
        go_ret2
        exact ⟨_, _, rfl, OwnN.none_, B2.out⟩
      | true =>
        obtain ⟨r1, r2, r3, r4⟩ := repl_expr h1 h2 h3
        have HR1 := Lib.hid r1
        have HVR := Lib.hid (repl_both r2)
        have HNE := Lib.hid (expr_ne h2)
        have HLE := Lib.hid (fun k => replR_le (f := f) r4 (l.take k))
        have HI := Lib.hid (fun W => l1In_is f 0 3 true W (by rw [← h3]; rfl))
        clear h1 h2 h3 r1 r2
        generalize replB l f b = v at *
        generalize replL l f b = rl at *
        go_enter Tryd.func15, Tryd.ntmps15
        go_wp2_with fail
        refine (HE1.out _ (nds_below HL.out B0.out)).mono ?_
        rintro e w1 ⟨rfl, b1⟩
        have B1 := Lib.hid (below_then B0.out b1)
        have O1 := Lib.hid (own2_keeps (World.ownsRow_made (base := w.heap.size) (e := 60) (size := 2) w #[] 0 (Nat.le_refl _) (by simp) rfl) b1)
        clear b1
        go_wp2_with fail
        refine (HE2.out _ (nds_below HBY.out B1.out)).mono ?_
        rintro e w2 ⟨rfl, b2⟩
        have B2 := Lib.hid (below_then B1.out b2)
        have O2 := Lib.hid (own2_keeps O1.out b2)
        clear b2 B1 O1
        go_wp2_with fail
        refine (HI.out _).mono ?_
        rintro e w3 ⟨rfl, rfl⟩
        clear HE1 HI
        go_wp2
        go_loopw [8, 9] (fun out i wr => ∃ k : Nat, k ≤ l.length ∧ i = .int .i64 k ∧ wr.ownsRow w.heap.size 60 2 out (replR (l.take k) f b).length (nv (replR (l.take k) f b)) ∧ Below w.heap.size w wr) (fun _ i _ => l.length - (intOf i).toNat)
        case atStart => exact ⟨0, Nat.zero_le _, rfl, by rw [replR_zero]; exact O2.out, B2.out⟩
        case round =>
          obtain ⟨k, hk, rfl, hown, hB⟩ := hrel
          have HO := Lib.hid hown
          have HB := Lib.hid hB
          have hlen := HLE.out k
          have hlt15 : (l.take k).length ≤ 15 := by rw [List.length_take]; omega
          have HLEN := Lib.hid (show (replR (l.take k) f b).length ≤ 225 by omega)
          clear hown hB hlen hlt15 O2 B2
          by_cases hlt : k < l.length
          · have hi : (k : Int) < (l.length : Int) := by omega
            have hi0 : (0 : Int) ≤ (k : Int) := by omega
            obtain ⟨bk, o, rfl, hbk, c0, c1⟩ := (nds_below HL.out HB.out).at_ hlt
            have HS := Lib.hid (replR_step (f := f) (b := b) hlt)
            generalize replR (l.take k) f b = rs at *
            have HSZ := Lib.hid HB.out.size
            have HYS := Lib.hid (oneR_yes (p := l[k]) (f := f) (b := b))
            have HNO := Lib.hid (oneR_no (p := l[k]) (f := f) (b := b))
            generalize oneR l[k] f b = one at *
            have HPP := Lib.hid (show l[k] = (l[k].1, l[k].2) from rfl)
            generalize l[k].1 = x at *
            generalize l[k].2 = y at *
            by_cases hx : x = 1 ∧ y = f
            · obtain ⟨rfl, rfl⟩ := hx
              obtain ⟨bb, ob, rfl, _⟩ : ∃ bb ob, ab = some ⟨bb, ob, none⟩ ∧ True := by
                rcases HBY.out with hnil | ⟨bb, ob, e, _⟩
                · exact absurd hnil HNE.out
                · exact ⟨bb, ob, e, trivial⟩
              have HNW := Lib.hid (nds_news (nds_below HBY.out HB.out))
              have HY := Lib.hid (HYS.out rfl rfl)
              go_wp2_with (at_builtin; refine wpList_append_own _ rfl _ _ 25 rfl w.heap.size 60 i0 _ 2 16 Tryd.underlying25 hi0' hz0 hz1 hz2 rfl (by decide) _ rs.length (nv rs) rfl HO.out ⟨bb, ob, none⟩ b.length cb (nv b) rfl (nv_length b) HNW.out (nv_one b) (by have := HLEN.out; unfold maxLen; omega) (by have := HLEN.out; omega) HSZ.out ?_; intro v' w4 hown' hgrow _; have HO4 := Lib.hid hown'; have HG4 := Lib.hid hgrow; clear hown' hgrow)
              go_roundw
              case rel => exact ⟨k + 1, by omega, by go_num, by rw [HS.out, HY.out, nv_append, List.length_append]; exact HO4.out, HB.out.grown HG4.out HSZ.out (fun k hk => (HO.out.lt k hk).1)⟩
              case measure => simp [intOf]; omega
            · have HY := Lib.hid (HNO.out hx)
              by_cases hx1 : x = 1
              · subst hx1
                have e2 : (y == f) = false := by rw [beq_eq_false_iff_ne]; intro e; exact hx ⟨rfl, e⟩
                clear hx
                go_wp2_with (at_builtin; refine wpList_append_own _ rfl _ _ 25 rfl w.heap.size 60 i0 _ 2 16 Tryd.underlying25 hi0' hz0 hz1 hz2 rfl (by decide) _ rs.length (nv rs) rfl (HO.out.alloc _) ⟨wr.heap.size, 0, none⟩ 1 1 [.int .i64 1, .int .i64 y] rfl rfl (World.news_of_block (heap_alloc_new _ _)) (by simp [Value.oneCell']) (by have := HLEN.out; unfold maxLen; omega) (by have := HLEN.out; omega) (by have := HSZ.out; simp; omega) ?_; intro v' w4 hown' hgrow _; have HO4 := Lib.hid hown'; have HG4 := Lib.hid hgrow; clear hown' hgrow)
                go_roundw
                case rel => exact ⟨k + 1, by omega, by go_num, by rw [HS.out, HY.out, HPP.out, nv_append, List.length_append]; exact HO4.out, (HB.out.alloc HSZ.out _).grown HG4.out (by have := HSZ.out; simp; omega) (fun k hk => (HO.out.lt k hk).1)⟩
                case measure => simp [intOf]; omega
              · have e1 : (x == 1) = false := by rw [beq_eq_false_iff_ne]; exact hx1
                clear hx hx1
                go_wp2_with (at_builtin; refine wpList_append_own _ rfl _ _ 25 rfl w.heap.size 60 i0 _ 2 16 Tryd.underlying25 hi0' hz0 hz1 hz2 rfl (by decide) _ rs.length (nv rs) rfl (HO.out.alloc _) ⟨wr.heap.size, 0, none⟩ 1 1 [.int .i64 x, .int .i64 y] rfl rfl (World.news_of_block (heap_alloc_new _ _)) (by simp [Value.oneCell']) (by have := HLEN.out; unfold maxLen; omega) (by have := HLEN.out; omega) (by have := HSZ.out; simp; omega) ?_; intro v' w4 hown' hgrow _; have HO4 := Lib.hid hown'; have HG4 := Lib.hid hgrow; clear hown' hgrow)
                go_roundw
                case rel => exact ⟨k + 1, by omega, by go_num, by rw [HS.out, HY.out, HPP.out, nv_append, List.length_append]; exact HO4.out, (HB.out.alloc HSZ.out _).grown HG4.out (by have := HSZ.out; simp; omega) (fun k hk => (HO.out.lt k hk).1)⟩
                case measure => simp [intOf]; omega
          · obtain rfl : k = l.length := by omega
            rw [List.take_length] at HO HLEN
            have hsz := HB.out.size
            obtain ⟨a5, c5, rfl, o5⟩ := ownN_of HO.out rfl
            have HO5 := Lib.hid o5
            have HE3 := Lib.hid (fun W h => specExprGood_any a5 (replR l f b) c5 W h (by have := HLEN.out; omega))
            rw [HR1.out] at HE3
            clear o5 HO HR1 HL HBY HE2
            generalize replR l f b = rs at *
            by_cases hle : rs.length ≤ 15
            · rw [decide_eq_true hle] at HE3
              obtain ⟨ev, el⟩ := HVR.out.1 hle
              subst ev el
              go_wp2_with fail
              refine (HE3.out _ HO5.out.nds).mono ?_
              rintro e w6 ⟨rfl, b6⟩
              have B6 := Lib.hid (below_then HB.out b6)
              have O6 := Lib.hid (HO5.out.below b6)
              clear b6
              go_wp2
              go_ret2
              exact ⟨_, _, rfl, O6.out, B6.out⟩
            · rw [decide_eq_false hle] at HE3
              obtain ⟨ev, el⟩ := HVR.out.2 hle
              subst ev el
              go_wp2_with fail
              refine (HE3.out _ HO5.out.nds).mono ?_
              rintro e w6 ⟨rfl, b6⟩
              have B6 := Lib.hid (below_then HB.out b6)
              clear b6
              go_wp2
              go_ret2
              exact ⟨_, _, rfl, OwnN.none_, B6.out.alloc B6.out.size _⟩
end Go.Proofs.YtglpkfkbbjbjjaaDoor
