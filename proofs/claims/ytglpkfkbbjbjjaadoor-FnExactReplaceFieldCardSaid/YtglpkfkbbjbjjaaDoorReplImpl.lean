/- The program's ReplaceField. -/
import Derived.Test.YtglpkfkbbjbjjaaDoorReplMath
import Derived.Test.YtglpkfkbbjbjjaaDoorExprLaw
import Derived.OwnWalk
import Derived.Maps.AppendAt
import Derived.Deep.AppendLies
import Derived.IntWalk
namespace Go.Proofs.YtglpkfkbbjbjjaaDoor
open Go.RowKit
set_option linter.unusedVariables false
set_option linter.unusedSimpArgs false
theorem repl_none {l : List Nd} {f : Int} {b : List Nd} (h : inF f = false ∨ exprB l = false ∨ exprB b = false) : replB l f b = false ∧ replL l f b = [] := by
  have e : replB l f b = false := by unfold replB; rcases h with h | h | h <;> rw [h] <;> simp
  exact ⟨e, repl_no e⟩
theorem fmOk_field (f : Int) : fmOk 1 f = inF f := by
  unfold fmOk arity inF
  rw [if_pos rfl]
  by_cases h : 0 ≤ f ∧ f ≤ 3
  · rw [if_pos h, decide_eq_true h.1, decide_eq_true h.2]; rfl
  · rw [if_neg h]
    by_cases h0 : 0 ≤ f
    · rw [decide_eq_false (fun h3 => h ⟨h0, h3⟩)]; simp
    · rw [decide_eq_false h0]; rfl
theorem box_row {w w' : World} {nb base e size n : Nat} {t : TypeId} {vs : Array Value} {v : Value} {xs : List Value} (h : BoxC w nb t vs) (ho : w.ownsRow base e size v n xs) (hg : w.grownBy w' v.ownBlock) (hb : nb < base) : BoxC w' nb t vs :=
  (hg.block nb h.lt (fun e => by have := (ho.lt nb e.symm).1; omega)).trans h
set_option maxRecDepth 100000 in
set_option maxHeartbeats 2000000 in
theorem implRepl_any (a : Option Addr) (l : List Nd) (c : Nat) (f : Int) (ab : Option Addr) (b : List Nd) (cb : Nat) (w : World) (hl : Nds w w.heap.size a l) (hb : Nds w w.heap.size ab b) (hn : l.length ≤ 1048576) (hnb : b.length ≤ 1048576) (ht : NTab w) :
    Calls Tryd.prog 16 #[.slice a l.length c, .int .i64 f, .slice ab b.length cb] w (RPost l f b w) := by
  obtain ⟨i0, hi0', hz0, hz1, hz2⟩ := info_parts infoNode
  have HL := Lib.hid hl
  have HBY := Lib.hid hb
  have HT := Lib.hid ht
  have HE1 := Lib.hid (fun W h t => implExpr_any a l c W h hn t)
  have HE2 := Lib.hid (fun W h t => implExpr_any ab b cb W h hnb t)
  have HVN := Lib.hid (repl_none (l := l) (f := f) (b := b))
  have HVE := Lib.hid (fun h1 h2 h3 => (repl_expr (l := l) (f := f) (b := b) h1 h2 h3).2)
  have HVR := Lib.hid (repl_both (l := l) (f := f) (b := b))
  have HF := Lib.hid (fun W h => formOf_any 1 f W h)
  rw [fmOk_field] at HF
  unfold RPost
  unfold formV at HF
  clear hl hb ht
  generalize replB l f b = v at *
  generalize replL l f b = rl at *
  generalize fmK 1 = y0 at *
  generalize fmT 1 = y1 at *
  generalize fmM 1 = y2 at *
  generalize fmO 1 = y3 at *
  generalize fmA 1 = y4 at *
  generalize fmB 1 = y5 at *
  generalize fmC 1 = y6 at *
  obtain ⟨nb, hnb0⟩ : ∃ q, w.heap.size = q := ⟨_, rfl⟩
  obtain ⟨W1, hW1⟩ : ∃ W, w.alloc (.cells #[.int .i64 1, .int .i64 f] 60) = W := ⟨_, rfl⟩
  have B1 := Lib.hid (show Below w.heap.size w W1 by rw [← hW1]; exact below_all _ _)
  have X1 := Lib.hid (show BoxC W1 nb 60 #[.int .i64 1, .int .i64 f] by rw [← hW1, ← hnb0]; exact BoxC.new _ _ _)
  have c0 := X1.out.cell 0
  have c1 := X1.out.cell 1
  simp at c0 c1
  go_enter Tryd.func16, Tryd.ntmps16
  go_wp2_with fail
  refine (HF.out _ (HT.out.below B1.out)).mono ?_
  rintro e w2 ⟨rfl, b2⟩
  have X2 := X1.out.below b2
  have B2 := below_then B1.out b2
  clear b2 X1 B1 c0 c1 hW1
  obtain ⟨W2, hW2⟩ : ∃ W, w2.alloc (.cells #[.int .i64 y0, .int .i64 y1, .int .i64 y2, .int .i64 y3, .string y4, .string y5, .string y6] 69) = W := ⟨_, rfl⟩
  have X2 := Lib.hid (show BoxC W2 nb 60 #[.int .i64 1, .int .i64 f] by rw [← hW2]; exact X2.alloc _)
  have B2 := Lib.hid (show Below w.heap.size w W2 by rw [← hW2]; exact below_then B2 (below_all _ _))
  cases h3 : inF f with
  | false =>
    obtain ⟨ev, el⟩ := HVN.out (.inl h3)
    subst ev el
    clear h3
    go_wp2
    go_ret2
    exact ⟨_, _, rfl, OwnN.none_, B2.out.alloc B2.out.size _⟩
  | true =>
    cases h1 : exprB l with
    | false =>
      obtain ⟨ev, el⟩ := HVN.out (.inr (.inl h1))
      subst ev el
      rw [h1] at HE1
      clear h1 h3
      go_wp2_with fail
      refine (HE1.out _ (nds_below HL.out B2.out) (HT.out.below B2.out)).mono ?_
      rintro e w3 ⟨rfl, b3⟩
      have B3 := Lib.hid (below_then B2.out b3)
      clear b3
      go_wp2
      go_ret2
      exact ⟨_, _, rfl, OwnN.none_, B3.out.alloc B3.out.size _⟩
    | true =>
      rw [h1] at HE1
      cases h2 : exprB b with
      | false =>
        obtain ⟨ev, el⟩ := HVN.out (.inr (.inr h2))
        subst ev el
        rw [h2] at HE2
        clear h1 h2 h3
        go_wp2_with fail
        refine (HE1.out _ (nds_below HL.out B2.out) (HT.out.below B2.out)).mono ?_
        rintro e w3 ⟨rfl, b3⟩
        have B3 := Lib.hid (below_then B2.out b3)
        clear b3
        go_wp2_with fail
        refine (HE2.out _ (nds_below HBY.out B3.out) (HT.out.below B3.out)).mono ?_
        rintro e w4 ⟨rfl, b4⟩
        have B4 := Lib.hid (below_then B3.out b4)
        clear b4
        go_wp2
        go_ret2
        exact ⟨_, _, rfl, OwnN.none_, B4.out.alloc B4.out.size _⟩
      | true =>
        rw [h2] at HE2
        obtain ⟨r2, r3, r4⟩ := HVE.out h1 h2 h3
        have HVR2 := Lib.hid (HVR.out r2)
        have HNE := Lib.hid (expr_ne h2)
        have HLE := Lib.hid (fun k => replR_le (f := f) r4 (l.take k))
        clear h1 h2 h3 r2 HVR HVE HVN
        go_wp2_with fail
        refine (HE1.out _ (nds_below HL.out B2.out) (HT.out.below B2.out)).mono ?_
        rintro e w3 ⟨rfl, b3⟩
        have B3 := Lib.hid (below_then B2.out b3)
        have X3 := Lib.hid (X2.out.below b3)
        clear b3 B2 X2 hW2
        go_wp2_with fail
        refine (HE2.out _ (nds_below HBY.out B3.out) (HT.out.below B3.out)).mono ?_
        rintro e w4 ⟨rfl, b4⟩
        have B4 := Lib.hid (below_then B3.out b4)
        have X4 := Lib.hid (X3.out.below b4)
        have hz4 : w.heap.size + 1 ≤ w4.heap.size := by have := X4.out.lt; omega
        clear b4 B3 X3 HE1 HE2 HF HT
        go_wp2
        go_loopw [11, 37] (fun out i wr => ∃ k : Nat, k ≤ l.length ∧ i = .int .i64 k ∧ wr.ownsRow (w.heap.size + 1) 60 2 out (replR (l.take k) f b).length (nv (replR (l.take k) f b)) ∧ BoxC wr nb 60 #[.int .i64 1, .int .i64 f] ∧ Below w.heap.size w wr) (fun _ i _ => l.length - (intOf i).toNat)
        case atStart => exact ⟨0, Nat.zero_le _, rfl, (by have h := World.ownsRow_made (base := w.heap.size + 1) (e := 60) (size := 2) w4 #[] 0 hz4 (by simp) rfl; rw [replR_zero]; exact h), X4.out.alloc _, B4.out.alloc B4.out.size _⟩
        case round =>
          obtain ⟨k, hk, rfl, hown, hbx, hB⟩ := hrel
          have HSZ := Lib.hid (show w.heap.size + 1 ≤ wr.heap.size by have := hbx.lt; omega)
          have hlen := HLE.out k
          have hlt15 : (l.take k).length ≤ 15 := by rw [List.length_take]; omega
          have HLEN := Lib.hid (show (replR (l.take k) f b).length ≤ 225 by omega)
          have HO := Lib.hid hown
          have HX := Lib.hid hbx
          have HB := Lib.hid hB
          clear hown hbx hB hlen hlt15 X4 B4
          by_cases hlt : k < l.length
          · have hi : (k : Int) < (l.length : Int) := by omega
            have hi0 : (0 : Int) ≤ (k : Int) := by omega
            obtain ⟨bk, o, rfl, hbk, q0, q1⟩ := (HL.out.below HB.out (Nat.le_refl _)).at_ hlt
            have HS := Lib.hid (replR_step (f := f) (b := b) hlt)
            generalize replR (l.take k) f b = rs at *
            have HYS := Lib.hid (oneR_yes (p := l[k]) (f := f) (b := b))
            have HNO := Lib.hid (oneR_no (p := l[k]) (f := f) (b := b))
            generalize oneR l[k] f b = one at *
            have HPP := Lib.hid (show l[k] = (l[k].1, l[k].2) from rfl)
            generalize l[k].1 = x at *
            generalize l[k].2 = y at *
            obtain ⟨tb, htb⟩ : ∃ q, wr.heap.size = q := ⟨_, rfl⟩
            obtain ⟨W5, hW5⟩ : ∃ W, wr.alloc (.cells #[.int .i64 x, .int .i64 y] 60) = W := ⟨_, rfl⟩
            have T5 := Lib.hid (show BoxC W5 tb 60 #[.int .i64 x, .int .i64 y] by rw [← hW5, ← htb]; exact BoxC.new _ _ _)
            have X5 := Lib.hid (show BoxC W5 nb 60 #[.int .i64 1, .int .i64 f] by rw [← hW5]; exact HX.out.alloc _)
            have O5 := Lib.hid (show W5.ownsRow (w.heap.size + 1) 60 2 _ rs.length (nv rs) by rw [← hW5]; exact HO.out.alloc _)
            have B5 := Lib.hid (show Below w.heap.size w W5 by rw [← hW5]; exact HB.out.alloc HB.out.size _)
            have SZ5 := Lib.hid (show w.heap.size + 1 ≤ W5.heap.size by rw [← hW5]; have := HSZ.out; simp; omega)
            have t0 := T5.out.cell 0
            have t1 := T5.out.cell 1
            have x0 := X5.out.cell 0
            have x1 := X5.out.cell 1
            simp at t0 t1 x0 x1
            clear HO HX HB
            by_cases hx : x = 1 ∧ y = f
            · obtain ⟨rfl, rfl⟩ := hx
              obtain ⟨bb, ob, rfl, _⟩ : ∃ bb ob, ab = some ⟨bb, ob, none⟩ ∧ True := by
                rcases HBY.out with hnil | ⟨bb, ob, e, _⟩
                · exact absurd hnil HNE.out
                · exact ⟨bb, ob, e, trivial⟩
              have HNW := Lib.hid (nds_news (nds_below HBY.out B5.out))
              have HY := Lib.hid (HYS.out rfl rfl)
              go_wp2_with (at_builtin; refine wpList_append_own _ rfl _ _ 25 rfl (w.heap.size + 1) 60 i0 _ 2 16 Tryd.underlying25 hi0' hz0 hz1 hz2 rfl (by decide) _ rs.length (nv rs) rfl O5.out ⟨bb, ob, none⟩ b.length cb (nv b) rfl (nv_length b) HNW.out (nv_one b) (by have := HLEN.out; unfold maxLen; omega) (by have := HLEN.out; omega) SZ5.out ?_; intro v' w6 hown' hgrow _; have HO6 := Lib.hid hown'; have HG6 := Lib.hid hgrow; clear hown' hgrow)
              go_roundw
              case rel => exact ⟨k + 1, by omega, by go_num, by rw [HS.out, HY.out, nv_append, List.length_append]; exact HO6.out, box_row X5.out O5.out HG6.out (by omega), B5.out.grown HG6.out B5.out.size (fun k hk => by have := (O5.out.lt k hk).1; omega)⟩
              case measure => simp [intOf]; omega
            · have HY := Lib.hid (HNO.out hx)
              by_cases hx1 : x = 1
              · subst hx1
                have e2 : (y == f) = false := by rw [beq_eq_false_iff_ne]; intro e; exact hx ⟨rfl, e⟩
                clear hx
                go_wp2_with (at_builtin; refine wpList_append_own _ rfl _ _ 25 rfl (w.heap.size + 1) 60 i0 _ 2 16 Tryd.underlying25 hi0' hz0 hz1 hz2 rfl (by decide) _ rs.length (nv rs) rfl (O5.out.alloc _) ⟨W5.heap.size, 0, none⟩ 1 1 [.int .i64 1, .int .i64 y] rfl rfl (World.news_of_block (heap_alloc_new _ _)) (by simp [Value.oneCell']) (by have := HLEN.out; unfold maxLen; omega) (by have := HLEN.out; omega) (by have := SZ5.out; simp; omega) ?_; intro v' w6 hown' hgrow _; have HO6 := Lib.hid hown'; have HG6 := Lib.hid hgrow; clear hown' hgrow)
                go_roundw
                case rel => exact ⟨k + 1, by omega, by go_num, by rw [HS.out, HY.out, HPP.out, nv_append, List.length_append]; exact HO6.out, box_row (X5.out.alloc _) (O5.out.alloc _) HG6.out (by omega), (B5.out.alloc B5.out.size _).grown HG6.out (by have := B5.out.size; simp; omega) (fun k hk => by have := (O5.out.lt k hk).1; omega)⟩
                case measure => simp [intOf]; omega
              · have e1 : (x == 1) = false := by rw [beq_eq_false_iff_ne]; exact hx1
                clear hx hx1
                go_wp2_with (at_builtin; refine wpList_append_own _ rfl _ _ 25 rfl (w.heap.size + 1) 60 i0 _ 2 16 Tryd.underlying25 hi0' hz0 hz1 hz2 rfl (by decide) _ rs.length (nv rs) rfl (O5.out.alloc _) ⟨W5.heap.size, 0, none⟩ 1 1 [.int .i64 x, .int .i64 y] rfl rfl (World.news_of_block (heap_alloc_new _ _)) (by simp [Value.oneCell']) (by have := HLEN.out; unfold maxLen; omega) (by have := HLEN.out; omega) (by have := SZ5.out; simp; omega) ?_; intro v' w6 hown' hgrow _; have HO6 := Lib.hid hown'; have HG6 := Lib.hid hgrow; clear hown' hgrow)
                go_roundw
                case rel => exact ⟨k + 1, by omega, by go_num, by rw [HS.out, HY.out, HPP.out, nv_append, List.length_append]; exact HO6.out, box_row (X5.out.alloc _) (O5.out.alloc _) HG6.out (by omega), (B5.out.alloc B5.out.size _).grown HG6.out (by have := B5.out.size; simp; omega) (fun k hk => by have := (O5.out.lt k hk).1; omega)⟩
                case measure => simp [intOf]; omega
          · obtain rfl : k = l.length := by omega
            rw [List.take_length] at HO HLEN
            have HVRo := HVR2.out
            clear HVR2
            obtain ⟨a5, c5, rfl, o5⟩ := ownN_of HO.out rfl
            have HO5 := Lib.hid (o5.more (show w.heap.size ≤ w.heap.size + 1 by omega))
            clear o5 HO HL HBY
            have hlq := HLEN.out
            generalize replR l f b = rs at *
            by_cases hle : rs.length ≤ 15
            · have hgt : ¬ ((15 : Int) < (rs.length : Int)) := by omega
              obtain ⟨ev, el⟩ := HVRo.1 hle
              subst ev el
              clear HVRo
              go_wp2
              go_ret2
              exact ⟨_, ⟨_, rfl⟩, by rw [← hnb0]; exact HO5.out, by rw [← hnb0]; exact HB.out⟩
            · have hgt : (15 : Int) < (rs.length : Int) := by omega
              obtain ⟨ev, el⟩ := HVRo.2 hle
              subst ev el
              clear HVRo
              go_wp2
              go_ret2
              exact ⟨_, _, rfl, OwnN.none_, HB.out.alloc HB.out.size _⟩
end Go.Proofs.YtglpkfkbbjbjjaaDoor
