/- The program's FormatExpression; the walk of FnExactFormatExpression. -/
import Derived.Test.YtnomcnlmlignbaaDoorFmtImpl2
import Derived.Test.YtnomcnlmlignbaaDoorFmtSpec3
import Derived.Test.YtnomcnlmlignbaaDoorExprLaw
namespace Go.Proofs.YtnomcnlmlignbaaDoor
open Go.RowKit
set_option linter.unusedVariables false
set_option linter.unusedSimpArgs false
theorem kind_le {t : ET} (h : t.ok) : t.kind = 1 ∨ t.kind = 2 ∨ t.kind = 3 ∨ t.kind = 4 ∨ t.kind = 5 ∨ t.kind = 6 ∨ t.kind = 7 := by
  cases t with
  | n0 k v => rcases arity_kinds (show arity k v = some 0 from h) with ⟨_, h⟩ | ⟨h, _⟩ | ⟨h, _⟩ <;> simp only [ET.kind] <;> omega
  | n1 k v x => rcases arity_kinds h.1 with ⟨h, _⟩ | ⟨_, h, _⟩ | ⟨h, _⟩ <;> simp only [ET.kind] <;> omega
  | n2 k v x y => rcases arity_kinds h.1 with ⟨h, _⟩ | ⟨h, _⟩ | ⟨_, h, _⟩ <;> simp only [ET.kind] <;> omega
theorem no_front (s : ByteArray) : (⟨#[]⟩ : ByteArray) ++ s = s := by apply ByteArray.ext; simp [ByteArray.data_append]
theorem no_back (s : ByteArray) : s ++ (⟨#[]⟩ : ByteArray) = s := by apply ByteArray.ext; simp [ByteArray.data_append]
theorem write_any (w0 : World) (bb : Nat) (HT : ∀ W, Below bb w0 W → bb ≤ W.heap.size → Tab W) : ∀ (t : ET), t.ok → ∀ (b : Nat), TreeAt w0 (fun i => i < bb) t b → Wr w0 bb 93 #[.pointer (some ⟨b, 0, none⟩), .pointer (some ⟨bb, 0, none⟩)] (txtE t) := by
  intro t
  induction t with
  | n0 k v =>
    rintro hok b ⟨hb, a, c, hx⟩
    exact write_leaf w0 bb b k v a c hok hx hb HT
  | n1 k v x ih =>
    rintro hok b ⟨hb, ga, c, bx, hga, hx, hg, ht⟩
    rcases arity_kinds hok.1 with ⟨h, _⟩ | ⟨_, rfl, v0, v9⟩ | ⟨h, _⟩
    · cases h
    · obtain ⟨n, rfl⟩ : ∃ n : Nat, v = (n : Int) := ⟨v.toNat, by omega⟩
      have h1 := second_above w0 bb b n _ 1 c (by omega) hx hb HT
      have h2 := write_op w0 bb b 7 (n : Int) ga c 1 bx (txtE x) (digS n) (by omega) (by omega) hx (by omega) hg hb hga (ih hok.2 bx ht) h1
      have e : txtE (.n1 7 (n : Int) x) = fmA 7 ++ txtE x ++ fmB 7 ++ digS n ++ fmC 7 := by rw [txtE]; rfl
      rw [e]
      exact h2
    · cases h
  | n2 k v x y ih1 ih2 =>
    rintro hok b ⟨hb, ga, c, bx, bz, hga, hx, hg, hg1, ht1, ht2⟩
    rcases arity_kinds hok.1 with ⟨h, _⟩ | ⟨h, _⟩ | ⟨_, hk, rfl⟩
    · cases h
    · cases h
    · obtain ⟨hzb, ya, yn, yc, hy⟩ := tree_root ht2
      have h1 := second_two w0 bb b k 0 y.kind y.val ga c bz ya yn yc (txtE y) hk (kind_le hok.2.2) hx hg1 hy hb hga hzb (ih2 hok.2.2 bz ht2)
      have h2 := write_op w0 bb b k 0 ga c 2 bx (txtE x) _ (by omega) (by omega) hx (by omega) hg hb hga (ih1 hok.2.1 bx ht1) h1
      have e : txtE (.n2 k 0 x y) = fmA k ++ txtE x ++ fmB k ++ (if sumK k = true then parS y.kind (txtE y) else txtE y) ++ fmC k := by
        rcases hk with rfl | rfl | rfl | rfl
        · rw [txt_k3]
          show _ = (⟨#[]⟩ : ByteArray) ++ txtE x ++ pluS ++ parS y.kind (txtE y) ++ (⟨#[]⟩ : ByteArray)
          rw [no_front, no_back]
        · rw [txt_k4]
          show _ = (⟨#[]⟩ : ByteArray) ++ txtE x ++ mnsS ++ parS y.kind (txtE y) ++ (⟨#[]⟩ : ByteArray)
          rw [no_front, no_back]
        · rw [txt_k5]; rfl
        · rw [txt_k6]; rfl
      rw [e]
      exact h2
set_option maxRecDepth 100000 in
set_option maxHeartbeats 1000000 in
theorem implFmt_any (a : Option Addr) (l : List Nd) (c : Nat) (w : World) (hl : Nds w w.heap.size a l) (hn : l.length ≤ 1048576) (ht : NTab w) (tab : Tab w) :
    Calls Tryd.prog 39 #[.slice a l.length c] w fun e w' => e = .returned (.tuple #[.string (fmtR l), .bool (exprB l)]) ∧ Below w.heap.size w w' := by
  have HC := Lib.hid (fun W h t => treeOf_any a l c W h hn t)
  have HL := Lib.hid hl
  have HT := Lib.hid ht
  have HTB := Lib.hid (fun W (G : Below w.heap.size w W) => tab.below G)
  have HE := Lib.hid (exprB_tree l)
  clear hl ht tab
  go_enter Tryd.func39, Tryd.ntmps39
  go_wp2_with fail
  refine (HC.out _ HL.out HT.out).mono ?_
  rintro e w1 ⟨b1, ⟨h1, rfl⟩ | ⟨t, b, h1, rfl, h2⟩⟩
  · have HB := Lib.hid b1
    have R := Lib.hid (HE.out.trans (by rw [h1]; rfl) : exprB l = false)
    have R2 := Lib.hid (show fmtR l = ⟨#[]⟩ by unfold fmtR; rw [h1])
    clear b1 h1
    go_wp2
    go_ret2
    exact ⟨by rw [R.out, R2.out]; rfl, HB.out⟩
  · have R := Lib.hid (HE.out.trans (by rw [h1]; rfl) : exprB l = true)
    have R2 := Lib.hid (show fmtR l = txtE t by unfold fmtR; rw [h1])
    obtain ⟨h15, hf, hok⟩ := treeT_some h1
    have hz := txtE_size t hok
    rw [hf] at hz
    have HW := Lib.hid (write_any w1 w1.heap.size (fun W G _ => HTB.out W (b1.trans (G.mono b1.size))) t hok b (TreeAt.keep (fun i _ _ => rfl) (fun i _ hi => hi) t b h2))
    have HB0 := Lib.hid (show Bd w1 w1.heap.size [] (w1.alloc (.cells #[.pointer none, .slice none 0 0] 78)) from ⟨below_all _ _, Lib.IsBuilderF.of (Lib.fresh_isBuilder _ _ w1), by simp⟩)
    have HB1 := Lib.hid b1
    have hsz : ([] : List UInt8).length + (txtE t).size ≤ 1000000 := by simp; omega
    clear b1 h1 h2 hf hok hz
    generalize txtE t = s at *
    go_wp2_with fail
    refine (HW.out [] _ HB0.out hsz).mono ?_
    rintro e w2 ⟨rfl, b2⟩
    have HB2 := Lib.hid b2
    clear b2 HB0
    go_wp2_with fail
    refine (bld_string_k _ _ _ _ HB2.out.k HB2.out.n).mono ?_
    rintro e w3 ⟨rfl, b3⟩
    have HB3 := Lib.hid (HB1.out.trans ((HB2.out.b.trans b3).mono HB1.out.size))
    clear b3
    go_wp2
    go_ret2
    exact ⟨by rw [R.out, R2.out]; first | rfl | simp, HB3.out⟩
set_option maxRecDepth 100000 in
set_option maxHeartbeats 4000000 in
theorem walk_Format (a : Option Addr) (l : List Nd) (c : Nat) (w : World) (hl : Nds w w.heap.size a l) (hm : l.length ≤ maxLen) (ht : NTab w) (tab : Tab w) :
    Calls Tryd.prog 6 #[.slice a l.length c] w fun e w' => e = .returned (.bool true) ∧ Below w.heap.size w w' := by
  have HZ := Lib.hid (fun W => szNodes_any a l.length c 1048576 W hm (by omega) (by omega))
  unfold maxLen at hm
  have HL0 := Lib.hid (show Ln w a l w from ⟨Below.refl _ _, hl, ht⟩)
  have HTB := Lib.hid (fun W (G : Below w.heap.size w W) => tab.below G)
  clear hl ht tab
  by_cases hn : (l.length : Int) ≤ 1048576
  · have hn1 : l.length ≤ 1048576 := by omega
    rw [if_pos hn] at HZ
    have HT := Lib.hid (fun W h => toNodes_any a l c W h hn1)
    have HS := Lib.hid (fun b W h => specFmt_any (some ⟨b, 0, none⟩) l l.length W h hn1)
    have HI := Lib.hid (fun b W h t t2 => implFmt_any (some ⟨b, 0, none⟩) l l.length W h hn1 t t2)
    generalize exprB l = v at *
    generalize fmtR l = d at *
    go_enter Tryd.func6, Tryd.ntmps6
    go_wp2_with (go_at_call 36; refine (HZ.out _).mono ?_; rintro e w1 ⟨rfl, rfl⟩)
    refine (HT.out _ HL0.out.i).mono ?_
    rintro e w2 ⟨rfl, r2, b2, z2⟩
    have HL2 := Lib.hid (HL0.out.step b2)
    have N2 := Lib.hid (Nds.of_row r2)
    clear r2 b2 z2 HL0
    go_wp2_with fail
    refine (HS.out _ _ N2.out).mono ?_
    rintro e w3 ⟨rfl, b3⟩
    have HL3 := Lib.hid (HL2.out.step b3)
    clear b3 HL2 N2
    go_wp2_with fail
    refine (HT.out _ HL3.out.i).mono ?_
    rintro e w4 ⟨rfl, r4, b4, z4⟩
    have HL4 := Lib.hid (HL3.out.step b4)
    have N4 := Lib.hid (Nds.of_row r4)
    clear r4 b4 z4 HL3
    go_wp2_with fail
    refine (HI.out _ _ N4.out HL4.out.t (HTB.out _ HL4.out.b)).mono ?_
    rintro e w5 ⟨rfl, b5⟩
    have HL5 := Lib.hid (HL4.out.step b5)
    have N5 := Lib.hid (nds_below N4.out b5)
    clear b5 HL4 N4
    have hvv : (v != v) = false := by cases v <;> rfl
    go_wp2_with fail
    refine (HT.out _ HL5.out.i).mono ?_
    rintro e w6 ⟨rfl, r6, b6, z6⟩
    have HL6 := Lib.hid (HL5.out.step b6)
    have N6 := Lib.hid (Nds.of_row r6)
    have M6 := Lib.hid (nds_below N5.out b6)
    clear r6 b6 z6 HL5 N5
    go_wp2_with fail
    refine (eqNodes_yes _ _ l _ _ _ M6.out N6.out hn1).mono ?_
    rintro e w7 ⟨rfl, b7⟩
    have HL7 := Lib.hid (HL6.out.step b7)
    clear b7 HL6 N6 M6
    go_wp2
    go_ret
    exact ⟨rfl, HL7.out.b⟩
  · rw [if_neg hn] at HZ
    go_enter Tryd.func6, Tryd.ntmps6
    go_wp2_with (go_at_call 36; refine (HZ.out _).mono ?_; rintro e w1 ⟨rfl, rfl⟩)
    go_ret
    exact ⟨rfl, HL0.out.b⟩
end Go.Proofs.YtnomcnlmlignbaaDoor
