/- l5Text of 'above'; over the whole tree; the model's FormatExpression. -/
import Derived.Test.YtnomcnlmlignbaaDoorFmtSpec2
namespace Go.Proofs.YtnomcnlmlignbaaDoor
open Go.RowKit
set_option linter.unusedVariables false
set_option linter.unusedSimpArgs false
set_option maxRecDepth 100000 in
set_option maxHeartbeats 1000000 in
theorem text_one (b o i j n : Nat) (l : List Nd) (c : Nat) (tx : ByteArray) (w : World) (hnd : Nds w w.heap.size (some ⟨b, o, none⟩) l) (hi : i < l.length) (hij : i = j + 1) (hn : l.length ≤ 1048576) (hn9 : n ≤ 9000)
    (q0 : w.cell? ⟨b, o + i * 2, none⟩ = some (.int .i64 7)) (q1 : w.cell? ⟨b, o + i * 2 + 1, none⟩ = some (.int .i64 (n : Int)))
    (R1 : ∀ W : World, Nds W W.heap.size (some ⟨b, o, none⟩) l → Calls Tryd.prog 90 #[.slice (some ⟨b, o, none⟩) l.length c, .int .i64 (j : Int)] W fun e w' => e = .returned (.string tx) ∧ Below W.heap.size W w')
    (zx : tx.size ≤ 20000) :
    Calls Tryd.prog 90 #[.slice (some ⟨b, o, none⟩) l.length c, .int .i64 (i : Int)] w fun e w' => e = .returned (.string (absS ++ tx ++ comS ++ digS n ++ clsS)) ∧ Below w.heap.size w w' := by
  have HND := Lib.hid hnd
  have HR1 := Lib.hid (fun W (G : Below w.heap.size w W) => R1 W ((hnd.below G (Nat.le_refl _)).more G.size))
  have HNM := Lib.hid (num_nat n (by omega))
  clear R1
  have i1 : (i : Int) < (l.length : Int) := by omega
  have i0 : (0 : Int) ≤ (i : Int) := by omega
  have ej : (i : Int) - 1 = (j : Int) := by omega
  have j1 : (j : Int) < (l.length : Int) := by omega
  have j0 : (0 : Int) ≤ (j : Int) := by omega
  have hwr : IntKind.i64.wrap (j : Int) = (j : Int) := IntWalk.i64_in _ (by omega)
  have hds : (digS n).size ≤ 6 := by have := digS_four (v := (n : Int)) (by omega) (by omega); simpa using this
  obtain ⟨a1, _, _, a4, _, a6, _, _⟩ := lit_sizes
  have e1 := cat_run3 Tryd.prog absS tx (by omega)
  have e2 := cat_run3 Tryd.prog (absS ++ tx) comS (by rw [ByteArray.size_append]; omega)
  have e3 := cat_run3 Tryd.prog (absS ++ tx ++ comS) (digS n) (by rw [ByteArray.size_append, ByteArray.size_append]; omega)
  have e4 := cat_run3 Tryd.prog (absS ++ tx ++ comS ++ digS n) clsS (by rw [ByteArray.size_append, ByteArray.size_append, ByteArray.size_append]; omega)
  simp only [absS, comS, clsS] at e1 e2 e3 e4
  have HD := Lib.hid (show (⟨(Lib.decDigits n).toArray⟩ : ByteArray) = digS n from rfl)
  rw [HD.out] at HNM
  generalize digS n = dn at *
  clear HD hds a1 a4 a6
  obtain ⟨nb, hnb⟩ : ∃ q, w.heap.size = q := ⟨_, rfl⟩
  obtain ⟨W1, hW1⟩ : ∃ W, w.alloc (.cells #[.int .i64 7, .int .i64 (n : Int)] 112) = W := ⟨_, rfl⟩
  have HB1 := Lib.hid (show Below w.heap.size w W1 by rw [← hW1]; exact below_all w _)
  have HX1 := Lib.hid (show BoxC W1 nb 112 #[.int .i64 7, .int .i64 (n : Int)] by rw [← hW1, ← hnb]; exact BoxC.new _ _ _)
  have x0 := HX1.out.cell 0
  have x1 := HX1.out.cell 1
  simp at x0 x1
  have hbl : b < W1.heap.size := by have := HX1.out.lt; rcases HND.out with h | ⟨b2, o2, e, hb, _⟩
                                    · subst h; simp at hi
                                    · injection e with e; injection e with e3 e4; subst e3; have := HB1.out.size; omega
  clear hnd hij
  go_enter Tryd.func90, Tryd.ntmps90
  go_wp2_with fail
  have HB1d := Lib.hid (show Below w.heap.size w W1.drew from HB1.out.drew)
  have HX1d := Lib.hid (show BoxC W1.drew nb 112 #[.int .i64 7, .int .i64 (n : Int)] from HX1.out)
  go_region_held3 (fun w' => w'.cell? ⟨nb, 1, none⟩ = some (.int .i64 (n : Int)))
    (first | (with_reducible exact HC2.out) | (with_reducible exact HC1.out) | (exact x1) | go_keep)
    (first
      | (go_at_call 90; (first | ((with_reducible refine (HR1.out _ HB1d.out).mono ?_); rintro e w8 ⟨rfl, b8⟩; have HB8 := Lib.hid (below_thenN HB1d.out b8); have HX8 := Lib.hid (HX1d.out.below b8); have HC1 := Lib.hid (show w8.cell? ⟨nb, 1, none⟩ = some (.int .i64 (n : Int)) from (HX8.out.cell 1)); clear b8) | ((with_reducible refine (HR1.out _ HB7.out).mono ?_); rintro e w9 ⟨rfl, b9⟩; have HB9 := Lib.hid (below_thenN HB7.out b9); have HX9 := Lib.hid (HX7.out.below b9); have HC2 := Lib.hid (show w9.cell? ⟨nb, 1, none⟩ = some (.int .i64 (n : Int)) from (HX9.out.cell 1)); clear b9)))
      | (go_at_call 108; (first | ((with_reducible refine (HNM.out W1.drew).mono ?_); rintro e w7 ⟨rfl, d7⟩; have HB7 := Lib.hid (HB1d.out.trans (d7.below _)); have HX7 := Lib.hid (HX1d.out.below (d7.below _)); have HC1 := Lib.hid (show w7.cell? ⟨nb, 1, none⟩ = some (.int .i64 (n : Int)) from (HX7.out.cell 1)); clear d7) | ((with_reducible refine (HNM.out w8).mono ?_); rintro e w9 ⟨rfl, d9⟩; have HB9 := Lib.hid (HB8.out.trans (d9.below _)); have HX9 := Lib.hid (HX8.out.below (d9.below _)); have HC2 := Lib.hid (show w9.cell? ⟨nb, 1, none⟩ = some (.int .i64 (n : Int)) from (HX9.out.cell 1)); clear d9))))
  rename_i hHeld
  clear hHeld
  go_wp2
  go_ret
  exact ⟨rfl, HB9.out⟩
theorem arity_kinds {k v : Int} {a : Nat} (h : arity k v = some a) : (a = 0 ∧ (k = 1 ∨ k = 2)) ∨ (a = 1 ∧ k = 7 ∧ 0 ≤ v ∧ v ≤ 9000) ∨ (a = 2 ∧ (k = 3 ∨ k = 4 ∨ k = 5 ∨ k = 6) ∧ v = 0) := by
  unfold arity at h
  (repeat' split at h) <;> first | (injection h with h; omega) | cases h
theorem ltext_any (a : Option Addr) (l : List Nd) (c : Nat) (hn : l.length ≤ 1048576) : ∀ (t : ET) (pre post : List Nd) (i : Nat), t.ok → l = pre ++ t.flat ++ post → i + 1 = pre.length + t.flat.length → t.flat.length ≤ 1000 → ∀ w : World, Nds w w.heap.size a l →
    Calls Tryd.prog 90 #[.slice a l.length c, .int .i64 (i : Int)] w fun e w' => e = .returned (.string (txtE t)) ∧ Below w.heap.size w w' := by
  intro t
  induction t with
  | n0 k v =>
    intro pre post i hok hl hi hf w hnd
    obtain ⟨hlt, hg⟩ := root_get hl hi
    obtain ⟨b, o, rfl, hb, q0, q1⟩ := hnd.at_ hlt
    rw [hg] at q0 q1
    exact text_leaf b o i l c k v w hok hlt q0 q1
  | n1 k v x ih =>
    intro pre post i hok hl hi hf w hnd
    obtain ⟨hlt, hg⟩ := root_get hl hi
    obtain ⟨b, o, rfl, hb, q0, q1⟩ := hnd.at_ hlt
    rw [hg] at q0 q1
    have hz := txtE_size x hok.2
    have hp := flat_pos x
    rcases arity_kinds hok.1 with ⟨h, _⟩ | ⟨_, rfl, v0, v9⟩ | ⟨h, _⟩
    · cases h
    · obtain ⟨n, rfl⟩ : ∃ n : Nat, v = (n : Int) := ⟨v.toNat, by omega⟩
      simp only [ET.flat, List.length_append, List.length_singleton] at hi hf
      obtain ⟨j, hj⟩ : ∃ j, i = j + 1 := ⟨i - 1, by omega⟩
      exact text_one b o i j n l c (txtE x) w hnd hlt hj hn (by omega) q0 q1 (fun W h => ih pre ((7, (n : Int)) :: post) j hok.2 (by rw [hl]; simp [ET.flat]) (by omega) (by omega) W h) (by omega)
    · cases h
  | n2 k v x y ih1 ih2 =>
    intro pre post i hok hl hi hf w hnd
    obtain ⟨hlt, hg⟩ := root_get hl hi
    obtain ⟨b, o, rfl, hb, q0, q1⟩ := hnd.at_ hlt
    rw [hg] at q0 q1
    have hzx := txtE_size x hok.2.1
    have hzy := txtE_size y hok.2.2
    have hpx := flat_pos x
    have hpy := flat_pos y
    rcases arity_kinds hok.1 with ⟨h, _⟩ | ⟨h, _⟩ | ⟨_, hk, rfl⟩
    · cases h
    · cases h
    · simp only [ET.flat, List.length_append, List.length_singleton] at hi hf
      obtain ⟨j, hj⟩ : ∃ j, i = j + 1 := ⟨i - 1, by omega⟩
      obtain ⟨s, hs⟩ : ∃ s, pre.length + x.flat.length = s + 1 := ⟨pre.length + x.flat.length - 1, by omega⟩
      have e2 : l = (pre ++ x.flat) ++ y.flat ++ ((k, 0) :: post) := by rw [hl]; simp [ET.flat]
      have hjj : j + 1 = (pre ++ x.flat).length + y.flat.length := by rw [List.length_append]; omega
      obtain ⟨hjl, hjg⟩ := root_get e2 hjj
      have hst := fun W h => start_any (some ⟨b, o, none⟩) l c hn y (pre ++ x.flat) ((k, 0) :: post) j hok.2.2 e2 hjj W h
      rw [List.length_append, hs] at hst
      have h9 := text_two k hk b o i j s l c (txtE x) (txtE y) y.kind y.val w hnd hlt hj hn (by omega) q0 q1 (by rw [List.getElem?_eq_getElem hjl, hjg]) hb
        (fun W h => ih2 (pre ++ x.flat) ((k, 0) :: post) j hok.2.2 e2 hjj (by omega) W h) hst
        (fun W h => ih1 pre (y.flat ++ (k, 0) :: post) s hok.2.1 (by rw [hl]; simp [ET.flat]) (by omega) (by omega) W h) (by omega) (by omega)
      have e9 : txtE (.n2 k 0 x y) = (if k = 5 then minS ++ txtE x ++ comS ++ txtE y ++ clsS else if k = 6 then maxS ++ txtE x ++ comS ++ txtE y ++ clsS else if k = 3 then txtE x ++ pluS ++ parS y.kind (txtE y) else txtE x ++ mnsS ++ parS y.kind (txtE y)) := by rw [txtE]
      rw [e9]
      exact h9
set_option maxRecDepth 100000 in
set_option maxHeartbeats 1000000 in
theorem specFmt_any (a : Option Addr) (l : List Nd) (c : Nat) (w : World) (hl : Nds w w.heap.size a l) (hn : l.length ≤ 1048576) :
    Calls Tryd.prog 37 #[.slice a l.length c] w fun e w' => e = .returned (.tuple #[.string (fmtR l), .bool (exprB l)]) ∧ Below w.heap.size w w' := by
  have HC := Lib.hid (fun W h => specExprGood_any a l c W h hn)
  have HL := Lib.hid hl
  have HE := Lib.hid (exprB_tree l)
  clear hl
  cases ht : treeT l with
  | none =>
    have hb : exprB l = false := by rw [HE.out, ht]; rfl
    have hd : fmtR l = ⟨#[]⟩ := by unfold fmtR; rw [ht]
    rw [hb] at HC ⊢
    rw [hd]
    clear hb hd ht
    go_enter Tryd.func37, Tryd.ntmps37
    go_wp2_with fail
    refine (HC.out _ HL.out).mono ?_
    rintro e w1 ⟨rfl, b1⟩
    have HB := Lib.hid b1
    clear b1
    go_wp2
    go_ret2
    exact ⟨rfl, HB.out⟩
  | some t =>
    have hb : exprB l = true := by rw [HE.out, ht]; rfl
    have hd : fmtR l = txtE t := by unfold fmtR; rw [ht]
    obtain ⟨h15, hf, hok⟩ := treeT_some ht
    have hp := flat_pos t
    rw [hf] at hp
    obtain ⟨j, hj⟩ : ∃ j, l.length = j + 1 := ⟨l.length - 1, by omega⟩
    have HD := Lib.hid (ltext_any a l c hn t [] [] j hok (by simp [hf]) (by rw [hf, hj]; simp) (by rw [hf]; omega))
    rw [hb] at HC ⊢
    rw [hd]
    have ej : (l.length : Int) - 1 = (j : Int) := by omega
    generalize txtE t = s at *
    clear hb hd ht hf hok hp hj
    go_enter Tryd.func37, Tryd.ntmps37
    go_wp2_with fail
    refine (HC.out _ HL.out).mono ?_
    rintro e w1 ⟨rfl, b1⟩
    have HB := Lib.hid b1
    clear b1
    go_wp2_with fail
    refine (HD.out _ (nds_below HL.out HB.out)).mono ?_
    rintro e w2 ⟨rfl, b2⟩
    have HB2 := Lib.hid (below_thenN HB.out b2)
    clear b2
    go_wp2
    go_ret2
    exact ⟨rfl, HB2.out⟩
end Go.Proofs.YtnomcnlmlignbaaDoor
