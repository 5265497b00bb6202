/- The laws' helpers on lists of fields: szFieldS, toFieldS, eqFieldS, markFieldS, heldFieldS. The value of a tree for fields, as a plain function. The model's Evaluate: l5Fields, l5Value, Evaluate. l5Value: the model's value of the expression that ends at a place. l5Value: a field. l5Value: a field that is not there. l5Value: a number. l5Value: above. l5Value: two arguments. l5Value over the whole tree; the model's Evaluate. The model's Evaluate. slices.Clone of a row of numbers. valueFor: what its cases share. valueFor: a field. valueFor: a field that is not there, a number. valueFor: a node with arguments. valueFor over the whole tree; the program's Evaluate. Evaluate's contracts in the order that the law's walk takes them. A law's answer: a field in a box of the law's own, its box and cells between two bounds. The walk of FnExactEvaluate. -/
import Derived.Test.YtdkffljnfemngabDoorFlds
import Derived.Laws.MakeOwn
import Derived.StillTailTactics
import Derived.Test.YtdkffljnfemngabDoorAlgMath
import Derived.Test.YtdkffljnfemngabDoorNodeMath
import Derived.Test.YtdkffljnfemngabDoorMake
import Derived.Test.YtdkffljnfemngabDoorNew
import Derived.Test.YtdkffljnfemngabDoorDepth
import Derived.Test.YtdkffljnfemngabDoorSet
import Derived.Test.YtdkffljnfemngabDoorAlgSpecOne
import Derived.Test.YtdkffljnfemngabDoorAlgSpecCombine
import Derived.Test.YtdkffljnfemngabDoorDepthImpl
import Derived.Test.YtdkffljnfemngabDoorAlgComb
import Derived.Test.YtdkffljnfemngabDoorAlgImpl
import Derived.Test.YtdkffljnfemngabDoorReplMath
import Derived.OwnWalk
import Derived.Maps.AppendAt
import Derived.Deep.AppendLies
import Derived.Test.YtdkffljnfemngabDoorExprLaw
import Derived.Test.YtdkffljnfemngabDoorShape
import Derived.Test.YtdkffljnfemngabDoorFr
namespace Go.Proofs.YtdkffljnfemngabDoor
open Go.RowKit
set_option linter.unusedVariables false
set_option linter.unusedSimpArgs false
def lenF (es : List FE) (k : Nat) : Nat := ((es.take k).map fun e => e.l.length).sum
def lenFs (es : List FE) : Nat := (es.map fun e => e.l.length).sum
theorem lenF_zero (es : List FE) : lenF es 0 = 0 := rfl
theorem lenF_step {es : List FE} {k : Nat} (h : k < es.length) : lenF es (k + 1) = lenF es k + es[k].l.length := by
  unfold lenF; rw [List.take_succ_eq_append_getElem h, List.map_append, List.sum_append]; simp
theorem lenF_all (es : List FE) : lenF es es.length = lenFs es := by simp [lenF, lenFs]
theorem lenF_le (es : List FE) (k : Nat) : lenF es k ≤ lenFs es := by
  unfold lenF lenFs
  conv => rhs; rw [← List.take_append_drop k es, List.map_append, List.sum_append]
  omega
/-- how many numbers stand ahead of field k when all are marked -/
def offF (es : List FE) (k : Nat) : Nat := 2 * k + lenF es k
theorem offF_step {es : List FE} {k : Nat} (h : k < es.length) : offF es (k + 1) = offF es k + 2 + es[k].l.length := by
  unfold offF; rw [lenF_step h]; omega
def szF (es : List FE) (left : Int) : Int := if ((es.length + lenFs es : Nat) : Int) ≤ left then left - ((es.length + lenFs es : Nat) : Int) else -1
theorem szF_over (es : List FE) (left : Int) (k : Nat) (h : left < (es.length : Int) + (lenF es k : Int)) : szF es left = -1 := by
  have := lenF_le es k
  exact if_neg (by omega)
theorem szF_fit (es : List FE) (left : Int) (h : (es.length : Int) + (lenFs es : Int) ≤ left) : szF es left = left - (es.length : Int) - (lenFs es : Int) := by
  unfold szF; rw [if_pos (by omega)]; omega
set_option maxHeartbeats 1000000 in
theorem szFields_any (a : Option Addr) (es : List FE) (c : Nat) (left : Int) (w : World) (hl : Flds w w.heap.size a es) (hn : es.length ≤ maxLen) (hs : ∀ e ∈ es, e.l.length ≤ maxLen) (h0 : 0 ≤ left) (h1 : left ≤ 1048576) :
    Calls Tryd.prog 16 #[.slice a es.length c, .int .i64 left] w fun e w' => e = .returned (.int .i64 (szF es left)) ∧ Below w.heap.size w w' := by
  have HL := Lib.hid hl
  have HSZ := Lib.hid hs
  clear hl hs
  by_cases hlen : left < (es.length : Int)
  · have HF := Lib.hid (szF_over es left 0 (by omega))
    unfold maxLen at hn
    go_enter Tryd.func16, Tryd.ntmps16
    go_wp2
    go_ret
    exact ⟨by rw [HF.out]; rfl, Below.refl _ _⟩
  · unfold maxLen at hn
    go_enter Tryd.func16, Tryd.ntmps16
    go_wp2
    go_loopw [1, 5] (fun r i wr => ∃ k : Nat, k ≤ es.length ∧ i = .int .i64 k ∧ r = .int .i64 (left - (es.length : Int) - (lenF es k : Int)) ∧ 0 ≤ left - (es.length : Int) - (lenF es k : Int) ∧ Below w.heap.size w wr) (fun _ i _ => es.length - (intOf i).toNat)
    case atStart => exact ⟨0, Nat.zero_le _, rfl, by simp [lenF], by simp [lenF]; omega, Below.refl _ _⟩
    case round =>
      obtain ⟨k, hk, rfl, rfl, hp, hB⟩ := hrel
      by_cases hlt : k < es.length
      · obtain ⟨b, o, rfl, hb, q0, q1, q2, _⟩ := (HL.out.below hB (Nat.le_refl _)).at_ hlt
        have HS := Lib.hid (lenF_step hlt)
        have hss := HSZ.out _ (List.getElem_mem hlt)
        have HO := Lib.hid (szF_over es left (k + 1))
        have HB := Lib.hid hB
        clear hB
        have hi : (k : Int) < (es.length : Int) := by omega
        have hi0 : (0 : Int) ≤ (k : Int) := by omega
        generalize lenF es k = s0 at *
        obtain ⟨r, hr⟩ : ∃ r, left - (es.length : Int) - (s0 : Int) = r := ⟨_, rfl⟩
        rw [hr] at hp ⊢
        have hr1 : r ≤ 1048576 := by omega
        have HR := Lib.hid hr
        clear hr
        have HC := Lib.hid (fun W => szField_any es[k].wd es[k].hg es[k].ad es[k].l.length es[k].c r W hss hp hr1)
        unfold maxLen at hss
        generalize es[k].wd = x0 at *
        generalize es[k].hg = x1 at *
        generalize es[k].ad = x2 at *
        generalize es[k].c = x3 at *
        generalize es[k].l.length = n at *
        by_cases hneg : (n : Int) ≤ r
        · simp only [if_pos hneg] at HC
          go_wp2_with fail
          refine (HC.out wr).mono ?_
          rintro e w1 ⟨rfl, b1⟩
          have HB1 := Lib.hid (HB.out.trans (b1.mono HB.out.size))
          clear b1 q0 q1 q2
          have h9 : ¬ r - (n : Int) < 0 := by omega
          go_wp2
          go_roundw
          case rel => exact ⟨k + 1, by omega, by go_num, by rw [HS.out, ← HR.out]; push_cast; congr 1; omega, by have := HS.out; have := HR.out; omega, HB1.out⟩
          case measure => simp [intOf]; omega
        · have hf := HO.out (by have := HS.out; have := HR.out; omega)
          have HF := Lib.hid hf
          clear hf
          simp only [if_neg hneg] at HC
          go_wp2_with fail
          refine (HC.out wr).mono ?_
          rintro e w1 ⟨rfl, b1⟩
          have HB1 := Lib.hid (HB.out.trans (b1.mono HB.out.size))
          clear b1 q0 q1 q2
          go_wp2
          go_ret
          exact ⟨by rw [HF.out]; rfl, HB1.out⟩
      · obtain rfl : k = es.length := by omega
        rw [lenF_all] at *
        have HF := Lib.hid (szF_fit es left (by omega))
        have HB := Lib.hid hB
        clear hB
        go_wp2
        go_ret
        exact ⟨by rw [HF.out]; rfl, HB.out⟩
theorem infoField : (Tryd.prog.info? 41).map (fun i => (i.zero, i.size, i.bytes)) = some (some (.agg #[.int .i64 0, .int .i64 0, .slice none 0 0]), 3, 40) := by kernel_rfl
theorem run_make_fields (n : Nat) (h : n ≤ 1048576) (W : World) :
    (Instr.makeSlice 45 (.int .i64 (n : Int)) (.int .i64 (n : Int))).run Tryd.prog W = .ok (.slice (some ⟨W.heap.size, 0, none⟩) n n) (W.alloc (.cells (madeCells #[.int .i64 0, .int .i64 0, .slice none 0 0] (n * 3)) 41)) := by
  obtain ⟨i, hi, hzz⟩ := Option.map_eq_some_iff.1 infoField
  simp only [Prod.mk.injEq] at hzz
  obtain ⟨hz, hs, hb⟩ := hzz
  have hr := run_make (P := Tryd.prog) W 45 41 i (.agg #[.int .i64 0, .int .i64 0, .slice none 0 0]) Tryd.underlying45 hi hz .i64 .i64 n n (by omega) (Int.le_refl _) (by rw [hb]; omega) (by omega)
  simp only [Int.toNat_natCast, hs] at hr
  exact hr
def zeroF : FE := ⟨0, 0, none, [], 0, 0⟩
theorem fvs_zero (n k : Nat) (h : k < n * 3) : (fvs (List.replicate n zeroF))[k]? = (#[Value.int .i64 0, .int .i64 0, .slice none 0 0] : Array Value)[k % 3]? := by
  have hl : (k / 3) < (List.replicate n zeroF).length := by rw [List.length_replicate]; omega
  have e := fvs_get (List.replicate n zeroF) (k / 3) hl
  rw [List.getElem_replicate] at e
  have hm : k % 3 = 0 ∨ k % 3 = 1 ∨ k % 3 = 2 := by omega
  rcases hm with hm | hm | hm
  · rw [show k = k / 3 * 3 by omega, e.1]; simp; rfl
  · rw [show k = k / 3 * 3 + 1 by omega, e.2.1, show (k / 3 * 3 + 1) % 3 = 1 by omega]; rfl
  · rw [show k = k / 3 * 3 + 2 by omega, e.2.2, show (k / 3 * 3 + 2) % 3 = 2 by omega]; rfl
theorem row_made_fields (n : Nat) (W : World) : Row (W.alloc (.cells (madeCells #[.int .i64 0, .int .i64 0, .slice none 0 0] (n * 3)) 41)) W.heap.size 41 (fvs (List.replicate n zeroF)) := by
  refine ⟨_, heap_alloc_new W _, fun k hk => ?_⟩
  have hk2 := hk
  rw [fvs_length, List.length_replicate] at hk2
  have e := fvs_zero n k hk2
  rw [List.getElem?_eq_getElem hk] at e
  rw [e]
  have hm : k % 3 = 0 ∨ k % 3 = 1 ∨ k % 3 = 2 := by omega
  rcases hm with hm | hm | hm <;> simp [madeCells, hk2, hm]
/-- the first fields copied, the others nothing -/
def mixF (es : List FE) (n : Nat) : List FE := es ++ List.replicate (n - es.length) zeroF
theorem mixF_len (es : List FE) (n : Nat) (h : es.length ≤ n) : (mixF es n).length = n := by simp [mixF]; omega
theorem mixF_step (es : List FE) (n : Nat) (e : FE) (h : es.length < n) : (mixF es n).set es.length e = mixF (es ++ [e]) n := by
  unfold mixF
  rw [List.set_append_right _ _ (Nat.le_refl _), Nat.sub_self, show n - es.length = (n - (es ++ [e]).length) + 1 by simp; omega, List.replicate_succ, List.set_cons_zero, List.append_assoc]
  rfl
theorem mixF_all (es : List FE) : mixF es es.length = es := by simp [mixF]
/-- es' reads as the first fields of es -/
def LikeF (es' es : List FE) : Prop := es'.length ≤ es.length ∧ ∀ j (h : j < es'.length) (h2 : j < es.length), es'[j].wd = es[j].wd ∧ es'[j].hg = es[j].hg ∧ es'[j].l = es[j].l ∧ es'[j].l.length ≤ es'[j].c
theorem LikeF.nil (es : List FE) : LikeF [] es := ⟨Nat.zero_le _, fun j h => by simp at h⟩
theorem LikeF.snoc {es' es : List FE} (h : LikeF es' es) (hlt : es'.length < es.length) {e : FE} (h1 : e.wd = es[es'.length].wd) (h2 : e.hg = es[es'.length].hg) (h3 : e.l = es[es'.length].l) (h4 : e.l.length ≤ e.c) : LikeF (es' ++ [e]) es := by
  refine ⟨by simp; omega, fun j h5 h6 => ?_⟩
  rw [List.length_append, List.length_singleton] at h5
  by_cases e1 : j < es'.length
  · rw [List.getElem_append_left e1]; exact h.2 j e1 h6
  · obtain rfl : j = es'.length := by omega
    rw [List.getElem_append_right (Nat.le_refl _)]
    simp only [Nat.sub_self, List.getElem_cons_zero]
    exact ⟨h1, h2, h3, h4⟩
theorem LikeF.plain {es' es : List FE} (h : LikeF es' es) (hl : es'.length = es.length) : es'.map FE.plain = es.map FE.plain := by
  refine List.ext_getElem (by simp [hl]) fun j h1 h2 => ?_
  rw [List.length_map] at h1 h2
  obtain ⟨e1, e2, e3, _⟩ := h.2 j h1 h2
  rw [List.getElem_map, List.getElem_map]
  unfold FE.plain
  rw [e1, e2, e3]
def ToFsPost (es : List FE) (w : World) (e : Ending) (w' : World) : Prop :=
  ∃ es', es'.length = es.length ∧ LikeF es' es ∧ e = .returned (.slice (some ⟨w.heap.size, 0, none⟩) es.length es.length) ∧ OwnFs w' w.heap.size w'.heap.size w.heap.size es' ∧ Below w.heap.size w w'
set_option maxRecDepth 100000 in
set_option maxHeartbeats 2000000 in
theorem toFields_any (a : Option Addr) (es : List FE) (c : Nat) (w : World) (hl : Flds w w.heap.size a es) (hn : es.length ≤ 1048576) (hs : ∀ e ∈ es, e.l.length ≤ 1048576) :
    Calls Tryd.prog 19 #[.slice a es.length c] w (ToFsPost es w) := by
  have HL := Lib.hid hl
  have HSZ := Lib.hid hs
  clear hl hs
  have hmk := fun W => run_make_fields es.length (by omega) W
  have HR0 := Lib.hid (row_made_fields es.length w)
  have hsz0 : ∀ o, (w.alloc o).heap.size = w.heap.size + 1 := fun o => by simp
  go_enter Tryd.func19, Tryd.ntmps19
  go_wp2
  clear hmk
  go_loopw [4] (fun i wr => ∃ (k : Nat) (es' : List FE), k ≤ es.length ∧ es'.length = k ∧ i = .int .i64 k ∧ LikeF es' es ∧ Row wr w.heap.size 41 (fvs (mixF es' es.length)) ∧ Fb wr (w.heap.size + 1) wr.heap.size es' ∧ w.heap.size + 1 ≤ wr.heap.size ∧ Below w.heap.size w wr) (fun i _ => es.length - (intOf i).toNat)
  case atStart => exact ⟨0, [], Nat.zero_le _, rfl, rfl, LikeF.nil _, by have := HR0.out; simpa [mixF] using this, Fb.nil, by rw [hsz0]; exact Nat.le_refl _, (Below.refl _ _).alloc (Nat.le_refl _) _⟩
  case round =>
    obtain ⟨k, es', hk, hk2, rfl, hlike, hrow, hfb, hsz, hB⟩ := hrel
    have HR := Lib.hid hrow
    have HB := Lib.hid hB
    have HK := Lib.hid hlike
    have HF := Lib.hid hfb
    by_cases hlt : k < es.length
    · obtain ⟨b, o, rfl, hb, q0, q1, q2, q3⟩ := (HL.out.below hB (Nat.le_refl _)).at_ hlt
      have hml := mixF_len es' es.length (by omega)
      have hnl := fvs_length (mixF es' es.length)
      obtain ⟨u0, hu0⟩ : ∃ u, wr.cell? ⟨w.heap.size, k * 3, none⟩ = some u := ⟨_, hrow.cell (k := k * 3) (by omega)⟩
      obtain ⟨u1, hu1⟩ : ∃ u, wr.cell? ⟨w.heap.size, k * 3 + 1, none⟩ = some u := ⟨_, hrow.cell (k := k * 3 + 1) (by omega)⟩
      obtain ⟨u2, hu2⟩ : ∃ u, wr.cell? ⟨w.heap.size, k * 3 + 2, none⟩ = some u := ⟨_, hrow.cell (k := k * 3 + 2) (by omega)⟩
      have f0 := hrow.frozen (k * 3)
      have f1 := hrow.frozen (k * 3 + 1)
      have f2 := hrow.frozen (k * 3 + 2)
      have hz := hrow.lt
      have HNS := Lib.hid (fun e => fvs_set (mixF es' es.length) k e (by omega))
      have HC := Lib.hid (fun W (h : Ints .i64 W W.heap.size (es[k]'hlt).ad (es[k]'hlt).l) => toField_any (es[k]'hlt).wd (es[k]'hlt).hg (es[k]'hlt).ad (es[k]'hlt).l (es[k]'hlt).c W h (HSZ.out _ (List.getElem_mem hlt)))
      have HI := Lib.hid (q3.more hB.size)
      clear hrow hB hml hnl q3 hlike hfb
      have hi : (k : Int) < (es.length : Int) := by omega
      have hi0 : (0 : Int) ≤ (k : Int) := by omega
      obtain ⟨E, hE⟩ : ∃ E, es[k] = E := ⟨_, rfl⟩
      rw [hE] at q0 q1 q2 HC HI
      have HE := Lib.hid hE
      clear hE
      go_wp2_with fail
      refine (HC.out wr HI.out).mono ?_
      rintro e w1 ⟨g, hg1, hg2, rfl, hat, b1⟩
      have hu0' : w1.cell? ⟨w.heap.size, k * 3, none⟩ = some u0 := (b1.cell (p := ⟨w.heap.size, k * 3, none⟩) hz).trans hu0
      have hu1' : w1.cell? ⟨w.heap.size, k * 3 + 1, none⟩ = some u1 := (b1.cell (p := ⟨w.heap.size, k * 3 + 1, none⟩) hz).trans hu1
      have hu2' : w1.cell? ⟨w.heap.size, k * 3 + 2, none⟩ = some u2 := (b1.cell (p := ⟨w.heap.size, k * 3 + 2, none⟩) hz).trans hu2
      have f0' : w1.frozen? ⟨w.heap.size, k * 3, none⟩ = false := (b1.frozen (p := ⟨w.heap.size, k * 3, none⟩) hz).trans f0
      have f1' : w1.frozen? ⟨w.heap.size, k * 3 + 1, none⟩ = false := (b1.frozen (p := ⟨w.heap.size, k * 3 + 1, none⟩) hz).trans f1
      have f2' : w1.frozen? ⟨w.heap.size, k * 3 + 2, none⟩ = false := (b1.frozen (p := ⟨w.heap.size, k * 3 + 2, none⟩) hz).trans f2
      have HR1 := Lib.hid (HR.out.of_block (b1.block w.heap.size hz))
      have HB1 := Lib.hid (HB.out.trans (b1.mono HB.out.size))
      have HF1 := Lib.hid (((HF.out.below b1 (Nat.le_refl _)).snoc (e := ⟨E.wd, E.hg, some ⟨g, 0, none⟩, E.l, E.l.length, g⟩) (by show w.heap.size + 1 ≤ g; omega) hg1 hat).more (Nat.le_refl _) (V := w1.heap.size) hg2)
      have hsz1 : w.heap.size + 1 ≤ w1.heap.size := by omega
      have HS := Lib.hid (mixF_step es' es.length ⟨E.wd, E.hg, some ⟨g, 0, none⟩, E.l, E.l.length, g⟩ (by omega))
      have HK1 := Lib.hid (HK.out.snoc (by omega) (e := ⟨E.wd, E.hg, some ⟨g, 0, none⟩, E.l, E.l.length, g⟩) (by have := HE.out; subst hk2; rw [this]) (by have := HE.out; subst hk2; rw [this]) (by have := HE.out; subst hk2; rw [this]) (Nat.le_refl _))
      have HNE := Lib.hid (HNS.out ⟨E.wd, E.hg, some ⟨g, 0, none⟩, E.l, E.l.length, g⟩)
      clear hu0 hu1 hu2 f0 f1 f2 b1 q0 q1 q2 hat HNS
      go_wp2
      go_roundw
      case rel =>
        refine ⟨k + 1, es' ++ [⟨E.wd, E.hg, some ⟨g, 0, none⟩, E.l, E.l.length, g⟩], by omega, by simp [hk2], by go_num, HK1.out, ?_, ?_, by simp [World.setCell]; omega, ((HB1.out.setCell (p := ⟨w.heap.size, k * 3, none⟩) (Nat.le_refl _) _).setCell (p := ⟨w.heap.size, k * 3 + 1, none⟩) (Nat.le_refl _) _).setCell (p := ⟨w.heap.size, k * 3 + 2, none⟩) (Nat.le_refl _) _⟩
        · have h := ((HR1.out.set (k * 3) (.int .i64 E.wd)).set (k * 3 + 1) (.int .i64 E.hg)).set (k * 3 + 2) (.slice (some ⟨g, 0, none⟩) E.l.length E.l.length)
          replace h := (congrArg (Row _ w.heap.size 41) HNE.out).mp h
          have h3 := HS.out
          rw [hk2] at h3
          rw [h3] at h
          exact h
        · have h4 := HF1.out.keep (w' := ((w1.setCell ⟨w.heap.size, k * 3, none⟩ (.int .i64 E.wd)).setCell ⟨w.heap.size, k * 3 + 1, none⟩ (.int .i64 E.hg)).setCell ⟨w.heap.size, k * 3 + 2, none⟩ (.slice (some ⟨g, 0, none⟩) E.l.length E.l.length)) (fun i h1 _ _ => by
            rw [Below.heap_setCell _ _ _ _ (by show i ≠ w.heap.size; omega), Below.heap_setCell _ _ _ _ (by show i ≠ w.heap.size; omega), Below.heap_setCell _ _ _ _ (by show i ≠ w.heap.size; omega)])
          exact h4.more (Nat.le_refl _) (by simp [World.setCell])
      case measure => simp [intOf]; omega
    · obtain rfl : k = es.length := by omega
      have hm := mixF_all es'
      rw [hk2] at hm
      rw [hm] at HR
      have hz := hrow.lt
      clear hrow hB hlike hfb hm
      go_wp2
      go_ret
      exact ⟨es', hk2, HK.out, rfl, ⟨HR.out, Nat.le_refl _, hz, HF.out.more (Nat.le_succ _) (Nat.le_refl _), fun j hj => by have := (HF.out.row j hj).1; omega⟩, HB.out⟩
set_option maxRecDepth 100000 in
set_option maxHeartbeats 1000000 in
theorem eqFields_yes (a a' : Option Addr) (es es' : List FE) (c c' : Nat) (w : World) (hl : Flds w w.heap.size a es) (hl' : Flds w w.heap.size a' es') (hk : es'.map FE.plain = es.map FE.plain) (hn : es.length ≤ 1048576) (hs : ∀ e ∈ es, e.l.length ≤ 1048576) :
    Calls Tryd.prog 23 #[.slice a es.length c, .slice a' es'.length c'] w fun e w' => e = .returned (.bool true) ∧ Below w.heap.size w w' := by
  have HL := Lib.hid hl
  have HL' := Lib.hid hl'
  have HSZ := Lib.hid hs
  have hlen : es'.length = es.length := by have := congrArg List.length hk; simpa using this
  have HPL := Lib.hid (fun j (h1 : j < es'.length) (h2 : j < es.length) => show es'[j].plain = es[j].plain by
    have := List.getElem_of_eq hk (by rw [List.length_map]; exact h1)
    simpa using this)
  clear hl hl' hs hk
  rw [hlen]
  go_enter Tryd.func23, Tryd.ntmps23
  go_wp2
  go_loopw [5] (fun i wr => ∃ k : Nat, k ≤ es.length ∧ i = .int .i64 k ∧ Below w.heap.size w wr) (fun i _ => es.length - (intOf i).toNat)
  case atStart => exact ⟨0, Nat.zero_le _, rfl, Below.refl _ _⟩
  case round =>
    obtain ⟨k, hk, rfl, hB⟩ := hrel
    have HB := Lib.hid hB
    by_cases hlt : k < es.length
    · obtain ⟨b, o, rfl, hb, q0, q1, q2, q3⟩ := (HL.out.below hB (Nat.le_refl _)).at_ hlt
      obtain ⟨b', o', rfl, hb', p0, p1, p2, p3⟩ := (HL'.out.below hB (Nat.le_refl _)).at_ (j := k) (by omega)
      have hpl := HPL.out k (by omega) hlt
      unfold FE.plain at hpl
      simp only [Prod.mk.injEq] at hpl
      obtain ⟨e1, e2, e3⟩ := hpl
      rw [e1] at p0
      rw [e2] at p1
      rw [e3] at p2 p3
      have HI := Lib.hid (q3.more hB.size)
      have HI' := Lib.hid (p3.more hB.size)
      have hk2 : k < es'.length := by omega
      have HC := Lib.hid (fun W (h : Ints .i64 W W.heap.size (es[k]'hlt).ad (es[k]'hlt).l) (h' : Ints .i64 W W.heap.size (es'[k]'hk2).ad (es[k]'hlt).l) => eqField_yes (es[k]'hlt).wd (es[k]'hlt).hg (es[k]'hlt).ad (es'[k]'hk2).ad (es[k]'hlt).l (es[k]'hlt).c (es'[k]'hk2).c W h h' (HSZ.out _ (List.getElem_mem hlt)))
      clear hB q3 p3 e1 e2 e3
      have hi : (k : Int) < (es.length : Int) := by omega
      have hi0 : (0 : Int) ≤ (k : Int) := by omega
      generalize es[k].wd = x0 at *
      generalize es[k].hg = x1 at *
      generalize es[k].ad = x2 at *
      generalize es[k].c = x3 at *
      generalize es[k].l = x4 at *
      generalize es'[k].ad = y2 at *
      generalize es'[k].c = y3 at *
      generalize hln : x4.length = n at *
      have HLN := Lib.hid hln
      clear hln
      go_wp2_with fail
      go_still_tail 8, (by kernel_rfl)
      change wpList _ _ _ _ _ wr.drew
      have HB1 := Lib.hid (HB.out.drew)
      have HJ := Lib.hid (ints_below HI.out (w' := wr.drew) ⟨rfl, rfl, rfl, Nat.le_refl _, fun _ _ => rfl⟩)
      have HJ' := Lib.hid (ints_below HI'.out (w' := wr.drew) ⟨rfl, rfl, rfl, Nat.le_refl _, fun _ _ => rfl⟩)
      generalize wr.drew = w2 at *
      go_wp2_with fail
      refine (HC.out w2 HJ.out HJ'.out).mono ?_
      rintro e w3 ⟨rfl, b3⟩
      have HB3 := Lib.hid (HB1.out.trans (b3.mono HB1.out.size))
      clear b3
      go_wp2
      go_roundw
      case rel => exact ⟨k + 1, by omega, by go_num, HB3.out⟩
      case measure => simp [intOf]; omega
    · have hge : (es.length : Int) ≤ (k : Int) := by omega
      go_wp2
      go_ret
      exact ⟨rfl, HB.out⟩
/-- a field marked with numbers from k on -/
def FE.mark (e : FE) (k : Int) : FE := ⟨k, k + 1, e.ad, marks (k + 2) e.l.length, e.c, e.g⟩
def partF (k0 : Int) (es : List FE) (k : Nat) : List FE := es.mapIdx fun j e => if j < k then e.mark (k0 + (offF es j : Int)) else e
theorem partF_len (k0 : Int) (es : List FE) (k : Nat) : (partF k0 es k).length = es.length := by simp [partF]
theorem partF_get {k0 : Int} {es : List FE} {k j : Nat} (h : j < (partF k0 es k).length) (h2 : j < es.length) : (partF k0 es k)[j] = if j < k then es[j].mark (k0 + (offF es j : Int)) else es[j] := by
  simp [partF]
theorem partF_g {k0 : Int} {es : List FE} {k j : Nat} (h : j < (partF k0 es k).length) : (partF k0 es k)[j].g = (es[j]'(by rwa [partF_len] at h)).g := by
  rw [partF_get h (by rwa [partF_len] at h)]
  split <;> rfl
theorem partF_zero (k0 : Int) (es : List FE) : partF k0 es 0 = es := by
  refine List.ext_getElem (partF_len _ _ _) fun j h1 h2 => ?_
  rw [partF_get h1 h2, if_neg (by omega)]
theorem partF_step {k0 : Int} {es : List FE} {k : Nat} (h : k < es.length) : (partF k0 es k).set k (es[k].mark (k0 + (offF es k : Int))) = partF k0 es (k + 1) := by
  refine List.ext_getElem (by rw [List.length_set, partF_len, partF_len]) fun j h1 h2 => ?_
  have h3 : j < es.length := by rwa [partF_len] at h2
  rw [List.getElem_set]
  by_cases e : k = j
  · subst e
    rw [if_pos rfl, partF_get h2 h3, if_pos (by omega)]
  · rw [if_neg e, partF_get (by rw [partF_len]; exact h3) h3, partF_get h2 h3]
    by_cases e2 : j < k
    · rw [if_pos e2, if_pos (by omega)]
    · rw [if_neg e2, if_neg (by omega)]
theorem fvs_set2 (l : List FE) (k : Nat) (e : FE) (h : k < l.length) (h1 : e.ad = l[k].ad) (h2 : e.l.length = l[k].l.length) (h3 : e.c = l[k].c) : ((fvs l).set (k * 3) (.int .i64 e.wd)).set (k * 3 + 1) (.int .i64 e.hg) = fvs (l.set k e) := by
  rw [← fvs_set l k e h]
  have hl := fvs_length l
  have e3 := (fvs_get l k h).2.2
  refine (List.ext_getElem (by simp) fun j j1 j2 => ?_).symm
  rw [List.getElem_set]
  split
  · rename_i ej
    subst ej
    rw [List.getElem_set_ne (by omega), List.getElem_set_ne (by omega), h1, h2, h3]
    rw [List.getElem?_eq_getElem (by omega)] at e3
    injection e3 with e3
    exact e3.symm
  · rfl
theorem fld_ne_ints {w : World} {g g' : Nat} {vs us : List Value} (h : Row w g 41 vs) (h' : Row w g' 3 us) : g ≠ g' := by
  rintro rfl
  obtain ⟨c1, hc1, _⟩ := h
  obtain ⟨c2, hc2, _⟩ := h'
  rw [hc2] at hc1
  injection hc1 with hc1
  injection hc1 with _ hty
  exact absurd hty (by decide)
set_option maxRecDepth 100000 in
set_option maxHeartbeats 2000000 in
theorem markFields_any (es : List FE) (c B U g : Nat) (k0 : Int) (w : World) (h : OwnFs w B U g es) (hn : es.length ≤ 1048576) (hs : ∀ e ∈ es, e.l.length ≤ 1048576) (h0 : 0 ≤ k0) (h1 : k0 + (offF es es.length : Int) ≤ 8388608) :
    Calls Tryd.prog 25 #[.slice (some ⟨g, 0, none⟩) es.length c, .int .i64 k0] w fun e w' => e = .returned (.int .i64 (k0 + (offF es es.length : Int))) ∧ OwnFs w' B U g (partF k0 es es.length) ∧ Below B w w' ∧ ∀ i, U ≤ i → i < w.heap.size → w'.heap[i]? = w.heap[i]? := by
  have HT := Lib.hid h
  have HLE := Lib.hid (lenF_le es)
  have HSZ := Lib.hid hs
  have hall := lenF_all es
  have hoff : offF es es.length = 2 * es.length + lenFs es := by unfold offF; rw [hall]
  clear h hs
  go_enter Tryd.func25, Tryd.ntmps25
  go_wp2
  go_loopw [1, 5] (fun q i wr => ∃ k : Nat, k ≤ es.length ∧ i = .int .i64 k ∧ q = .int .i64 (k0 + (offF es k : Int)) ∧ OwnFs wr B U g (partF k0 es k) ∧ Below B w wr ∧ ∀ i, U ≤ i → i < w.heap.size → wr.heap[i]? = w.heap[i]?) (fun _ i _ => es.length - (intOf i).toNat)
  case atStart => exact ⟨0, Nat.zero_le _, rfl, by simp [offF, lenF], by rw [partF_zero]; exact HT.out, Below.refl _ _, fun _ _ _ => rfl⟩
  case round =>
    obtain ⟨k, hk, rfl, rfl, ht, hB, hA⟩ := hrel
    have HA := Lib.hid hA
    clear hA
    have hle := HLE.out k
    have hok : offF es k = 2 * k + lenF es k := rfl
    by_cases hlt : k < es.length
    · have hi : (k : Int) < (es.length : Int) := by omega
      have hi0 : (0 : Int) ≤ (k : Int) := by omega
      have hkp : k < (partF k0 es k).length := by rw [partF_len]; exact hlt
      obtain ⟨hb1, hb2, hat⟩ := ht.f.row k hkp
      have hgk : (partF k0 es k)[k] = es[k] := by rw [partF_get hkp hlt, if_neg (by omega)]
      rw [hgk] at hb1 hb2 hat
      have hnl := fvs_length (partF k0 es k)
      have hget := fvs_get (partF k0 es k) k hkp
      rw [hgk, List.getElem?_eq_getElem (by omega), List.getElem?_eq_getElem (by omega), List.getElem?_eq_getElem (by omega)] at hget
      obtain ⟨hv0, hv1, hv2⟩ := hget
      injection hv0 with hv0
      injection hv1 with hv1
      injection hv2 with hv2
      have q0 := ht.r.cell (k := k * 3) (by omega)
      have q1 := ht.r.cell (k := k * 3 + 1) (by omega)
      have q2 := ht.r.cell (k := k * 3 + 2) (by omega)
      rw [hv0] at q0
      rw [hv1] at q1
      rw [hv2] at q2
      have f0 := ht.r.frozen (k * 3)
      have f1 := ht.r.frozen (k * 3 + 1)
      obtain ⟨m, hm⟩ : ∃ m, k0 + (offF es k : Int) = m := ⟨_, rfl⟩
      have hstep := offF_step hlt
      have hle2 := HLE.out (k + 1)
      have hok2 : offF es (k + 1) = 2 * (k + 1) + lenF es (k + 1) := rfl
      have hmb : 0 ≤ m ∧ m ≤ 8388608 := by omega
      have HST := Lib.hid (partF_step (k0 := k0) hlt)
      rw [hm] at HST
      have HNS := Lib.hid (fvs_set2 (partF k0 es k) k (es[k].mark m) hkp (by rw [hgk]; rfl) (by rw [hgk]; simp [FE.mark, marks_length]) (by rw [hgk]; rfl))
      have HLN := Lib.hid (HSZ.out _ (List.getElem_mem hlt))
      have HM := Lib.hid (fun W (h : At W (es[k]'hlt).ad (es[k]'hlt).g (es[k]'hlt).l) => markIntsW_any (es[k]'hlt).ad (es[k]'hlt).l (es[k]'hlt).c (es[k]'hlt).g (m + 1 + 1) W h HLN.out (by omega) (by omega))
      have HTT := Lib.hid ht
      have HB := Lib.hid hB
      have HRE := Lib.hid (show m + 1 + 1 + (es[k].l.length : Int) = k0 + (offF es (k + 1) : Int) by rw [hstep]; push_cast; omega)
      have HGK := Lib.hid hgk
      have HAT := Lib.hid hat
      have hEmark : (es[k].mark m).wd = m ∧ (es[k].mark m).hg = m + 1 ∧ (es[k].mark m).l = marks (m + 1 + 1) es[k].l.length := ⟨rfl, rfl, by show marks (m + 2) _ = _; rw [show m + 2 = m + 1 + 1 by omega]⟩
      have HEM := Lib.hid hEmark
      have s1 : wrap64 (m + 1) = m + 1 := IntWalk.wrap64_in _ (by omega)
      have s2 : wrap64 (m + 1 + 1) = m + 1 + 1 := IntWalk.wrap64_in _ (by omega)
      have HMM := Lib.hid hm
      rw [hm]
      obtain ⟨E, hE⟩ : ∃ E, es[k] = E := ⟨_, rfl⟩
      rw [hE] at q0 q1 q2
      have HE := Lib.hid hE
      clear ht hB hat hgk hEmark hm hstep hle hle2 hok hok2 hv0 hv1 hv2 hE hnl
      have hgne : ∀ W, Row W E.g 3 (iv E.l) → True := fun _ _ => trivial
      go_wp2_with fail
      have HE2 := HE.out
      rw [HE2] at HM HAT HEM HRE HNS HST
      have HATW := Lib.hid (show At ((wr.setCell ⟨g, k * 3, none⟩ (.int .i64 m)).setCell ⟨g, k * 3 + 1, none⟩ (.int .i64 (m + 1))) E.ad E.g E.l from by
        rcases HAT.out with e | ⟨e1, e2⟩
        · exact .inl e
        · have hne := fld_ne_ints HTT.out.r e2
          exact .inr ⟨e1, (e2.other (fun e => hne e.symm) _).other (fun e => hne e.symm) _⟩)
      refine (HM.out _ HATW.out).mono ?_
      rintro e w2 ⟨rfl, hat, ho⟩
      have hgE : g ≠ E.g := by
        have h := HTT.out.n k (by rw [partF_len]; exact hlt)
        rw [HGK.out, HE2] at h
        exact fun e => h e.symm
      have T2 : OwnFs w2 B U g (partF k0 es (k + 1)) := by
        have hgl : g < wr.heap.size := HTT.out.r.lt
        have R1 : Row ((wr.setCell ⟨g, k * 3, none⟩ (.int .i64 m)).setCell ⟨g, k * 3 + 1, none⟩ (.int .i64 (m + 1))) g 41 (fvs (partF k0 es (k + 1))) := by
          have h := (HTT.out.r.set (k * 3) (.int .i64 m)).set (k * 3 + 1) (.int .i64 (m + 1))
          have h2 := HNS.out
          rw [HEM.out.1, HEM.out.2.1] at h2
          rw [h2, HST.out] at h
          exact h
        have hsz : ∀ i, i < wr.heap.size → i < ((wr.setCell ⟨g, k * 3, none⟩ (.int .i64 m)).setCell ⟨g, k * 3 + 1, none⟩ (.int .i64 (m + 1))).heap.size := fun i h => by simpa using h
        refine ⟨R1.of_block (ho.1.block g (hsz g hgl) (by intro e; injection e with e; exact hgE e)), HTT.out.b, HTT.out.u, ⟨fun j j1 => ?_, fun i j i1 j1 hne => ?_⟩, fun j j1 => ?_⟩
        · have j3 : j < es.length := by rwa [partF_len] at j1
          obtain ⟨p1, p2, p3⟩ := HTT.out.f.row j (by rw [partF_len]; exact j3)
          by_cases ej : j = k
          · subst ej
            rw [partF_get j1 j3, if_pos (by omega), HMM.out, HE2]
            rw [HGK.out, HE2] at p1 p2
            exact ⟨p1, p2, by rw [HEM.out.2.2]; exact hat⟩
          · have hn1 := HTT.out.f.ne j k (by rw [partF_len]; exact j3) (by rw [partF_len]; exact hlt) ej
            have hn2 := HTT.out.n j (by rw [partF_len]; exact j3)
            rw [HGK.out, HE2] at hn1
            have hst2 : (partF k0 es (k + 1))[j] = (partF k0 es k)[j]'(by rw [partF_len]; exact j3) := by
              rw [partF_get j1 j3, partF_get (by rw [partF_len]; exact j3) j3]
              by_cases ej2 : j < k
              · rw [if_pos ej2, if_pos (by omega)]
              · rw [if_neg ej2, if_neg (by omega)]
            rw [hst2]
            refine ⟨p1, p2, p3.keep fun hl => ?_⟩
            rw [ho.1.block _ (hsz _ hl) (by intro e; injection e with e; exact hn1 e), Below.heap_setCell _ _ _ _ hn2, Below.heap_setCell _ _ _ _ hn2]
        · have i3 : i < es.length := by rwa [partF_len] at i1
          have j3 : j < es.length := by rwa [partF_len] at j1
          have h := HTT.out.f.ne i j (by rw [partF_len]; exact i3) (by rw [partF_len]; exact j3) hne
          rw [partF_g, partF_g] at h ⊢
          exact h
        · have j3 : j < es.length := by rwa [partF_len] at j1
          have h := HTT.out.n j (by rw [partF_len]; exact j3)
          rw [partF_g] at h ⊢
          exact h
      have HT2 := Lib.hid T2
      have HB2 := Lib.hid (((HB.out.setCell (p := ⟨g, k * 3, none⟩) HTT.out.b (.int .i64 m)).setCell (p := ⟨g, k * 3 + 1, none⟩) HTT.out.b (.int .i64 (m + 1))).trans (ho.below (by have := hb1; rw [HE2] at this; exact this)))
      have HA2 := Lib.hid (fun i (h1 : U ≤ i) (h2 : i < w.heap.size) => show w2.heap[i]? = w.heap[i]? by
        have hsz : i < wr.heap.size := Nat.lt_of_lt_of_le h2 HB.out.size
        have hu := HTT.out.u
        have hb2' : E.g < U := by have := hb2; rw [HE2] at this; exact this
        rw [ho.1.block i (by simpa using hsz) (by intro e; injection e with e; omega), Below.heap_setCell _ _ _ _ (by show i ≠ g; omega), Below.heap_setCell _ _ _ _ (by show i ≠ g; omega)]
        exact HA.out i h1 h2)
      clear hat T2 ho HTT HB q0 q1 q2 f0 f1 hgE
      go_wp2
      go_roundw
      case rel => exact ⟨k + 1, by omega, by go_num, by rw [← HRE.out], HT2.out, HB2.out, HA2.out⟩
      case measure => simp [intOf]; omega
    · obtain rfl : k = es.length := by omega
      have HTT := Lib.hid ht
      have HB := Lib.hid hB
      clear ht hB
      go_wp2
      go_ret
      exact ⟨rfl, HTT.out, HB.out, HA.out⟩
theorem le_lenFs {es : List FE} : ∀ e ∈ es, e.l.length ≤ lenFs es := by
  induction es with
  | nil => intro e h; simp at h
  | cons x r ih =>
    intro e h
    have h9 : lenFs (x :: r) = x.l.length + lenFs r := rfl
    rcases List.mem_cons.1 h with rfl | h
    · omega
    · have := ih e h; omega
theorem lenFs_plain {es es' : List FE} (h : es'.map FE.plain = es.map FE.plain) : lenFs es' = lenFs es := by
  have key : ∀ l : List FE, lenFs l = ((l.map FE.plain).map fun p => p.2.2.length).sum := by intro l; unfold lenFs; rw [List.map_map]; rfl
  rw [key, key, h]
theorem offF_all (es : List FE) : offF es es.length = 2 * es.length + lenFs es := by unfold offF; rw [lenF_all]
theorem eqFields_n (a a' : Option Addr) (es es' : List FE) (n c c' : Nat) (w : World) (hl : Flds w w.heap.size a es) (hl' : Flds w w.heap.size a' es') (h1 : es.length = n) (hk : es'.map FE.plain = es.map FE.plain) (hn : n ≤ 1048576) (hs : lenFs es ≤ 1048576) :
    Calls Tryd.prog 23 #[.slice a n c, .slice a' n c'] w fun e w' => e = .returned (.bool true) ∧ Below w.heap.size w w' := by
  have hlen : es'.length = es.length := by have := congrArg List.length hk; simpa using this
  have h := eqFields_yes a a' es es' c c' w hl hl' hk (by omega) (fun e he => Nat.le_trans (le_lenFs e he) hs)
  rw [hlen, h1] at h
  exact h
theorem markFields_n (es : List FE) (n c B U g : Nat) (k0 : Int) (w : World) (h : OwnFs w B U g es) (h1 : es.length = n) (hn : n ≤ 1048576) (hs : lenFs es ≤ 1048576) (h0 : 0 ≤ k0) (h2 : k0 ≤ 4194304) :
    Calls Tryd.prog 25 #[.slice (some ⟨g, 0, none⟩) n c, .int .i64 k0] w fun e w' => e = .returned (.int .i64 (k0 + ((2 * n + lenFs es : Nat) : Int))) ∧ OwnFs w' B U g (partF k0 es es.length) ∧ Below B w w' ∧ ∀ i, U ≤ i → i < w.heap.size → w'.heap[i]? = w.heap[i]? := by
  subst h1
  have h3 := offF_all es
  have h4 := markFields_any es c B U g k0 w h hn (fun e he => Nat.le_trans (le_lenFs e he) hs) h0 (by omega)
  generalize offF es es.length = x at *
  subst h3
  exact h4
end Go.Proofs.YtdkffljnfemngabDoor
namespace Go.Proofs.YtdkffljnfemngabDoor
abbrev Fv := Int × Int × List Int
def evalT (fs : List Fv) : ET → Option Fv
  | .n0 k v => if k = 1 then fs[v.toNat]? else newR (fs.headD (0, 0, [])).1 (fs.headD (0, 0, [])).2.1 v
  | .n1 _ v x => (evalT fs x).bind fun f => exceedsR f.1 f.2.1 f.2.2 v
  | .n2 k _ x y => (evalT fs x).bind fun a => (evalT fs y).bind fun b => combineR (k - 2) a.1 a.2.1 a.2.2 b.1 b.2.1 b.2.2
theorem arity0 {k v : Int} (h : arity k v = some 0) : (k = 1 ∧ 0 ≤ v ∧ v ≤ 3) ∨ (k = 2 ∧ 0 ≤ v ∧ v ≤ 9000) := by
  unfold arity at h
  repeat' split at h
  all_goals first | omega | (exfalso; simp at h)
theorem arity1 {k v : Int} (h : arity k v = some 1) : k = 7 ∧ 0 ≤ v ∧ v ≤ 9000 := by
  unfold arity at h
  repeat' split at h
  all_goals first | omega | (exfalso; simp at h)
theorem arity2 {k v : Int} (h : arity k v = some 2) : 3 ≤ k ∧ k ≤ 6 ∧ v = 0 := by
  unfold arity at h
  repeat' split at h
  all_goals first | omega | (exfalso; simp at h)
/-- all valid, of the sizes given -/
def allF (wd hg : Int) (fs : List Fv) : Prop := ∀ f ∈ fs, f.1 = wd ∧ f.2.1 = hg ∧ goodB wd hg f.2.2 = true
theorem combine_good {op wa ha wb hb : Int} {la lb : List Int} {r : Fv} (h : combineR op wa ha la wb hb lb = some r) : r.1 = wa ∧ r.2.1 = ha ∧ goodB wa ha r.2.2 = true := by
  unfold combineR at h
  split at h
  · cases hs : sameB wa ha la wb hb lb with
    | false => rw [combR_no hs] at h; cases h
    | true =>
      rw [combR_yes hs] at h
      cases hg : goodB wa ha (zipR (ofV (opF op)) la lb) with
      | false => rw [cellsR_no hg] at h; cases h
      | true => rw [cellsR_yes hg] at h; injection h with h; subst h; exact ⟨rfl, rfl, hg⟩
  · cases h
theorem exceeds_is {wd hg : Int} {l : List Int} (v : Int) (h : goodB wd hg l = true) : exceedsR wd hg l v = some (wd, hg, zipR (ofV fun a _ => exF v a) l l) ∧ goodB wd hg (zipR (ofV fun a _ => exF v a) l l) = true := by
  have hs := same_yes h h
  have hc := one_cell (exF_bd v)
  exact ⟨comb_cells hc hs, zip_cells hc hs⟩
theorem eval_good {fs : List Fv} {wd hg : Int} (hn : fs ≠ []) (hf : allF wd hg fs) : ∀ (t : ET), t.ok → ∀ r, evalT fs t = some r → r.1 = wd ∧ r.2.1 = hg ∧ goodB wd hg r.2.2 = true := by
  obtain ⟨f0, fr, rfl⟩ := List.exists_cons_of_ne_nil hn
  intro t
  induction t with
  | n0 k v =>
    intro hok r h
    unfold evalT at h
    by_cases hk : k = 1
    · rw [if_pos hk] at h
      exact hf r (List.mem_of_getElem? h)
    · rw [if_neg hk] at h
      have h0 := hf f0 (by simp)
      simp only [List.headD_cons] at h
      unfold newR at h
      split at h
      · rename_i hc
        injection h with h
        subst h
        rw [h0.1, h0.2.1]
        simp only [Bool.and_eq_true] at hc
        rw [h0.1, h0.2.1] at hc
        refine ⟨rfl, rfl, ?_⟩
        have hl := good_len h0.2.2
        unfold goodB
        simp only [Bool.and_eq_true, decide_eq_true_eq, List.length_replicate, List.all_eq_true]
        refine ⟨⟨hc.1, by omega⟩, fun z hz => ?_⟩
        rw [List.mem_replicate] at hz
        rw [hz.2]; exact hc.2
      · cases h
  | n1 k v x ih =>
    intro hok r h
    unfold evalT at h
    rw [Option.bind_eq_some_iff] at h
    obtain ⟨f, h1, h2⟩ := h
    obtain ⟨g1, g2, g3⟩ := ih hok.2 f h1
    rw [g1, g2, (exceeds_is v g3).1] at h2
    injection h2 with h2
    subst h2
    exact ⟨rfl, rfl, (exceeds_is v g3).2⟩
  | n2 k v x y ih1 ih2 =>
    intro hok r h
    unfold evalT at h
    rw [Option.bind_eq_some_iff] at h
    obtain ⟨a, h1, h2⟩ := h
    rw [Option.bind_eq_some_iff] at h2
    obtain ⟨b, h3, h4⟩ := h2
    obtain ⟨g1, g2, g3⟩ := ih1 hok.2.1 a h1
    have h5 := combine_good h4
    rw [g1, g2] at h5
    exact h5
/-- what Evaluate answers -/
def fieldsB (fs : List Fv) : Bool := decide (1 ≤ fs.length) && decide (fs.length ≤ 4) && fs.all fun f => sameB f.1 f.2.1 f.2.2 (fs.headD (0, 0, [])).1 (fs.headD (0, 0, [])).2.1 (fs.headD (0, 0, [])).2.2
theorem fieldsB_iff {fs : List Fv} : fieldsB fs = true ↔ (1 ≤ fs.length ∧ fs.length ≤ 4) ∧ ∀ f ∈ fs, sameB f.1 f.2.1 f.2.2 (fs.headD (0, 0, [])).1 (fs.headD (0, 0, [])).2.1 (fs.headD (0, 0, [])).2.2 = true := by
  unfold fieldsB; simp
theorem fieldsB_short {fs : List Fv} (h : fs.length < 1 ∨ 4 < fs.length) : fieldsB fs = false := by
  cases hb : fieldsB fs with
  | false => rfl
  | true => have := (fieldsB_iff.1 hb).1; omega
theorem fieldsB_bad {fs : List Fv} {j : Nat} (hj : j < fs.length) (h : sameB fs[j].1 fs[j].2.1 fs[j].2.2 (fs.headD (0, 0, [])).1 (fs.headD (0, 0, [])).2.1 (fs.headD (0, 0, [])).2.2 = false) : fieldsB fs = false := by
  cases hb : fieldsB fs with
  | false => rfl
  | true => have := (fieldsB_iff.1 hb).2 _ (List.getElem_mem hj); rw [h] at this; cases this
theorem fieldsB_all {fs : List Fv} (h : ∀ j (hj : j < fs.length), sameB fs[j].1 fs[j].2.1 fs[j].2.2 (fs.headD (0, 0, [])).1 (fs.headD (0, 0, [])).2.1 (fs.headD (0, 0, [])).2.2 = true) : fieldsB fs = (decide (1 ≤ fs.length) && decide (fs.length ≤ 4)) := by
  unfold fieldsB
  have : (fs.all fun f => sameB f.1 f.2.1 f.2.2 (fs.headD (0, 0, [])).1 (fs.headD (0, 0, [])).2.1 (fs.headD (0, 0, [])).2.2) = true := by
    rw [List.all_eq_true]
    intro f hf
    obtain ⟨j, hj, rfl⟩ := List.getElem_of_mem hf
    exact h j hj
  rw [this, Bool.and_true]
theorem fields_allF {fs : List Fv} (h : fieldsB fs = true) : fs ≠ [] ∧ allF (fs.headD (0, 0, [])).1 (fs.headD (0, 0, [])).2.1 fs := by
  obtain ⟨⟨h1, _⟩, h2⟩ := fieldsB_iff.1 h
  refine ⟨by rintro rfl; simp at h1, fun f hf => ?_⟩
  obtain ⟨g1, g2, g3, g4⟩ := same_iff.1 (h2 f hf)
  exact ⟨g3, g4, by rw [← g3, ← g4]; exact g1⟩
def evalR (l : List Nd) (fs : List Fv) : Option Fv := if fieldsB fs = true then (treeT l).bind (evalT fs) else none
end Go.Proofs.YtdkffljnfemngabDoor
namespace Go.Proofs.YtdkffljnfemngabDoor
open Go.RowKit
set_option linter.unusedVariables false
set_option linter.unusedSimpArgs false
def plains (es : List FE) : List Fv := es.map FE.plain
theorem plains_len (es : List FE) : (plains es).length = es.length := by simp [plains]
theorem plains_get (es : List FE) (j : Nat) (h : j < (plains es).length) (h2 : j < es.length) : (plains es)[j] = (es[j].wd, es[j].hg, es[j].l) := by simp [plains, FE.plain]
theorem plains_head (es : List FE) (h : 0 < es.length) : (plains es).headD (0, 0, []) = (es[0].wd, es[0].hg, es[0].l) := by
  cases es with
  | nil => simp at h
  | cons e r => rfl
set_option maxRecDepth 100000 in
set_option maxHeartbeats 4000000 in
theorem specFields_is (a : Option Addr) (es : List FE) (c : Nat) (v : Bool) (w : World) (hl : Flds w w.heap.size a es) (hn : es.length ≤ 1048576) (hs : ∀ e ∈ es, e.l.length ≤ 1048576) (hv : fieldsB (plains es) = v) :
    Calls Tryd.prog 43 #[.slice a es.length c] w fun e w' => e = .returned (.bool v) ∧ Below w.heap.size w w' := by
  have HL := Lib.hid hl
  have HSZ := Lib.hid hs
  have HV := Lib.hid hv
  clear hl hs hv
  go_enter Tryd.func43, Tryd.ntmps43
  go_wp2
  go_loopw [3] (fun i wr => ∃ k : Nat, k ≤ es.length ∧ i = .int .i64 k ∧ Below w.heap.size w wr ∧ ∀ j (h : j < es.length) (h0 : 0 < es.length), j < k → sameB es[j].wd es[j].hg es[j].l es[0].wd es[0].hg es[0].l = true) (fun i _ => es.length - (intOf i).toNat)
  case atStart => exact ⟨0, Nat.zero_le _, rfl, Below.refl _ _, fun j _ _ h => by omega⟩
  case round =>
    obtain ⟨k, hk, rfl, hB, hall⟩ := hrel
    have HB := Lib.hid hB
    have HA := Lib.hid hall
    clear hall
    by_cases hlt : k < es.length
    · have h0 : 0 < es.length := by omega
      obtain ⟨b, o, rfl, hb, q0, q1, q2, q3⟩ := (HL.out.below hB (Nat.le_refl _)).at_ hlt
      obtain ⟨b', o', e', _, p0, p1, p2, p3⟩ := (HL.out.below hB (Nat.le_refl _)).at_ h0
      injection e' with e'
      injection e' with eb eo
      subst eb eo
      have HI := Lib.hid (q3.more hB.size)
      have HI' := Lib.hid (p3.more hB.size)
      have hi : (k : Int) < (es.length : Int) := by omega
      have hi0 : (0 : Int) ≤ (k : Int) := by omega
      have h00 : (0 : Int) < (es.length : Int) := by omega
      simp only [Nat.zero_mul, Nat.add_zero] at p0 p1 p2
      have HLN := Lib.hid (HSZ.out _ (List.getElem_mem hlt))
      have HLN' := Lib.hid (HSZ.out _ (List.getElem_mem h0))
      clear q3 p3 hB
      obtain ⟨r, hsm⟩ : ∃ r, sameB es[k].wd es[k].hg es[k].l es[0].wd es[0].hg es[0].l = r := ⟨_, rfl⟩
      have hvf : r = false → v = false := by
        intro hr
        rw [← HV.out]
        refine fieldsB_bad (j := k) (by rw [plains_len]; exact hlt) ?_
        rw [plains_get es k (by rw [plains_len]; exact hlt) hlt, plains_head es h0]
        exact hsm.trans hr
      have HVF := Lib.hid hvf
      have HNX : Hid (r = true → ∀ j (h : j < es.length) (h0 : 0 < es.length), j < k + 1 → sameB es[j].wd es[j].hg es[j].l es[0].wd es[0].hg es[0].l = true) := Lib.hid (fun hr j h h1 hj => by
        rcases Nat.lt_or_ge j k with h2 | h2
        · exact HA.out j h h1 h2
        · obtain rfl : j = k := by omega
          exact hsm.trans hr)
      have HC := Lib.hid (fun W (h : Ints .i64 W W.heap.size (es[k]'hlt).ad (es[k]'hlt).l) (h' : Ints .i64 W W.heap.size (es[0]'h0).ad (es[0]'h0).l) => specSame_is (es[k]'hlt).wd (es[k]'hlt).hg (es[k]'hlt).ad (es[k]'hlt).l (es[k]'hlt).c (es[0]'h0).wd (es[0]'h0).hg (es[0]'h0).ad (es[0]'h0).l (es[0]'h0).c r W h h' HLN.out HLN'.out hsm)
      have hx0 : es[k].l.length = es[k].l.length := rfl
      generalize es[k].wd = x0 at *
      generalize es[k].hg = x1 at *
      generalize es[k].ad = x2 at *
      generalize es[k].c = x3 at *
      generalize es[k].l = x4 at *
      generalize es[0].wd = y0 at *
      generalize es[0].hg = y1 at *
      generalize es[0].ad = y2 at *
      generalize es[0].c = y3 at *
      generalize es[0].l = y4 at *
      generalize x4.length = n at *
      generalize y4.length = n' at *
      clear hsm hvf hx0
      go_wp2_with fail
      go_still_tail 7, (by kernel_rfl)
      change wpList _ _ _ _ _ wr.drew
      have HB1 := Lib.hid (HB.out.drew)
      have HJ := Lib.hid (ints_below HI.out (w' := wr.drew) ⟨rfl, rfl, rfl, Nat.le_refl _, fun _ _ => rfl⟩)
      have HJ' := Lib.hid (ints_below HI'.out (w' := wr.drew) ⟨rfl, rfl, rfl, Nat.le_refl _, fun _ _ => rfl⟩)
      generalize wr.drew = w2 at *
      go_wp2_with fail
      refine (HC.out w2 HJ.out HJ'.out).mono ?_
      rintro e w3 ⟨rfl, b3⟩
      have HB3 := Lib.hid (HB1.out.trans (b3.mono HB1.out.size))
      clear b3 q0 q1 q2 p0 p1 p2 HC HI HI' HJ HJ'
      cases r with
      | false =>
        have hv := HVF.out rfl
        subst hv
        go_wp2
        go_ret
        exact ⟨rfl, HB3.out⟩
      | true =>
        go_wp2
        go_roundw
        case rel => exact ⟨k + 1, by omega, by go_num, HB3.out, HNX.out (by simp)⟩
        case measure => simp [intOf]; omega
    · obtain rfl : k = es.length := by omega
      have hv : v = (decide (1 ≤ es.length) && decide (es.length ≤ 4)) := by
        rw [← HV.out, fieldsB_all, plains_len]
        intro j hj
        have hj2 : j < es.length := by rwa [plains_len] at hj
        rw [plains_get es j hj hj2, plains_head es (by omega)]
        exact HA.out j hj2 (by omega) hj2
      have HIN := Lib.hid (fun W => l1In_is (es.length : Int) 1 4 v W (by rw [hv]; congr 1 <;> exact decide_eq_decide.2 (by omega)))
      clear hv
      go_wp2_with (first | (go_at_call 37; (with_reducible refine (HIN.out _).mono ?_); rintro e w8 ⟨rfl, rfl⟩) | fail)
      go_ret
      exact ⟨rfl, HB.out⟩
end Go.Proofs.YtdkffljnfemngabDoor
namespace Go.Proofs.YtdkffljnfemngabDoor
open Go.RowKit
set_option linter.unusedVariables false
set_option linter.unusedSimpArgs false
/-- what l5Value knows of a later world -/
structure Ev (w : World) (a : Option Addr) (l : List Nd) (af : Option Addr) (es : List FE) (k v : Int) (w' : World) : Prop where
  b : Below w.heap.size w w'
  n : Nds w' w'.heap.size a l
  f : Flds w' w'.heap.size af es
  r : Box w' w.heap.size 41 (.int .i64 0) (.int .i64 0) (.slice none 0 0)
  x : BoxC w' (w.heap.size + 1) 62 #[.int .i64 k, .int .i64 v]
section
variable {w w1 w2 : World} {a : Option Addr} {l : List Nd} {af : Option Addr} {es : List FE} {k v : Int}
theorem Ev.new (hn : Nds w w.heap.size a l) (hf : Flds w w.heap.size af es) : Ev w a l af es k v ((w.alloc (.cells #[.int .i64 0, .int .i64 0, .slice none 0 0] 41)).alloc (.cells #[.int .i64 k, .int .i64 v] 62)) := by
  refine ⟨(below_all w _).alloc (by simp) _, nds_alloc (nds_alloc hn _) _, flds_alloc (flds_alloc hf _) _, (Box.new w _ _ _ _).alloc _, ?_⟩
  have h := BoxC.new (w.alloc (.cells #[.int .i64 0, .int .i64 0, .slice none 0 0] 41)) 62 #[.int .i64 k, .int .i64 v]
  rw [World.size_alloc] at h
  exact h
theorem Ev.step (h : Ev w a l af es k v w1) (b : Below w1.heap.size w1 w2) : Ev w a l af es k v w2 := ⟨below_then h.b b, nds_below h.n b, flds_below h.f b, h.r.below b, h.x.below b⟩
theorem Ev.xc (h : Ev w a l af es k v w1) : w1.cell? ⟨w.heap.size + 1, 0, none⟩ = some (.int .i64 k) ∧ w1.cell? ⟨w.heap.size + 1, 1, none⟩ = some (.int .i64 v) := ⟨h.x.cell 0, h.x.cell 1⟩
end
/-- the value of a field goes into the result's box and is handed back -/
theorem fret_put {w w1 : World} {r : Option Fv} {e : Ending} {a : Option Addr} {c : Nat} (hb : Below w.heap.size w w1) (ho : OwnI w1 (w.heap.size + 1) a (rL r)) (he : e = .returned (.tuple #[.agg #[.int .i64 (rW r), .int .i64 (rH r), .slice a (rL r).length c], .bool (rB r)])) (u0 u1 u2 : Value) :
    FRet r w e (((w1.setCell ⟨w.heap.size, 0, none⟩ u0).setCell ⟨w.heap.size, 1, none⟩ u1).setCell ⟨w.heap.size, 2, none⟩ u2) :=
  ⟨a, c, he, (ownI_set (ownI_set (ownI_set ho (by omega) _) (by omega) _) (by omega) _).more (by omega), ((hb.setCell (p := ⟨w.heap.size, 0, none⟩) (Nat.le_refl _) _).setCell (p := ⟨w.heap.size, 1, none⟩) (Nat.le_refl _) _).setCell (p := ⟨w.heap.size, 2, none⟩) (Nat.le_refl _) _⟩
end Go.Proofs.YtdkffljnfemngabDoor
namespace Go.Proofs.YtdkffljnfemngabDoor
open Go.RowKit
set_option linter.unusedVariables false
set_option linter.unusedSimpArgs false
set_option maxRecDepth 100000 in
set_option maxHeartbeats 8000000 in
theorem val_field (a : Option Addr) (l : List Nd) (c : Nat) (af : Option Addr) (es : List FE) (cf : Nat) (i : Nat) (n : Nat) (hn : l.length ≤ 1048576) (w : World) (hnd : Nds w w.heap.size a l) (hfd : Flds w w.heap.size af es) (hlt : i < l.length) (hg : l[i] = (1, (n : Int))) (hv : n < es.length) (hpos : 0 < es[n].l.length) (hle : es[n].l.length ≤ 1048576) :
    Calls Tryd.prog 44 #[.slice a l.length c, .int .i64 (i : Int), .slice af es.length cf] w (FRet (some (es[n].wd, es[n].hg, es[n].l)) w) := by
  have E0 := Lib.hid (Ev.new (k := 1) (v := (n : Int)) hnd hfd)
  obtain ⟨b, o, rfl, hb, q0, q1⟩ := hnd.at_ hlt
  rw [hg] at q0 q1
  simp only at q0 q1
  have i1 : (i : Int) < (l.length : Int) := by omega
  have i0 : (0 : Int) ≤ (i : Int) := by omega
  obtain ⟨rc0, rc1⟩ := E0.out.xc
  obtain ⟨bf, of, rfl, hbf, c0, c1, c2, c3⟩ := E0.out.f.at_ hv
  have HC := Lib.hid (fun W (h : Ints .i64 W W.heap.size (es[n]'hv).ad (es[n]'hv).l) => l2Own_any (es[n]'hv).wd (es[n]'hv).hg (es[n]'hv).ad (es[n]'hv).l (es[n]'hv).c W h hle hpos)
  have HI := Lib.hid c3
  have nv1 : (n : Int) < (es.length : Int) := by omega
  have nv0 : (0 : Int) ≤ (n : Int) := by omega
  clear hg hnd hfd c3 hpos hle
  generalize es[n].wd = x0 at *
  generalize es[n].hg = x1 at *
  generalize es[n].ad = x2 at *
  generalize es[n].c = x3 at *
  generalize es[n].l = L at *
  go_enter Tryd.func44, Tryd.ntmps44
  go_wp2_with fail
  refine (HC.out _ HI.out).mono ?_
  rintro e w2 ⟨a2, c2, rfl, o2, b2⟩
  have E2 := Lib.hid (E0.out.step b2)
  have O2 := Lib.hid (o2.more (C := w.heap.size + 1) (by simp))
  clear o2 b2 E0 c0 c1 rc0 rc1
  have B9 := Lib.hid E2.out.b
  obtain ⟨t0, t1, t2⟩ := E2.out.r.cells
  have g0 := E2.out.r.frozen 0
  have g1 := E2.out.r.frozen 1
  have g2 := E2.out.r.frozen 2
  go_wp2
  refine bodyPost_ret (v := .tuple #[.agg #[.int .i64 x0, .int .i64 x1, .slice a2 L.length c2], .bool true]) (by simp [results, Tryd.results44, go_sem, t0, t1, t2]) rfl ?_
  exact fret_put B9.out O2.out rfl _ _ _
end Go.Proofs.YtdkffljnfemngabDoor
namespace Go.Proofs.YtdkffljnfemngabDoor
open Go.RowKit
set_option linter.unusedVariables false
set_option linter.unusedSimpArgs false
set_option maxRecDepth 100000 in
set_option maxHeartbeats 8000000 in
theorem val_gone (a : Option Addr) (l : List Nd) (c : Nat) (af : Option Addr) (es : List FE) (cf : Nat) (i : Nat) (n : Nat) (hn : l.length ≤ 1048576) (w : World) (hnd : Nds w w.heap.size a l) (hfd : Flds w w.heap.size af es) (hlt : i < l.length) (hg : l[i] = (1, (n : Int))) (hv : ¬ n < es.length) :
    Calls Tryd.prog 44 #[.slice a l.length c, .int .i64 (i : Int), .slice af es.length cf] w (FRet none w) := by
  have E0 := Lib.hid (Ev.new (k := 1) (v := (n : Int)) hnd hfd)
  obtain ⟨b, o, rfl, hb, q0, q1⟩ := hnd.at_ hlt
  rw [hg] at q0 q1
  simp only at q0 q1
  have i1 : (i : Int) < (l.length : Int) := by omega
  have i0 : (0 : Int) ≤ (i : Int) := by omega
  obtain ⟨rc0, rc1⟩ := E0.out.xc
  have nv1 : ¬ (n : Int) < (es.length : Int) := by omega
  clear hg hnd hfd
  go_enter Tryd.func44, Tryd.ntmps44
  go_wp2_with fail
  have B9 := Lib.hid E0.out.b
  obtain ⟨t0, t1, t2⟩ := E0.out.r.cells
  have g0 := E0.out.r.frozen 0
  have g1 := E0.out.r.frozen 1
  have g2 := E0.out.r.frozen 2
  go_wp2
  refine bodyPost_ret (v := .tuple #[.agg #[.int .i64 0, .int .i64 0, .slice none 0 0], .bool false]) (by simp [results, Tryd.results44, go_sem, t0, t1, t2]) rfl ?_
  first | exact ⟨none, 0, rfl, OwnI.none_, B9.out⟩ | exact fret_put (r := none) B9.out OwnI.none_ rfl _ _ _
end Go.Proofs.YtdkffljnfemngabDoor
namespace Go.Proofs.YtdkffljnfemngabDoor
open Go.RowKit
set_option linter.unusedVariables false
set_option linter.unusedSimpArgs false
set_option maxRecDepth 100000 in
set_option maxHeartbeats 8000000 in
theorem val_num (a : Option Addr) (l : List Nd) (c : Nat) (af : Option Addr) (es : List FE) (cf : Nat) (i : Nat) (v : Int) (hn : l.length ≤ 1048576) (w : World) (hnd : Nds w w.heap.size a l) (hfd : Flds w w.heap.size af es) (hlt : i < l.length) (hg : l[i] = (2, v)) (h0 : 0 < es.length) (hs : shapeB es[0].wd es[0].hg = true) :
    Calls Tryd.prog 44 #[.slice a l.length c, .int .i64 (i : Int), .slice af es.length cf] w (FRet (some (es[0].wd, es[0].hg, List.replicate (es[0].wd * es[0].hg).toNat v)) w) := by
  have E0 := Lib.hid (Ev.new (k := 2) (v := v) hnd hfd)
  obtain ⟨b, o, rfl, hb, q0, q1⟩ := hnd.at_ hlt
  rw [hg] at q0 q1
  simp only at q0 q1
  have i1 : (i : Int) < (l.length : Int) := by omega
  have i0 : (0 : Int) ≤ (i : Int) := by omega
  obtain ⟨rc0, rc1⟩ := E0.out.xc
  obtain ⟨bf, of, rfl, hbf0, d0, d1, _, _⟩ := hfd.at_ h0
  simp only [Nat.zero_mul, Nat.add_zero] at d0 d1
  have c0 := (E0.out.b.cell (p := ⟨bf, of, none⟩) hbf0).trans d0
  have c1 := (E0.out.b.cell (p := ⟨bf, of + 1, none⟩) hbf0).trans d1
  have hbf := Nat.lt_of_lt_of_le hbf0 E0.out.b.size
  have hne : ¬ bf = w.heap.size := by omega
  have hne2 : ¬ w.heap.size = bf := by omega
  clear d0 d1
  have HC := Lib.hid (fun W => fill_any es[0].wd es[0].hg v W hs)
  have n01 : (0 : Int) < (es.length : Int) := by omega
  clear hg hnd hfd hs
  generalize es[0].wd = x0 at *
  generalize es[0].hg = x1 at *
  generalize List.replicate (x0 * x1).toNat v = L at *
  go_enter Tryd.func44, Tryd.ntmps44
  go_wp2_with fail
  have ED := Lib.hid (E0.out.step ((Drew.more (Drew.refl _) 1).below _))
  go_region_held3 (fun w' => w'.cell? ⟨bf, of, none⟩ = some (.int .i64 x0) ∧ w'.cell? ⟨bf, of + 1, none⟩ = some (.int .i64 x1) ∧ w'.cell? ⟨w.heap.size + 1, 1, none⟩ = some (.int .i64 v))
    (first | exact ⟨k0, k1, k2⟩ | exact ⟨c0, c1, rc1⟩ | go_keep)
    (first | (go_at_call 65; refine (HC.out _).mono ?_; rintro e w2 ⟨a2, c2, rfl, o2, b2⟩; have E2 := Lib.hid (ED.out.step b2); have O2 := Lib.hid (o2.more (C := w.heap.size + 1) (Nat.le_of_lt ED.out.x.lt)); have k0 := (b2.cell (p := ⟨bf, of, none⟩) hbf).trans c0; have k1 := (b2.cell (p := ⟨bf, of + 1, none⟩) hbf).trans c1; have k2 := E2.out.xc.2; have B9 := Lib.hid E2.out.b; obtain ⟨t0, t1, t2⟩ := E2.out.r.cells; have g0 := E2.out.r.frozen 0; have g1 := E2.out.r.frozen 1; have g2 := E2.out.r.frozen 2; clear o2 b2))
  rename_i hHeld
  clear hHeld
  go_wp2
  refine bodyPost_ret (v := .tuple #[.agg #[.int .i64 x0, .int .i64 x1, .slice a2 L.length c2], .bool true]) (by simp [results, Tryd.results44, go_sem, t0, t1, t2]) rfl ?_
  exact fret_put (r := some (x0, x1, L)) B9.out O2.out rfl _ _ _
end Go.Proofs.YtdkffljnfemngabDoor
namespace Go.Proofs.YtdkffljnfemngabDoor
open Go.RowKit
set_option linter.unusedVariables false
set_option linter.unusedSimpArgs false
set_option maxRecDepth 100000 in
set_option maxHeartbeats 8000000 in
theorem val_above (a : Option Addr) (l : List Nd) (c : Nat) (af : Option Addr) (es : List FE) (cf : Nat) (i : Nat) (v : Int) (hn : l.length ≤ 1048576) (w : World) (hnd : Nds w w.heap.size a l) (hfd : Flds w w.heap.size af es) (hlt : i < l.length) (hg : l[i] = (7, v)) (j : Nat) (hj : i = j + 1) (rx : Option Fv) (wd hg' : Int) (hgd : ∀ r, rx = some r → r.1 = wd ∧ r.2.1 = hg' ∧ goodB wd hg' r.2.2 = true) (HR : ∀ W : World, Nds W W.heap.size a l → Flds W W.heap.size af es → Calls Tryd.prog 44 #[.slice a l.length c, .int .i64 (j : Int), .slice af es.length cf] W (FRet rx W)) :
    Calls Tryd.prog 44 #[.slice a l.length c, .int .i64 (i : Int), .slice af es.length cf] w (FRet (rx.bind fun f => exceedsR f.1 f.2.1 f.2.2 v) w) := by
  have E0 := Lib.hid (Ev.new (k := 7) (v := v) hnd hfd)
  obtain ⟨b, o, rfl, hb, q0, q1⟩ := hnd.at_ hlt
  rw [hg] at q0 q1
  simp only at q0 q1
  have i1 : (i : Int) < (l.length : Int) := by omega
  have i0 : (0 : Int) ≤ (i : Int) := by omega
  obtain ⟨rc0, rc1⟩ := E0.out.xc
  have HRR := Lib.hid HR
  have ej : (i : Int) - 1 = (j : Int) := by omega
  clear hg hnd hfd HR hj
  cases rx with
  | none =>
    have hR : ((none : Option Fv).bind fun f => exceedsR f.1 f.2.1 f.2.2 v) = none := rfl
    rw [hR]
    clear hgd hR
    go_enter Tryd.func44, Tryd.ntmps44
    go_wp2_with fail
    refine (HRR.out _ E0.out.n E0.out.f).mono ?_
    rintro e w2 ⟨a2, c2, rfl, o2, b2⟩
    have E2 := Lib.hid ((E0.out.step b2).step (below_all w2 (.cells #[.int .i64 0, .int .i64 0, .slice a2 0 c2] 41)))
    simp only [rW, rH, rL, rB, List.length_nil]
    clear o2 b2 E0 rc0 rc1
    have B9 := Lib.hid E2.out.b
    obtain ⟨t0, t1, t2⟩ := E2.out.r.cells
    have g0 := E2.out.r.frozen 0
    have g1 := E2.out.r.frozen 1
    have g2 := E2.out.r.frozen 2
    go_wp2
    refine bodyPost_ret (v := .tuple #[.agg #[.int .i64 0, .int .i64 0, .slice none 0 0], .bool false]) (by simp [results, Tryd.results44, go_sem, t0, t1, t2]) rfl ?_
    first | exact ⟨none, 0, rfl, OwnI.none_, B9.out⟩ | exact fret_put (r := none) B9.out OwnI.none_ rfl _ _ _
  | some r =>
    obtain ⟨g1, g2, g3⟩ := hgd r rfl
    obtain ⟨r0, r1, L⟩ := r
    simp only at g1 g2 g3
    subst g1 g2
    have hR : ((some (r0, r1, L) : Option Fv).bind fun f => exceedsR f.1 f.2.1 f.2.2 v) = some (r0, r1, zipR (ofV fun a _ => exF v a) L L) := (exceeds_is v g3).1
    rw [hR]
    have hle := good_le g3
    have HE := Lib.hid (fun ax cx W h => l4Exceeds_any r0 r1 ax L cx v W h (by omega) g3)
    clear hgd hR g3 hle
    generalize zipR (ofV fun a _ => exF v a) L L = Z at *
    go_enter Tryd.func44, Tryd.ntmps44
    go_wp2_with fail
    refine (HRR.out _ E0.out.n E0.out.f).mono ?_
    rintro e w2 ⟨a2, c2, rfl, o2, b2⟩
    simp only [rW, rH, rL, rB] at o2 ⊢
    have hX := Box.new w2 41 (.int .i64 r0) (.int .i64 r1) (.slice a2 L.length c2)
    have hI := ints_alloc o2.ints (.cells #[.int .i64 r0, .int .i64 r1, .slice a2 L.length c2] 41)
    have hE := (E0.out.step b2).step (below_all w2 (.cells #[.int .i64 r0, .int .i64 r1, .slice a2 L.length c2] 41))
    obtain ⟨W2, hW2⟩ : ∃ W, w2.alloc (.cells #[.int .i64 r0, .int .i64 r1, .slice a2 L.length c2] 41) = W := ⟨_, rfl⟩
    obtain ⟨fb, hfb⟩ : ∃ q, w2.heap.size = q := ⟨_, rfl⟩
    rw [hW2] at hX hI hE
    rw [hfb] at hX
    have HX := Lib.hid hX
    have HI := Lib.hid hI
    have E2 := Lib.hid hE
    obtain ⟨f0, f1, f2⟩ := hX.cells
    obtain ⟨rd0, rd1⟩ := hE.xc
    clear o2 b2 E0 rc0 rc1 hX hI hE
    go_wp2_with fail
    refine (HE.out a2 c2 _ HI.out).mono ?_
    rintro e w3 ⟨a3, c3, rfl, o3, b3⟩
    have O3 := Lib.hid (o3.more (C := w.heap.size + 1) (by have := E2.out.x.lt; omega))
    have E3 := Lib.hid (E2.out.step b3)
    clear o3 b3 E2 f0 f1 f2 rd0 rd1 hW2 hfb HX HI
    have B9 := Lib.hid E3.out.b
    obtain ⟨t0, t1, t2⟩ := E3.out.r.cells
    have g0 := E3.out.r.frozen 0
    have g1 := E3.out.r.frozen 1
    have g2 := E3.out.r.frozen 2
    go_wp2
    refine bodyPost_ret (v := .tuple #[.agg #[.int .i64 r0, .int .i64 r1, .slice a3 Z.length c3], .bool true]) (by simp [results, Tryd.results44, go_sem, t0, t1, t2]) rfl ?_
    exact fret_put (r := some (r0, r1, Z)) B9.out O3.out rfl _ _ _
end Go.Proofs.YtdkffljnfemngabDoor
namespace Go.Proofs.YtdkffljnfemngabDoor
open Go.RowKit
set_option linter.unusedVariables false
set_option linter.unusedSimpArgs false
set_option maxRecDepth 100000 in
set_option maxHeartbeats 8000000 in
theorem val_two (a : Option Addr) (l : List Nd) (c : Nat) (af : Option Addr) (es : List FE) (cf : Nat) (i : Nat) (k : Int) (hn : l.length ≤ 1048576) (w : World) (hnd : Nds w w.heap.size a l) (hfd : Flds w w.heap.size af es) (hlt : i < l.length) (hg : l[i] = (k, 0)) (k3 : 3 ≤ k) (k6 : k ≤ 6) (j s : Nat) (hj : i = j + 1) (hs9 : s + 1 ≤ l.length) (rx ry : Option Fv) (wd hg' : Int) (hgx : ∀ r, rx = some r → r.1 = wd ∧ r.2.1 = hg' ∧ goodB wd hg' r.2.2 = true) (hgy : ∀ r, ry = some r → r.1 = wd ∧ r.2.1 = hg' ∧ goodB wd hg' r.2.2 = true)
    (HY : ∀ W : World, Nds W W.heap.size a l → Flds W W.heap.size af es → Calls Tryd.prog 44 #[.slice a l.length c, .int .i64 (j : Int), .slice af es.length cf] W (FRet ry W))
    (HS : ∀ W : World, Nds W W.heap.size a l → Calls Tryd.prog 60 #[.slice a l.length c, .int .i64 (j : Int)] W fun e w' => e = .returned (.int .i64 ((s + 1 : Nat) : Int)) ∧ Below W.heap.size W w')
    (HX : ∀ W : World, Nds W W.heap.size a l → Flds W W.heap.size af es → Calls Tryd.prog 44 #[.slice a l.length c, .int .i64 (s : Int), .slice af es.length cf] W (FRet rx W)) :
    Calls Tryd.prog 44 #[.slice a l.length c, .int .i64 (i : Int), .slice af es.length cf] w (FRet (rx.bind fun a => ry.bind fun b => combineR (k - 2) a.1 a.2.1 a.2.2 b.1 b.2.1 b.2.2) w) := by
  have E0 := Lib.hid (Ev.new (k := k) (v := 0) hnd hfd)
  obtain ⟨b, o, rfl, hb, q0, q1⟩ := hnd.at_ hlt
  rw [hg] at q0 q1
  simp only at q0 q1
  have i1 : (i : Int) < (l.length : Int) := by omega
  have i0 : (0 : Int) ≤ (i : Int) := by omega
  obtain ⟨rc0, rc1⟩ := E0.out.xc
  have HYY := Lib.hid HY
  have HSS := Lib.hid HS
  have HXX := Lib.hid HX
  have ej : (i : Int) - 1 = (j : Int) := by omega
  have es1 : ((s + 1 : Nat) : Int) - 1 = (s : Int) := by omega
  have n1 : ¬ k = 1 := by omega
  have n2 : ¬ k = 2 := by omega
  have n7 : ¬ k = 7 := by omega
  clear hg hnd hfd HY HS HX hj
  cases ry with
  | none =>
    have hR : (rx.bind fun a => (none : Option Fv).bind fun b => combineR (k - 2) a.1 a.2.1 a.2.2 b.1 b.2.1 b.2.2) = none := by cases rx <;> rfl
    rw [hR]
    clear hgx hgy hR
    cases rx with
    | none =>
      go_enter Tryd.func44, Tryd.ntmps44
      go_wp2_with fail
      refine (HYY.out _ E0.out.n E0.out.f).mono ?_
      rintro e w2 ⟨a2, c2, rfl, o2, b2⟩
      simp only [rW, rH, rL, rB, List.length_nil] at o2 ⊢
      have hX := Box.new w2 41 (.int .i64 0) (.int .i64 0) (.slice a2 0 c2)
      have hI := ints_alloc o2.ints (.cells #[.int .i64 0, .int .i64 0, .slice a2 0 c2] 41)
      have hE := (E0.out.step b2).step (below_all w2 (.cells #[.int .i64 0, .int .i64 0, .slice a2 0 c2] 41))
      obtain ⟨W2, hW2⟩ : ∃ W, w2.alloc (.cells #[.int .i64 0, .int .i64 0, .slice a2 0 c2] 41) = W := ⟨_, rfl⟩
      obtain ⟨fb, hfb⟩ : ∃ q, w2.heap.size = q := ⟨_, rfl⟩
      rw [hW2] at hX hI hE
      rw [hfb] at hX
      have HX2 := Lib.hid hX
      have HI2 := Lib.hid hI
      have E2 := Lib.hid hE
      clear o2 b2 E0 rc0 rc1 hX hI hE
      go_wp2_with fail
      clear hW2 hfb
      refine (HSS.out _ E2.out.n).mono ?_
      rintro e w3 ⟨rfl, b3⟩
      have E3 := Lib.hid (E2.out.step b3)
      have HX3 := Lib.hid (HX2.out.below b3)
      have HI3 := Lib.hid (ints_below HI2.out b3)
      clear b3 E2 HX2 HI2
      go_wp2_with fail
      refine (HXX.out _ E3.out.n E3.out.f).mono ?_
      rintro e w4 ⟨a4, c4, rfl, o4, b4⟩
      simp only [rW, rH, rL, rB, List.length_nil] at o4 ⊢
      have hX := Box.new w4 41 (.int .i64 0) (.int .i64 0) (.slice a4 0 c4)
      have hI := ints_alloc o4.ints (.cells #[.int .i64 0, .int .i64 0, .slice a4 0 c4] 41)
      have hE := (E3.out.step b4).step (below_all w4 (.cells #[.int .i64 0, .int .i64 0, .slice a4 0 c4] 41))
      have hX5 := (HX3.out.below b4).alloc (.cells #[.int .i64 0, .int .i64 0, .slice a4 0 c4] 41)
      have hI5 := ints_alloc (ints_below HI3.out b4) (.cells #[.int .i64 0, .int .i64 0, .slice a4 0 c4] 41)
      obtain ⟨W4, hW4⟩ : ∃ W, w4.alloc (.cells #[.int .i64 0, .int .i64 0, .slice a4 0 c4] 41) = W := ⟨_, rfl⟩
      obtain ⟨fc, hfc⟩ : ∃ q, w4.heap.size = q := ⟨_, rfl⟩
      rw [hW4] at hX hI hE hX5 hI5
      rw [hfc] at hX
      have HI4 := Lib.hid hI
      have HI5 := Lib.hid hI5
      have E4 := Lib.hid hE
      obtain ⟨f0, f1, f2⟩ := hX.cells
      obtain ⟨h0, h1, h2⟩ := hX5.cells
      obtain ⟨rd0, rd1⟩ := hE.xc
      clear o4 b4 E3 hX hI hE hX5 hI5 HX3 HI3
      have B9 := Lib.hid E4.out.b
      obtain ⟨t0, t1, t2⟩ := E4.out.r.cells
      have g0 := E4.out.r.frozen 0
      have g1 := E4.out.r.frozen 1
      have g2 := E4.out.r.frozen 2
      go_wp2_with fail
      refine bodyPost_ret (v := .tuple #[.agg #[.int .i64 0, .int .i64 0, .slice none 0 0], .bool false]) (by simp [results, Tryd.results44, go_sem, t0, t1, t2]) rfl ?_
      first | exact ⟨none, 0, rfl, OwnI.none_, B9.out⟩ | exact fret_put (r := none) B9.out OwnI.none_ rfl _ _ _
    | some r =>
      obtain ⟨x0, x1, X⟩ := r
      go_enter Tryd.func44, Tryd.ntmps44
      go_wp2_with fail
      refine (HYY.out _ E0.out.n E0.out.f).mono ?_
      rintro e w2 ⟨a2, c2, rfl, o2, b2⟩
      simp only [rW, rH, rL, rB, List.length_nil] at o2 ⊢
      have hX := Box.new w2 41 (.int .i64 0) (.int .i64 0) (.slice a2 0 c2)
      have hI := ints_alloc o2.ints (.cells #[.int .i64 0, .int .i64 0, .slice a2 0 c2] 41)
      have hE := (E0.out.step b2).step (below_all w2 (.cells #[.int .i64 0, .int .i64 0, .slice a2 0 c2] 41))
      obtain ⟨W2, hW2⟩ : ∃ W, w2.alloc (.cells #[.int .i64 0, .int .i64 0, .slice a2 0 c2] 41) = W := ⟨_, rfl⟩
      obtain ⟨fb, hfb⟩ : ∃ q, w2.heap.size = q := ⟨_, rfl⟩
      rw [hW2] at hX hI hE
      rw [hfb] at hX
      have HX2 := Lib.hid hX
      have HI2 := Lib.hid hI
      have E2 := Lib.hid hE
      clear o2 b2 E0 rc0 rc1 hX hI hE
      go_wp2_with fail
      clear hW2 hfb
      refine (HSS.out _ E2.out.n).mono ?_
      rintro e w3 ⟨rfl, b3⟩
      have E3 := Lib.hid (E2.out.step b3)
      have HX3 := Lib.hid (HX2.out.below b3)
      have HI3 := Lib.hid (ints_below HI2.out b3)
      clear b3 E2 HX2 HI2
      go_wp2_with fail
      refine (HXX.out _ E3.out.n E3.out.f).mono ?_
      rintro e w4 ⟨a4, c4, rfl, o4, b4⟩
      simp only [rW, rH, rL, rB, List.length_nil] at o4 ⊢
      have hX := Box.new w4 41 (.int .i64 x0) (.int .i64 x1) (.slice a4 X.length c4)
      have hI := ints_alloc o4.ints (.cells #[.int .i64 x0, .int .i64 x1, .slice a4 X.length c4] 41)
      have hE := (E3.out.step b4).step (below_all w4 (.cells #[.int .i64 x0, .int .i64 x1, .slice a4 X.length c4] 41))
      have hX5 := (HX3.out.below b4).alloc (.cells #[.int .i64 x0, .int .i64 x1, .slice a4 X.length c4] 41)
      have hI5 := ints_alloc (ints_below HI3.out b4) (.cells #[.int .i64 x0, .int .i64 x1, .slice a4 X.length c4] 41)
      obtain ⟨W4, hW4⟩ : ∃ W, w4.alloc (.cells #[.int .i64 x0, .int .i64 x1, .slice a4 X.length c4] 41) = W := ⟨_, rfl⟩
      obtain ⟨fc, hfc⟩ : ∃ q, w4.heap.size = q := ⟨_, rfl⟩
      rw [hW4] at hX hI hE hX5 hI5
      rw [hfc] at hX
      have HI4 := Lib.hid hI
      have HI5 := Lib.hid hI5
      have E4 := Lib.hid hE
      obtain ⟨f0, f1, f2⟩ := hX.cells
      obtain ⟨h0, h1, h2⟩ := hX5.cells
      obtain ⟨rd0, rd1⟩ := hE.xc
      clear o4 b4 E3 hX hI hE hX5 hI5 HX3 HI3
      have B9 := Lib.hid E4.out.b
      obtain ⟨t0, t1, t2⟩ := E4.out.r.cells
      have g0 := E4.out.r.frozen 0
      have g1 := E4.out.r.frozen 1
      have g2 := E4.out.r.frozen 2
      go_wp2_with fail
      refine bodyPost_ret (v := .tuple #[.agg #[.int .i64 0, .int .i64 0, .slice none 0 0], .bool false]) (by simp [results, Tryd.results44, go_sem, t0, t1, t2]) rfl ?_
      first | exact ⟨none, 0, rfl, OwnI.none_, B9.out⟩ | exact fret_put (r := none) B9.out OwnI.none_ rfl _ _ _
  | some ry =>
    obtain ⟨y0, y1, Y⟩ := ry
    cases rx with
    | none =>
      have hR : ((none : Option Fv).bind fun a => (some (y0, y1, Y) : Option Fv).bind fun b => combineR (k - 2) a.1 a.2.1 a.2.2 b.1 b.2.1 b.2.2) = none := rfl
      rw [hR]
      clear hgx hgy hR
      go_enter Tryd.func44, Tryd.ntmps44
      go_wp2_with fail
      refine (HYY.out _ E0.out.n E0.out.f).mono ?_
      rintro e w2 ⟨a2, c2, rfl, o2, b2⟩
      simp only [rW, rH, rL, rB, List.length_nil] at o2 ⊢
      have hX := Box.new w2 41 (.int .i64 y0) (.int .i64 y1) (.slice a2 Y.length c2)
      have hI := ints_alloc o2.ints (.cells #[.int .i64 y0, .int .i64 y1, .slice a2 Y.length c2] 41)
      have hE := (E0.out.step b2).step (below_all w2 (.cells #[.int .i64 y0, .int .i64 y1, .slice a2 Y.length c2] 41))
      obtain ⟨W2, hW2⟩ : ∃ W, w2.alloc (.cells #[.int .i64 y0, .int .i64 y1, .slice a2 Y.length c2] 41) = W := ⟨_, rfl⟩
      obtain ⟨fb, hfb⟩ : ∃ q, w2.heap.size = q := ⟨_, rfl⟩
      rw [hW2] at hX hI hE
      rw [hfb] at hX
      have HX2 := Lib.hid hX
      have HI2 := Lib.hid hI
      have E2 := Lib.hid hE
      clear o2 b2 E0 rc0 rc1 hX hI hE
      go_wp2_with fail
      clear hW2 hfb
      refine (HSS.out _ E2.out.n).mono ?_
      rintro e w3 ⟨rfl, b3⟩
      have E3 := Lib.hid (E2.out.step b3)
      have HX3 := Lib.hid (HX2.out.below b3)
      have HI3 := Lib.hid (ints_below HI2.out b3)
      clear b3 E2 HX2 HI2
      go_wp2_with fail
      refine (HXX.out _ E3.out.n E3.out.f).mono ?_
      rintro e w4 ⟨a4, c4, rfl, o4, b4⟩
      simp only [rW, rH, rL, rB, List.length_nil] at o4 ⊢
      have hX := Box.new w4 41 (.int .i64 0) (.int .i64 0) (.slice a4 0 c4)
      have hI := ints_alloc o4.ints (.cells #[.int .i64 0, .int .i64 0, .slice a4 0 c4] 41)
      have hE := (E3.out.step b4).step (below_all w4 (.cells #[.int .i64 0, .int .i64 0, .slice a4 0 c4] 41))
      have hX5 := (HX3.out.below b4).alloc (.cells #[.int .i64 0, .int .i64 0, .slice a4 0 c4] 41)
      have hI5 := ints_alloc (ints_below HI3.out b4) (.cells #[.int .i64 0, .int .i64 0, .slice a4 0 c4] 41)
      obtain ⟨W4, hW4⟩ : ∃ W, w4.alloc (.cells #[.int .i64 0, .int .i64 0, .slice a4 0 c4] 41) = W := ⟨_, rfl⟩
      obtain ⟨fc, hfc⟩ : ∃ q, w4.heap.size = q := ⟨_, rfl⟩
      rw [hW4] at hX hI hE hX5 hI5
      rw [hfc] at hX
      have HI4 := Lib.hid hI
      have HI5 := Lib.hid hI5
      have E4 := Lib.hid hE
      obtain ⟨f0, f1, f2⟩ := hX.cells
      obtain ⟨h0, h1, h2⟩ := hX5.cells
      obtain ⟨rd0, rd1⟩ := hE.xc
      clear o4 b4 E3 hX hI hE hX5 hI5 HX3 HI3
      have B9 := Lib.hid E4.out.b
      obtain ⟨t0, t1, t2⟩ := E4.out.r.cells
      have g0 := E4.out.r.frozen 0
      have g1 := E4.out.r.frozen 1
      have g2 := E4.out.r.frozen 2
      go_wp2_with fail
      refine bodyPost_ret (v := .tuple #[.agg #[.int .i64 0, .int .i64 0, .slice none 0 0], .bool false]) (by simp [results, Tryd.results44, go_sem, t0, t1, t2]) rfl ?_
      first | exact ⟨none, 0, rfl, OwnI.none_, B9.out⟩ | exact fret_put (r := none) B9.out OwnI.none_ rfl _ _ _
    | some rx =>
      obtain ⟨x0, x1, X⟩ := rx
      obtain ⟨u1, u2, u3⟩ := hgx _ rfl
      obtain ⟨v1, v2, v3⟩ := hgy _ rfl
      simp only at u1 u2 u3 v1 v2 v3
      subst u1 u2 v1 v2
      have hop : opB (k - 3 + 1) = true := by unfold opB; simp; omega
      have hR : ((some (y0, y1, X) : Option Fv).bind fun a => (some (y0, y1, Y) : Option Fv).bind fun b => combineR (k - 2) a.1 a.2.1 a.2.2 b.1 b.2.1 b.2.2) = combR (ofV (opF (k - 3 + 1))) y0 y1 X y0 y1 Y := by
        show combineR (k - 2) y0 y1 X y0 y1 Y = _
        rw [show k - 2 = k - 3 + 1 by omega]
        exact if_pos hop
      rw [hR]
      have lx := good_le u3
      have ly := good_le v3
      have hsm := same_yes u3 v3
      have HE := Lib.hid (fun ax cx ay cy W h h' => l4Combine_any (k - 3 + 1) y0 y1 ax X cx ay Y cy W h h' (by omega) (by omega) hop hsm)
      clear hgx hgy hR u3 v3 hop hsm lx ly
      generalize combR (ofV (opF (k - 3 + 1))) y0 y1 X y0 y1 Y = R at *
      go_enter Tryd.func44, Tryd.ntmps44
      go_wp2_with fail
      refine (HYY.out _ E0.out.n E0.out.f).mono ?_
      rintro e w2 ⟨a2, c2, rfl, o2, b2⟩
      simp only [rW, rH, rL, rB, List.length_nil] at o2 ⊢
      have hX := Box.new w2 41 (.int .i64 y0) (.int .i64 y1) (.slice a2 Y.length c2)
      have hI := ints_alloc o2.ints (.cells #[.int .i64 y0, .int .i64 y1, .slice a2 Y.length c2] 41)
      have hE := (E0.out.step b2).step (below_all w2 (.cells #[.int .i64 y0, .int .i64 y1, .slice a2 Y.length c2] 41))
      obtain ⟨W2, hW2⟩ : ∃ W, w2.alloc (.cells #[.int .i64 y0, .int .i64 y1, .slice a2 Y.length c2] 41) = W := ⟨_, rfl⟩
      obtain ⟨fb, hfb⟩ : ∃ q, w2.heap.size = q := ⟨_, rfl⟩
      rw [hW2] at hX hI hE
      rw [hfb] at hX
      have HX2 := Lib.hid hX
      have HI2 := Lib.hid hI
      have E2 := Lib.hid hE
      clear o2 b2 E0 rc0 rc1 hX hI hE
      go_wp2_with fail
      clear hW2 hfb
      refine (HSS.out _ E2.out.n).mono ?_
      rintro e w3 ⟨rfl, b3⟩
      have E3 := Lib.hid (E2.out.step b3)
      have HX3 := Lib.hid (HX2.out.below b3)
      have HI3 := Lib.hid (ints_below HI2.out b3)
      clear b3 E2 HX2 HI2
      go_wp2_with fail
      refine (HXX.out _ E3.out.n E3.out.f).mono ?_
      rintro e w4 ⟨a4, c4, rfl, o4, b4⟩
      simp only [rW, rH, rL, rB, List.length_nil] at o4 ⊢
      have hX := Box.new w4 41 (.int .i64 y0) (.int .i64 y1) (.slice a4 X.length c4)
      have hI := ints_alloc o4.ints (.cells #[.int .i64 y0, .int .i64 y1, .slice a4 X.length c4] 41)
      have hE := (E3.out.step b4).step (below_all w4 (.cells #[.int .i64 y0, .int .i64 y1, .slice a4 X.length c4] 41))
      have hX5 := (HX3.out.below b4).alloc (.cells #[.int .i64 y0, .int .i64 y1, .slice a4 X.length c4] 41)
      have hI5 := ints_alloc (ints_below HI3.out b4) (.cells #[.int .i64 y0, .int .i64 y1, .slice a4 X.length c4] 41)
      obtain ⟨W4, hW4⟩ : ∃ W, w4.alloc (.cells #[.int .i64 y0, .int .i64 y1, .slice a4 X.length c4] 41) = W := ⟨_, rfl⟩
      obtain ⟨fc, hfc⟩ : ∃ q, w4.heap.size = q := ⟨_, rfl⟩
      rw [hW4] at hX hI hE hX5 hI5
      rw [hfc] at hX
      have HI4 := Lib.hid hI
      have HI5 := Lib.hid hI5
      have E4 := Lib.hid hE
      obtain ⟨f0, f1, f2⟩ := hX.cells
      obtain ⟨h0, h1, h2⟩ := hX5.cells
      obtain ⟨rd0, rd1⟩ := hE.xc
      clear o4 b4 E3 hX hI hE hX5 hI5 HX3 HI3
      go_wp2_with fail
      refine (HE.out a4 c4 a2 c2 _ HI4.out HI5.out).mono ?_
      rintro e w5 ⟨a5, c5, rfl, o5, b5⟩
      have O5 := Lib.hid (o5.more (C := w.heap.size + 1) (by have := E4.out.x.lt; omega))
      have E5 := Lib.hid (E4.out.step b5)
      have B9 := Lib.hid E5.out.b
      obtain ⟨t0, t1, t2⟩ := E5.out.r.cells
      have g0 := E5.out.r.frozen 0
      have g1 := E5.out.r.frozen 1
      have g2 := E5.out.r.frozen 2
      clear o5 b5 E4 f0 f1 f2 h0 h1 h2 rd0 rd1 hW4 hfc HI4 HI5
      go_wp2_with fail
      refine bodyPost_ret (v := .tuple #[.agg #[.int .i64 (rW R), .int .i64 (rH R), .slice a5 (rL R).length c5], .bool (rB R)]) (by simp [results, Tryd.results44, go_sem, t0, t1, t2]) rfl ?_
      exact fret_put (r := R) B9.out O5.out rfl _ _ _
end Go.Proofs.YtdkffljnfemngabDoor
namespace Go.Proofs.YtdkffljnfemngabDoor
open Go.RowKit
set_option linter.unusedVariables false
set_option linter.unusedSimpArgs false
/-- fields that are alike, by the fields in memory -/
structure OkF (es : List FE) (wd hg : Int) : Prop where
  n : 1 ≤ es.length ∧ es.length ≤ 4
  e : ∀ j (h : j < es.length), es[j].wd = wd ∧ es[j].hg = hg ∧ goodB wd hg es[j].l = true
theorem okF_of {es : List FE} (h : fieldsB (plains es) = true) (h0 : 0 < es.length) : OkF es es[0].wd es[0].hg := by
  have hlen := (fieldsB_iff.1 h).1
  rw [plains_len] at hlen
  obtain ⟨hne, hall⟩ := fields_allF h
  rw [plains_head es h0] at hall
  refine ⟨hlen, fun j hj => ?_⟩
  have h1 := hall _ (List.getElem_mem (h := show j < (plains es).length by rw [plains_len]; exact hj))
  rw [plains_get es j _ hj] at h1
  exact h1
theorem OkF.allF {es : List FE} {wd hg : Int} (h : OkF es wd hg) : plains es ≠ [] ∧ allF wd hg (plains es) := by
  refine ⟨fun e => ?_, fun f hf => ?_⟩
  · have := congrArg List.length e
    rw [plains_len, List.length_nil] at this
    have := h.n
    omega
  · obtain ⟨j, hj, rfl⟩ := List.getElem_of_mem hf
    have hj2 : j < es.length := by rwa [plains_len] at hj
    rw [plains_get es j hj hj2]
    exact h.e j hj2
theorem good_pos {wd hg : Int} {l : List Int} (h : goodB wd hg l = true) : 0 < l.length := by
  have h1 := good_len h
  have h2 := shapeB_iff.1 (good_shape h)
  have : 0 < wd * hg := Int.mul_pos (by omega) (by omega)
  omega
theorem eval_n0 {es : List FE} {wd hg : Int} (h : OkF es wd hg) (v : Int) (h0 : 0 < es.length) (v0 : 0 ≤ v) (v9 : v ≤ 9000) : evalT (plains es) (.n0 2 v) = some (es[0].wd, es[0].hg, List.replicate (es[0].wd * es[0].hg).toNat v) := by
  obtain ⟨e1, e2, e3⟩ := h.e 0 h0
  unfold evalT
  rw [if_neg (by omega), plains_head es h0]
  refine newR_yes ?_
  rw [e1, e2, good_shape e3, cellB_iff.2 (.inr ⟨by omega, v9⟩)]
  rfl
theorem eval_n1 {es : List FE} (n : Nat) (h : n < es.length) : evalT (plains es) (.n0 1 (n : Int)) = some (es[n].wd, es[n].hg, es[n].l) := by
  unfold evalT
  rw [if_pos rfl, Int.toNat_natCast, List.getElem?_eq_getElem (by rw [plains_len]; exact h), plains_get es n _ h]
theorem eval_none {es : List FE} (n : Nat) (h : ¬ n < es.length) : evalT (plains es) (.n0 1 (n : Int)) = none := by
  unfold evalT
  rw [if_pos rfl, Int.toNat_natCast, List.getElem?_eq_none (by rw [plains_len]; omega)]
theorem specValue_any (a : Option Addr) (l : List Nd) (c : Nat) (af : Option Addr) (es : List FE) (cf : Nat) (hn : l.length ≤ 1048576) (wd hg0 : Int) (hok : OkF es wd hg0) : ∀ (t : ET) (pre post : List Nd) (i : Nat), t.ok → l = pre ++ t.flat ++ post → i + 1 = pre.length + t.flat.length → ∀ w : World, Nds w w.heap.size a l → Flds w w.heap.size af es →
    Calls Tryd.prog 44 #[.slice a l.length c, .int .i64 (i : Int), .slice af es.length cf] w (FRet (evalT (plains es) t) w) := by
  have hlen := hok.n
  have h0 : 0 < es.length := by omega
  obtain ⟨hne, hall⟩ := hok.allF
  have HG := fun t (hk : ET.ok t) r hr => eval_good hne hall t hk r hr
  intro t
  induction t with
  | n0 k v =>
    intro pre post i ht hl hi w hnd hfd
    obtain ⟨hlt, hg⟩ := root_get hl hi
    simp only [ET.kind, ET.val] at hg
    rcases arity0 ht with ⟨rfl, v0, v3⟩ | ⟨rfl, v0, v9⟩
    · obtain ⟨n, rfl⟩ : ∃ n : Nat, v = (n : Int) := ⟨v.toNat, by omega⟩
      by_cases hv : n < es.length
      · rw [eval_n1 n hv]
        have e3 := (hok.e n hv).2.2
        have := good_le e3
        exact val_field a l c af es cf i n hn w hnd hfd hlt hg hv (good_pos e3) (by omega)
      · rw [eval_none n hv]
        exact val_gone a l c af es cf i n hn w hnd hfd hlt hg hv
    · rw [eval_n0 hok v h0 v0 v9]
      obtain ⟨e1, e2, e3⟩ := hok.e 0 h0
      exact val_num a l c af es cf i v hn w hnd hfd hlt hg h0 (by rw [e1, e2]; exact good_shape e3)
  | n1 k v x ih =>
    intro pre post i ht hl hi w hnd hfd
    obtain ⟨hlt, hg⟩ := root_get hl hi
    simp only [ET.kind, ET.val] at hg
    obtain ⟨rfl, v0, v9⟩ := arity1 ht.1
    have hp := flat_pos x
    simp only [ET.flat, List.length_append, List.length_singleton] at hi
    obtain ⟨j, hj⟩ : ∃ j, i = j + 1 := ⟨i - 1, by omega⟩
    have HR := ih pre ((7, v) :: post) j ht.2 (by rw [hl]; simp [ET.flat]) (by omega)
    exact val_above a l c af es cf i v hn w hnd hfd hlt hg j hj (evalT (plains es) x) wd hg0 (HG x ht.2) (fun W h1 h2 => HR W h1 h2)
  | n2 k v x y ih1 ih2 =>
    intro pre post i ht hl hi w hnd hfd
    obtain ⟨hlt, hg⟩ := root_get hl hi
    simp only [ET.kind, ET.val] at hg
    obtain ⟨k3, k6, rfl⟩ := arity2 ht.1
    have hpx := flat_pos x
    have hpy := flat_pos y
    simp only [ET.flat, List.length_append, List.length_singleton] at hi
    obtain ⟨j, hj⟩ : ∃ j, i = j + 1 := ⟨i - 1, by omega⟩
    obtain ⟨s, hs⟩ : ∃ s, pre.length + x.flat.length = s + 1 := ⟨pre.length + x.flat.length - 1, by omega⟩
    have e2 : l = (pre ++ x.flat) ++ y.flat ++ ((k, 0) :: post) := by rw [hl]; simp [ET.flat]
    have HR2 := ih2 (pre ++ x.flat) ((k, 0) :: post) j ht.2.2 e2 (by rw [List.length_append]; omega)
    have HST := start_any a l c hn y (pre ++ x.flat) ((k, 0) :: post) j ht.2.2 e2 (by rw [List.length_append]; omega)
    rw [List.length_append, hs] at HST
    have HR1 := ih1 pre (y.flat ++ (k, 0) :: post) s ht.2.1 (by rw [hl]; simp [ET.flat]) (by omega)
    have hll : l.length = pre.length + (x.flat.length + y.flat.length + 1) + post.length := by rw [hl]; simp [ET.flat]; omega
    exact val_two a l c af es cf i k hn w hnd hfd hlt hg k3 k6 j s hj (by omega) (evalT (plains es) x) (evalT (plains es) y) wd hg0 (HG x ht.2.1) (HG y ht.2.2) (fun W h1 h2 => HR2 W h1 h2) (fun W h1 => HST W h1) (fun W h1 h2 => HR1 W h1 h2)
end Go.Proofs.YtdkffljnfemngabDoor
namespace Go.Proofs.YtdkffljnfemngabDoor
open Go.RowKit
set_option linter.unusedVariables false
set_option linter.unusedSimpArgs false
set_option maxRecDepth 100000 in
set_option maxHeartbeats 4000000 in
theorem specEval_any (a : Option Addr) (l : List Nd) (c : Nat) (af : Option Addr) (es : List FE) (cf : Nat) (w : World) (hnd : Nds w w.heap.size a l) (hfd : Flds w w.heap.size af es) (hn : l.length ≤ 1048576) (hm : es.length ≤ 1048576) (hs : ∀ e ∈ es, e.l.length ≤ 1048576) :
    Calls Tryd.prog 17 #[.slice a l.length c, .slice af es.length cf] w (FRet (evalR l (plains es)) w) := by
  have R0 := Lib.hid (Box.new w 41 (.int .i64 0) (.int .i64 0) (.slice none 0 0))
  have B0 := Lib.hid (below_all w (.cells #[.int .i64 0, .int .i64 0, .slice none 0 0] 41))
  have N0 := Lib.hid (nds_alloc hnd (.cells #[.int .i64 0, .int .i64 0, .slice none 0 0] 41))
  have F0 := Lib.hid (flds_alloc hfd (.cells #[.int .i64 0, .int .i64 0, .slice none 0 0] 41))
  have HC := Lib.hid (fun W h => specExprGood_any a l c W h hn)
  clear hnd hfd
  cases ht : treeT l with
  | none =>
    have hR : evalR l (plains es) = none := by unfold evalR; rw [ht]; split <;> rfl
    rw [hR]
    have hb : exprB l = false := by rw [exprB_tree, ht]; rfl
    rw [hb] at HC
    clear hb hR ht
    go_enter Tryd.func17, Tryd.ntmps17
    go_wp2_with fail
    refine (HC.out _ N0.out).mono ?_
    rintro e w1 ⟨rfl, b1⟩
    have R1 := R0.out.below b1
    obtain ⟨t0, t1, t2⟩ := R1.cells
    have g0 := R1.frozen 0
    have g1 := R1.frozen 1
    have g2 := R1.frozen 2
    have B9 := Lib.hid (below_then B0.out b1)
    clear b1 R1 R0 B0
    go_wp2_with fail
    refine bodyPost_ret (v := .tuple #[.agg #[.int .i64 0, .int .i64 0, .slice none 0 0], .bool false]) (by simp [results, Tryd.results17, go_sem, t0, t1, t2]) rfl ?_
    first | exact ⟨none, 0, rfl, OwnI.none_, B9.out⟩ | exact fret_put (r := none) B9.out OwnI.none_ rfl _ _ _
  | some t =>
    have hb : exprB l = true := by rw [exprB_tree, ht]; rfl
    rw [hb] at HC
    obtain ⟨h15, hf, hok⟩ := treeT_some ht
    have hp := flat_pos t
    rw [hf] at hp
    obtain ⟨j, hj⟩ : ∃ j, l.length = j + 1 := ⟨l.length - 1, by omega⟩
    cases hfb : fieldsB (plains es) with
    | false =>
      have hR : evalR l (plains es) = none := if_neg (by rw [hfb]; simp)
      rw [hR]
      have HF := Lib.hid (fun W h => specFields_is af es cf false W h hm hs hfb)
      clear hb hR ht hf hok hp hfb hj
      go_enter Tryd.func17, Tryd.ntmps17
      go_wp2_with fail
      refine (HC.out _ N0.out).mono ?_
      rintro e w1 ⟨rfl, b1⟩
      have R1 := Lib.hid (R0.out.below b1)
      have F1 := Lib.hid (flds_below F0.out b1)
      have B1 := Lib.hid (below_then B0.out b1)
      clear b1 R0 B0 F0
      go_wp2_with fail
      refine (HF.out _ F1.out).mono ?_
      rintro e w2 ⟨rfl, b2⟩
      have R2 := R1.out.below b2
      obtain ⟨t0, t1, t2⟩ := R2.cells
      have g0 := R2.frozen 0
      have g1 := R2.frozen 1
      have g2 := R2.frozen 2
      have B9 := Lib.hid (below_then B1.out b2)
      clear b2 R2 R1 B1
      go_wp2_with fail
      refine bodyPost_ret (v := .tuple #[.agg #[.int .i64 0, .int .i64 0, .slice none 0 0], .bool false]) (by simp [results, Tryd.results17, go_sem, t0, t1, t2]) rfl ?_
      first | exact ⟨none, 0, rfl, OwnI.none_, B9.out⟩ | exact fret_put (r := none) B9.out OwnI.none_ rfl _ _ _
    | true =>
      have hR : evalR l (plains es) = evalT (plains es) t := by unfold evalR; rw [if_pos hfb, ht]; rfl
      rw [hR]
      have HF := Lib.hid (fun W h => specFields_is af es cf true W h hm hs hfb)
      have hlen := (fieldsB_iff.1 hfb).1
      rw [plains_len] at hlen
      have hokF := okF_of hfb (by omega)
      have HV := Lib.hid (fun W h h' => specValue_any a l c af es cf hn _ _ hokF t [] [] j hok (by simp [hf]) (by rw [hf, hj]; simp) W h h')
      have ej : (l.length : Int) - 1 = (j : Int) := by omega
      generalize evalT (plains es) t = R at HV ⊢
      clear hb hR ht hf hok hp hfb hj hokF hlen
      go_enter Tryd.func17, Tryd.ntmps17
      go_wp2_with fail
      refine (HC.out _ N0.out).mono ?_
      rintro e w1 ⟨rfl, b1⟩
      have R1 := Lib.hid (R0.out.below b1)
      have F1 := Lib.hid (flds_below F0.out b1)
      have N1 := Lib.hid (nds_below N0.out b1)
      have B1 := Lib.hid (below_then B0.out b1)
      clear b1 R0 B0 F0 N0
      go_wp2_with fail
      refine (HF.out _ F1.out).mono ?_
      rintro e w2 ⟨rfl, b2⟩
      have R2 := Lib.hid (R1.out.below b2)
      have F2 := Lib.hid (flds_below F1.out b2)
      have N2 := Lib.hid (nds_below N1.out b2)
      have B2 := Lib.hid (below_then B1.out b2)
      clear b2 R1 B1 F1 N1
      go_wp2_with fail
      refine (HV.out _ N2.out F2.out).mono ?_
      rintro e w5 ⟨a5, c5, rfl, o5, b5⟩
      have O5 := Lib.hid (o5.more (C := w.heap.size + 1) (by have := R2.out.lt; omega))
      have R5 := R2.out.below b5
      have B9 := Lib.hid (below_then B2.out b5)
      obtain ⟨t0, t1, t2⟩ := R5.cells
      have g0 := R5.frozen 0
      have g1 := R5.frozen 1
      have g2 := R5.frozen 2
      clear o5 b5 R5
      go_wp2_with fail
      refine bodyPost_ret (v := .tuple #[.agg #[.int .i64 (rW R), .int .i64 (rH R), .slice a5 (rL R).length c5], .bool (rB R)]) (by simp [results, Tryd.results17, go_sem, t0, t1, t2]) rfl ?_
      exact fret_put (r := R) B9.out O5.out rfl _ _ _
end Go.Proofs.YtdkffljnfemngabDoor
namespace Go.Proofs.YtdkffljnfemngabDoor
open Go.RowKit
set_option linter.unusedVariables false
set_option linter.unusedSimpArgs false
set_option maxRecDepth 100000 in
set_option maxHeartbeats 1000000 in
theorem cloneI_any (b o : Nat) (l : List Int) (c : Nat) (w : World) (hl : Ints .i64 w w.heap.size (some ⟨b, o, none⟩) l) (hn : l.length ≤ 1048576) (h0 : 0 < l.length) :
    Calls Tryd.prog 71 #[.slice (some ⟨b, o, none⟩) l.length c] w (IntsPost l w) := by
  obtain ⟨i0, hi0', hz0, hz1, hz2⟩ := info_parts infoInt
  rcases hl with rfl | ⟨b', o', e, hb, hc⟩
  · simp at h0
  · injection e with e
    injection e with e1 e2
    subst e1 e2
    have HC : Hid (∀ j u, (iv l)[j]? = some u → (w.alloc (.cells #[] 3)).cell? ((⟨b, o, none⟩ : Addr).add j) = some u) := by
      refine Lib.hid ?_
      intro j u hu
      obtain ⟨hj, hu⟩ := List.getElem?_eq_some_iff.1 hu
      rw [iv_length] at hj
      have e : (⟨b, o, none⟩ : Addr).add j = ⟨b, o + j, none⟩ := by unfold Addr.add; split <;> simp_all
      rw [e, World.cell?_alloc_lt _ _ _ (by simpa using hb), hc j hj, ← hu, iv_get]
    have HO := Lib.hid (World.ownsRow_made (base := w.heap.size) (e := 3) (size := 1) w #[] 0 (Nat.le_refl _) (by simp) rfl)
    clear hc
    have q0 : ∀ (W : World), (binOp .eql 32 (.slice (some ⟨b, o, none⟩) l.length c) (.slice none 0 0)).run Tryd.prog W = .ok (.bool false) W := fun _ => rfl
    go_enter Tryd.func71, Tryd.ntmps71
    go_wp2_with (at_builtin; refine wpList_append_own _ rfl _ _ 32 rfl w.heap.size 3 i0 (.int .i64 0) 1 8 Tryd.underlying32 hi0' hz0 hz1 hz2 rfl (by decide) _ 0 [] rfl HO.out ⟨b, o, none⟩ l.length c (iv l) rfl (by rw [iv_length]; simp) HC.out (iv_one l) (by unfold maxLen; omega) (by omega) (by simp) ?_; intro v' w1 hown' hgrow _; rw [Nat.zero_add, List.nil_append] at hown'; have HB := Lib.hid ((below_all w _).grown hgrow (by simp) (fun k hk => (HO.out.lt k hk).1)); obtain ⟨a', c', hv, ho⟩ := ownI_of hown' rfl; subst hv; have HO1 := Lib.hid ho; clear hown' hgrow ho)
    go_ret
    exact ⟨a', c', rfl, HO1.out, HB.out⟩
end Go.Proofs.YtdkffljnfemngabDoor
namespace Go.Proofs.YtdkffljnfemngabDoor
open Go.RowKit
set_option linter.unusedVariables false
set_option linter.unusedSimpArgs false
theorem own_row {w : World} {B n size : Nat} {e : TypeId} {v : Value} {xs : List Value} (h : w.ownsRow B e size v n xs) (hn : 0 < n) (hs : 0 < size) : ∃ g cap, v = .slice (some ⟨g, 0, none⟩) n cap ∧ B ≤ g ∧ Row w g e xs := by
  obtain ⟨h1, ⟨h2, h3⟩ | ⟨g, cap, cur, h2, hb, hh, hc, _, hcs, hx⟩⟩ := h
  · omega
  · refine ⟨g, cap, h2, hb, cur, hh, fun k hk => ?_⟩
    have e : xs[k]? = cur[k]? := by
      rw [← hx, List.getElem?_take]
      rw [h1] at hk
      rw [if_pos hk]
      simp
    rw [← e]
    exact List.getElem?_eq_getElem hk
theorem own_ne_row3 {w : World} {g base e n size : Nat} {t : TypeId} {vs xs : List Value} {v : Value} (h : w.ownsRow base e size v n xs) (hr : Row w g t vs) (hne : e ≠ t) : v.ownBlock ≠ some g := by
  obtain ⟨c, h1, _⟩ := hr
  rcases h.2 with ⟨rfl, _⟩ | ⟨g', cap, cur, rfl, _, hh, _⟩
  · simp [Value.ownBlock]
  · intro he
    have : g' = g := by simpa [Value.ownBlock] using he
    subst this
    rw [h1] at hh
    injection hh with hh
    injection hh with _ ht
    exact hne ht.symm
theorem ownI_grown {w w' : World} {base e n size B : Nat} {a : Option Addr} {l : List Int} {xs : List Value} {v : Value} (ho : OwnI w B a l) (h : w.ownsRow base e size v n xs) (hg : w.grownBy w' v.ownBlock) (hne : e ≠ 3) : OwnI w' B a l := by
  obtain ⟨g, h1, h2⟩ := ho
  rcases h2 with h2 | ⟨h2, h3⟩
  · exact ⟨g, h1, .inl h2⟩
  · exact ⟨g, h1, .inr ⟨h2, h3.of_block (hg.block g h3.lt (fun e => own_ne_row3 h h3 hne e.symm))⟩⟩
/-- the values of the first arguments, in a row of the call's own -/
def Vs (w : World) (R : Nat → Option Fv) (k : Nat) (vs : Value) (wr : World) : Prop :=
  ∃ Es : List FE, Es.length = k ∧ (∀ j (h : j < Es.length), R j = some Es[j].plain) ∧ wr.ownsRow (w.heap.size + 1) 41 3 vs k (fvs Es) ∧ ∀ j (h : j < Es.length), OwnI wr (w.heap.size + 1) Es[j].ad Es[j].l
theorem Vs.snoc {w wr w1 : World} {R : Nat → Option Fv} {k : Nat} {vs vs' : Value} {Es : List FE} {r0 r1 : Int} {L : List Int} {a : Option Addr} {c : Nat} (hE : Es.length = k) (hR : ∀ j (h : j < Es.length), R j = some Es[j].plain) (hk : R k = some (r0, r1, L))
    (ho : wr.ownsRow (w.heap.size + 1) 41 3 vs k (fvs Es)) (hi : ∀ j (h : j < Es.length), OwnI wr (w.heap.size + 1) Es[j].ad Es[j].l) (hl : OwnI wr (w.heap.size + 1) a L) (hg : wr.grownBy w1 vs.ownBlock)
    (ho' : w1.ownsRow (w.heap.size + 1) 41 3 vs' (k + 1) (fvs Es ++ [.int .i64 r0, .int .i64 r1, .slice a L.length c])) : Vs w R (k + 1) vs' w1 := by
  refine ⟨Es ++ [⟨r0, r1, a, L, c, 0⟩], by simp [hE], fun j h => ?_, by rw [fvs_append]; exact ho', fun j h => ?_⟩
  all_goals
    rw [List.length_append, List.length_singleton] at h
    by_cases e : j < Es.length
  · rw [List.getElem_append_left e]; exact hR j e
  · obtain rfl : j = Es.length := by omega
    rw [List.getElem_append_right (Nat.le_refl _)]
    simp only [Nat.sub_self, List.getElem_cons_zero]
    rw [hE]; exact hk
  · rw [List.getElem_append_left e]; exact ownI_grown (hi j e) ho hg (by decide)
  · obtain rfl : j = Es.length := by omega
    rw [List.getElem_append_right (Nat.le_refl _)]
    simp only [Nat.sub_self, List.getElem_cons_zero]
    exact ownI_grown hl ho hg (by decide)
end Go.Proofs.YtdkffljnfemngabDoor
namespace Go.Proofs.YtdkffljnfemngabDoor
open Go.RowKit
set_option linter.unusedVariables false
set_option linter.unusedSimpArgs false
/-- what the case of a field knows -/
structure Vk (w : World) (u0 u1 u2 : Value) (w' : World) : Prop where
  b : Below w.heap.size w w'
  r : Box w' w.heap.size 41 (.int .i64 0) (.int .i64 0) (.slice none 0 0)
  f : Box w' (w.heap.size + 1) 41 u0 u1 u2
theorem Vk.new (w : World) (u0 u1 u2 : Value) : Vk w u0 u1 u2 ((w.alloc (.cells #[.int .i64 0, .int .i64 0, .slice none 0 0] 41)).alloc (.cells #[u0, u1, u2] 41)) := by
  refine ⟨(below_all w _).alloc (by simp) _, (Box.new w _ _ _ _).alloc _, ?_⟩
  have h := Box.new (w.alloc (.cells #[.int .i64 0, .int .i64 0, .slice none 0 0] 41)) 41 u0 u1 u2
  rw [World.size_alloc] at h
  exact h
theorem Vk.step {w w1 w2 : World} {u0 u1 u2 : Value} (h : Vk w u0 u1 u2 w1) (b : Below w1.heap.size w1 w2) : Vk w u0 u1 u2 w2 := ⟨below_then h.b b, h.r.below b, h.f.below b⟩
set_option maxRecDepth 100000 in
set_option maxHeartbeats 8000000 in
theorem vf_field (P : Nat → Prop) (n b : Nat) (af : Option Addr) (es : List FE) (cf : Nat) (w : World) (ht : TreeAt w P (.n0 1 (n : Int)) b) (hfd : Flds w w.heap.size af es) (hv : n < es.length) (hm : es.length ≤ 4) (hgd : goodB es[n].wd es[n].hg es[n].l = true) :
    Calls Tryd.prog 48 #[.pointer (some ⟨b, 0, none⟩), .slice af es.length cf] w (FRet (some (es[n].wd, es[n].hg, es[n].l)) w) := by
  obtain ⟨h1, ta, tc, h2⟩ := ht
  have d0 := h2.cell 0
  have d1 := h2.cell 1
  simp [tcells] at d0 d1
  have hbl := h2.lt
  obtain ⟨bf, of, rfl, hbf, q0, q1, q2, q3⟩ := hfd.at_ hv
  have hpos := good_pos hgd
  have hle := good_le hgd
  obtain ⟨bl, ol, el, hbl2⟩ : ∃ bl ol, es[n].ad = some ⟨bl, ol, none⟩ ∧ True := by
    rcases q3 with h | ⟨bl, ol, e, _⟩
    · rw [h] at hpos; simp at hpos
    · exact ⟨bl, ol, e, trivial⟩
  rw [el] at q2 q3
  have K0 := Lib.hid (Vk.new w (.int .i64 es[n].wd) (.int .i64 es[n].hg) (.slice (some ⟨bl, ol, none⟩) es[n].l.length es[n].c))
  have I0 := Lib.hid (ints_below (ints_alloc (ints_alloc q3 (.cells #[.int .i64 0, .int .i64 0, .slice none 0 0] 41)) (.cells #[.int .i64 es[n].wd, .int .i64 es[n].hg, .slice (some ⟨bl, ol, none⟩) es[n].l.length es[n].c] 41)) ((Drew.more (Drew.refl _) 1).below _))
  have HCL := Lib.hid (fun W (h : Ints .i64 W W.heap.size (some ⟨bl, ol, none⟩) (es[n]'hv).l) => cloneI_any bl ol (es[n]'hv).l (es[n]'hv).c W h (by omega) hpos)
  have HWC := Lib.hid (fun ax cx W (h : Ints .i64 W W.heap.size ax (es[n]'hv).l) => withCells_yes (es[n]'hv).wd (es[n]'hv).hg (some ⟨bl, ol, none⟩) (es[n]'hv).l.length (es[n]'hv).c ax (es[n]'hv).l cx W h (by omega) hgd)
  have nv1 : (n : Int) < (es.length : Int) := by omega
  have nv0 : (0 : Int) ≤ (n : Int) := by omega
  clear h1 h2 hfd q3 hgd hpos hle el hbl2
  generalize es[n].wd = x0 at *
  generalize es[n].hg = x1 at *
  generalize es[n].c = x3 at *
  generalize es[n].l = L at *
  obtain ⟨k0, k1, k2⟩ := K0.out.f.cells
  go_enter Tryd.func48, Tryd.ntmps48
  go_wp2_with fail
  have KD := Lib.hid (K0.out.step ((Drew.more (Drew.refl _) 1).below _))
  go_region_held3 (fun w' => w'.cell? ⟨w.heap.size + 1, 0, none⟩ = some (.int .i64 x0) ∧ w'.cell? ⟨w.heap.size + 1, 1, none⟩ = some (.int .i64 x1) ∧ w'.cell? ⟨w.heap.size + 1, 2, none⟩ = some (.slice (some ⟨bl, ol, none⟩) L.length x3))
    (first | exact K3.out.f.cells | exact K2.out.f.cells | exact K0.out.f.cells | exact (box_other3 K3.out.f (show w.heap.size + 1 ≠ w.heap.size by omega) _ _ _).cells | go_keep)
    (first
      | (go_at_call 71; refine (HCL.out _ I0.out).mono ?_; rintro e w2 ⟨a2, c2, rfl, o2, b2⟩; have K2 := Lib.hid (KD.out.step b2); have O2 := Lib.hid (o2.more (C := w.heap.size + 1) (Nat.le_of_lt KD.out.f.lt)); clear b2 o2)
      | (go_at_call 70; refine (HWC.out a2 c2 _ O2.out.ints).mono ?_; rintro e w3 ⟨rfl, b3⟩; have K3 := Lib.hid (K2.out.step b3); have O3 := Lib.hid (O2.out.below b3); have B9 := Lib.hid K3.out.b; obtain ⟨t0, t1, t2⟩ := K3.out.r.cells; have g0 := K3.out.r.frozen 0; have g1 := K3.out.r.frozen 1; have g2 := K3.out.r.frozen 2; clear b3))
  all_goals
    rename_i hHeld
    clear hHeld
    go_wp2
    refine bodyPost_ret (v := .tuple #[.agg #[.int .i64 x0, .int .i64 x1, .slice a2 L.length c2], .bool true]) (by simp [results, Tryd.results48, go_sem, t0, t1, t2]) rfl ?_
    exact fret_put (r := some (x0, x1, L)) B9.out O3.out rfl _ _ _
end Go.Proofs.YtdkffljnfemngabDoor
namespace Go.Proofs.YtdkffljnfemngabDoor
open Go.RowKit
set_option linter.unusedVariables false
set_option linter.unusedSimpArgs false
set_option maxRecDepth 100000 in
set_option maxHeartbeats 4000000 in
theorem vf_gone (P : Nat → Prop) (n b : Nat) (af : Option Addr) (es : List FE) (cf : Nat) (w : World) (ht : TreeAt w P (.n0 1 (n : Int)) b) (hv : ¬ n < es.length) (hn3 : n ≤ 3) :
    Calls Tryd.prog 48 #[.pointer (some ⟨b, 0, none⟩), .slice af es.length cf] w (FRet none w) := by
  obtain ⟨h1, ta, tc, h2⟩ := ht
  have d0 := h2.cell 0
  have d1 := h2.cell 1
  simp [tcells] at d0 d1
  have hbl := h2.lt
  have R0 := Box.new w 41 (.int .i64 0) (.int .i64 0) (.slice none 0 0)
  have B9 := Lib.hid (below_all w (.cells #[.int .i64 0, .int .i64 0, .slice none 0 0] 41))
  obtain ⟨t0, t1, t2⟩ := R0.cells
  have g0 := R0.frozen 0
  have g1 := R0.frozen 1
  have g2 := R0.frozen 2
  have nv1 : ¬ (n : Int) < (es.length : Int) := by omega
  clear h1 h2 R0
  go_enter Tryd.func48, Tryd.ntmps48
  go_wp2_with fail
  refine bodyPost_ret (v := .tuple #[.agg #[.int .i64 0, .int .i64 0, .slice none 0 0], .bool false]) (by simp [results, Tryd.results48, go_sem, t0, t1, t2]) rfl ?_
  first | exact ⟨none, 0, rfl, OwnI.none_, B9.out⟩ | exact fret_put (r := none) B9.out OwnI.none_ rfl _ _ _
set_option maxRecDepth 100000 in
set_option maxHeartbeats 8000000 in
theorem vf_num (P : Nat → Prop) (v : Int) (b : Nat) (af : Option Addr) (es : List FE) (cf : Nat) (w : World) (ht : TreeAt w P (.n0 2 v) b) (hfd : Flds w w.heap.size af es) (h0 : 0 < es.length) (hm : es.length ≤ 4) :
    Calls Tryd.prog 48 #[.pointer (some ⟨b, 0, none⟩), .slice af es.length cf] w (FRet (newR es[0].wd es[0].hg v) w) := by
  obtain ⟨h1, ta, tc, h2⟩ := ht
  have d0 := h2.cell 0
  have d1 := h2.cell 1
  simp [tcells] at d0 d1
  have hbl := h2.lt
  obtain ⟨bf, of, rfl, hbf, q0, q1, q2, q3⟩ := hfd.at_ h0
  simp only [Nat.zero_mul, Nat.add_zero] at q0 q1
  have R0 := Lib.hid (Box.new w 41 (.int .i64 0) (.int .i64 0) (.slice none 0 0))
  have B0 := Lib.hid (below_all w (.cells #[.int .i64 0, .int .i64 0, .slice none 0 0] 41))
  have D1 := (B0.out.cell (p := ⟨b, 1, none⟩) hbl).trans d1
  have Q0 := (B0.out.cell (p := ⟨bf, of, none⟩) hbf).trans q0
  have Q1 := (B0.out.cell (p := ⟨bf, of + 1, none⟩) hbf).trans q1
  have hbf2 : bf < (w.alloc (.cells #[.int .i64 0, .int .i64 0, .slice none 0 0] 41)).heap.size := by simp; omega
  have hbl2 : b < (w.alloc (.cells #[.int .i64 0, .int .i64 0, .slice none 0 0] 41)).heap.size := by simp; omega
  have hne : ¬ bf = w.heap.size := by omega
  have hne2 : ¬ w.heap.size = bf := by omega
  have hne3 : ¬ b = w.heap.size := by omega
  have hne4 : ¬ w.heap.size = b := by omega
  have HC := Lib.hid (fun W => implNew_any es[0].wd es[0].hg v W)
  have n01 : (0 : Int) < (es.length : Int) := by omega
  clear h1 h2 hfd q2 q3
  generalize newR es[0].wd es[0].hg v = R at *
  generalize es[0].wd = x0 at *
  generalize es[0].hg = x1 at *
  go_enter Tryd.func48, Tryd.ntmps48
  go_wp2_with fail
  have RD := Lib.hid (R0.out.below ((Drew.more (Drew.refl _) 1).below _))
  have BD := Lib.hid (below_then B0.out ((Drew.more (Drew.refl _) 1).below _))
  go_region_held3 (fun w' => w'.cell? ⟨bf, of, none⟩ = some (.int .i64 x0) ∧ w'.cell? ⟨bf, of + 1, none⟩ = some (.int .i64 x1) ∧ w'.cell? ⟨b, 1, none⟩ = some (.int .i64 v))
    (first | exact ⟨k0, k1, k2⟩ | exact ⟨Q0, Q1, D1⟩ | go_keep)
    (first | (go_at_call 72; refine (HC.out _).mono ?_; rintro e w2 ⟨a2, c2, rfl, o2, b2⟩; have R2 := RD.out.below b2; have B9 := Lib.hid (below_then BD.out b2); have O2 := Lib.hid (o2.more (C := w.heap.size + 1) (Nat.succ_le_of_lt RD.out.lt)); have k0 := (b2.cell (p := ⟨bf, of, none⟩) hbf2).trans Q0; have k1 := (b2.cell (p := ⟨bf, of + 1, none⟩) hbf2).trans Q1; have k2 := (b2.cell (p := ⟨b, 1, none⟩) hbl2).trans D1; obtain ⟨t0, t1, t2⟩ := R2.cells; have g0 := R2.frozen 0; have g1 := R2.frozen 1; have g2 := R2.frozen 2; clear o2 b2 R2))
  rename_i hHeld
  clear hHeld
  go_wp2
  refine bodyPost_ret (v := .tuple #[.agg #[.int .i64 (rW R), .int .i64 (rH R), .slice a2 (rL R).length c2], .bool (rB R)]) (by simp [results, Tryd.results48, go_sem, t0, t1, t2]) rfl ?_
  exact fret_put (r := R) B9.out O2.out rfl _ _ _
end Go.Proofs.YtdkffljnfemngabDoor
namespace Go.Proofs.YtdkffljnfemngabDoor
open Go.RowKit
set_option linter.unusedVariables false
set_option linter.unusedSimpArgs false
set_option maxRecDepth 100000 in
set_option maxHeartbeats 16000000 in
theorem vf_op (m : Nat) (k v : Int) (hmk : (m = 1 ∧ k = 7) ∨ (m = 2 ∧ 3 ≤ k ∧ k ≤ 6)) (bs : List Nat) (hbs : bs.length = m) (b ga ca : Nat) (af : Option Addr) (es : List FE) (cf : Nat) (w : World) (v0 : 0 ≤ v) (v9 : v ≤ 9000)
    (hbox : BoxC w b 96 (tcells k v (some ⟨ga, 0, none⟩) m ca)) (hptr : ∀ j (h : j < bs.length), w.cell? ⟨ga, j, none⟩ = some (.pointer (some ⟨bs[j], 0, none⟩))) (hga : ga < w.heap.size) (hfd : Flds w w.heap.size af es)
    (R : Nat → Option Fv) (hC : ∀ j (h : j < bs.length), ∀ W, Below w.heap.size w W → Flds W W.heap.size af es → Calls Tryd.prog 48 #[.pointer (some ⟨bs[j], 0, none⟩), .slice af es.length cf] W (FRet (R j) W))
    (wd hg : Int) (hG : ∀ j r, R j = some r → r.1 = wd ∧ r.2.1 = hg ∧ goodB wd hg r.2.2 = true) (Q : Option Fv) (hN : ∀ j, j < m → R j = none → Q = none)
    (h1 : m = 1 → ∀ r, R 0 = some r → Q = exceedsR r.1 r.2.1 r.2.2 v) (h2 : m = 2 → ∀ r s, R 0 = some r → R 1 = some s → Q = combineR (k - 2) r.1 r.2.1 r.2.2 s.1 s.2.1 s.2.2) :
    Calls Tryd.prog 48 #[.pointer (some ⟨b, 0, none⟩), .slice af es.length cf] w (FRet Q w) := by
  obtain ⟨i0, hi0', hz0, hz1, hz2⟩ := info_parts infoField
  have d0 := hbox.cell 0
  have d1 := hbox.cell 1
  have d5 := hbox.cell 5
  have d9 := hbox.cell 9
  simp [tcells] at d0 d1 d5 d9
  have hbl := hbox.lt
  have D := Lib.hid (And.intro d0 (And.intro d1 d5))
  have HP := Lib.hid hptr
  have HC := Lib.hid hC
  have HG := Lib.hid hG
  have HN := Lib.hid hN
  have H1 := Lib.hid h1
  have H2 := Lib.hid h2
  have HF := Lib.hid hfd
  have R0 := Box.new w 41 (.int .i64 0) (.int .i64 0) (.slice none 0 0)
  have RA := Lib.hid (R0.alloc (.cells #[] 41))
  have BA := Lib.hid ((below_all w (.cells #[.int .i64 0, .int .i64 0, .slice none 0 0] 41)).alloc (by simp) (.cells #[] 41))
  have hOA := (World.ownsRow_made (base := w.heap.size + 1) (e := 41) (size := 3) (w.alloc (.cells #[.int .i64 0, .int .i64 0, .slice none 0 0] 41)) #[] 0 (by simp) (by simp) rfl)
  rw [World.size_alloc] at hOA
  have OA := Lib.hid hOA
  clear hOA
  have n1 : ¬ k = 1 := by omega
  have n2 : ¬ k = 2 := by omega
  have q1 : (k == 1) = false := by simp [n1]
  have q2 : (k == 2) = false := by simp [n2]
  have hm2 : m ≤ 2 := by omega
  have HMK := Lib.hid hmk
  have HBS := Lib.hid hbs
  clear hbox hptr hC hG hN h1 h2 hfd R0 hmk hbs d1 d5
  go_enter Tryd.func48, Tryd.ntmps48
  go_wp2_with fail
  clear d0 d9
  go_loopw [7, 67] (fun vs i wr => ∃ q : Nat, q ≤ m ∧ i = .int .i64 q ∧ Below w.heap.size w wr ∧ Box wr w.heap.size 41 (.int .i64 0) (.int .i64 0) (.slice none 0 0) ∧ Vs w R q vs wr) (fun _ i _ => m - (intOf i).toNat)
  case atStart => exact ⟨0, Nat.zero_le _, rfl, BA.out, RA.out, [], rfl, fun j h => by simp at h, OA.out, fun j h => by simp at h⟩
  case round =>
    obtain ⟨q, hq, rfl, hB, hR, Es, hEl, hEr, hEo, hEi⟩ := hrel
    have HB := Lib.hid hB
    have HR := Lib.hid hR
    have HEr := Lib.hid hEr
    have HEo := Lib.hid hEo
    have HEi := Lib.hid hEi
    have HEl := Lib.hid hEl
    have hzr := hR.lt
    clear hR hEr hEo hEi hEl BA RA OA
    by_cases hlt : q < m
    · have hi : (q : Int) < (m : Int) := by omega
      have hi0 : (0 : Int) ≤ (q : Int) := by omega
      have hqb : q < bs.length := by rw [HBS.out]; exact hlt
      have p0 := (hB.cell (p := ⟨ga, q, none⟩) hga).trans (HP.out q hqb)
      have HCq := Lib.hid (HC.out q hqb wr hB ((HF.out.below hB (Nat.le_refl _)).more hB.size))
      clear hB
      generalize bs[q] = bq at *
      cases hr : R q with
      | none =>
        have hQ := HN.out q hlt hr
        rw [hr] at HCq
        subst hQ
        clear hr
        go_wp2_with fail
        refine HCq.out.mono ?_
        rintro e w1 ⟨a1, c1, rfl, o1, b1⟩
        simp only [rW, rH, rL, rB, List.length_nil]
        have R1 := (HR.out.below b1).alloc (.cells #[.int .i64 0, .int .i64 0, .slice a1 0 c1] 41)
        have B9 := Lib.hid ((HB.out.trans (b1.mono HB.out.size)).alloc (by have := HB.out.size; have := b1.size; omega) (.cells #[.int .i64 0, .int .i64 0, .slice a1 0 c1] 41))
        obtain ⟨t0, t1, t2⟩ := R1.cells
        have g0 := R1.frozen 0
        have g1 := R1.frozen 1
        have g2 := R1.frozen 2
        clear b1 o1 R1 p0
        go_wp2_with fail
        refine bodyPost_ret (v := .tuple #[.agg #[.int .i64 0, .int .i64 0, .slice none 0 0], .bool false]) (by simp [results, Tryd.results48, go_sem, t0, t1, t2]) rfl ?_
        first | exact ⟨none, 0, rfl, OwnI.none_, B9.out⟩ | exact fret_put (r := none) B9.out OwnI.none_ rfl _ _ _
      | some r =>
        obtain ⟨r0, r1, L⟩ := r
        rw [hr] at HCq
        have HRq := Lib.hid hr
        clear hr
        go_wp2_with fail
        refine HCq.out.mono ?_
        rintro e w1 ⟨a1, c1, rfl, o1, b1⟩
        simp only [rW, rH, rL, rB] at o1 ⊢
        have hsz1 : w.heap.size + 1 ≤ w1.heap.size := by have := b1.size; omega
        have F1 := Box.new w1 41 (.int .i64 r0) (.int .i64 r1) (.slice a1 L.length c1)
        have R1 := (HR.out.below b1).alloc (.cells #[.int .i64 r0, .int .i64 r1, .slice a1 L.length c1] 41)
        have B1 := (HB.out.trans (b1.mono HB.out.size)).alloc (by have := HB.out.size; have := b1.size; omega) (.cells #[.int .i64 r0, .int .i64 r1, .slice a1 L.length c1] 41)
        have O1 := (own2_keeps HEo.out b1).alloc (.cells #[.int .i64 r0, .int .i64 r1, .slice a1 L.length c1] 41)
        have I1 := fun j h => ((HEi.out j h).below b1).below (below_all w1 (.cells #[.int .i64 r0, .int .i64 r1, .slice a1 L.length c1] 41))
        have L1 := (o1.below (below_all w1 (.cells #[.int .i64 r0, .int .i64 r1, .slice a1 L.length c1] 41))).more (C := w.heap.size + 1) (by omega)
        have Z1 : w.heap.size + 1 ≤ (w1.alloc (.cells #[.int .i64 r0, .int .i64 r1, .slice a1 L.length c1] 41)).heap.size := by simp; omega
        obtain ⟨W1, hW1⟩ : ∃ W, w1.alloc (.cells #[.int .i64 r0, .int .i64 r1, .slice a1 L.length c1] 41) = W := ⟨_, rfl⟩
        obtain ⟨fb, hfb⟩ : ∃ x, w1.heap.size = x := ⟨_, rfl⟩
        rw [hW1] at F1 R1 B1 O1 I1 L1 Z1
        rw [hfb] at F1
        obtain ⟨f0, f1, f2⟩ := F1.cells
        have HR1 := Lib.hid (R1.alloc (.cells #[.int .i64 r0, .int .i64 r1, .slice a1 L.length c1] 41))
        have HB1 := Lib.hid (B1.alloc B1.size (.cells #[.int .i64 r0, .int .i64 r1, .slice a1 L.length c1] 41))
        have HO1 := Lib.hid (O1.alloc (.cells #[.int .i64 r0, .int .i64 r1, .slice a1 L.length c1] 41))
        have HI1 := Lib.hid (fun j h => (I1 j h).below (below_all W1 (.cells #[.int .i64 r0, .int .i64 r1, .slice a1 L.length c1] 41)))
        have HL1 := Lib.hid (L1.below (below_all W1 (.cells #[.int .i64 r0, .int .i64 r1, .slice a1 L.length c1] 41)))
        have HZ1 := Lib.hid (show w.heap.size + 1 ≤ (W1.alloc (.cells #[.int .i64 r0, .int .i64 r1, .slice a1 L.length c1] 41)).heap.size by simp; omega)
        have HT1 := Lib.hid (show ∀ u ∈ [Value.int .i64 r0, .int .i64 r1, .slice a1 L.length c1], u.oneCell' = true from fun u hu => by simp at hu; rcases hu with rfl | rfl | rfl <;> rfl)
        clear F1 R1 B1 O1 I1 L1 Z1 o1 b1 p0 hsz1
        go_wp2_with (at_builtin; refine wpList_append_own _ rfl _ _ 45 rfl (w.heap.size + 1) 41 i0 _ 3 40 Tryd.underlying45 hi0' hz0 hz1 hz2 rfl (by decide) _ q (fvs Es) rfl HO1.out ⟨W1.heap.size, 0, none⟩ 1 1 [.int .i64 r0, .int .i64 r1, .slice a1 L.length c1] rfl rfl (World.news_of_block (heap_alloc_new _ _)) HT1.out (by unfold maxLen; omega) (by omega) HZ1.out ?_; intro v' w6 hown' hgrow _; have HO6 := Lib.hid hown'; have HG6 := Lib.hid hgrow; clear hown' hgrow)
        go_roundw
        case rel =>
          refine ⟨q + 1, by omega, by go_num, HB1.out.grown HG6.out (by have := HZ1.out; omega) (fun k hk => by have := (HO1.out.lt k hk).1; omega), HR1.out.grown HG6.out (fun e => by have := (HO1.out.lt _ e.symm).1; omega), ?_⟩
          exact Vs.snoc HEl.out HEr.out HRq.out HO1.out HI1.out HL1.out HG6.out HO6.out
        case measure => simp [intOf]; omega
    · obtain rfl : q = m := by omega
      have e0 := (hB.cell (p := ⟨b, 0, none⟩) hbl).trans D.out.1
      have e1 := (hB.cell (p := ⟨b, 1, none⟩) hbl).trans D.out.2.1
      have e5 := (hB.cell (p := ⟨b, 5, none⟩) hbl).trans D.out.2.2
      have hge : ¬ (q : Int) < (q : Int) := by omega
      clear hB
      have hEl := HEl.out
      have bd : Below wr.heap.size wr wr.drew := ⟨rfl, rfl, rfl, Nat.le_refl _, fun _ _ => rfl⟩
      have RD := Lib.hid (HR.out.below bd)
      have BD := Lib.hid (HB.out.trans (bd.mono HB.out.size))
      have hne3 : ¬ b = w.heap.size := by omega
      have hne4 : ¬ w.heap.size = b := by omega
      have hbw : b < wr.heap.size := Nat.lt_of_lt_of_le hbl HB.out.size
      rcases HMK.out with ⟨hm, hk⟩ | ⟨hm, hk3, hk6⟩
      · subst hm hk
        obtain ⟨E, rfl⟩ : ∃ E, Es = [E] := by
          match Es, hEl with
          | [E], _ => exact ⟨E, rfl⟩
        have hE0 := HEr.out 0 (by simp)
        simp only [List.getElem_cons_zero] at hE0
        have hQ := H1.out rfl _ hE0
        obtain ⟨g1, g2, g3⟩ := HG.out 0 _ hE0
        have hI := HEi.out 0 (by simp)
        simp only [List.getElem_cons_zero] at hI
        obtain ⟨g, cap, hvs, hgB, hrow⟩ := own_row HEo.out (by omega) (by omega)
        have s0 := hrow.cell (k := 0) (by simp [fvs, FE.flat])
        have s1 := hrow.cell (k := 1) (by simp [fvs, FE.flat])
        have s2 := hrow.cell (k := 2) (by simp [fvs, FE.flat])
        simp [fvs, FE.flat] at s0 s1 s2
        have hgl := hrow.lt
        unfold FE.plain at hQ g1 g2 g3
        simp only at hQ g1 g2 g3
        subst hvs
        have hle := good_le g3
        have HE := Lib.hid (fun W h => implExceeds_any E.wd E.hg E.ad E.l E.c v W h (by omega))
        have HII := Lib.hid (ints_below hI.ints bd)
        have hgne : ¬ g = w.heap.size := by omega
        have hgne2 : ¬ w.heap.size = g := by omega
        subst hQ
        clear hE0 g1 g2 g3 hI hrow hle hEl HEo HEi HEr HEl H1 H2 HN HG bd
        generalize exceedsR E.wd E.hg E.l v = R at *
        generalize E.wd = x0 at *
        generalize E.hg = x1 at *
        generalize E.ad = x2 at *
        generalize E.c = x3 at *
        generalize E.l = L at *
        go_wp2_with fail
        go_region_held3 (fun w' => w'.cell? ⟨g, 0, none⟩ = some (.int .i64 x0) ∧ w'.cell? ⟨g, 1, none⟩ = some (.int .i64 x1) ∧ w'.cell? ⟨g, 2, none⟩ = some (.slice x2 L.length x3) ∧ w'.cell? ⟨b, 1, none⟩ = some (.int .i64 v))
          (first | exact ⟨k0, k1, k2, k3⟩ | exact ⟨s0, s1, s2, e1⟩ | go_keep)
          (first | (go_at_call 73; refine (HE.out _ HII.out).mono ?_; rintro e w2 ⟨a2, c2, rfl, o2, b2⟩; have R2 := RD.out.below b2; have B9 := Lib.hid (BD.out.trans (b2.mono BD.out.size)); have O2 := Lib.hid (o2.more (C := w.heap.size + 1) (Nat.succ_le_of_lt RD.out.lt)); have k0 := (b2.cell (p := ⟨g, 0, none⟩) hgl).trans s0; have k1 := (b2.cell (p := ⟨g, 1, none⟩) hgl).trans s1; have k2 := (b2.cell (p := ⟨g, 2, none⟩) hgl).trans s2; have k3 := (b2.cell (p := ⟨b, 1, none⟩) hbw).trans e1; obtain ⟨t0, t1, t2⟩ := R2.cells; have g0 := R2.frozen 0; have g1 := R2.frozen 1; have g2 := R2.frozen 2; clear o2 b2 R2))
        rename_i hHeld
        clear hHeld
        go_wp2
        refine bodyPost_ret (v := .tuple #[.agg #[.int .i64 (rW R), .int .i64 (rH R), .slice a2 (rL R).length c2], .bool (rB R)]) (by simp [results, Tryd.results48, go_sem, t0, t1, t2]) rfl ?_
        exact fret_put (r := R) B9.out O2.out rfl _ _ _
      · subst hm
        obtain ⟨E, F, rfl⟩ : ∃ E F, Es = [E, F] := by
          match Es, hEl with
          | [E, F], _ => exact ⟨E, F, rfl⟩
        have hE0 := HEr.out 0 (by simp)
        have hE1 := HEr.out 1 (by simp)
        simp only [List.getElem_cons_zero, List.getElem_cons_succ] at hE0 hE1
        have hQ := H2.out rfl _ _ hE0 hE1
        obtain ⟨g1, g2, g3⟩ := HG.out 0 _ hE0
        obtain ⟨g4, g5, g6⟩ := HG.out 1 _ hE1
        have hI := HEi.out 0 (by simp)
        have hJ := HEi.out 1 (by simp)
        simp only [List.getElem_cons_zero, List.getElem_cons_succ] at hI hJ
        obtain ⟨g, cap, hvs, hgB, hrow⟩ := own_row HEo.out (by omega) (by omega)
        have s0 := hrow.cell (k := 0) (by simp [fvs, FE.flat])
        have s1 := hrow.cell (k := 1) (by simp [fvs, FE.flat])
        have s2 := hrow.cell (k := 2) (by simp [fvs, FE.flat])
        have s3 := hrow.cell (k := 3) (by simp [fvs, FE.flat])
        have s4 := hrow.cell (k := 4) (by simp [fvs, FE.flat])
        have s5 := hrow.cell (k := 5) (by simp [fvs, FE.flat])
        simp [fvs, FE.flat] at s0 s1 s2 s3 s4 s5
        have hgl := hrow.lt
        unfold FE.plain at hQ g1 g2 g3 g4 g5 g6
        simp only at hQ g1 g2 g3 g4 g5 g6
        subst hvs
        have hle := good_le g3
        have hle2 := good_le g6
        have hfo : fmO k = k - 2 := by unfold fmO; repeat' split; all_goals omega
        rw [hfo] at e5
        have HE := Lib.hid (fun W h h' => implCombine_any (k - 2) E.wd E.hg E.ad E.l E.c F.wd F.hg F.ad F.l F.c W h h' (by omega) (by omega))
        have HII := Lib.hid (ints_below hI.ints bd)
        have HJJ := Lib.hid (ints_below hJ.ints bd)
        have hgne : ¬ g = w.heap.size := by omega
        have hgne2 : ¬ w.heap.size = g := by omega
        have n7 : ¬ k = 7 := by omega
        subst hQ
        clear hE0 hE1 g1 g2 g3 g4 g5 g6 hI hJ hrow hle hle2 hEl HEo HEi HEr HEl H1 H2 HN HG bd hfo
        generalize combineR (k - 2) E.wd E.hg E.l F.wd F.hg F.l = R at *
        generalize k - 2 = op at *
        generalize E.wd = x0 at *
        generalize E.hg = x1 at *
        generalize E.ad = x2 at *
        generalize E.c = x3 at *
        generalize E.l = L at *
        generalize F.wd = y0 at *
        generalize F.hg = y1 at *
        generalize F.ad = y2 at *
        generalize F.c = y3 at *
        generalize F.l = M at *
        go_wp2_with fail
        go_region_held3 (fun w' => w'.cell? ⟨g, 0, none⟩ = some (.int .i64 x0) ∧ w'.cell? ⟨g, 1, none⟩ = some (.int .i64 x1) ∧ w'.cell? ⟨g, 2, none⟩ = some (.slice x2 L.length x3) ∧ w'.cell? ⟨g, 3, none⟩ = some (.int .i64 y0) ∧ w'.cell? ⟨g, 4, none⟩ = some (.int .i64 y1) ∧ w'.cell? ⟨g, 5, none⟩ = some (.slice y2 M.length y3) ∧ w'.cell? ⟨b, 5, none⟩ = some (.int .i64 op))
          (first | exact ⟨k0, k1, k2, k3, k4, k5, k6⟩ | exact ⟨s0, s1, s2, s3, s4, s5, e5⟩ | go_keep)
          (first | (go_at_call 74; refine (HE.out _ HII.out HJJ.out).mono ?_; rintro e w2 ⟨a2, c2, rfl, o2, b2⟩; have R2 := RD.out.below b2; have B9 := Lib.hid (BD.out.trans (b2.mono BD.out.size)); have O2 := Lib.hid (o2.more (C := w.heap.size + 1) (Nat.succ_le_of_lt RD.out.lt)); have k0 := (b2.cell (p := ⟨g, 0, none⟩) hgl).trans s0; have k1 := (b2.cell (p := ⟨g, 1, none⟩) hgl).trans s1; have k2 := (b2.cell (p := ⟨g, 2, none⟩) hgl).trans s2; have k3 := (b2.cell (p := ⟨g, 3, none⟩) hgl).trans s3; have k4 := (b2.cell (p := ⟨g, 4, none⟩) hgl).trans s4; have k5 := (b2.cell (p := ⟨g, 5, none⟩) hgl).trans s5; have k6 := (b2.cell (p := ⟨b, 5, none⟩) hbw).trans e5; obtain ⟨t0, t1, t2⟩ := R2.cells; have g0 := R2.frozen 0; have g1 := R2.frozen 1; have g2 := R2.frozen 2; clear o2 b2 R2))
        rename_i hHeld
        clear hHeld
        go_wp2
        refine bodyPost_ret (v := .tuple #[.agg #[.int .i64 (rW R), .int .i64 (rH R), .slice a2 (rL R).length c2], .bool (rB R)]) (by simp [results, Tryd.results48, go_sem, t0, t1, t2]) rfl ?_
        exact fret_put (r := R) B9.out O2.out rfl _ _ _
end Go.Proofs.YtdkffljnfemngabDoor
namespace Go.Proofs.YtdkffljnfemngabDoor
open Go.RowKit
set_option linter.unusedVariables false
set_option linter.unusedSimpArgs false
theorem treeValue_any (af : Option Addr) (es : List FE) (cf : Nat) (wd hg : Int) (hok : OkF es wd hg) : ∀ (t : ET), t.ok → ∀ (P : Nat → Prop) (b : Nat) (w : World), TreeAt w P t b → Flds w w.heap.size af es →
    Calls Tryd.prog 48 #[.pointer (some ⟨b, 0, none⟩), .slice af es.length cf] w (FRet (evalT (plains es) t) w) := by
  have hlen := hok.n
  have h0 : 0 < es.length := by omega
  obtain ⟨hne, hall⟩ := hok.allF
  have HG := fun t (hk : ET.ok t) r hr => eval_good hne hall t hk r hr
  intro t
  induction t with
  | n0 k v =>
    intro ht P b w hta hfd
    rcases arity0 ht with ⟨rfl, v0, v3⟩ | ⟨rfl, v0, v9⟩
    · obtain ⟨n, rfl⟩ : ∃ n : Nat, v = (n : Int) := ⟨v.toNat, by omega⟩
      by_cases hv : n < es.length
      · rw [eval_n1 n hv]
        obtain ⟨e1, e2, e3⟩ := hok.e n hv
        exact vf_field P n b af es cf w hta hfd hv (by omega) (by rw [e1, e2]; exact e3)
      · rw [eval_none n hv]
        exact vf_gone P n b af es cf w hta hv (by omega)
    · have e : evalT (plains es) (.n0 2 v) = newR es[0].wd es[0].hg v := by
        unfold evalT
        rw [if_neg (by omega), plains_head es h0]
      rw [e]
      exact vf_num P v b af es cf w hta hfd h0 (by omega)
  | n1 k v x ih =>
    intro ht P b w hta hfd
    obtain ⟨rfl, v0, v9⟩ := arity1 ht.1
    obtain ⟨h1, ga, c, bx, h2, h3, h4, h5⟩ := hta
    refine vf_op 1 7 v (.inl ⟨rfl, rfl⟩) [bx] rfl b ga c af es cf w v0 v9 h3 (fun j h => ?_) (cell_lt h4) hfd (fun _ => evalT (plains es) x) (fun j h W hb hf => ?_) wd hg (fun j r hr => HG x ht.2 r hr) _ (fun j hj hr => ?_) (fun _ r hr => ?_) (fun e => by omega)
    · obtain rfl : j = 0 := by simpa using h
      exact h4
    · obtain rfl : j = 0 := by simpa using h
      exact ih ht.2 P bx W (h5.below hb) hf
    · show (evalT (plains es) x).bind _ = none
      rw [hr]; rfl
    · show (evalT (plains es) x).bind _ = _
      rw [hr]; rfl
  | n2 k v x y ih1 ih2 =>
    intro ht P b w hta hfd
    obtain ⟨k3, k6, rfl⟩ := arity2 ht.1
    obtain ⟨h1, ga, c, bx, bz, h2, h3, h4, h5, h6, h7⟩ := hta
    refine vf_op 2 k 0 (.inr ⟨rfl, k3, k6⟩) [bx, bz] rfl b ga c af es cf w (by omega) (by omega) h3 (fun j h => ?_) (cell_lt h4) hfd (fun j => if j = 0 then evalT (plains es) x else evalT (plains es) y) (fun j h W hb hf => ?_) wd hg (fun j r hr => ?_) _ (fun j hj hr => ?_) (fun e => by omega) (fun _ r s hr hs => ?_)
    · have hj : j = 0 ∨ j = 1 := by simp at h; omega
      rcases hj with rfl | rfl
      · exact h4
      · exact h5
    · have hj : j = 0 ∨ j = 1 := by simp at h; omega
      rcases hj with rfl | rfl
      · exact ih1 ht.2.1 P bx W (h6.below hb) hf
      · exact ih2 ht.2.2 P bz W (h7.below hb) hf
    · by_cases hj : j = 0
      · rw [if_pos hj] at hr; exact HG x ht.2.1 r hr
      · rw [if_neg hj] at hr; exact HG y ht.2.2 r hr
    · show (evalT (plains es) x).bind _ = none
      by_cases h0j : j = 0
      · rw [if_pos h0j] at hr; rw [hr]; rfl
      · rw [if_neg h0j] at hr; rw [hr]; cases evalT (plains es) x <;> rfl
    · rw [if_pos rfl] at hr
      rw [if_neg (by omega)] at hs
      show (evalT (plains es) x).bind _ = _
      rw [hr, Option.bind_some, hs]; rfl
/-- a row of fields at the beginning of a block, as haveOneShape takes it -/
theorem fldRow_of {w : World} {g : Nat} {es : List FE} (h : Flds w w.heap.size (some ⟨g, 0, none⟩) es) (h0 : 0 < es.length) (hs : ∀ e ∈ es, e.l.length ≤ 1048576) :
    FldRow w g es.length (fun j => (es.getD j zeroF).wd) (fun j => (es.getD j zeroF).hg) (fun j => (es.getD j zeroF).ad) (fun j => (es.getD j zeroF).l) (fun j => (es.getD j zeroF).c) := by
  rcases h with rfl | ⟨b, o, e, hb, hc⟩
  · simp at h0
  · injection e with e
    injection e with e1 e2
    subst e1 e2
    refine ⟨hb, fun j hj => ?_⟩
    have hg : es.getD j zeroF = es[j] := by simp [hj]
    obtain ⟨c0, c1, c2, c3⟩ := hc j hj
    simp only [hg]
    simp only [Nat.zero_add] at c0 c1 c2
    exact ⟨c0, c1, c2, c3, hs _ (List.getElem_mem hj)⟩
theorem fields_one {es : List FE} (h1 : 1 ≤ es.length) (h4 : es.length ≤ 4) : oneB (fun j => (es.getD j zeroF).wd) (fun j => (es.getD j zeroF).hg) (fun j => (es.getD j zeroF).l) es.length = fieldsB (plains es) := by
  have hget : ∀ j (hj : j < es.length), es.getD j zeroF = es[j] := fun j hj => by simp [hj]
  rw [Bool.eq_iff_iff, oneB_iff, fieldsB_iff, plains_len]
  constructor
  · intro h
    refine ⟨⟨h1, h4⟩, fun f hf => ?_⟩
    obtain ⟨j, hj, rfl⟩ := List.getElem_of_mem hf
    have hj2 : j < es.length := by rwa [plains_len] at hj
    rw [plains_get es j hj hj2, plains_head es (by omega)]
    have a1 := h j hj2
    have a2 := h 0 (by omega)
    unfold likeB at a1 a2
    simp only [hget j hj2, hget 0 (by omega), Bool.and_eq_true, decide_eq_true_eq] at a1 a2
    exact same_iff.2 ⟨a1.1, a2.1, a1.2.1, a1.2.2⟩
  · rintro ⟨_, h⟩ j hj
    have h2 := h _ (List.getElem_mem (h := show j < (plains es).length by rw [plains_len]; exact hj))
    rw [plains_get es j _ hj, plains_head es (by omega)] at h2
    obtain ⟨a1, a2, a3, a4⟩ := same_iff.1 h2
    unfold likeB
    simp only [hget j hj, hget 0 (by omega), Bool.and_eq_true, decide_eq_true_eq]
    exact ⟨a1, a3, a4⟩
set_option maxRecDepth 100000 in
set_option maxHeartbeats 4000000 in
theorem implEval_any (a : Option Addr) (l : List Nd) (c : Nat) (g : Nat) (es : List FE) (cf : Nat) (w : World) (hnd : Nds w w.heap.size a l) (hfd : Flds w w.heap.size (some ⟨g, 0, none⟩) es) (hn : l.length ≤ 1048576) (hm : es.length ≤ 1048576) (hs : ∀ e ∈ es, e.l.length ≤ 1048576) (htab : NTab w) :
    Calls Tryd.prog 20 #[.slice a l.length c, .slice (some ⟨g, 0, none⟩) es.length cf] w (FRet (evalR l (plains es)) w) := by
  have R0 := Lib.hid (Box.new w 41 (.int .i64 0) (.int .i64 0) (.slice none 0 0))
  have B0 := Lib.hid (below_all w (.cells #[.int .i64 0, .int .i64 0, .slice none 0 0] 41))
  have N0 := Lib.hid (nds_alloc hnd (.cells #[.int .i64 0, .int .i64 0, .slice none 0 0] 41))
  have F0 := Lib.hid (flds_alloc hfd (.cells #[.int .i64 0, .int .i64 0, .slice none 0 0] 41))
  have T0 := Lib.hid (htab.below B0.out)
  have HC := Lib.hid (fun W h t => treeOf_any a l c W h hn t)
  have HSZ := Lib.hid hs
  clear hnd hfd htab hs
  go_enter Tryd.func20, Tryd.ntmps20
  go_wp2_with fail
  refine (HC.out _ N0.out T0.out).mono ?_
  rintro e w1 ⟨b1, ⟨ht, rfl⟩ | ⟨t, b, ht, rfl, h2⟩⟩
  · have hR : evalR l (plains es) = none := by unfold evalR; rw [ht]; split <;> rfl
    have HQ := Lib.hid hR
    have R1 := R0.out.below b1
    obtain ⟨t0, t1, t2⟩ := R1.cells
    have g0 := R1.frozen 0
    have g1 := R1.frozen 1
    have g2 := R1.frozen 2
    have B9 := Lib.hid (below_then B0.out b1)
    clear b1 R1 R0 B0 ht hR
    go_wp2_with fail
    refine bodyPost_ret (v := .tuple #[.agg #[.int .i64 0, .int .i64 0, .slice none 0 0], .bool false]) (by simp [results, Tryd.results20, go_sem, t0, t1, t2]) rfl ?_
    rw [HQ.out]
    first | exact ⟨none, 0, rfl, OwnI.none_, B9.out⟩ | exact fret_put (r := none) B9.out OwnI.none_ rfl _ _ _
  · have R1 := Lib.hid (R0.out.below b1)
    have B1 := Lib.hid (below_then B0.out b1)
    have F1 := Lib.hid (flds_below F0.out b1)
    have HT := Lib.hid h2
    obtain ⟨_, _, hok⟩ := treeT_some ht
    have hRR : fieldsB (plains es) = true → evalR l (plains es) = evalT (plains es) t := by intro h; unfold evalR; rw [if_pos h, ht]; rfl
    have hRN : fieldsB (plains es) = false → evalR l (plains es) = none := by intro h; exact if_neg (by rw [h]; simp)
    have HRR := Lib.hid hRR
    have HRN := Lib.hid hRN
    clear b1 R0 B0 F0 h2 ht hRR hRN
    by_cases hlen : 1 ≤ es.length ∧ es.length ≤ 4
    · have k1 : ¬ (es.length : Int) < 1 := by omega
      have k4 : ¬ (4 : Int) < (es.length : Int) := by omega
      have hone := fields_one hlen.1 hlen.2
      cases hfb : fieldsB (plains es) with
      | false =>
        have HQ := Lib.hid (HRN.out hfb)
        rw [hfb] at hone
        have HF := Lib.hid (oneShape_is g es.length cf _ _ _ _ _ false w1 (fldRow_of F1.out hlen.1 HSZ.out) hlen.1 (by omega) hone)
        clear hone hfb
        go_wp2_with fail
        refine HF.out.mono ?_
        rintro e w2 ⟨rfl, b2⟩
        have R2 := R1.out.below b2
        obtain ⟨t0, t1, t2⟩ := R2.cells
        have g0 := R2.frozen 0
        have g1 := R2.frozen 1
        have g2 := R2.frozen 2
        have B9 := Lib.hid (below_then B1.out b2)
        clear b2 R2 R1 B1
        go_wp2_with fail
        refine bodyPost_ret (v := .tuple #[.agg #[.int .i64 0, .int .i64 0, .slice none 0 0], .bool false]) (by simp [results, Tryd.results20, go_sem, t0, t1, t2]) rfl ?_
        rw [HQ.out]
        first | exact ⟨none, 0, rfl, OwnI.none_, B9.out⟩ | exact fret_put (r := none) B9.out OwnI.none_ rfl _ _ _
      | true =>
        have HQ := Lib.hid (HRR.out hfb)
        rw [hfb] at hone
        have HF := Lib.hid (oneShape_is g es.length cf _ _ _ _ _ true w1 (fldRow_of F1.out hlen.1 HSZ.out) hlen.1 (by omega) hone)
        have hokF := okF_of hfb (by omega)
        have HV := Lib.hid (fun P b W h h' => treeValue_any (some ⟨g, 0, none⟩) es cf _ _ hokF t hok P b W h h')
        clear hone hfb hokF
        generalize evalT (plains es) t = R at HV HQ
        go_wp2_with fail
        refine HF.out.mono ?_
        rintro e w2 ⟨rfl, b2⟩
        have R2 := Lib.hid (R1.out.below b2)
        have B2 := Lib.hid (below_then B1.out b2)
        have F2 := Lib.hid (flds_below F1.out b2)
        have HT2 := Lib.hid (HT.out.below b2)
        clear b2 R1 B1 F1 HT
        go_wp2_with fail
        refine (HV.out _ _ _ HT2.out F2.out).mono ?_
        rintro e w5 ⟨a5, c5, rfl, o5, b5⟩
        have O5 := Lib.hid (o5.more (C := w.heap.size + 1) (Nat.succ_le_of_lt R2.out.lt))
        have R5 := R2.out.below b5
        have B9 := Lib.hid (below_then B2.out b5)
        obtain ⟨t0, t1, t2⟩ := R5.cells
        have g0 := R5.frozen 0
        have g1 := R5.frozen 1
        have g2 := R5.frozen 2
        clear o5 b5 R5
        go_wp2_with fail
        refine bodyPost_ret (v := .tuple #[.agg #[.int .i64 (rW R), .int .i64 (rH R), .slice a5 (rL R).length c5], .bool (rB R)]) (by simp [results, Tryd.results20, go_sem, t0, t1, t2]) rfl ?_
        rw [HQ.out]
        exact fret_put (r := R) B9.out O5.out rfl _ _ _
    · have HQ := Lib.hid (HRN.out (fieldsB_short (by rw [plains_len]; omega)))
      obtain ⟨t0, t1, t2⟩ := R1.out.cells
      have g0 := R1.out.frozen 0
      have g1 := R1.out.frozen 1
      have g2 := R1.out.frozen 2
      have B9 := Lib.hid B1.out
      by_cases k1 : es.length < 1
      · have k2 : (es.length : Int) < 1 := by omega
        go_wp2_with fail
        refine bodyPost_ret (v := .tuple #[.agg #[.int .i64 0, .int .i64 0, .slice none 0 0], .bool false]) (by simp [results, Tryd.results20, go_sem, t0, t1, t2]) rfl ?_
        rw [HQ.out]
        first | exact ⟨none, 0, rfl, OwnI.none_, B9.out⟩ | exact fret_put (r := none) B9.out OwnI.none_ rfl _ _ _
      · have k2 : ¬ (es.length : Int) < 1 := by omega
        have k4 : (4 : Int) < (es.length : Int) := by omega
        go_wp2_with fail
        refine bodyPost_ret (v := .tuple #[.agg #[.int .i64 0, .int .i64 0, .slice none 0 0], .bool false]) (by simp [results, Tryd.results20, go_sem, t0, t1, t2]) rfl ?_
        rw [HQ.out]
        first | exact ⟨none, 0, rfl, OwnI.none_, B9.out⟩ | exact fret_put (r := none) B9.out OwnI.none_ rfl _ _ _
end Go.Proofs.YtdkffljnfemngabDoor
namespace Go.Proofs.YtdkffljnfemngabDoor
open Go.RowKit
set_option linter.unusedVariables false
theorem evalR_len (l : List Nd) (fs : List Fv) : (rL (evalR l fs)).length ≤ 1048576 := by
  have key : ∀ r, evalR l fs = r → (rL r).length ≤ 1048576 := by
    intro r h
    cases r with
    | none => simp [rL]
    | some r =>
      unfold evalR at h
      split at h
      · rename_i hfb
        rw [Option.bind_eq_some_iff] at h
        obtain ⟨t, h1, h2⟩ := h
        obtain ⟨h3, h4⟩ := fields_allF hfb
        have h5 := eval_good h3 h4 t (treeT_some h1).2.2 r h2
        have := good_le h5.2.2
        show r.2.2.length ≤ 1048576
        omega
      · cases h
  exact key _ rfl
theorem specEval9 (a : Option Addr) (l : List Nd) (c : Nat) (af : Option Addr) (es : List FE) (cf : Nat) (w : World) (hnd : Nds w w.heap.size a l) (hfd : Flds w w.heap.size af es) (hn : l.length ≤ 1048576) (hm : es.length ≤ 1048576) (hs : ∀ e ∈ es, e.l.length ≤ 1048576) :
    Calls Tryd.prog 17 #[.slice a l.length c, .slice af es.length cf] w (FRet (evalR l (plains es)) w) := specEval_any a l c af es cf w hnd hfd hn hm hs
theorem implEval9 (a : Option Addr) (l : List Nd) (c : Nat) (g : Nat) (es : List FE) (cf : Nat) (w : World) (hnd : Nds w w.heap.size a l) (hfd : Flds w w.heap.size (some ⟨g, 0, none⟩) es) (hn : l.length ≤ 1048576) (hm : es.length ≤ 1048576) (hs : ∀ e ∈ es, e.l.length ≤ 1048576) (htab : NTab w) :
    Calls Tryd.prog 20 #[.slice a l.length c, .slice (some ⟨g, 0, none⟩) es.length cf] w (FRet (evalR l (plains es)) w) := implEval_any a l c g es cf w hnd hfd hn hm hs htab
end Go.Proofs.YtdkffljnfemngabDoor
namespace Go.Proofs.YtdkffljnfemngabDoor
open Go.RowKit
set_option linter.unusedVariables false
structure Res (w : World) (lo hi b : Nat) (p q : Int) (a : Option Addr) (L : List Int) (c : Nat) : Prop where
  k : Box w b 41 (.int .i64 p) (.int .i64 q) (.slice a L.length c)
  i : ∃ g, lo ≤ g ∧ (L = [] ∨ g < hi) ∧ At w a g L
  lb : lo ≤ b
  ub : b < hi
section
variable {w w' : World} {lo hi b : Nat} {p q : Int} {a : Option Addr} {L : List Int} {c : Nat}
theorem Res.new {B : Nat} (h : OwnI w B a L) (hB : B ≤ w.heap.size) : Res (w.alloc (.cells #[.int .i64 p, .int .i64 q, .slice a L.length c] 41)) B (w.heap.size + 1) w.heap.size p q a L c := by
  obtain ⟨g, h1, h2⟩ := h
  refine ⟨Box.new _ _ _ _ _, ⟨g, h1, ?_, h2.alloc _⟩, hB, Nat.lt_succ_self _⟩
  rcases h2 with h2 | ⟨_, h2⟩
  · exact .inl h2
  · exact .inr (by have := h2.lt; omega)
theorem Res.keep (h : Res w lo hi b p q a L c) (hk : ∀ i, lo ≤ i → i < hi → i < w.heap.size → w'.heap[i]? = w.heap[i]?) : Res w' lo hi b p q a L c := by
  obtain ⟨g, h1, h2, h3⟩ := h.i
  refine ⟨(hk b h.lb h.ub h.k.lt).trans h.k, ⟨g, h1, h2, ?_⟩, h.lb, h.ub⟩
  rcases h2 with h2 | h2
  · exact .inl h2
  · exact h3.keep fun hl => hk g h1 h2 hl
theorem Res.below {C : Nat} (h : Res w lo hi b p q a L c) (hb : Below C w w') (hC : hi ≤ C) : Res w' lo hi b p q a L c := h.keep fun i _ h2 _ => hb.block i (by omega)
theorem Res.turn {g : Nat} (h : Res w lo hi b p q a L c) (o : w.grownBy w' (some g)) (hg : hi ≤ g) : Res w' lo hi b p q a L c := h.keep fun i _ h2 h3 => o.block i h3 (by intro e; injection e with e; omega)
theorem Res.past {g : Nat} (h : Res w lo hi b p q a L c) (o : w.grownBy w' (some g)) (hg : g < lo) : Res w' lo hi b p q a L c := h.keep fun i h1 _ h3 => o.block i h3 (by intro e; injection e with e; omega)
theorem Res.aside {U : Nat} (h : Res w lo hi b p q a L c) (o : ∀ i, U ≤ i → i < w.heap.size → w'.heap[i]? = w.heap[i]?) (hU : U ≤ lo) : Res w' lo hi b p q a L c := h.keep fun i h1 _ h3 => o i (by omega) h3
theorem Res.ints (h : Res w lo hi b p q a L c) : Ints .i64 w w.heap.size a L := by obtain ⟨g, _, _, h3⟩ := h.i; exact h3.ints
theorem Res.pick (h : Res w lo hi b p q a L c) (hlo : lo ≤ w.heap.size) : ∃ g, lo ≤ g ∧ g ≠ b ∧ At w a g L := by
  obtain ⟨g, h1, h2, h3⟩ := h.i
  rcases h3 with h3 | ⟨h4, h5⟩
  · exact ⟨w.heap.size, hlo, by have := h.k.lt; omega, .inl h3⟩
  · refine ⟨g, h1, ?_, .inr ⟨h4, h5⟩⟩
    rintro rfl
    obtain ⟨cur, hc, _⟩ := h5
    have hk := h.k
    unfold Box at hk
    rw [hc] at hk
    injection hk with hk
    injection hk with _ hty
    exact absurd hty (by decide)
end
/-- the answer marked -/
structure Mk (w : World) (b g : Nat) (p q : Int) (a : Option Addr) (n c : Nat) : Prop where
  k : Box w b 41 (.int .i64 p) (.int .i64 q) (.slice a n c)
  i : At w a g (marks 1 n)
theorem Mk.below {w w' : World} {b g : Nat} {p q : Int} {a : Option Addr} {n c : Nat} (h : Mk w b g p q a n c) (hb : Below w.heap.size w w') : Mk w' b g p q a n c := ⟨h.k.below hb, h.i.below hb⟩
theorem like_plain {es es' : List FE} (h1 : es'.length = es.length) (h2 : LikeF es' es) : es'.map FE.plain = es.map FE.plain := h2.plain h1
theorem below_aside {w w1 w2 : World} {B : Nat} (h : Below w.heap.size w w1) (k : Below B w1 w2) (hB : w.heap.size ≤ B) : Below w.heap.size w w2 := h.trans (k.mono hB)
theorem below_on {w w1 w2 : World} {g : Nat} (h : Below w.heap.size w w1) (o : Only g w1 w2) (hg : w.heap.size ≤ g) : Below w.heap.size w w2 := h.grown o.1 h.size (fun j e => by injection e with e; omega)
theorem below_turn' {w w1 w2 : World} {g : Nat} (h : Below w.heap.size w w1) (o : w1.grownBy w2 (some g)) (hg : w.heap.size ≤ g) : Below w.heap.size w w2 := h.grown o h.size (fun j e => by injection e with e; omega)
end Go.Proofs.YtdkffljnfemngabDoor
namespace Go.Proofs.YtdkffljnfemngabDoor
open Go.RowKit
set_option linter.unusedVariables false
set_option linter.unusedSimpArgs false
set_option maxRecDepth 100000 in
set_option maxHeartbeats 16000000 in
theorem walk_EvalLaw (a0 : Option Addr) (l0 : List Nd) (c0 : Nat) (a1 : Option Addr) (es1 : List FE) (c1 : Nat) (w : World) (hl0 : Nds w w.heap.size a0 l0) (hm0 : l0.length ≤ maxLen) (hl1 : Flds w w.heap.size a1 es1) (hm1 : es1.length ≤ maxLen) (hs1 : ∀ e ∈ es1, e.l.length ≤ maxLen) (ht : NTab w) :
    Calls Tryd.prog 4 #[.slice a0 l0.length c0, .slice a1 es1.length c1] w fun e w' => e = .returned (.bool true) ∧ Below w.heap.size w w' := by
  have HZ0 := Lib.hid (fun W h1 h2 => szNodes_any a0 l0.length c0 1048576 W hm0 h1 h2)
  have HZ1 := Lib.hid (fun W (h : Flds W W.heap.size a1 es1) h1 h2 => szFields_any a1 es1 c1 (1048576 - (l0.length : Int)) W h hm1 hs1 h1 h2)
  have G0 := Lib.hid (Below.refl w.heap.size w)
  have HL0 := Lib.hid hl0
  have HL1 := Lib.hid hl1
  unfold maxLen at hm0 hm1 hs1
  by_cases hn0 : (l0.length : Int) ≤ 1048576
  · have HY0 := HZ0
    rw [if_pos hn0] at HY0
    by_cases hn1 : ((es1.length + lenFs es1 : Nat) : Int) ≤ (1048576 - (l0.length : Int))
    · have HY1 := HZ1
      unfold szF at HY1
      rw [if_pos hn1] at HY1
      have q0 : l0.length ≤ 1048576 := by omega
      have q1 : es1.length ≤ 1048576 := by omega
      have r1 : lenFs es1 ≤ 1048576 := by omega
      have t1 : ∀ e ∈ es1, e.l.length ≤ 1048576 := fun e h => Nat.le_trans (le_lenFs e h) r1
      have HT0 := Lib.hid (fun W (G : Below w.heap.size w W) => toNodes_any a0 l0 c0 W ((hl0.below G (Nat.le_refl _)).more G.size) q0)
      have HT1 := Lib.hid (fun W (G : Below w.heap.size w W) => toFields_any a1 es1 c1 W ((hl1.below G (Nat.le_refl _)).more G.size) q1 t1)
      have HS : Hid (∀ p0 p1 eq1 W (h0 : Nds W W.heap.size (some ⟨p0, 0, none⟩) l0) (h1 : Flds W W.heap.size (some ⟨p1, 0, none⟩) eq1) (m1 : eq1.length = es1.length) (n1 : eq1.map FE.plain = es1.map FE.plain), Calls Tryd.prog 17 #[.slice (some ⟨p0, 0, none⟩) l0.length l0.length, .slice (some ⟨p1, 0, none⟩) es1.length es1.length] W (FRet (evalR l0 (plains es1)) W)) := Lib.hid (fun p0 p1 eq1 W h0 h1 m1 n1 => by
        have h9 := specEval9 (some ⟨p0, 0, none⟩) l0 l0.length (some ⟨p1, 0, none⟩) eq1 es1.length W h0 h1 q0 (by omega) (fun e h => Nat.le_trans (le_lenFs e h) (by rw [lenFs_plain n1]; exact r1))
        rw [m1, show plains eq1 = plains es1 from n1] at h9
        exact h9)
      have HI : Hid (∀ p0 p1 eq1 W (h0 : Nds W W.heap.size (some ⟨p0, 0, none⟩) l0) (h1 : Flds W W.heap.size (some ⟨p1, 0, none⟩) eq1) (m1 : eq1.length = es1.length) (n1 : eq1.map FE.plain = es1.map FE.plain) (G : Below w.heap.size w W), Calls Tryd.prog 20 #[.slice (some ⟨p0, 0, none⟩) l0.length l0.length, .slice (some ⟨p1, 0, none⟩) es1.length es1.length] W (FRet (evalR l0 (plains es1)) W)) := Lib.hid (fun p0 p1 eq1 W h0 h1 m1 n1 G => by
        have h9 := implEval9 (some ⟨p0, 0, none⟩) l0 l0.length p1 eq1 es1.length W h0 h1 q0 (by omega) (fun e h => Nat.le_trans (le_lenFs e h) (by rw [lenFs_plain n1]; exact r1)) (ht.below G)
        rw [m1, show plains eq1 = plains es1 from n1] at h9
        exact h9)
      have hr : (rL (evalR l0 (plains es1))).length ≤ 1048576 := evalR_len l0 (plains es1)
      unfold FRet at HS HI
      generalize rB (evalR l0 (plains es1)) = rb at *
      generalize rW (evalR l0 (plains es1)) = rw' at *
      generalize rH (evalR l0 (plains es1)) = rh at *
      generalize rL (evalR l0 (plains es1)) = rl at *
      have hvv : (rb != rb) = false := by cases rb <;> rfl
      clear hl0 hl1 ht
      go_enter Tryd.func4, Tryd.ntmps4
      go_wp2_with fail
      refine (HY0.out _ (by omega) (by omega)).mono ?_
      rintro e wz0 ⟨rfl, rfl⟩
      go_wp2_with fail
      refine (HY1.out _ ((HL1.out.below G0.out (Nat.le_refl _)).more G0.out.size) (by omega) (by omega)).mono ?_
      rintro e w11 ⟨rfl, b1⟩
      have G1 := Lib.hid (below_then G0.out b1)
      clear b1 G0
      clear HY0 HZ0 HY1 HZ1
      have sb := G1.out.size
      go_wp2_with fail
--@0
      refine (HT0.out _ G1.out).mono ?_
      rintro e w12 ⟨rfl, r2, b2, z2⟩
      have s2 := b2.size
      have G2 := Lib.hid (below_then G1.out b2)
      have P02 := Lib.hid (show AtN w12 (some ⟨w11.heap.size, 0, none⟩) w11.heap.size l0 from .inr ⟨rfl, r2⟩)
      clear r2
      clear b2 G1
      go_wp2_with fail
--@1
      refine (HT1.out _ G2.out).mono ?_
      rintro e w13 ⟨f3, hf3, lk3, rfl, ow3, b3⟩
      have s3 := b3.size
      have G3 := Lib.hid (below_then G2.out b3)
      have P03 := Lib.hid (P02.out.below b3)
      have P13 := Lib.hid ow3
      have eP1 := Lib.hid (And.intro hf3 (like_plain hf3 lk3))
      have ubP1 := ow3.u
      clear hf3 lk3 ow3
      clear b3 G2 P02
      go_wp2_with fail
--@2
      refine (HS.out _ _ _ _ P03.out.nds (P13.out.flds.more (by omega)) eP1.out.1 eP1.out.2).mono ?_
      rintro e w14p ⟨aV, cV, rfl, o4, b4⟩
      have u4 := b4.size
      have ne4 := Res.new (p := rw') (q := rh) (c := cV) o4 b4.size
      obtain ⟨bxV, hbxV⟩ : ∃ q, w14p.heap.size = q := ⟨_, rfl⟩
      have bb4 := b4.trans ((below_all w14p (.cells #[.int .i64 rw', .int .i64 rh, .slice aV rl.length cV] 41)).mono b4.size)
      have sz4 : w14p.heap.size < (w14p.alloc (.cells #[.int .i64 rw', .int .i64 rh, .slice aV rl.length cV] 41)).heap.size := by simp
      obtain ⟨w14, hW4⟩ : ∃ W, w14p.alloc (.cells #[.int .i64 rw', .int .i64 rh, .slice aV rl.length cV] 41) = W := ⟨_, rfl⟩
      rw [hW4] at ne4 bb4 sz4
      rw [hbxV] at ne4 sz4 u4
      have loV : w13.heap.size ≤ bxV := u4
      clear b4 o4
      have b4 := bb4
      clear bb4
      have G4 := Lib.hid (below_then G3.out b4)
      have P04 := Lib.hid (P03.out.below b4)
      have P14 := Lib.hid (P13.out.below b4 (by omega))
      have V4 := Lib.hid ne4
      clear ne4
      clear b4 G3 P03 P13
      clear P04
      clear P14 eP1 ubP1
      go_wp2_with fail
      clear hbxV hW4
--@3
      refine (HT0.out _ G4.out).mono ?_
      rintro e w15 ⟨rfl, r5, b5, z5⟩
      have s5 := b5.size
      have G5 := Lib.hid (below_then G4.out b5)
      have V5 := Lib.hid (V4.out.below b5 (by omega))
      have X05 := Lib.hid (show AtN w15 (some ⟨w14.heap.size, 0, none⟩) w14.heap.size l0 from .inr ⟨rfl, r5⟩)
      clear r5
      clear b5 G4 V4
      go_wp2_with fail
--@4
      refine (HT1.out _ G5.out).mono ?_
      rintro e w16 ⟨f6, hf6, lk6, rfl, ow6, b6⟩
      have s6 := b6.size
      have G6 := Lib.hid (below_then G5.out b6)
      have V6 := Lib.hid (V5.out.below b6 (by omega))
      have X06 := Lib.hid (X05.out.below b6)
      have X16 := Lib.hid ow6
      have eX1 := Lib.hid (And.intro hf6 (like_plain hf6 lk6))
      have ubX1 := ow6.u
      clear hf6 lk6 ow6
      clear b6 G5 V5 X05
      go_wp2_with fail
--@5
      refine (HI.out _ _ _ _ X06.out.nds (X16.out.flds.more (by omega)) eX1.out.1 eX1.out.2 G6.out).mono ?_
      rintro e w17p ⟨aR, cR, rfl, o7, b7⟩
      have u7 := b7.size
      have ne7 := Res.new (p := rw') (q := rh) (c := cR) o7 b7.size
      obtain ⟨bxR, hbxR⟩ : ∃ q, w17p.heap.size = q := ⟨_, rfl⟩
      have bb7 := b7.trans ((below_all w17p (.cells #[.int .i64 rw', .int .i64 rh, .slice aR rl.length cR] 41)).mono b7.size)
      have sz7 : w17p.heap.size < (w17p.alloc (.cells #[.int .i64 rw', .int .i64 rh, .slice aR rl.length cR] 41)).heap.size := by simp
      obtain ⟨w17, hW7⟩ : ∃ W, w17p.alloc (.cells #[.int .i64 rw', .int .i64 rh, .slice aR rl.length cR] 41) = W := ⟨_, rfl⟩
      rw [hW7] at ne7 bb7 sz7
      rw [hbxR] at ne7 sz7 u7
      have loR : w16.heap.size ≤ bxR := u7
      clear b7 o7
      have b7 := bb7
      clear bb7
      have G7 := Lib.hid (below_then G6.out b7)
      have V7 := Lib.hid (V6.out.below b7 (by omega))
      have X07 := Lib.hid (X06.out.below b7)
      have X17 := Lib.hid (X16.out.below b7 (by omega))
      have R7 := Lib.hid ne7
      clear ne7
      clear b7 G6 V6 X06 X16
      obtain ⟨R0_, R1_, R2_⟩ := R7.out.k.cells
      obtain ⟨V0_, V1_, V2_⟩ := V7.out.k.cells
      go_wp2_with fail
      clear hbxR hW7
--@6
      refine (eqField_yes rw' rh _ _ rl _ _ _ R7.out.ints V7.out.ints hr).mono ?_
      rintro e w18 ⟨rfl, b8⟩
      have s8 := b8.size
      have G8 := Lib.hid (below_then G7.out b8)
      have V8 := Lib.hid (V7.out.below b8 (by omega))
      have X08 := Lib.hid (X07.out.below b8)
      have X18 := Lib.hid (X17.out.below b8 (by omega))
      have R8 := Lib.hid (R7.out.below b8 (by omega))
      clear b8 G7 V7 X07 X17 R7
      clear R0_ R1_ R2_ V0_ V1_ V2_
      go_wp2_with fail
--@7
      refine (HT0.out _ G8.out).mono ?_
      rintro e w19 ⟨rfl, r9, b9, z9⟩
      have s9 := b9.size
      have G9 := Lib.hid (below_then G8.out b9)
      have V9 := Lib.hid (V8.out.below b9 (by omega))
      have X09 := Lib.hid (X08.out.below b9)
      have X19 := Lib.hid (X18.out.below b9 (by omega))
      have R9 := Lib.hid (R8.out.below b9 (by omega))
      have E9 := Lib.hid (show AtN w19 (some ⟨w18.heap.size, 0, none⟩) w18.heap.size l0 from .inr ⟨rfl, r9⟩)
      clear r9
      clear b9 G8 V8 X08 X18 R8
      go_wp2_with fail
--@8
      refine (eqNodes_yes _ _ l0 _ _ _ X09.out.nds E9.out.nds q0).mono ?_
      rintro e w20 ⟨rfl, b10⟩
      have s10 := b10.size
      have G10 := Lib.hid (below_then G9.out b10)
      have V10 := Lib.hid (V9.out.below b10 (by omega))
      have X010 := Lib.hid (X09.out.below b10)
      have X110 := Lib.hid (X19.out.below b10 (by omega))
      have R10 := Lib.hid (R9.out.below b10 (by omega))
      have E10 := Lib.hid (E9.out.below b10)
      clear b10 G9 V9 X09 X19 R9 E9
      clear E10
      go_wp2_with fail
--@9
      refine (HT1.out _ G10.out).mono ?_
      rintro e w21 ⟨f11, hf11, lk11, rfl, ow11, b11⟩
      have s11 := b11.size
      have G11 := Lib.hid (below_then G10.out b11)
      have V11 := Lib.hid (V10.out.below b11 (by omega))
      have X011 := Lib.hid (X010.out.below b11)
      have X111 := Lib.hid (X110.out.below b11 (by omega))
      have R11 := Lib.hid (R10.out.below b11 (by omega))
      have E11 := Lib.hid ow11
      have eE := Lib.hid (And.intro hf11 (like_plain hf11 lk11))
      have ubE := ow11.u
      clear hf11 lk11 ow11
      clear b11 G10 V10 X010 X110 R10
      go_wp2_with fail
--@10
      refine (eqFields_n _ _ _ _ es1.length _ _ _ (X111.out.flds.more (by omega)) (E11.out.flds.more (by omega)) eX1.out.1 (eE.out.2.trans eX1.out.2.symm) q1 (by rw [lenFs_plain eX1.out.2]; exact r1)).mono ?_
      rintro e w22 ⟨rfl, b12⟩
      have s12 := b12.size
      have G12 := Lib.hid (below_then G11.out b12)
      have V12 := Lib.hid (V11.out.below b12 (by omega))
      have X012 := Lib.hid (X011.out.below b12)
      have X112 := Lib.hid (X111.out.below b12 (by omega))
      have R12 := Lib.hid (R11.out.below b12 (by omega))
      have E12 := Lib.hid (E11.out.below b12 (by omega))
      clear b12 G11 V11 X011 X111 R11 E11
      clear E12 eE ubE
      go_wp2_with fail
--@11
      refine (markNodes_any _ l0 _ _ (1) w22 X012.out q0 (by omega) (by omega)).mono ?_
      rintro e w23 ⟨rfl, _, o13⟩
      have s13 := o13.1.size
      have G13 := Lib.hid (below_on G12.out o13 (by omega))
      have V13 := Lib.hid (V12.out.turn o13.1 (by omega))
      have X113 := Lib.hid (X112.out.past o13.1 (by omega))
      have R13 := Lib.hid (R12.out.past o13.1 (by omega))
      clear o13 G12 V12 X012 X112 R12
      go_wp2_with fail
--@12
      have lf1 : lenFs f6 = lenFs es1 := lenFs_plain eX1.out.2
      refine (markFields_n _ es1.length _ _ _ _ (1 + 2 * (l0.length : Int)) w23 X113.out eX1.out.1 q1 (by omega) (by omega) (by omega)).mono ?_
      rintro e w24 ⟨rfl, _, b14, o14⟩
      have s14 := b14.size
      rw [lf1]
      have G14 := Lib.hid (below_aside G13.out b14 (by omega))
      have V14 := Lib.hid (V13.out.below b14 (by omega))
      have R14 := Lib.hid (R13.out.aside o14 (by omega))
      clear b14 o14 G13 V13 X113 R13 eX1 ubX1 lf1
      obtain ⟨K1, hK1⟩ : ∃ K : Nat, 2 * es1.length + lenFs es1 = K := ⟨_, rfl⟩
      rw [hK1]
      have hk0 : ¬ (1 + 2 * (l0.length : Int) + (K1 : Int) < 0) := by omega
      obtain ⟨R0_, R1_, R2_⟩ := R14.out.k.cells
      obtain ⟨V0_, V1_, V2_⟩ := V14.out.k.cells
      go_wp2_with fail
--@13
      refine (eqField_yes rw' rh _ _ rl _ _ _ R14.out.ints V14.out.ints hr).mono ?_
      rintro e w25 ⟨rfl, b15⟩
      have s15 := b15.size
      have G15 := Lib.hid (below_then G14.out b15)
      have V15 := Lib.hid (V14.out.below b15 (by omega))
      have R15 := Lib.hid (R14.out.below b15 (by omega))
      clear b15 G14 V14 R14
      clear R0_ R1_ R2_ V0_ V1_ V2_
      clear hk0
      obtain ⟨R0_, R1_, R2_⟩ := R15.out.k.cells
      go_wp2_with fail
      obtain ⟨gr, hgr, hgn, hat⟩ := R15.out.pick (by omega)
      have lbR := R15.out.lb
      have R_ := Lib.hid R15.out.k
      have A_ := Lib.hid hat
      clear R15 hat
--@14
      refine (markField_any rw' rh aR rl cR gr 1 w25 A_.out hr (by omega) (by omega)).mono ?_
      rintro e w26 ⟨rfl, t16, o16⟩
      have s16 := o16.size
      have G16 := Lib.hid (below_turn' G15.out o16 (by omega))
      have V16 := Lib.hid (V15.out.turn o16 (by omega))
      have M16 := Lib.hid (show Mk w26 bxR gr rw' rh aR rl.length cR from ⟨R_.out.turn o16 (fun e => hgn e.symm), t16⟩)
      clear t16 o16 R_ A_ G15 V15 R0_ R1_ R2_
      have hh : ¬ (1 + (rl.length : Int) < 0) := by omega
      obtain ⟨M0_, M1_, M2_⟩ := M16.out.k.cells
      go_wp2_with fail
--@15
      refine (heldField_any rw' rh aR rl.length cR 1 _ M16.out.i.ints hr (by omega) (by omega)).mono ?_
      rintro e w27 ⟨rfl, b17⟩
      have s17 := b17.size
      have G17 := Lib.hid (below_then G16.out b17)
      have V17 := Lib.hid (V16.out.below b17 (by omega))
      have M17 := Lib.hid (M16.out.below b17)
      clear b17 G16 V16 M16
      clear M0_ M1_ M2_
      go_wp2_with fail
--@16
      refine (HT0.out _ G17.out).mono ?_
      rintro e w28 ⟨rfl, r18, b18, z18⟩
      have s18 := b18.size
      have G18 := Lib.hid (below_then G17.out b18)
      have V18 := Lib.hid (V17.out.below b18 (by omega))
      have M18 := Lib.hid (M17.out.below b18)
      have P018 := Lib.hid (show AtN w28 (some ⟨w27.heap.size, 0, none⟩) w27.heap.size l0 from .inr ⟨rfl, r18⟩)
      clear r18
      clear b18 G17 V17 M17
      go_wp2_with fail
--@17
      refine (HT1.out _ G18.out).mono ?_
      rintro e w29 ⟨f19, hf19, lk19, rfl, ow19, b19⟩
      have s19 := b19.size
      have G19 := Lib.hid (below_then G18.out b19)
      have V19 := Lib.hid (V18.out.below b19 (by omega))
      have M19 := Lib.hid (M18.out.below b19)
      have P019 := Lib.hid (P018.out.below b19)
      have P119 := Lib.hid ow19
      have eP1 := Lib.hid (And.intro hf19 (like_plain hf19 lk19))
      have ubP1 := ow19.u
      clear hf19 lk19 ow19
      clear b19 G18 V18 M18 P018
      go_wp2_with fail
--@18
      refine (HI.out _ _ _ _ P019.out.nds (P119.out.flds.more (by omega)) eP1.out.1 eP1.out.2 G19.out).mono ?_
      rintro e w30p ⟨aH, cH, rfl, o20, b20⟩
      have u20 := b20.size
      have ne20 := Res.new (p := rw') (q := rh) (c := cH) o20 b20.size
      obtain ⟨bxH, hbxH⟩ : ∃ q, w30p.heap.size = q := ⟨_, rfl⟩
      have bb20 := b20.trans ((below_all w30p (.cells #[.int .i64 rw', .int .i64 rh, .slice aH rl.length cH] 41)).mono b20.size)
      have sz20 : w30p.heap.size < (w30p.alloc (.cells #[.int .i64 rw', .int .i64 rh, .slice aH rl.length cH] 41)).heap.size := by simp
      obtain ⟨w30, hW20⟩ : ∃ W, w30p.alloc (.cells #[.int .i64 rw', .int .i64 rh, .slice aH rl.length cH] 41) = W := ⟨_, rfl⟩
      rw [hW20] at ne20 bb20 sz20
      rw [hbxH] at ne20 sz20 u20
      have loH : w29.heap.size ≤ bxH := u20
      clear b20 o20
      have b20 := bb20
      clear bb20
      have G20 := Lib.hid (below_then G19.out b20)
      have V20 := Lib.hid (V19.out.below b20 (by omega))
      have M20 := Lib.hid (M19.out.below b20)
      have P020 := Lib.hid (P019.out.below b20)
      have P120 := Lib.hid (P119.out.below b20 (by omega))
      have H20 := Lib.hid ne20
      clear ne20
      clear b20 G19 V19 M19 P019 P119
      clear P020
      clear P120 eP1 ubP1
      obtain ⟨H0_, H1_, H2_⟩ := H20.out.k.cells
      obtain ⟨V0_, V1_, V2_⟩ := V20.out.k.cells
      go_wp2_with fail
      clear hbxH hW20
--@19
      refine (eqField_yes rw' rh _ _ rl _ _ _ H20.out.ints V20.out.ints hr).mono ?_
      rintro e w31 ⟨rfl, b21⟩
      have s21 := b21.size
      have G21 := Lib.hid (below_then G20.out b21)
      have V21 := Lib.hid (V20.out.below b21 (by omega))
      have M21 := Lib.hid (M20.out.below b21)
      have H21 := Lib.hid (H20.out.below b21 (by omega))
      clear b21 G20 V20 M20 H20
      clear H0_ H1_ H2_ V0_ V1_ V2_
      obtain ⟨M0_, M1_, M2_⟩ := M21.out.k.cells
      go_wp2_with fail
--@20
      refine (heldField_any rw' rh aR rl.length cR 1 _ M21.out.i.ints hr (by omega) (by omega)).mono ?_
      rintro e w32 ⟨rfl, b22⟩
      have s22 := b22.size
      have G22 := Lib.hid (below_then G21.out b22)
      have V22 := Lib.hid (V21.out.below b22 (by omega))
      have M22 := Lib.hid (M21.out.below b22)
      have H22 := Lib.hid (H21.out.below b22 (by omega))
      clear b22 G21 V21 M21 H21
      clear M0_ M1_ M2_
      go_wp2_with fail
      go_ret
      exact ⟨rfl, G22.out⟩
    · have HY1 := HZ1
      unfold szF at HY1
      rw [if_neg hn1] at HY1
      go_enter Tryd.func4, Tryd.ntmps4
      go_wp2_with fail
      refine (HY0.out _ (by omega) (by omega)).mono ?_
      rintro e wz0 ⟨rfl, rfl⟩
      go_wp2_with fail
      refine (HY1.out _ ((HL1.out.below G0.out (Nat.le_refl _)).more G0.out.size) (by omega) (by omega)).mono ?_
      rintro e w11 ⟨rfl, b1⟩
      have G1 := Lib.hid (below_then G0.out b1)
      clear b1 G0
      go_wp2
      go_ret
      exact ⟨rfl, G1.out⟩
  · have HY0 := HZ0
    rw [if_neg hn0] at HY0
    go_enter Tryd.func4, Tryd.ntmps4
    go_wp2_with fail
    refine (HY0.out _ (by omega) (by omega)).mono ?_
    rintro e wz0 ⟨rfl, rfl⟩
    go_wp2
    go_ret
    exact ⟨rfl, G0.out⟩
end Go.Proofs.YtdkffljnfemngabDoor
