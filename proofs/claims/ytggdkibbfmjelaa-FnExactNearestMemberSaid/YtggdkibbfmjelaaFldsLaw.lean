/- The laws' helpers on lists of fields: szFieldS, toFieldS, eqFieldS, markFieldS, heldFieldS. -/
import Derived.Test.YtggdkibbfmjelaaFlds
import Derived.Laws.MakeOwn
import Derived.StillTailTactics
namespace Go.Proofs.Ytggdkibbfmjelaa
open Go.RowKit
set_option linter.unusedVariables false
set_option linter.unusedSimpArgs false
def lenF (es : List FE) (k : Nat) : Nat := ((es.take k).map fun e => e.l.length).sum
def lenFs (es : List FE) : Nat := (es.map fun e => e.l.length).sum
theorem lenF_zero (es : List FE) : lenF es 0 = 0 := rfl
theorem lenF_step {es : List FE} {k : Nat} (h : k < es.length) : lenF es (k + 1) = lenF es k + es[k].l.length := by
  unfold lenF; rw [List.take_succ_eq_append_getElem h, List.map_append, List.sum_append]; simp
theorem lenF_all (es : List FE) : lenF es es.length = lenFs es := by simp [lenF, lenFs]
theorem lenF_le (es : List FE) (k : Nat) : lenF es k ≤ lenFs es := by
  unfold lenF lenFs
  conv => rhs; rw [← List.take_append_drop k es, List.map_append, List.sum_append]
  omega
/-- how many numbers stand ahead of field k when all are marked -/
def offF (es : List FE) (k : Nat) : Nat := 2 * k + lenF es k
theorem offF_step {es : List FE} {k : Nat} (h : k < es.length) : offF es (k + 1) = offF es k + 2 + es[k].l.length := by
  unfold offF; rw [lenF_step h]; omega
def szF (es : List FE) (left : Int) : Int := if ((es.length + lenFs es : Nat) : Int) ≤ left then left - ((es.length + lenFs es : Nat) : Int) else -1
theorem szF_over (es : List FE) (left : Int) (k : Nat) (h : left < (es.length : Int) + (lenF es k : Int)) : szF es left = -1 := by
  have := lenF_le es k
  exact if_neg (by omega)
theorem szF_fit (es : List FE) (left : Int) (h : (es.length : Int) + (lenFs es : Int) ≤ left) : szF es left = left - (es.length : Int) - (lenFs es : Int) := by
  unfold szF; rw [if_pos (by omega)]; omega
set_option maxHeartbeats 1000000 in
theorem szFields_any (a : Option Addr) (es : List FE) (c : Nat) (left : Int) (w : World) (hl : Flds w w.heap.size a es) (hn : es.length ≤ maxLen) (hs : ∀ e ∈ es, e.l.length ≤ maxLen) (h0 : 0 ≤ left) (h1 : left ≤ 1048576) :
    Calls Try.prog 48 #[.slice a es.length c, .int .i64 left] w fun e w' => e = .returned (.int .i64 (szF es left)) ∧ Below w.heap.size w w' := by
  have HL := Lib.hid hl
  have HSZ := Lib.hid hs
  clear hl hs
  by_cases hlen : left < (es.length : Int)
  · have HF := Lib.hid (szF_over es left 0 (by omega))
    unfold maxLen at hn
    go_enter Try.func48, Try.ntmps48
    go_wp2
    go_ret
    exact ⟨by rw [HF.out]; rfl, Below.refl _ _⟩
  · unfold maxLen at hn
    go_enter Try.func48, Try.ntmps48
    go_wp2
    go_loopw [1, 5] (fun r i wr => ∃ k : Nat, k ≤ es.length ∧ i = .int .i64 k ∧ r = .int .i64 (left - (es.length : Int) - (lenF es k : Int)) ∧ 0 ≤ left - (es.length : Int) - (lenF es k : Int) ∧ Below w.heap.size w wr) (fun _ i _ => es.length - (intOf i).toNat)
    case atStart => exact ⟨0, Nat.zero_le _, rfl, by simp [lenF], by simp [lenF]; omega, Below.refl _ _⟩
    case round =>
      obtain ⟨k, hk, rfl, rfl, hp, hB⟩ := hrel
      by_cases hlt : k < es.length
      · obtain ⟨b, o, rfl, hb, q0, q1, q2, _⟩ := (HL.out.below hB (Nat.le_refl _)).at_ hlt
        have HS := Lib.hid (lenF_step hlt)
        have hss := HSZ.out _ (List.getElem_mem hlt)
        have HO := Lib.hid (szF_over es left (k + 1))
        have HB := Lib.hid hB
        clear hB
        have hi : (k : Int) < (es.length : Int) := by omega
        have hi0 : (0 : Int) ≤ (k : Int) := by omega
        generalize lenF es k = s0 at *
        obtain ⟨r, hr⟩ : ∃ r, left - (es.length : Int) - (s0 : Int) = r := ⟨_, rfl⟩
        rw [hr] at hp ⊢
        have hr1 : r ≤ 1048576 := by omega
        have HR := Lib.hid hr
        clear hr
        have HC := Lib.hid (fun W => szField_any es[k].wd es[k].hg es[k].ad es[k].l.length es[k].c r W hss hp hr1)
        unfold maxLen at hss
        generalize es[k].wd = x0 at *
        generalize es[k].hg = x1 at *
        generalize es[k].ad = x2 at *
        generalize es[k].c = x3 at *
        generalize es[k].l.length = n at *
        by_cases hneg : (n : Int) ≤ r
        · simp only [if_pos hneg] at HC
          go_wp2_with fail
          refine (HC.out wr).mono ?_
          rintro e w1 ⟨rfl, b1⟩
          have HB1 := Lib.hid (HB.out.trans (b1.mono HB.out.size))
          clear b1 q0 q1 q2
          have h9 : ¬ r - (n : Int) < 0 := by omega
          go_wp2
          go_roundw
          case rel => exact ⟨k + 1, by omega, by go_num, by rw [HS.out, ← HR.out]; push_cast; congr 1; omega, by have := HS.out; have := HR.out; omega, HB1.out⟩
          case measure => simp [intOf]; omega
        · have hf := HO.out (by have := HS.out; have := HR.out; omega)
          have HF := Lib.hid hf
          clear hf
          simp only [if_neg hneg] at HC
          go_wp2_with fail
          refine (HC.out wr).mono ?_
          rintro e w1 ⟨rfl, b1⟩
          have HB1 := Lib.hid (HB.out.trans (b1.mono HB.out.size))
          clear b1 q0 q1 q2
          go_wp2
          go_ret
          exact ⟨by rw [HF.out]; rfl, HB1.out⟩
      · obtain rfl : k = es.length := by omega
        rw [lenF_all] at *
        have HF := Lib.hid (szF_fit es left (by omega))
        have HB := Lib.hid hB
        clear hB
        go_wp2
        go_ret
        exact ⟨by rw [HF.out]; rfl, HB.out⟩
theorem infoField : (Try.prog.info? 34).map (fun i => (i.zero, i.size, i.bytes)) = some (some (.agg #[.int .i64 0, .int .i64 0, .slice none 0 0]), 3, 40) := by kernel_rfl
theorem run_make_fields (n : Nat) (h : n ≤ 1048576) (W : World) :
    (Instr.makeSlice 52 (.int .i64 (n : Int)) (.int .i64 (n : Int))).run Try.prog W = .ok (.slice (some ⟨W.heap.size, 0, none⟩) n n) (W.alloc (.cells (madeCells #[.int .i64 0, .int .i64 0, .slice none 0 0] (n * 3)) 34)) := by
  obtain ⟨i, hi, hzz⟩ := Option.map_eq_some_iff.1 infoField
  simp only [Prod.mk.injEq] at hzz
  obtain ⟨hz, hs, hb⟩ := hzz
  have hr := run_make (P := Try.prog) W 52 34 i (.agg #[.int .i64 0, .int .i64 0, .slice none 0 0]) Try.underlying52 hi hz .i64 .i64 n n (by omega) (Int.le_refl _) (by rw [hb]; omega) (by omega)
  simp only [Int.toNat_natCast, hs] at hr
  exact hr
def zeroF : FE := ⟨0, 0, none, [], 0, 0⟩
theorem fvs_zero (n k : Nat) (h : k < n * 3) : (fvs (List.replicate n zeroF))[k]? = (#[Value.int .i64 0, .int .i64 0, .slice none 0 0] : Array Value)[k % 3]? := by
  have hl : (k / 3) < (List.replicate n zeroF).length := by rw [List.length_replicate]; omega
  have e := fvs_get (List.replicate n zeroF) (k / 3) hl
  rw [List.getElem_replicate] at e
  have hm : k % 3 = 0 ∨ k % 3 = 1 ∨ k % 3 = 2 := by omega
  rcases hm with hm | hm | hm
  · rw [show k = k / 3 * 3 by omega, e.1]; simp; rfl
  · rw [show k = k / 3 * 3 + 1 by omega, e.2.1, show (k / 3 * 3 + 1) % 3 = 1 by omega]; rfl
  · rw [show k = k / 3 * 3 + 2 by omega, e.2.2, show (k / 3 * 3 + 2) % 3 = 2 by omega]; rfl
theorem row_made_fields (n : Nat) (W : World) : Row (W.alloc (.cells (madeCells #[.int .i64 0, .int .i64 0, .slice none 0 0] (n * 3)) 34)) W.heap.size 34 (fvs (List.replicate n zeroF)) := by
  refine ⟨_, heap_alloc_new W _, fun k hk => ?_⟩
  have hk2 := hk
  rw [fvs_length, List.length_replicate] at hk2
  have e := fvs_zero n k hk2
  rw [List.getElem?_eq_getElem hk] at e
  rw [e]
  have hm : k % 3 = 0 ∨ k % 3 = 1 ∨ k % 3 = 2 := by omega
  rcases hm with hm | hm | hm <;> simp [madeCells, hk2, hm]
/-- the first fields copied, the others nothing -/
def mixF (es : List FE) (n : Nat) : List FE := es ++ List.replicate (n - es.length) zeroF
theorem mixF_len (es : List FE) (n : Nat) (h : es.length ≤ n) : (mixF es n).length = n := by simp [mixF]; omega
theorem mixF_step (es : List FE) (n : Nat) (e : FE) (h : es.length < n) : (mixF es n).set es.length e = mixF (es ++ [e]) n := by
  unfold mixF
  rw [List.set_append_right _ _ (Nat.le_refl _), Nat.sub_self, show n - es.length = (n - (es ++ [e]).length) + 1 by simp; omega, List.replicate_succ, List.set_cons_zero, List.append_assoc]
  rfl
theorem mixF_all (es : List FE) : mixF es es.length = es := by simp [mixF]
/-- es' reads as the first fields of es -/
def LikeF (es' es : List FE) : Prop := es'.length ≤ es.length ∧ ∀ j (h : j < es'.length) (h2 : j < es.length), es'[j].wd = es[j].wd ∧ es'[j].hg = es[j].hg ∧ es'[j].l = es[j].l ∧ es'[j].l.length ≤ es'[j].c
theorem LikeF.nil (es : List FE) : LikeF [] es := ⟨Nat.zero_le _, fun j h => by simp at h⟩
theorem LikeF.snoc {es' es : List FE} (h : LikeF es' es) (hlt : es'.length < es.length) {e : FE} (h1 : e.wd = es[es'.length].wd) (h2 : e.hg = es[es'.length].hg) (h3 : e.l = es[es'.length].l) (h4 : e.l.length ≤ e.c) : LikeF (es' ++ [e]) es := by
  refine ⟨by simp; omega, fun j h5 h6 => ?_⟩
  rw [List.length_append, List.length_singleton] at h5
  by_cases e1 : j < es'.length
  · rw [List.getElem_append_left e1]; exact h.2 j e1 h6
  · obtain rfl : j = es'.length := by omega
    rw [List.getElem_append_right (Nat.le_refl _)]
    simp only [Nat.sub_self, List.getElem_cons_zero]
    exact ⟨h1, h2, h3, h4⟩
theorem LikeF.plain {es' es : List FE} (h : LikeF es' es) (hl : es'.length = es.length) : es'.map FE.plain = es.map FE.plain := by
  refine List.ext_getElem (by simp [hl]) fun j h1 h2 => ?_
  rw [List.length_map] at h1 h2
  obtain ⟨e1, e2, e3, _⟩ := h.2 j h1 h2
  rw [List.getElem_map, List.getElem_map]
  unfold FE.plain
  rw [e1, e2, e3]
def ToFsPost (es : List FE) (w : World) (e : Ending) (w' : World) : Prop :=
  ∃ es', es'.length = es.length ∧ LikeF es' es ∧ e = .returned (.slice (some ⟨w.heap.size, 0, none⟩) es.length es.length) ∧ OwnFs w' w.heap.size w'.heap.size w.heap.size es' ∧ Below w.heap.size w w'
set_option maxRecDepth 100000 in
set_option maxHeartbeats 2000000 in
theorem toFields_any (a : Option Addr) (es : List FE) (c : Nat) (w : World) (hl : Flds w w.heap.size a es) (hn : es.length ≤ 1048576) (hs : ∀ e ∈ es, e.l.length ≤ 1048576) :
    Calls Try.prog 50 #[.slice a es.length c] w (ToFsPost es w) := by
  have HL := Lib.hid hl
  have HSZ := Lib.hid hs
  clear hl hs
  have hmk := fun W => run_make_fields es.length (by omega) W
  have HR0 := Lib.hid (row_made_fields es.length w)
  have hsz0 : ∀ o, (w.alloc o).heap.size = w.heap.size + 1 := fun o => by simp
  go_enter Try.func50, Try.ntmps50
  go_wp2
  clear hmk
  go_loopw [4] (fun i wr => ∃ (k : Nat) (es' : List FE), k ≤ es.length ∧ es'.length = k ∧ i = .int .i64 k ∧ LikeF es' es ∧ Row wr w.heap.size 34 (fvs (mixF es' es.length)) ∧ Fb wr (w.heap.size + 1) wr.heap.size es' ∧ w.heap.size + 1 ≤ wr.heap.size ∧ Below w.heap.size w wr) (fun i _ => es.length - (intOf i).toNat)
  case atStart => exact ⟨0, [], Nat.zero_le _, rfl, rfl, LikeF.nil _, by have := HR0.out; simpa [mixF] using this, Fb.nil, by rw [hsz0]; exact Nat.le_refl _, (Below.refl _ _).alloc (Nat.le_refl _) _⟩
  case round =>
    obtain ⟨k, es', hk, hk2, rfl, hlike, hrow, hfb, hsz, hB⟩ := hrel
    have HR := Lib.hid hrow
    have HB := Lib.hid hB
    have HK := Lib.hid hlike
    have HF := Lib.hid hfb
    by_cases hlt : k < es.length
    · obtain ⟨b, o, rfl, hb, q0, q1, q2, q3⟩ := (HL.out.below hB (Nat.le_refl _)).at_ hlt
      have hml := mixF_len es' es.length (by omega)
      have hnl := fvs_length (mixF es' es.length)
      obtain ⟨u0, hu0⟩ : ∃ u, wr.cell? ⟨w.heap.size, k * 3, none⟩ = some u := ⟨_, hrow.cell (k := k * 3) (by omega)⟩
      obtain ⟨u1, hu1⟩ : ∃ u, wr.cell? ⟨w.heap.size, k * 3 + 1, none⟩ = some u := ⟨_, hrow.cell (k := k * 3 + 1) (by omega)⟩
      obtain ⟨u2, hu2⟩ : ∃ u, wr.cell? ⟨w.heap.size, k * 3 + 2, none⟩ = some u := ⟨_, hrow.cell (k := k * 3 + 2) (by omega)⟩
      have f0 := hrow.frozen (k * 3)
      have f1 := hrow.frozen (k * 3 + 1)
      have f2 := hrow.frozen (k * 3 + 2)
      have hz := hrow.lt
      have HNS := Lib.hid (fun e => fvs_set (mixF es' es.length) k e (by omega))
      have HC := Lib.hid (fun W (h : Ints .i64 W W.heap.size (es[k]'hlt).ad (es[k]'hlt).l) => toField_any (es[k]'hlt).wd (es[k]'hlt).hg (es[k]'hlt).ad (es[k]'hlt).l (es[k]'hlt).c W h (HSZ.out _ (List.getElem_mem hlt)))
      have HI := Lib.hid (q3.more hB.size)
      clear hrow hB hml hnl q3 hlike hfb
      have hi : (k : Int) < (es.length : Int) := by omega
      have hi0 : (0 : Int) ≤ (k : Int) := by omega
      obtain ⟨E, hE⟩ : ∃ E, es[k] = E := ⟨_, rfl⟩
      rw [hE] at q0 q1 q2 HC HI
      have HE := Lib.hid hE
      clear hE
      go_wp2_with fail
      refine (HC.out wr HI.out).mono ?_
      rintro e w1 ⟨g, hg1, hg2, rfl, hat, b1⟩
      have hu0' : w1.cell? ⟨w.heap.size, k * 3, none⟩ = some u0 := (b1.cell (p := ⟨w.heap.size, k * 3, none⟩) hz).trans hu0
      have hu1' : w1.cell? ⟨w.heap.size, k * 3 + 1, none⟩ = some u1 := (b1.cell (p := ⟨w.heap.size, k * 3 + 1, none⟩) hz).trans hu1
      have hu2' : w1.cell? ⟨w.heap.size, k * 3 + 2, none⟩ = some u2 := (b1.cell (p := ⟨w.heap.size, k * 3 + 2, none⟩) hz).trans hu2
      have f0' : w1.frozen? ⟨w.heap.size, k * 3, none⟩ = false := (b1.frozen (p := ⟨w.heap.size, k * 3, none⟩) hz).trans f0
      have f1' : w1.frozen? ⟨w.heap.size, k * 3 + 1, none⟩ = false := (b1.frozen (p := ⟨w.heap.size, k * 3 + 1, none⟩) hz).trans f1
      have f2' : w1.frozen? ⟨w.heap.size, k * 3 + 2, none⟩ = false := (b1.frozen (p := ⟨w.heap.size, k * 3 + 2, none⟩) hz).trans f2
      have HR1 := Lib.hid (HR.out.of_block (b1.block w.heap.size hz))
      have HB1 := Lib.hid (HB.out.trans (b1.mono HB.out.size))
      have HF1 := Lib.hid (((HF.out.below b1 (Nat.le_refl _)).snoc (e := ⟨E.wd, E.hg, some ⟨g, 0, none⟩, E.l, E.l.length, g⟩) (by show w.heap.size + 1 ≤ g; omega) hg1 hat).more (Nat.le_refl _) (V := w1.heap.size) hg2)
      have hsz1 : w.heap.size + 1 ≤ w1.heap.size := by omega
      have HS := Lib.hid (mixF_step es' es.length ⟨E.wd, E.hg, some ⟨g, 0, none⟩, E.l, E.l.length, g⟩ (by omega))
      have HK1 := Lib.hid (HK.out.snoc (by omega) (e := ⟨E.wd, E.hg, some ⟨g, 0, none⟩, E.l, E.l.length, g⟩) (by have := HE.out; subst hk2; rw [this]) (by have := HE.out; subst hk2; rw [this]) (by have := HE.out; subst hk2; rw [this]) (Nat.le_refl _))
      have HNE := Lib.hid (HNS.out ⟨E.wd, E.hg, some ⟨g, 0, none⟩, E.l, E.l.length, g⟩)
      clear hu0 hu1 hu2 f0 f1 f2 b1 q0 q1 q2 hat HNS
      go_wp2
      go_roundw
      case rel =>
        refine ⟨k + 1, es' ++ [⟨E.wd, E.hg, some ⟨g, 0, none⟩, E.l, E.l.length, g⟩], by omega, by simp [hk2], by go_num, HK1.out, ?_, ?_, by simp [World.setCell]; omega, ((HB1.out.setCell (p := ⟨w.heap.size, k * 3, none⟩) (Nat.le_refl _) _).setCell (p := ⟨w.heap.size, k * 3 + 1, none⟩) (Nat.le_refl _) _).setCell (p := ⟨w.heap.size, k * 3 + 2, none⟩) (Nat.le_refl _) _⟩
        · have h := ((HR1.out.set (k * 3) (.int .i64 E.wd)).set (k * 3 + 1) (.int .i64 E.hg)).set (k * 3 + 2) (.slice (some ⟨g, 0, none⟩) E.l.length E.l.length)
          replace h := (congrArg (Row _ w.heap.size 34) HNE.out).mp h
          have h3 := HS.out
          rw [hk2] at h3
          rw [h3] at h
          exact h
        · have h4 := HF1.out.keep (w' := ((w1.setCell ⟨w.heap.size, k * 3, none⟩ (.int .i64 E.wd)).setCell ⟨w.heap.size, k * 3 + 1, none⟩ (.int .i64 E.hg)).setCell ⟨w.heap.size, k * 3 + 2, none⟩ (.slice (some ⟨g, 0, none⟩) E.l.length E.l.length)) (fun i h1 _ _ => by
            rw [Below.heap_setCell _ _ _ _ (by show i ≠ w.heap.size; omega), Below.heap_setCell _ _ _ _ (by show i ≠ w.heap.size; omega), Below.heap_setCell _ _ _ _ (by show i ≠ w.heap.size; omega)])
          exact h4.more (Nat.le_refl _) (by simp [World.setCell])
      case measure => simp [intOf]; omega
    · obtain rfl : k = es.length := by omega
      have hm := mixF_all es'
      rw [hk2] at hm
      rw [hm] at HR
      have hz := hrow.lt
      clear hrow hB hlike hfb hm
      go_wp2
      go_ret
      exact ⟨es', hk2, HK.out, rfl, ⟨HR.out, Nat.le_refl _, hz, HF.out.more (Nat.le_succ _) (Nat.le_refl _), fun j hj => by have := (HF.out.row j hj).1; omega⟩, HB.out⟩
set_option maxRecDepth 100000 in
set_option maxHeartbeats 1000000 in
theorem eqFields_yes (a a' : Option Addr) (es es' : List FE) (c c' : Nat) (w : World) (hl : Flds w w.heap.size a es) (hl' : Flds w w.heap.size a' es') (hk : es'.map FE.plain = es.map FE.plain) (hn : es.length ≤ 1048576) (hs : ∀ e ∈ es, e.l.length ≤ 1048576) :
    Calls Try.prog 38 #[.slice a es.length c, .slice a' es'.length c'] w fun e w' => e = .returned (.bool true) ∧ Below w.heap.size w w' := by
  have HL := Lib.hid hl
  have HL' := Lib.hid hl'
  have HSZ := Lib.hid hs
  have hlen : es'.length = es.length := by have := congrArg List.length hk; simpa using this
  have HPL := Lib.hid (fun j (h1 : j < es'.length) (h2 : j < es.length) => show es'[j].plain = es[j].plain by
    have := List.getElem_of_eq hk (by rw [List.length_map]; exact h1)
    simpa using this)
  clear hl hl' hs hk
  rw [hlen]
  go_enter Try.func38, Try.ntmps38
  go_wp2
  go_loopw [5] (fun i wr => ∃ k : Nat, k ≤ es.length ∧ i = .int .i64 k ∧ Below w.heap.size w wr) (fun i _ => es.length - (intOf i).toNat)
  case atStart => exact ⟨0, Nat.zero_le _, rfl, Below.refl _ _⟩
  case round =>
    obtain ⟨k, hk, rfl, hB⟩ := hrel
    have HB := Lib.hid hB
    by_cases hlt : k < es.length
    · obtain ⟨b, o, rfl, hb, q0, q1, q2, q3⟩ := (HL.out.below hB (Nat.le_refl _)).at_ hlt
      obtain ⟨b', o', rfl, hb', p0, p1, p2, p3⟩ := (HL'.out.below hB (Nat.le_refl _)).at_ (j := k) (by omega)
      have hpl := HPL.out k (by omega) hlt
      unfold FE.plain at hpl
      simp only [Prod.mk.injEq] at hpl
      obtain ⟨e1, e2, e3⟩ := hpl
      rw [e1] at p0
      rw [e2] at p1
      rw [e3] at p2 p3
      have HI := Lib.hid (q3.more hB.size)
      have HI' := Lib.hid (p3.more hB.size)
      have hk2 : k < es'.length := by omega
      have HC := Lib.hid (fun W (h : Ints .i64 W W.heap.size (es[k]'hlt).ad (es[k]'hlt).l) (h' : Ints .i64 W W.heap.size (es'[k]'hk2).ad (es[k]'hlt).l) => eqField_yes (es[k]'hlt).wd (es[k]'hlt).hg (es[k]'hlt).ad (es'[k]'hk2).ad (es[k]'hlt).l (es[k]'hlt).c (es'[k]'hk2).c W h h' (HSZ.out _ (List.getElem_mem hlt)))
      clear hB q3 p3 e1 e2 e3
      have hi : (k : Int) < (es.length : Int) := by omega
      have hi0 : (0 : Int) ≤ (k : Int) := by omega
      generalize es[k].wd = x0 at *
      generalize es[k].hg = x1 at *
      generalize es[k].ad = x2 at *
      generalize es[k].c = x3 at *
      generalize es[k].l = x4 at *
      generalize es'[k].ad = y2 at *
      generalize es'[k].c = y3 at *
      generalize hln : x4.length = n at *
      have HLN := Lib.hid hln
      clear hln
      go_wp2_with fail
      go_still_tail 8, (by kernel_rfl)
      change wpList _ _ _ _ _ wr.drew
      have HB1 := Lib.hid (HB.out.drew)
      have HJ := Lib.hid (ints_below HI.out (w' := wr.drew) ⟨rfl, rfl, rfl, Nat.le_refl _, fun _ _ => rfl⟩)
      have HJ' := Lib.hid (ints_below HI'.out (w' := wr.drew) ⟨rfl, rfl, rfl, Nat.le_refl _, fun _ _ => rfl⟩)
      generalize wr.drew = w2 at *
      go_wp2_with fail
      refine (HC.out w2 HJ.out HJ'.out).mono ?_
      rintro e w3 ⟨rfl, b3⟩
      have HB3 := Lib.hid (HB1.out.trans (b3.mono HB1.out.size))
      clear b3
      go_wp2
      go_roundw
      case rel => exact ⟨k + 1, by omega, by go_num, HB3.out⟩
      case measure => simp [intOf]; omega
    · have hge : (es.length : Int) ≤ (k : Int) := by omega
      go_wp2
      go_ret
      exact ⟨rfl, HB.out⟩
/-- a field marked with numbers from k on -/
def FE.mark (e : FE) (k : Int) : FE := ⟨k, k + 1, e.ad, marks (k + 2) e.l.length, e.c, e.g⟩
def partF (k0 : Int) (es : List FE) (k : Nat) : List FE := es.mapIdx fun j e => if j < k then e.mark (k0 + (offF es j : Int)) else e
theorem partF_len (k0 : Int) (es : List FE) (k : Nat) : (partF k0 es k).length = es.length := by simp [partF]
theorem partF_get {k0 : Int} {es : List FE} {k j : Nat} (h : j < (partF k0 es k).length) (h2 : j < es.length) : (partF k0 es k)[j] = if j < k then es[j].mark (k0 + (offF es j : Int)) else es[j] := by
  simp [partF]
theorem partF_g {k0 : Int} {es : List FE} {k j : Nat} (h : j < (partF k0 es k).length) : (partF k0 es k)[j].g = (es[j]'(by rwa [partF_len] at h)).g := by
  rw [partF_get h (by rwa [partF_len] at h)]
  split <;> rfl
theorem partF_zero (k0 : Int) (es : List FE) : partF k0 es 0 = es := by
  refine List.ext_getElem (partF_len _ _ _) fun j h1 h2 => ?_
  rw [partF_get h1 h2, if_neg (by omega)]
theorem partF_step {k0 : Int} {es : List FE} {k : Nat} (h : k < es.length) : (partF k0 es k).set k (es[k].mark (k0 + (offF es k : Int))) = partF k0 es (k + 1) := by
  refine List.ext_getElem (by rw [List.length_set, partF_len, partF_len]) fun j h1 h2 => ?_
  have h3 : j < es.length := by rwa [partF_len] at h2
  rw [List.getElem_set]
  by_cases e : k = j
  · subst e
    rw [if_pos rfl, partF_get h2 h3, if_pos (by omega)]
  · rw [if_neg e, partF_get (by rw [partF_len]; exact h3) h3, partF_get h2 h3]
    by_cases e2 : j < k
    · rw [if_pos e2, if_pos (by omega)]
    · rw [if_neg e2, if_neg (by omega)]
theorem fvs_set2 (l : List FE) (k : Nat) (e : FE) (h : k < l.length) (h1 : e.ad = l[k].ad) (h2 : e.l.length = l[k].l.length) (h3 : e.c = l[k].c) : ((fvs l).set (k * 3) (.int .i64 e.wd)).set (k * 3 + 1) (.int .i64 e.hg) = fvs (l.set k e) := by
  rw [← fvs_set l k e h]
  have hl := fvs_length l
  have e3 := (fvs_get l k h).2.2
  refine (List.ext_getElem (by simp) fun j j1 j2 => ?_).symm
  rw [List.getElem_set]
  split
  · rename_i ej
    subst ej
    rw [List.getElem_set_ne (by omega), List.getElem_set_ne (by omega), h1, h2, h3]
    rw [List.getElem?_eq_getElem (by omega)] at e3
    injection e3 with e3
    exact e3.symm
  · rfl
theorem fld_ne_ints {w : World} {g g' : Nat} {vs us : List Value} (h : Row w g 34 vs) (h' : Row w g' 3 us) : g ≠ g' := by
  rintro rfl
  obtain ⟨c1, hc1, _⟩ := h
  obtain ⟨c2, hc2, _⟩ := h'
  rw [hc2] at hc1
  injection hc1 with hc1
  injection hc1 with _ hty
  exact absurd hty (by decide)
set_option maxRecDepth 100000 in
set_option maxHeartbeats 2000000 in
theorem markFields_any (es : List FE) (c B U g : Nat) (k0 : Int) (w : World) (h : OwnFs w B U g es) (hn : es.length ≤ 1048576) (hs : ∀ e ∈ es, e.l.length ≤ 1048576) (h0 : 0 ≤ k0) (h1 : k0 + (offF es es.length : Int) ≤ 8388608) :
    Calls Try.prog 39 #[.slice (some ⟨g, 0, none⟩) es.length c, .int .i64 k0] w fun e w' => e = .returned (.int .i64 (k0 + (offF es es.length : Int))) ∧ OwnFs w' B U g (partF k0 es es.length) ∧ Below B w w' ∧ ∀ i, U ≤ i → i < w.heap.size → w'.heap[i]? = w.heap[i]? := by
  have HT := Lib.hid h
  have HLE := Lib.hid (lenF_le es)
  have HSZ := Lib.hid hs
  have hall := lenF_all es
  have hoff : offF es es.length = 2 * es.length + lenFs es := by unfold offF; rw [hall]
  clear h hs
  go_enter Try.func39, Try.ntmps39
  go_wp2
  go_loopw [1, 5] (fun q i wr => ∃ k : Nat, k ≤ es.length ∧ i = .int .i64 k ∧ q = .int .i64 (k0 + (offF es k : Int)) ∧ OwnFs wr B U g (partF k0 es k) ∧ Below B w wr ∧ ∀ i, U ≤ i → i < w.heap.size → wr.heap[i]? = w.heap[i]?) (fun _ i _ => es.length - (intOf i).toNat)
  case atStart => exact ⟨0, Nat.zero_le _, rfl, by simp [offF, lenF], by rw [partF_zero]; exact HT.out, Below.refl _ _, fun _ _ _ => rfl⟩
  case round =>
    obtain ⟨k, hk, rfl, rfl, ht, hB, hA⟩ := hrel
    have HA := Lib.hid hA
    clear hA
    have hle := HLE.out k
    have hok : offF es k = 2 * k + lenF es k := rfl
    by_cases hlt : k < es.length
    · have hi : (k : Int) < (es.length : Int) := by omega
      have hi0 : (0 : Int) ≤ (k : Int) := by omega
      have hkp : k < (partF k0 es k).length := by rw [partF_len]; exact hlt
      obtain ⟨hb1, hb2, hat⟩ := ht.f.row k hkp
      have hgk : (partF k0 es k)[k] = es[k] := by rw [partF_get hkp hlt, if_neg (by omega)]
      rw [hgk] at hb1 hb2 hat
      have hnl := fvs_length (partF k0 es k)
      have hget := fvs_get (partF k0 es k) k hkp
      rw [hgk, List.getElem?_eq_getElem (by omega), List.getElem?_eq_getElem (by omega), List.getElem?_eq_getElem (by omega)] at hget
      obtain ⟨hv0, hv1, hv2⟩ := hget
      injection hv0 with hv0
      injection hv1 with hv1
      injection hv2 with hv2
      have q0 := ht.r.cell (k := k * 3) (by omega)
      have q1 := ht.r.cell (k := k * 3 + 1) (by omega)
      have q2 := ht.r.cell (k := k * 3 + 2) (by omega)
      rw [hv0] at q0
      rw [hv1] at q1
      rw [hv2] at q2
      have f0 := ht.r.frozen (k * 3)
      have f1 := ht.r.frozen (k * 3 + 1)
      obtain ⟨m, hm⟩ : ∃ m, k0 + (offF es k : Int) = m := ⟨_, rfl⟩
      have hstep := offF_step hlt
      have hle2 := HLE.out (k + 1)
      have hok2 : offF es (k + 1) = 2 * (k + 1) + lenF es (k + 1) := rfl
      have hmb : 0 ≤ m ∧ m ≤ 8388608 := by omega
      have HST := Lib.hid (partF_step (k0 := k0) hlt)
      rw [hm] at HST
      have HNS := Lib.hid (fvs_set2 (partF k0 es k) k (es[k].mark m) hkp (by rw [hgk]; rfl) (by rw [hgk]; simp [FE.mark, marks_length]) (by rw [hgk]; rfl))
      have HLN := Lib.hid (HSZ.out _ (List.getElem_mem hlt))
      have HM := Lib.hid (fun W (h : At W (es[k]'hlt).ad (es[k]'hlt).g (es[k]'hlt).l) => markIntsW_any (es[k]'hlt).ad (es[k]'hlt).l (es[k]'hlt).c (es[k]'hlt).g (m + 1 + 1) W h HLN.out (by omega) (by omega))
      have HTT := Lib.hid ht
      have HB := Lib.hid hB
      have HRE := Lib.hid (show m + 1 + 1 + (es[k].l.length : Int) = k0 + (offF es (k + 1) : Int) by rw [hstep]; push_cast; omega)
      have HGK := Lib.hid hgk
      have HAT := Lib.hid hat
      have hEmark : (es[k].mark m).wd = m ∧ (es[k].mark m).hg = m + 1 ∧ (es[k].mark m).l = marks (m + 1 + 1) es[k].l.length := ⟨rfl, rfl, by show marks (m + 2) _ = _; rw [show m + 2 = m + 1 + 1 by omega]⟩
      have HEM := Lib.hid hEmark
      have s1 : wrap64 (m + 1) = m + 1 := IntWalk.wrap64_in _ (by omega)
      have s2 : wrap64 (m + 1 + 1) = m + 1 + 1 := IntWalk.wrap64_in _ (by omega)
      have HMM := Lib.hid hm
      rw [hm]
      obtain ⟨E, hE⟩ : ∃ E, es[k] = E := ⟨_, rfl⟩
      rw [hE] at q0 q1 q2
      have HE := Lib.hid hE
      clear ht hB hat hgk hEmark hm hstep hle hle2 hok hok2 hv0 hv1 hv2 hE hnl
      have hgne : ∀ W, Row W E.g 3 (iv E.l) → True := fun _ _ => trivial
      go_wp2_with fail
      have HE2 := HE.out
      rw [HE2] at HM HAT HEM HRE HNS HST
      have HATW := Lib.hid (show At ((wr.setCell ⟨g, k * 3, none⟩ (.int .i64 m)).setCell ⟨g, k * 3 + 1, none⟩ (.int .i64 (m + 1))) E.ad E.g E.l from by
        rcases HAT.out with e | ⟨e1, e2⟩
        · exact .inl e
        · have hne := fld_ne_ints HTT.out.r e2
          exact .inr ⟨e1, (e2.other (fun e => hne e.symm) _).other (fun e => hne e.symm) _⟩)
      refine (HM.out _ HATW.out).mono ?_
      rintro e w2 ⟨rfl, hat, ho⟩
      have hgE : g ≠ E.g := by
        have h := HTT.out.n k (by rw [partF_len]; exact hlt)
        rw [HGK.out, HE2] at h
        exact fun e => h e.symm
      have T2 : OwnFs w2 B U g (partF k0 es (k + 1)) := by
        have hgl : g < wr.heap.size := HTT.out.r.lt
        have R1 : Row ((wr.setCell ⟨g, k * 3, none⟩ (.int .i64 m)).setCell ⟨g, k * 3 + 1, none⟩ (.int .i64 (m + 1))) g 34 (fvs (partF k0 es (k + 1))) := by
          have h := (HTT.out.r.set (k * 3) (.int .i64 m)).set (k * 3 + 1) (.int .i64 (m + 1))
          have h2 := HNS.out
          rw [HEM.out.1, HEM.out.2.1] at h2
          rw [h2, HST.out] at h
          exact h
        have hsz : ∀ i, i < wr.heap.size → i < ((wr.setCell ⟨g, k * 3, none⟩ (.int .i64 m)).setCell ⟨g, k * 3 + 1, none⟩ (.int .i64 (m + 1))).heap.size := fun i h => by simpa using h
        refine ⟨R1.of_block (ho.1.block g (hsz g hgl) (by intro e; injection e with e; exact hgE e)), HTT.out.b, HTT.out.u, ⟨fun j j1 => ?_, fun i j i1 j1 hne => ?_⟩, fun j j1 => ?_⟩
        · have j3 : j < es.length := by rwa [partF_len] at j1
          obtain ⟨p1, p2, p3⟩ := HTT.out.f.row j (by rw [partF_len]; exact j3)
          by_cases ej : j = k
          · subst ej
            rw [partF_get j1 j3, if_pos (by omega), HMM.out, HE2]
            rw [HGK.out, HE2] at p1 p2
            exact ⟨p1, p2, by rw [HEM.out.2.2]; exact hat⟩
          · have hn1 := HTT.out.f.ne j k (by rw [partF_len]; exact j3) (by rw [partF_len]; exact hlt) ej
            have hn2 := HTT.out.n j (by rw [partF_len]; exact j3)
            rw [HGK.out, HE2] at hn1
            have hst2 : (partF k0 es (k + 1))[j] = (partF k0 es k)[j]'(by rw [partF_len]; exact j3) := by
              rw [partF_get j1 j3, partF_get (by rw [partF_len]; exact j3) j3]
              by_cases ej2 : j < k
              · rw [if_pos ej2, if_pos (by omega)]
              · rw [if_neg ej2, if_neg (by omega)]
            rw [hst2]
            refine ⟨p1, p2, p3.keep fun hl => ?_⟩
            rw [ho.1.block _ (hsz _ hl) (by intro e; injection e with e; exact hn1 e), Below.heap_setCell _ _ _ _ hn2, Below.heap_setCell _ _ _ _ hn2]
        · have i3 : i < es.length := by rwa [partF_len] at i1
          have j3 : j < es.length := by rwa [partF_len] at j1
          have h := HTT.out.f.ne i j (by rw [partF_len]; exact i3) (by rw [partF_len]; exact j3) hne
          rw [partF_g, partF_g] at h ⊢
          exact h
        · have j3 : j < es.length := by rwa [partF_len] at j1
          have h := HTT.out.n j (by rw [partF_len]; exact j3)
          rw [partF_g] at h ⊢
          exact h
      have HT2 := Lib.hid T2
      have HB2 := Lib.hid (((HB.out.setCell (p := ⟨g, k * 3, none⟩) HTT.out.b (.int .i64 m)).setCell (p := ⟨g, k * 3 + 1, none⟩) HTT.out.b (.int .i64 (m + 1))).trans (ho.below (by have := hb1; rw [HE2] at this; exact this)))
      have HA2 := Lib.hid (fun i (h1 : U ≤ i) (h2 : i < w.heap.size) => show w2.heap[i]? = w.heap[i]? by
        have hsz : i < wr.heap.size := Nat.lt_of_lt_of_le h2 HB.out.size
        have hu := HTT.out.u
        have hb2' : E.g < U := by have := hb2; rw [HE2] at this; exact this
        rw [ho.1.block i (by simpa using hsz) (by intro e; injection e with e; omega), Below.heap_setCell _ _ _ _ (by show i ≠ g; omega), Below.heap_setCell _ _ _ _ (by show i ≠ g; omega)]
        exact HA.out i h1 h2)
      clear hat T2 ho HTT HB q0 q1 q2 f0 f1 hgE
      go_wp2
      go_roundw
      case rel => exact ⟨k + 1, by omega, by go_num, by rw [← HRE.out], HT2.out, HB2.out, HA2.out⟩
      case measure => simp [intOf]; omega
    · obtain rfl : k = es.length := by omega
      have HTT := Lib.hid ht
      have HB := Lib.hid hB
      clear ht hB
      go_wp2
      go_ret
      exact ⟨rfl, HTT.out, HB.out, HA.out⟩
theorem le_lenFs {es : List FE} : ∀ e ∈ es, e.l.length ≤ lenFs es := by
  induction es with
  | nil => intro e h; simp at h
  | cons x r ih =>
    intro e h
    have h9 : lenFs (x :: r) = x.l.length + lenFs r := rfl
    rcases List.mem_cons.1 h with rfl | h
    · omega
    · have := ih e h; omega
theorem lenFs_plain {es es' : List FE} (h : es'.map FE.plain = es.map FE.plain) : lenFs es' = lenFs es := by
  have key : ∀ l : List FE, lenFs l = ((l.map FE.plain).map fun p => p.2.2.length).sum := by intro l; unfold lenFs; rw [List.map_map]; rfl
  rw [key, key, h]
theorem offF_all (es : List FE) : offF es es.length = 2 * es.length + lenFs es := by unfold offF; rw [lenF_all]
theorem eqFields_n (a a' : Option Addr) (es es' : List FE) (n c c' : Nat) (w : World) (hl : Flds w w.heap.size a es) (hl' : Flds w w.heap.size a' es') (h1 : es.length = n) (hk : es'.map FE.plain = es.map FE.plain) (hn : n ≤ 1048576) (hs : lenFs es ≤ 1048576) :
    Calls Try.prog 38 #[.slice a n c, .slice a' n c'] w fun e w' => e = .returned (.bool true) ∧ Below w.heap.size w w' := by
  have hlen : es'.length = es.length := by have := congrArg List.length hk; simpa using this
  have h := eqFields_yes a a' es es' c c' w hl hl' hk (by omega) (fun e he => Nat.le_trans (le_lenFs e he) hs)
  rw [hlen, h1] at h
  exact h
theorem markFields_n (es : List FE) (n c B U g : Nat) (k0 : Int) (w : World) (h : OwnFs w B U g es) (h1 : es.length = n) (hn : n ≤ 1048576) (hs : lenFs es ≤ 1048576) (h0 : 0 ≤ k0) (h2 : k0 ≤ 4194304) :
    Calls Try.prog 39 #[.slice (some ⟨g, 0, none⟩) n c, .int .i64 k0] w fun e w' => e = .returned (.int .i64 (k0 + ((2 * n + lenFs es : Nat) : Int))) ∧ OwnFs w' B U g (partF k0 es es.length) ∧ Below B w w' ∧ ∀ i, U ≤ i → i < w.heap.size → w'.heap[i]? = w.heap[i]? := by
  subst h1
  have h3 := offF_all es
  have h4 := markFields_any es c B U g k0 w h hn (fun e he => Nat.le_trans (le_lenFs e he) hs) h0 (by omega)
  generalize offF es es.length = x at *
  subst h3
  exact h4
end Go.Proofs.Ytggdkibbfmjelaa
