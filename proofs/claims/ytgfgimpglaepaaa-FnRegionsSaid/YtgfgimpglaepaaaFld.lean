/- The model's draws of fields: a field of one value with room told, field. -/
import Derived.Test.YtgfgimpglaepaaaAmong
import Derived.Test.YtgfgimpglaepaaaNew
import Derived.Test.YtgfgimpglaepaaaFr
namespace Go.Proofs.Ytgfgimpglaepaaa
open Go.RowKit
set_option linter.unusedVariables false
set_option linter.unusedSimpArgs false
theorem ownI_room {w : World} {B n : Nat} {v : Value} {l : List Int} (h : w.ownsRow B 3 1 v n (iv l)) (hn : n = l.length) : ∃ a c, v = .slice a l.length c ∧ OwnI w B a l ∧ l.length ≤ c := by
  subst hn
  have h' := h
  obtain ⟨h1, ⟨h2, h3⟩ | ⟨g, cap, cur, h2, h4, h5, h6, h7⟩⟩ := h
  · refine ⟨none, 0, by rw [h2, h3], ?_, by omega⟩
    have : l = [] := List.eq_nil_of_length_eq_zero h3
    subst this
    exact OwnI.none_
  · subst h2
    exact ⟨_, _, rfl, OwnI.of_own h', h6⟩
/-- a cursor stays where other blocks grow or turn -/
theorem CurIs.past {w w' : World} {g : Nat} {a : Option Addr} {l : List Int} {c K : Nat} {row : Option Nat} (h : CurIs w g a l c K) (hg : w.grownBy w' row) (hr : ∀ k, row = some k → g + 1 ≤ k) : CurIs w' g a l c K := by
  have hlt := h.lt
  obtain ⟨h1, p, s, h2, h3⟩ := h
  refine ⟨⟨h1.1.keep fun q hq => ?_, h1.2⟩, p, s, h2, (hg.block g hlt (fun e => by have := hr g e.symm; omega)).trans h3⟩
  exact World.cell?_of_block (hg.block q.block (by omega) (fun e => by have := hr q.block e.symm; omega))
theorem CurIs.below {w w' : World} {g : Nat} {a : Option Addr} {l : List Int} {c K : Nat} (h : CurIs w g a l c K) (hb : Below w.heap.size w w') : CurIs w' g a l c K :=
  h.past (row := none) ⟨hb.os, hb.tape, hb.output, hb.size, fun i hi _ => hb.block i hi⟩ (fun k e => by cases e)
theorem CurIs.setOther {w : World} {g : Nat} {a : Option Addr} {l : List Int} {c K : Nat} (h : CurIs w g a l c K) {b : Nat} (hb : g + 1 ≤ b) (i : Nat) (v : Value) : CurIs (w.setCell ⟨b, i, none⟩ v) g a l c K :=
  h.past (row := some b) ⟨rfl, rfl, rfl, by simp [World.setCell], fun j hj hne => Below.heap_setCell w ⟨b, i, none⟩ v j (fun e => hne (by rw [e]))⟩ (fun k e => by injection e with e; omega)
/-- a row of the call's own stays while a cursor below moves -/
theorem own_cur {w w' : World} {g B n : Nat} {e : TypeId} {v : Value} {xs : List Value} (h : w.ownsRow B e 1 v n xs) (hg : w.grownBy w' (some g)) (hB : g < B) : w'.ownsRow B e 1 v n xs := by
  refine h.kept hg ?_
  cases hv : v.ownBlock with
  | none => exact .inl rfl
  | some b =>
    refine .inr fun e => ?_
    injection e with e
    have := (h.lt b hv).1
    omega
/-- only block g has turned; blocks may be new -/
theorem turn_of_below {w w1 w2 : World} {g : Nat} (h : w.grownBy w1 (some g)) (hb : Below w1.heap.size w1 w2) : w.grownBy w2 (some g) := turn_trans h (turn_below hb)
theorem turn_new {w w1 w2 : World} {g : Nat} {row : Option Nat} (h : w.grownBy w1 (some g)) (k : w1.grownBy w2 row) (hr : ∀ j, row = some j → w.heap.size ≤ j) : w.grownBy w2 (some g) :=
  ⟨k.os.trans h.os, k.tape.trans h.tape, k.output.trans h.output, Nat.le_trans h.size k.size, fun i hi hne => (k.block i (Nat.lt_of_lt_of_le hi h.size) (fun e => by have := hr i e.symm; omega)).trans (h.block i hi hne)⟩
theorem turn_setNew {w w1 : World} {g b : Nat} (h : w.grownBy w1 (some g)) (hb : w.heap.size ≤ b) (i : Nat) (v : Value) : w.grownBy (w1.setCell ⟨b, i, none⟩ v) (some g) :=
  turn_new h (row := some b) (turn_set w1 b i v) (fun j e => by injection e with e; omega)
/-- a field of the call's own, its cursor further -/
def FDraw (g : Nat) (a : Option Addr) (l : List Int) (c K : Nat) (w : World) (e : Ending) (w' : World) : Prop :=
  ∃ (wd hg : Int) (L : List Int) (a1 : Option Addr) (c1 : Nat), (1 ≤ L.length ∧ L.length ≤ 64 ∧ L.length ≤ c1 ∧ 1 ≤ wd ∧ wd ≤ 8 ∧ 1 ≤ hg ∧ hg ≤ 8) ∧ e = .returned (.agg #[.int .i64 wd, .int .i64 hg, .slice a1 L.length c1]) ∧ OwnI w' w.heap.size a1 L ∧ CurIs w' g a l c K ∧ w.grownBy w' (some g)

set_option maxRecDepth 100000 in
set_option maxHeartbeats 2000000 in
theorem fill_room (wd hg v : Int) (w : World) (hs : shapeB wd hg = true) :
    Calls Try.prog 86 #[.int .i64 wd, .int .i64 hg, .int .i64 v] w fun e w' => ∃ a c, e = .returned (.agg #[.int .i64 wd, .int .i64 hg, .slice a (List.replicate (wd * hg).toNat v).length c]) ∧ (wd * hg).toNat ≤ c ∧ OwnI w' w.heap.size a (List.replicate (wd * hg).toNat v) ∧ Below w.heap.size w w' := by
  obtain ⟨i0, hi0', hz0, hz1, hz2⟩ := info_parts infoInt
  have hp := prod_bd hs
  obtain ⟨n, hn⟩ : ∃ n : Nat, wd * hg = (n : Int) := ⟨(wd * hg).toNat, by omega⟩
  rw [hn] at hp
  have HN := Lib.hid hn
  rw [hn]
  have hnat : ((n : Int)).toNat = n := by omega
  rw [hnat]
  clear hs hnat hn
  go_enter Try.func86, Try.ntmps86
  go_wp2
  go_loopw [8] (fun i wr => ∃ k : Nat, ∃ out : Value, k ≤ n ∧ i = .int .i64 k ∧ Box wr (w.heap.size + 1) 32 (.int .i64 wd) (.int .i64 hg) out ∧ Box wr w.heap.size 32 (.int .i64 0) (.int .i64 0) (.slice none 0 0) ∧
      wr.ownsRow (w.heap.size + 2) 3 1 out k (iv (List.replicate k v)) ∧ Below w.heap.size w wr) (fun i _ => n - (intOf i).toNat)
  case atStart =>
    refine ⟨0, .slice none 0 0, Nat.zero_le _, rfl, ?_, ?_, World.ownsRow_nil _ _ _ _, ((Below.refl _ _).alloc (Nat.le_refl _) _).alloc (by simp) _⟩
    · have := Box.new (w.alloc (.cells #[.int .i64 0, .int .i64 0, .slice none 0 0] 32)) 32 (.int .i64 wd) (.int .i64 hg) (.slice none 0 0)
      rw [World.size_alloc] at this
      exact this
    · exact (Box.new w 32 (.int .i64 0) (.int .i64 0) (.slice none 0 0)).alloc _
  case round =>
    obtain ⟨k, out, hk, rfl, hx, hr, hown, hB⟩ := hrel
    obtain ⟨c0, c1, c2⟩ := hx.cells
    have f2 := hx.frozen 2
    have HX := Lib.hid hx
    have HR := Lib.hid hr
    have HO := Lib.hid hown
    have HB := Lib.hid hB
    have hne := Lib.hid (own_ne_box hown hx (by decide))
    have hne2 := Lib.hid (own_ne_box hown hr (by decide))
    clear hx hr hown hB
    by_cases hlt : k < n
    · have hmul := HN.out
      have hi : (k : Int) < (n : Int) := by omega
      go_wp2_with (at_builtin; refine wpList_append_own _ rfl _ _ 24 rfl (w.heap.size + 2) 3 i0 (.int .i64 0) 1 8 Try.underlying24 hi0' hz0 hz1 hz2 rfl (by decide) _ k (iv (List.replicate k v)) rfl (HO.out.alloc _) ⟨wr.heap.size, 0, none⟩ 1 1 [.int .i64 v] rfl rfl (cell_one_new _ _ _) (by simp [Value.oneCell']) (by unfold maxLen; omega) (by omega) (by have := HX.out.lt; simp; omega) ?_; intro v' w1 hown' hgrow _; obtain ⟨g', cap', rfl⟩ := own_slice hown' (by omega); have HO1 := Lib.hid hown'; have HG1 := Lib.hid hgrow; have HX1 := Lib.hid ((HX.out.alloc _).grown hgrow (Ne.symm hne.out)); have HR1 := Lib.hid ((HR.out.alloc _).grown hgrow (Ne.symm hne2.out)); obtain ⟨d0, d1, d2⟩ := HX1.out.cells; have f3 := HX1.out.frozen 2; clear hown' hgrow)
      have hne3 := Lib.hid (own_ne_box HO1.out HX1.out (by decide))
      go_roundw
      case rel => exact ⟨k + 1, _, by omega, by go_num, HX1.out.set _, HR1.out.other (by simp <;> omega) _, by rw [replicate_snoc, iv_snoc]; exact own_setBox HO1.out hne3.out _ _,
        ((HB.out.alloc HB.out.size _).grown HG1.out (by have := HB.out.size; simp; omega) (fun j hj => by have := (HO.out.lt j hj).1; omega)).setCell (by simp <;> omega) _⟩
      case measure => simp [intOf]; omega
    · obtain rfl : k = n := by omega
      obtain ⟨a', c', hv, ho, hc'⟩ := ownI_room HO.out (by simp)
      rw [List.length_replicate] at hv hc'
      subst hv
      have HO2 := Lib.hid ho
      have HC2 := Lib.hid hc'
      clear ho HO hne hne2 hc'
      have hmul := HN.out
      obtain ⟨r0, r1, r2⟩ := HR.out.cells
      have g0 := HR.out.frozen 0
      have g1 := HR.out.frozen 1
      have g2 := HR.out.frozen 2
      go_wp2
      refine bodyPost_ret (v := .agg #[.int .i64 wd, .int .i64 hg, .slice a' k c']) (by simp [results, Try.results86, go_sem, r0, r1, r2]) rfl ⟨a', c', by simp, HC2.out, ?_, ?_⟩
      · exact (ownI_set (ownI_set (ownI_set HO2.out (by omega) _) (by omega) _) (by omega) _).more (by omega)
      · exact ((HB.out.setCell (by simp) _).setCell (by simp) _).setCell (by simp) _
end Go.Proofs.Ytgfgimpglaepaaa
