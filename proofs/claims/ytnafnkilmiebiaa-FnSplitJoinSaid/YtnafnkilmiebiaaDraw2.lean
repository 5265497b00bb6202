/- The draw of a row of texts (FnSplitJoin). -/
import Derived.Test.YtnafnkilmiebiaaDraw1
import Derived.Laws.OwnMore
namespace Go.Proofs.Ytnafnkilmiebiaa
open Go.RowKit
set_option linter.unusedVariables false
theorem infoStrD : (Try.prog.info? 9).map (fun i => (i.zero, i.size, i.bytes)) = some (some (.string ⟨#[]⟩), 1, 16) := by kernel_rfl
/-- some texts and a text are returned -/
def RowText (w : World) (e : Ending) (w' : World) : Prop := ∃ (L : List ByteArray) (a : Option Addr) (c : Nat) (t : ByteArray), L.length ≤ 5 ∧ (∀ s ∈ L, s.size ≤ 4100) ∧ t.size ≤ 4000 ∧ e = .returned (.tuple #[.slice a L.length c, .string t]) ∧ TRow w.heap.size w' a L ∧ Below w.heap.size w w'

theorem infoU8D : (Try.prog.info? 5).map (fun i => (i.zero, i.size, i.bytes)) = some (some (.int .u8 0), 1, 1) := by kernel_rfl
/-- n zero bytes -/
def zerosD (n : Nat) : ByteArray := ⟨(List.replicate n (0 : UInt8)).toArray⟩
theorem zerosD_size (n : Nat) : (zerosD n).size = n := by simp [zerosD, ByteArray.size]
theorem zerosD_row (w : World) (n : Nat) (t : TypeId) : Lib.Bytes (w.alloc (.cells (madeCells #[.int .u8 0] n) t)) w.heap.size 0 (zerosD n) := by
  intro i hi
  rw [zerosD_size] at hi
  rw [Nat.zero_add, (World.rowIs_made w (.int .u8 0) n t).cell hi]
  simp [zerosD, ByteArray.getElem_eq_getElem_data]

theorem own_past {w w' : World} {H n : Nat} {e : TypeId} {v : Value} {xs : List Value} (h : w.ownsRow (H + 1) e 1 v n xs) (hg : w.grownBy w' (some H)) : w'.ownsRow (H + 1) e 1 v n xs := by
  refine h.kept hg ?_
  cases hv : v.ownBlock with
  | none => exact .inl rfl
  | some g =>
    refine .inr fun e => ?_
    injection e with e
    have := (h.lt g hv).1
    omega
theorem cur_past {w w' : World} {g : Nat} {a : Option Addr} {l : List Int} {c K : Nat} {row : Option Nat} (h : CurIs w g a l c K) (hg : w.grownBy w' row) (hr : ∀ k, row = some k → g + 1 ≤ k) : CurIs w' g a l c K := by
  have hlt := h.lt
  obtain ⟨h1, p, s, h2, h3⟩ := h
  refine ⟨⟨h1.1.keep fun q hq => ?_, h1.2⟩, p, s, h2, (hg.block g hlt (fun e => by have := hr g e.symm; omega)).trans h3⟩
  exact World.cell?_of_block (hg.block q.block (by omega) (fun e => by have := hr q.block e.symm; omega))

theorem tmore {B : Nat} {w : World} {a : Option Addr} {l : List ByteArray} (h : TRow (B + 1) w a l) : TRow B w a l := by
  rcases h with rfl | ⟨g, e, hg, hr⟩
  · exact .inl rfl
  · exact .inr ⟨g, e, by omega, hr⟩
set_option maxRecDepth 100000 in
set_option maxHeartbeats 4000000 in
theorem drawJoin_is (w : World) (a : Option Addr) (l : List Int) (c : Nat) (hi : Ints .u8 w w.heap.size a l) (hb : ∀ z ∈ l, 0 ≤ z ∧ z ≤ 255) (hl : l.length ≤ 1048576) :
    Calls Try.prog 10 #[.slice a l.length c] w (RowText w) := by
  obtain ⟨i0, hi0', hz0, hz1, hz2'⟩ := info_parts infoStrD
  have HC0 := Lib.hid (cur_new w a l c hi hb hl)
  clear hi hb
  go_enter Try.func10, Try.ntmps10
  go_wp2_with fail
  refine (pick_any _ _ a l c 0 4 (by omega) (by omega) (by omega) (HC0.out.alloc _)).mono ?_
  rintro e w1 ⟨v, ⟨n, hn, rfl⟩, rfl, hc, ho⟩
  have HC1 := Lib.hid hc
  have hB1 : Below w.heap.size w w1 := (((Below.refl w.heap.size w).alloc (Nat.le_refl _) _).alloc (by simp) _).trans (ho.below (Nat.le_refl _))
  have hrow1 : w1.ownsRow (w.heap.size + 1) 9 1 (.slice (some ⟨w.heap.size + 1, 0, none⟩) 0 0) 0 (([] : List ByteArray).map Value.string) := by
    have h1 := World.ownsRow_lit (base := w.heap.size + 1) (e := 9) (size := 1) (w.alloc (.cells #[.slice a l.length c, .int .i64 0, .int .u64 0] 56)) #[] 0 (by simp) (by decide) rfl
    rw [World.size_alloc] at h1
    exact h1.kept ho.1 (.inr (by simp [Value.ownBlock]))
  have HB1 := Lib.hid hB1
  have HR1 := Lib.hid hrow1
  clear hc ho hB1 hrow1
  go_wp2_with fail
  go_loopw [5, 7] (fun v i wr => ∃ (k : Nat) (L : List ByteArray), k ≤ n ∧ i = .int .i64 k ∧ L.length = k ∧ (∀ s ∈ L, s.size ≤ 4100) ∧ wr.ownsRow (w.heap.size + 1) 9 1 v L.length (L.map Value.string) ∧ CurIs wr w.heap.size a l c (2 + 2 * k) ∧ Below w.heap.size w wr) (fun _ i _ => n - (intOf i).toNat)
  case atStart => exact ⟨0, [], Nat.zero_le _, rfl, rfl, by simp, HR1.out, HC1.out, HB1.out⟩
  case round =>
    obtain ⟨k, L, hk, rfl, hL, hsz, hrow, hcur, hB⟩ := hrel
    have HR := Lib.hid hrow
    have HC := Lib.hid hcur
    have HB := Lib.hid hB
    have HS := Lib.hid hsz
    clear hrow hcur hB hsz HR1 HC1 HB1 HC0
    by_cases hlt : k < n
    · have hi : (k : Int) < (n : Int) := by omega
      go_wp2_with fail
      refine (any1_is _ _ a l c (2 + 2 * k) (by omega) HC.out).mono ?_
      rintro e w2 ⟨s, hs, rfl, hc2, ho2⟩
      have HC2 := Lib.hid hc2
      have HR2 := Lib.hid (own_past HR.out ho2)
      have HB2 := Lib.hid (HB.out.grown ho2 HB.out.size (fun k e => by injection e with e; omega))
      have hz2 : w.heap.size + 1 ≤ w2.heap.size := by have := HC2.out.lt; omega
      clear hc2 ho2 HR HC HB
      go_wp2_with (at_builtin; refine wpList_append_own _ rfl _ _ 26 rfl (w.heap.size + 1) 9 i0 (.string ⟨#[]⟩) 1 16 Try.underlying26 hi0' hz0 hz1 hz2' rfl (by decide) _ L.length (L.map Value.string) rfl (HR2.out.alloc _) ⟨w2.heap.size, 0, none⟩ 1 1 [.string s] rfl rfl (cell_one_new _ _ _) (by simp [Value.oneCell']) (by unfold maxLen; omega) (by omega) (by simp; omega) ?_; intro v' w3 hown' hgrow _; have HO3 := Lib.hid hown'; have HG3 := Lib.hid hgrow; clear hown' hgrow)
      have hlt3 := fun k e => (HR2.out.lt k e).1
      have HC3 := Lib.hid (cur_past (HC2.out.alloc (.cells #[.string s] 9)) HG3.out (fun k e => by have := hlt3 k e; omega))
      have HB3 := Lib.hid ((HB2.out.alloc HB2.out.size _).grown HG3.out (by have := HB2.out.size; simp; omega) (fun k e => by have := hlt3 k e; omega))
      go_roundw
      case rel => exact ⟨k + 1, L ++ [s], by omega, by go_num, by simp [hL], fun x hx => by
        rcases List.mem_append.1 hx with h | h
        · exact HS.out x h
        · obtain rfl := List.mem_singleton.1 h; omega, by simpa using HO3.out, HC3.out, HB3.out⟩
      case measure => simp [intOf]; omega
    · obtain rfl : k = n := by omega
      go_wp2_with fail
      refine (one_any _ _ a l c (2 + 2 * k) 20 (by omega) (by omega) (by omega) HC.out).mono ?_
      rintro e w2 ⟨v, ⟨b, rfl⟩, rfl, hc, ho⟩
      have HC2 := Lib.hid hc
      have HR2 := Lib.hid (own_past HR.out ho.1)
      have HB2 := Lib.hid (HB.out.trans (ho.below (Nat.le_refl _)))
      have hz2 : w.heap.size + 1 ≤ w2.heap.size := by have := HC2.out.lt; omega
      clear hc ho HR HC HB
      have HL5 := Lib.hid (fun (W : World) (k : Nat) (h : k < [(⟨#[44]⟩ : ByteArray), ⟨#[59]⟩, ⟨#[59]⟩, ⟨#[]⟩, ⟨#[97, 98]⟩].length) => lit_strs W [(⟨#[44]⟩ : ByteArray), ⟨#[59]⟩, ⟨#[59]⟩, ⟨#[]⟩, ⟨#[97, 98]⟩] 9 k h)
      cases b with
      | false =>
        go_wp2_with fail
        refine (of_any _ _ a l c (2 + 2 * k + 2) _ 5 [⟨#[44]⟩, ⟨#[59]⟩, ⟨#[59]⟩, ⟨#[]⟩, ⟨#[97, 98]⟩] (by omega) rfl (by omega) (by omega) (HC2.out.alloc _) (by have := HC2.out.lt; omega) (by simp) (by intro k hk; exact HL5.out w2 k hk) 5).mono ?_
        rintro e w3 ⟨v, ⟨t, ht, rfl⟩, rfl, hc, ho⟩
        have hts : t.size ≤ 4000 := by
          simp only [List.mem_cons, List.not_mem_nil, or_false] at ht
          rcases ht with rfl | rfl | rfl | rfl | rfl <;> decide
        have HB3 := Lib.hid ((HB2.out.alloc HB2.out.size _).trans (ho.below (Nat.le_refl _)))
        have HR3 := Lib.hid (own_past (HR2.out.alloc _) ho.1)
        clear hc ho ht
        obtain ⟨a3, c3, rfl, t3⟩ := TRow.of_own HR3.out rfl
        have TT := Lib.hid t3
        clear t3
        go_wp2
        go_ret2
        exact ⟨L, a3, c3, t, by omega, HS.out, hts, by rw [hL]; rfl, tmore TT.out, HB3.out⟩
      | true =>
        go_wp2_with fail
        refine (pick_any _ _ a l c (2 + 2 * k + 2) 20 (by omega) (by omega) (by omega) HC2.out).mono ?_
        rintro e w3 ⟨v, ⟨r, hr, rfl⟩, rfl, hc, ho⟩
        have HC3 := Lib.hid hc
        have HR3 := Lib.hid (own_past HR2.out ho.1)
        have HB3 := Lib.hid (HB2.out.trans (ho.below (Nat.le_refl _)))
        have hz3 : w.heap.size + 1 ≤ w3.heap.size := by have := HC3.out.lt; omega
        clear hc ho HR2 HC2 HB2
        have ec : ((3990 + r : Nat) : Int) = 3990 + (r : Int) := by omega
        have hmk := run_make_row' (P := Try.prog) 22 5 (.int .u8 0) 1 Try.underlying22 infoU8D rfl .i64 .i64 (3990 + r) (by omega) (by omega) w3
        have hcv := Lib.run_convert_whole (P := Try.prog) (w3.alloc (.cells (madeCells #[.int .u8 0] (3990 + r)) 5)) 22 5 9 Try.underlying22 Try.underlying5 Try.underlying9 w3.heap.size 0 (zerosD (3990 + r)) (zerosD_row w3 (3990 + r) 5) (3990 + r)
        rw [zerosD_size] at hcv
        rw [ec] at hmk
        have hzs := zerosD_size (3990 + r)
        have HC4 := Lib.hid (HC3.out.alloc (.cells (madeCells #[.int .u8 0] (3990 + r)) 5))
        have HR4 := Lib.hid (HR3.out.alloc (.cells (madeCells #[.int .u8 0] (3990 + r)) 5))
        have HB4 := Lib.hid (HB3.out.alloc HB3.out.size (.cells (madeCells #[.int .u8 0] (3990 + r)) 5))
        have hz4 : w.heap.size + 1 ≤ (w3.alloc (.cells (madeCells #[.int .u8 0] (3990 + r)) 5)).heap.size := by simp; omega
        generalize zerosD (3990 + r) = zs at *
        generalize w3.alloc (.cells (madeCells #[.int .u8 0] (3990 + r)) 5) = w4 at *
        have HZ := Lib.hid hzs
        clear hzs ec HC3 HR3 HB3
        go_wp2_with (at_builtin; refine wpList_append_own _ rfl _ _ 26 rfl (w.heap.size + 1) 9 i0 (.string ⟨#[]⟩) 1 16 Try.underlying26 hi0' hz0 hz1 hz2' rfl (by decide) _ L.length (L.map Value.string) rfl (HR4.out.alloc _) ⟨w4.heap.size, 0, none⟩ 1 1 [.string zs] rfl rfl (cell_one_new _ _ _) (by simp [Value.oneCell']) (by unfold maxLen; omega) (by omega) (by simp; omega) ?_; intro v' w5 hown' hgrow _; have HO5 := Lib.hid hown'; have HG5 := Lib.hid hgrow; clear hown' hgrow)
        have hlt5 := fun k e => (HR4.out.lt k e).1
        have HC5 := Lib.hid (cur_past (HC4.out.alloc (.cells #[.string zs] 9)) HG5.out (fun k e => by have := hlt5 k e; omega))
        have HB5 := Lib.hid ((HB4.out.alloc HB4.out.size _).grown HG5.out (by have := HB4.out.size; simp; omega) (fun k e => by have := hlt5 k e; omega))
        have HR5 := Lib.hid (show w5.ownsRow (w.heap.size + 1) 9 1 v' (L ++ [zs]).length ((L ++ [zs]).map Value.string) by simpa using HO5.out)
        clear HO5 HC4 HR4 HB4
        refine (of_any _ _ a l c (2 + 2 * k + 2 + 2) _ 5 [⟨#[44]⟩, ⟨#[59]⟩, ⟨#[59]⟩, ⟨#[]⟩, ⟨#[97, 98]⟩] (by omega) rfl (by omega) (by omega) (HC5.out.alloc _) (by have := HC5.out.lt; omega) (by simp) (by intro k hk; exact HL5.out w5 k hk) 5).mono ?_
        rintro e w6 ⟨v, ⟨t, ht, rfl⟩, rfl, hc, ho⟩
        have hts : t.size ≤ 4000 := by
          simp only [List.mem_cons, List.not_mem_nil, or_false] at ht
          rcases ht with rfl | rfl | rfl | rfl | rfl <;> decide
        have HB6 := Lib.hid ((HB5.out.alloc HB5.out.size _).trans (ho.below (Nat.le_refl _)))
        have HR6 := Lib.hid (own_past (HR5.out.alloc _) ho.1)
        clear hc ho ht
        obtain ⟨a3, c3, rfl, t3⟩ := TRow.of_own HR6.out rfl
        have TT := Lib.hid t3
        have hll : (L ++ [zs]).length = k + 1 := by simp [hL]
        clear t3
        go_wp2
        go_ret2
        refine ⟨L ++ [zs], a3, c3, t, by omega, fun x hx => ?_, hts, ?_, tmore TT.out, HB6.out⟩
        · rcases List.mem_append.1 hx with h | h
          · exact HS.out x h
          · obtain rfl := List.mem_singleton.1 h
            have := HZ.out; omega
        · first | rfl | (rw [hll]; rfl)
end Go.Proofs.Ytnafnkilmiebiaa
