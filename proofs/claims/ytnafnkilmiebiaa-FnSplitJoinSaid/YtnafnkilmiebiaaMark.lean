/- The laws' marks: markText, markStringS, heldStringS. -/
import Derived.Test.YtnafnkilmiebiaaChecked
import Derived.Test.YtnafnkilmiebiaaMemRow
import Derived.WalkLawsBesides
import Derived.WalkSpells
import Derived.Lib.Hide
import Derived.Lib.ItoaNum
import Derived.Lib.ItoaLen
import Derived.Lib.SlBytesRow
import Derived.Deep.QuietTactic
import Derived.Deep.RegionHeld3
import Derived.Deep.RegionWith
import Derived.BigQuiet
import Derived.IntWalk
namespace Go.Proofs.Ytnafnkilmiebiaa
open Go.RowKit
set_option linter.unusedVariables false
/-- the mark of a number -/
def mt (k : Nat) : ByteArray := ⟨(109 :: Lib.decDigits k).toArray⟩
theorem dd_len (u : Nat) (h : u ≤ 999999999) : (Lib.decDigits u).length ≤ 20 := by
  rw [Lib.decDigits_length]; exact Lib.nDigits_le20 u (by omega)
theorem dd_step (j : Nat) (h : 10 ≤ j) : Lib.decDigits j = Lib.decDigits (j / 10) ++ Lib.decDigits (j % 10) := by
  rw [Lib.decDigits, dif_neg (by omega), Lib.decDigits_one (show j % 10 < 10 by omega)]
theorem mk_cat (a b : List UInt8) : (⟨a.toArray⟩ : ByteArray) ++ ⟨b.toArray⟩ = ⟨(a ++ b).toArray⟩ := by apply ByteArray.ext; simp
theorem mk_sz (l : List UInt8) : (⟨l.toArray⟩ : ByteArray).size = l.length := by simp [ByteArray.size]
theorem cat_go (P : Program) (a b : List UInt8) (h : a.length + b.length ≤ 1000) (W : World) : (Op.stringOp .add (⟨a.toArray⟩ : ByteArray) ⟨b.toArray⟩).run P W = .ok (.string ⟨(a ++ b).toArray⟩) W := by
  rw [← mk_cat]; exact run_string_add_sum W _ _ (by rw [mk_sz, mk_sz]; omega)
/-- one byte of a digit, as the text of one byte -/
theorem digit_conv (w : World) (r : Nat) (h : r < 10) : (convert 22 9 (.slice (some ⟨w.heap.size, 0, none⟩) 1 1)).run Try.prog (w.alloc (.cells #[.int .u8 (48 + (r : Int))] 5)) = .ok (.string ⟨(Lib.decDigits r).toArray⟩) (w.alloc (.cells #[.int .u8 (48 + (r : Int))] 5)) := by
  rw [Lib.decDigits_one h]
  have hb : Lib.Bytes (w.alloc (.cells #[.int .u8 (48 + (r : Int))] 5)) w.heap.size 0 ⟨[UInt8.ofNat (48 + r)].toArray⟩ := by
    intro j hj
    rw [mk_sz] at hj
    obtain rfl : j = 0 := by simp at hj; omega
    rw [World.cell?_alloc_new]
    match r, h with
    | 0, _ => rfl
    | 1, _ => rfl
    | 2, _ => rfl
    | 3, _ => rfl
    | 4, _ => rfl
    | 5, _ => rfl
    | 6, _ => rfl
    | 7, _ => rfl
    | 8, _ => rfl
    | 9, _ => rfl
  exact Lib.run_convert_whole (P := Try.prog) _ 22 5 9 Try.underlying22 Try.underlying5 Try.underlying9 w.heap.size 0 _ hb 1

set_option maxRecDepth 100000 in
set_option maxHeartbeats 2000000 in
theorem markText_any (k : Nat) (w : World) (h0 : 1 ≤ k) (h1 : k ≤ 1000000) :
    Calls Try.prog 57 #[.int .i64 (k : Int)] w fun e w' => e = .returned (.string (mt k)) ∧ Below w.heap.size w w' := by
  have hlen := dd_len k (by omega)
  have HM := Lib.hid (show mt k = ⟨([109] ++ Lib.decDigits k).toArray⟩ from rfl)
  generalize mt k = mk at *
  go_enter Try.func57, Try.ntmps57
  go_wp2
  go_loopw [0, 3] (fun i o wr => ∃ (j : Nat) (l : List UInt8), i = .int .i64 j ∧ o = .string ⟨l.toArray⟩ ∧ j ≤ k ∧ ((j = 0 ∧ l = Lib.decDigits k) ∨ (0 < j ∧ Lib.decDigits k = Lib.decDigits j ++ l)) ∧ Below w.heap.size w wr) (fun i _ _ => (intOf i).toNat)
  case atStart => exact ⟨k, [], rfl, rfl, Nat.le_refl _, .inr ⟨by omega, by simp⟩, Below.refl _ _⟩
  case round =>
    obtain ⟨j, l, rfl, rfl, hj, hl, hB⟩ := hrel
    have HB := Lib.hid hB
    clear hB
    by_cases hz : j = 0
    · have hl' : l = Lib.decDigits k := hl.elim (fun h => h.2) (fun h => absurd h.1 (by omega))
      subst hl' hz
      have e1 := cat_go Try.prog [109] (Lib.decDigits k) (by simp; omega)
      clear hl
      go_wp2
      go_ret
      exact ⟨by rw [HM.out]; rfl, HB.out⟩
    · have hl' : Lib.decDigits k = Lib.decDigits j ++ l := hl.elim (fun h => absurd h.1 hz) (fun h => h.2)
      have hll : l.length ≤ 20 := by have := congrArg List.length hl'; rw [List.length_append] at this; omega
      obtain ⟨q, hq⟩ : ∃ q, j / 10 = q := ⟨_, rfl⟩
      obtain ⟨r, hr⟩ : ∃ r, j % 10 = r := ⟨_, rfl⟩
      have hr10 : r < 10 := by omega
      have HL := Lib.hid hl'
      have HST := Lib.hid (show (q = 0 ∧ Lib.decDigits r ++ l = Lib.decDigits k) ∨ (0 < q ∧ Lib.decDigits k = Lib.decDigits q ++ (Lib.decDigits r ++ l)) by
        by_cases h10 : j < 10
        · left
          have : r = j := by omega
          subst this
          exact ⟨by omega, hl'.symm⟩
        · right
          refine ⟨by omega, ?_⟩
          rw [hl', dd_step j (by omega), hq, hr, List.append_assoc])
      have a1 : IntKind.i64.wrap ((j : Int) / 10) = (q : Int) := by rw [IntWalk.i64_in _ (by omega)]; omega
      have a2 : (j : Int).tmod 10 = (r : Int) := by rw [Int.tmod_eq_emod_of_nonneg (by omega)]; omega
      have e1 := cat_go Try.prog (Lib.decDigits r) l (by rw [Lib.decDigits_one hr10]; simp; omega)
      have CV := digit_conv wr r hr10
      have hqj : q < j := by omega
      clear hl hl' hq hr
      go_wp2
      exact ⟨⟨q, _, rfl, rfl, by omega, HST.out, HB.out.alloc HB.out.size _⟩, by simp [intOf]; omega⟩

/-- a row of texts in a block of the call's own -/
def TRow (B : Nat) (w : World) (a : Option Addr) (l : List ByteArray) : Prop := l = [] ∨ ∃ g, a = some ⟨g, 0, none⟩ ∧ B ≤ g ∧ Row w g 9 (l.map Value.string)
theorem TRow.below {B : Nat} {w w' : World} {a : Option Addr} {l : List ByteArray} (h : TRow B w a l) (hb : Below w.heap.size w w') : TRow B w' a l := by
  rcases h with rfl | ⟨g, e, hg, hr⟩
  · exact .inl rfl
  · exact .inr ⟨g, e, hg, hr.below hb hr.lt⟩
theorem TRow.strs {B : Nat} {w : World} {a : Option Addr} {l : List ByteArray} (h : TRow B w a l) : Strs w w.heap.size a l := by
  rcases h with rfl | ⟨g, e, hg, hr⟩
  · exact .inl rfl
  · subst e; exact (Strs.of_own hr).more hr.lt
theorem TRow.of_own {B n : Nat} {w : World} {v : Value} {l : List ByteArray} (h : w.ownsRow B 9 1 v n (l.map Value.string)) (hn : n = l.length) : ∃ a c, v = .slice a l.length c ∧ TRow B w a l := by
  subst hn
  by_cases h0 : l = []
  · subst h0
    rcases h.2 with ⟨rfl, _⟩ | ⟨g, cap, cur, rfl, _⟩
    · exact ⟨none, 0, rfl, .inl rfl⟩
    · exact ⟨_, _, rfl, .inl rfl⟩
  · have hp : 0 < l.length := by cases l <;> simp_all
    obtain ⟨cap, g, rfl, hb, hr, _⟩ := Row.of_own h hp
    exact ⟨_, _, rfl, .inr ⟨g, rfl, hb, hr⟩⟩
/-- the marks from k on -/
def marks (k n : Nat) : List ByteArray := (List.range n).map fun i => mt (k + i)
theorem marks_length (k n : Nat) : (marks k n).length = n := by simp [marks]
theorem marks_succ (k n : Nat) : marks k (n + 1) = marks k n ++ [mt (k + n)] := by simp [marks, List.range_succ]
/-- the row with its first i texts marked -/
def half (k : Nat) (l : List ByteArray) (i : Nat) : List ByteArray := marks k i ++ l.drop i
theorem half_zero (k : Nat) (l : List ByteArray) : half k l 0 = l := by simp [half, marks]
theorem half_all (k : Nat) (l : List ByteArray) : half k l l.length = marks k l.length := by simp [half]
theorem half_step (k : Nat) (l : List ByteArray) (i : Nat) (h : i < l.length) : ((half k l i).map Value.string).set i (.string (mt (k + i))) = (half k l (i + 1)).map Value.string := by
  unfold half
  rw [marks_succ, ← List.map_set]
  congr 1
  rw [List.set_append_right _ _ (by rw [marks_length]; omega), marks_length, Nat.sub_self, List.append_assoc]
  congr 1
  rw [List.drop_eq_getElem_cons h]
  rfl

set_option maxRecDepth 100000 in
set_option maxHeartbeats 2000000 in
theorem markS_any (a : Option Addr) (l : List ByteArray) (c B k : Nat) (w : World) (h : TRow B w a l) (hB : B ≤ w.heap.size) (hk : 1 ≤ k) (hl : k + l.length ≤ 1000000) :
    Calls Try.prog 29 #[.slice a l.length c, .int .i64 (k : Int)] w fun e w' => e = .returned (.int .i64 ((k + l.length : Nat) : Int)) ∧ TRow B w' a (marks k l.length) ∧ Below B w w' := by
  rcases h with rfl | ⟨g, rfl, hg, hr⟩
  · go_enter Try.func29, Try.ntmps29
    go_wp2
    go_loop [1, 5] (fun q i => i = .int .i64 0 ∧ q = .int .i64 k) (fun _ _ => 0)
    case atStart => exact ⟨rfl, rfl⟩
    case round =>
      obtain ⟨rfl, rfl⟩ := hrel
      go_wp2
      go_ret
      exact ⟨rfl, .inl rfl, Below.refl _ _⟩
  · have HR := Lib.hid hr
    clear hr
    go_enter Try.func29, Try.ntmps29
    go_wp2
    go_loopw [1, 5] (fun q i wr => ∃ j : Nat, j ≤ l.length ∧ i = .int .i64 j ∧ q = .int .i64 ((k + j : Nat) : Int) ∧ Row wr g 9 ((half k l j).map Value.string) ∧ Below B w wr) (fun _ i _ => l.length - (intOf i).toNat)
    case atStart => exact ⟨0, Nat.zero_le _, rfl, rfl, by rw [half_zero]; exact HR.out, Below.refl _ _⟩
    case round =>
      obtain ⟨j, hj, rfl, rfl, hrow, hB2⟩ := hrel
      have HW := Lib.hid hrow
      have HB := Lib.hid hB2
      have HB_le : B ≤ wr.heap.size := Nat.le_trans hB hB2.size
      clear hrow hB2
      by_cases hlt : j < l.length
      · have hi : (j : Int) < (l.length : Int) := by omega
        have hi0 : (0 : Int) ≤ (j : Int) := by omega
        have HS := Lib.hid (half_step k l j hlt)
        have MT := Lib.hid (markText_any (k + j) wr (by omega) (by omega))
        rw [Int.natCast_add] at MT
        have hlen2 : j < ((half k l j).map Value.string).length := by simp [half, marks_length]; omega
        go_wp2_with fail
        refine MT.out.mono ?_
        rintro e w1 ⟨rfl, b1⟩
        have HW1 := Lib.hid (HW.out.below b1 HW.out.lt)
        have HB1 := Lib.hid (HB.out.trans (b1.mono HB_le))
        have c1 := HW1.out.cell hlen2
        have f1 := HW1.out.frozen j
        clear b1
        go_wp2
        go_roundw
        case rel => exact ⟨j + 1, by omega, by go_num, by go_num, by rw [← HS.out]; exact HW1.out.set j _, HB1.out.setCell hg _⟩
        case measure => simp [intOf]; omega
      · obtain rfl : j = l.length := by omega
        have HA := Lib.hid (half_all k l)
        go_wp2
        go_ret
        exact ⟨rfl, .inr ⟨g, rfl, hg, by rw [← HA.out]; exact HW.out⟩, HB.out⟩

set_option maxRecDepth 100000 in
set_option maxHeartbeats 2000000 in
theorem heldS_any (a : Option Addr) (n c B k : Nat) (w : World) (h : TRow B w a (marks k n)) (hk : 1 ≤ k) (hl : k + n ≤ 1000000) :
    Calls Try.prog 30 #[.slice a n c, .int .i64 (k : Int)] w fun e w' => e = .returned (.int .i64 ((k + n : Nat) : Int)) ∧ Below w.heap.size w w' := by
  have HT := Lib.hid h
  clear h
  go_enter Try.func30, Try.ntmps30
  go_wp2
  go_loopw [1, 5] (fun q i wr => ∃ j : Nat, j ≤ n ∧ i = .int .i64 j ∧ q = .int .i64 ((k + j : Nat) : Int) ∧ Below w.heap.size w wr) (fun _ i _ => n - (intOf i).toNat)
  case atStart => exact ⟨0, Nat.zero_le _, rfl, rfl, Below.refl _ _⟩
  case round =>
    obtain ⟨j, hj, rfl, rfl, hB2⟩ := hrel
    have HB := Lib.hid hB2
    clear hB2
    by_cases hlt : j < n
    · have hi : (j : Int) < (n : Int) := by omega
      have hi0 : (0 : Int) ≤ (j : Int) := by omega
      have MT := Lib.hid (fun W => markText_any (k + j) W (by omega) (by omega))
      rw [Int.natCast_add] at MT
      rcases HT.out with h0 | ⟨g, rfl, hg, hr⟩
      · exact absurd (congrArg List.length h0) (by rw [marks_length]; simp; omega)
      · have hjl : j < ((marks k n).map Value.string).length := by simp [marks_length]; exact hlt
        have c1 := (hr.below HB.out hr.lt).cell hjl
        have e9 : ((marks k n).map Value.string)[j] = .string (mt (k + j)) := by simp [marks]
        rw [e9] at c1
        have HR := Lib.hid hr
        clear hr e9 hjl
        have hgl : g < wr.heap.size := Nat.lt_of_lt_of_le HR.out.lt HB.out.size
        have HBd := Lib.hid (HB.out.trans (show Below w.heap.size wr wr.drew from ⟨rfl, rfl, rfl, Nat.le_refl _, fun _ _ => rfl⟩))
        have cd : wr.drew.cell? ⟨g, j, none⟩ = some (.string (mt (k + j))) := c1
        generalize mt (k + j) = mk at *
        go_wp2_with fail
        go_region_held3 (fun w' => w'.cell? ⟨g, j, none⟩ = some (.string mk))
          (first | exact C2.out | exact cd | go_keep)
          (first | (go_at_call 57; refine (MT.out _).mono ?_; rintro e w1 ⟨rfl, b1⟩; have C2 := Lib.hid ((b1.cell (p := ⟨g, j, none⟩) hgl).trans cd); have HB1 := Lib.hid (HBd.out.trans (b1.mono HBd.out.size)); clear b1))
        go_wp2
        go_roundw
        case rel => exact ⟨j + 1, by omega, by go_num, by go_num, HB1.out⟩
        case measure => simp [intOf]; omega
    · obtain rfl : j = n := by omega
      go_wp2
      go_ret
      exact ⟨rfl, HB.out⟩
end Go.Proofs.Ytnafnkilmiebiaa
