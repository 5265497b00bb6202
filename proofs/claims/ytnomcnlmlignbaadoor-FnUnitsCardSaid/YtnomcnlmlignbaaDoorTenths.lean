/- impl.parseTenths: the sign, the whole part and the digit of a number's text. -/
import Derived.Test.YtnomcnlmlignbaaDoorParse
import Derived.Test.YtnomcnlmlignbaaDoorCut2
import Derived.Test.YtnomcnlmlignbaaDoorRow
import Derived.Test.YtnomcnlmlignbaaDoorTab
namespace Go.Proofs.YtnomcnlmlignbaaDoor
open Go.RowKit
set_option linter.unusedVariables false
set_option linter.unusedSimpArgs false
theorem syn_global2 : Tryd.prog.globalNamed "strconv.ErrSyntax" = some 4 := by kernel_rfl
theorem ran_global2 : Tryd.prog.globalNamed "strconv.ErrRange" = some 5 := by kernel_rfl
theorem var_below2 {w w' : World} {n : String} {g : Nat} {tp : TypeId} {p : Value} (hg : Tryd.prog.globalNamed n = some g) (hb : Below w.heap.size w w') (h : w.var? Tryd.prog n = some #[.iface tp p]) : w'.var? Tryd.prog n = some #[.iface tp p] := by
  unfold World.var? at *
  rw [hg] at *
  simp only [Option.bind_some] at *
  rcases Nat.lt_or_ge g w.heap.size with hlt | hge
  · rw [hb.block _ hlt]; exact h
  · rw [Array.getElem?_eq_none hge] at h; cases h
theorem Errs.below {w w' : World} (h : Errs w) (hb : Below w.heap.size w w') : Errs w' := by
  obtain ⟨⟨a, b, h1⟩, c, d, h2⟩ := h
  exact ⟨⟨a, b, var_below2 syn_global2 hb h1⟩, c, d, var_below2 ran_global2 hb h2⟩
/-- whether a text begins with '-', and what follows -/
def negB (s : ByteArray) : Bool := s.data.toList.head? == some 45
def negS (s : ByteArray) : ByteArray := if negB s = true then ⟨(s.data.toList.drop 1).toArray⟩ else s

set_option maxHeartbeats 400000 in
theorem cutPre_is (s : ByteArray) (w : World) (hs : s.size ≤ 1048576) :
    Calls Tryd.prog 112 #[.string s, .string ⟨#[45]⟩] w fun e w' => e = .returned (.tuple #[.string (negS s), .bool (negB s)]) ∧ Below w.heap.size w w' := by
  by_cases h0 : s.size = 0
  · have hb : negB s = false := by
      unfold negB
      have : s.data.toList = [] := List.eq_nil_of_length_eq_zero (by rw [Array.length_toList]; exact h0)
      rw [this]; rfl
    have hn : negS s = s := if_neg (by rw [hb]; simp)
    rw [hb, hn]
    clear hb hn
    go_enter Tryd.func112, Tryd.ntmps112
    go_wp2
    go_ret2
    exact ⟨rfl, Below.refl _ _⟩
  · have h1 : 1 ≤ s.size := by omega
    have hl : s.data.toList.length = s.size := Array.length_toList
    obtain ⟨b, r, hbr⟩ : ∃ b r, s.data.toList = b :: r := by
      cases h : s.data.toList with
      | nil => rw [h] at hl; simp at hl; omega
      | cons b r => exact ⟨b, r, rfl⟩
    have e1 : s.extract 0 1 = ⟨[b].toArray⟩ := by rw [ext_list, hbr]; rfl
    have e2 : s.extract 1 s.size = ⟨r.toArray⟩ := by rw [ext_list, List.take_of_length_le (by omega), hbr]; rfl
    by_cases hb : b = 45
    · subst hb
      have hB : negB s = true := by unfold negB; rw [hbr]; rfl
      have hS : negS s = ⟨r.toArray⟩ := by unfold negS; rw [if_pos hB, hbr]; rfl
      have hq : ((s.extract 0 1).toList == [45]) = true := by rw [e1, beq_iff_eq, Lib.toList_data]
      rw [hB, hS]
      have E2 := Lib.hid e2
      clear hB hS e1 e2 hbr hl
      go_enter Tryd.func112, Tryd.ntmps112
      go_wp2
      go_ret2
      exact ⟨by rw [← E2.out]; rfl, Below.refl _ _⟩
    · have hB : negB s = false := by unfold negB; rw [hbr]; simp [hb]
      have hS : negS s = s := if_neg (by rw [hB]; simp)
      have hq : ((s.extract 0 1).toList == [45]) = false := by rw [e1, beq_eq_false_iff_ne, Lib.toList_data]; simp [hb]
      rw [hB, hS]
      clear hB hS e1 e2 hbr hl
      go_enter Tryd.func112, Tryd.ntmps112
      go_wp2
      go_ret2
      exact ⟨rfl, Below.refl _ _⟩

/-- the two sides of the first b -/
def cutA (s : ByteArray) (b : UInt8) : ByteArray := if b ∈ s.data.toList then ⟨(preL b s.data.toList).toArray⟩ else s
def cutB (s : ByteArray) (b : UInt8) : ByteArray := if b ∈ s.data.toList then ⟨(postL b s.data.toList).toArray⟩ else ⟨#[]⟩
def cutF (s : ByteArray) (b : UInt8) : Bool := decide (b ∈ s.data.toList)
theorem cutV_is (s : ByteArray) (b : UInt8) : cutV s b = .tuple #[.string (cutA s b), .string (cutB s b), .bool (cutF s b)] := by
  unfold cutV cutA cutB cutF
  by_cases h : b ∈ s.data.toList <;> simp [h]
theorem bsz (l : List UInt8) : (⟨l.toArray⟩ : ByteArray).size = l.length := by simp [ByteArray.size]
theorem cutA_size (s : ByteArray) (b : UInt8) : (cutA s b).size ≤ s.size := by
  unfold cutA
  split
  · have := preL_le b s.data.toList
    rw [Array.length_toList] at this
    rw [bsz]; exact this
  · exact Nat.le_refl _
theorem cutB_size (s : ByteArray) (b : UInt8) : (cutB s b).size ≤ s.size := by
  unfold cutB postL
  split
  · have : (s.data.toList.drop ((preL b s.data.toList).length + 1)).length ≤ s.data.toList.length := by simp
    rw [Array.length_toList] at this
    rw [bsz]; exact this
  · exact Nat.zero_le _
theorem negS_size (s : ByteArray) : (negS s).size ≤ s.size := by
  unfold negS
  split
  · have h : s.data.toList.length = s.size := Array.length_toList
    rw [bsz, List.length_drop]; omega
  · exact Nat.le_refl _
theorem pN_bd (s : ByteArray) : -999999 ≤ pN s ∧ pN s ≤ 999999 := by
  cases h : pB s with
  | false => rw [pN_no h]; omega
  | true => obtain ⟨n, h0, h1, _, e⟩ := pB_get h; omega
/-- what parseTenths answers -/
def tnB (s : ByteArray) : Bool := pB (cutA (negS s) 46) && pB (cutB (negS s) 46)
def tnZ (s : ByteArray) : Int := if negB s = true then -(10 * pN (cutA (negS s) 46) + pN (cutB (negS s) 46)) else 10 * pN (cutA (negS s) 46) + pN (cutB (negS s) 46)
def tnN (s : ByteArray) : Int := if tnB s = true then tnZ s else 0
theorem tnN_bd (s : ByteArray) : -20000000 ≤ tnN s ∧ tnN s ≤ 20000000 := by
  have h1 := pN_bd (cutA (negS s) 46)
  have h2 := pN_bd (cutB (negS s) 46)
  unfold tnN tnZ
  split
  · split <;> omega
  · omega

set_option maxHeartbeats 1000000 in
theorem tenths_is (s : ByteArray) (w : World) (hs : s.size ≤ 1048576) (ht : Tab w) (he : Errs w) :
    Calls Tryd.prog 77 #[.string s] w fun e w' => e = .returned (.tuple #[.int .i64 (tnN s), .bool (tnB s)]) ∧ Below w.heap.size w w' := by
  have HP := Lib.hid (cutPre_is s w hs)
  have z1 := negS_size s
  have HCU := Lib.hid (fun W => cut_is (negS s) 46 W (by omega))
  rw [cutV_is] at HCU
  have z2 := cutA_size (negS s) 46
  have z3 := cutB_size (negS s) 46
  have P1 := Lib.hid (fun W (h : Below w.heap.size w W) => implParse_any (cutA (negS s) 46) W (by omega) (ht.below h) (he.below h))
  have P2 := Lib.hid (fun W (h : Below w.heap.size w W) => implParse_any (cutB (negS s) 46) W (by omega) (ht.below h) (he.below h))
  have q1 := pN_bd (cutA (negS s) 46)
  have q2 := pN_bd (cutB (negS s) 46)
  have R := Lib.hid (show Value.tuple #[.int .i64 (tnN s), .bool (tnB s)] = .tuple #[.int .i64 (if (pB (cutA (negS s) 46) && pB (cutB (negS s) 46)) = true then (if negB s = true then -(10 * pN (cutA (negS s) 46) + pN (cutB (negS s) 46)) else 10 * pN (cutA (negS s) 46) + pN (cutB (negS s) 46)) else 0), .bool (pB (cutA (negS s) 46) && pB (cutB (negS s) 46))] from rfl)
  clear ht he
  generalize pN (cutA (negS s) 46) = n1 at *
  generalize pN (cutB (negS s) 46) = n2 at *
  generalize pB (cutA (negS s) 46) = k1 at *
  generalize pB (cutB (negS s) 46) = k2 at *
  generalize cutA (negS s) 46 = sa at *
  generalize cutB (negS s) 46 = sb at *
  generalize cutF (negS s) 46 = sf at *
  generalize negS s = ns at *
  generalize negB s = nb at *
  go_enter Tryd.func77, Tryd.ntmps77
  go_wp2_with fail
  refine HP.out.mono ?_
  rintro e w1 ⟨rfl, b1⟩
  have HB1 := Lib.hid b1
  clear b1
  go_wp2_with fail
  refine (HCU.out _).mono ?_
  rintro e w2 ⟨rfl, d2⟩
  have HB2 := Lib.hid (HB1.out.trans (d2.below _))
  clear d2
  go_wp2_with fail
  refine (P1.out _ HB2.out).mono ?_
  rintro e w3 ⟨rfl, b3⟩
  have HB3 := Lib.hid (below_then HB2.out b3)
  clear b3
  go_wp2_with fail
  refine (P2.out _ HB3.out).mono ?_
  rintro e w4 ⟨rfl, b4⟩
  have HB4 := Lib.hid (below_then HB3.out b4)
  clear b4
  cases k1 <;> cases k2 <;> cases nb
  all_goals
    go_wp2
    go_ret2
    exact ⟨by rw [R.out]; rfl, HB4.out⟩
end Go.Proofs.YtnomcnlmlignbaaDoor
