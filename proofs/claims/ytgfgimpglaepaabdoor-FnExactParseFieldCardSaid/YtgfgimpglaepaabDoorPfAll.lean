/- spec.l1Stands: whether a byte stands in a text. AppendChecksum: the text, '#', and the decimal checksum. FnExactAppendChecksum: model and program seal a text alike. impl.ParseInt: the number whose text this is. The library's sentinels in later worlds; the bounds of a number that is read. parseCell, parseRow: the program's reading of a line. parseRow. The program's ParseField. The program's ParseField: a text that ends with a line's end. l2Parse of the model on texts that are not too long. ParseField, the model's and the program's. The walk of the law FnExactParseField. -/
import Derived.Test.YtgfgimpglaepaabDoorChecked
import Derived.Test.YtgfgimpglaepaabDoorJoinMath
import Derived.WalkKit
import Derived.WalkLawsBesides
import Derived.WalkSpells
import Derived.Below
import Derived.Lib.Hide
import Derived.Test.YtgfgimpglaepaabDoorFormat
import Derived.Test.YtgfgimpglaepaabDoorSum
import Derived.Lib.Bytealg
import Derived.Test.YtgfgimpglaepaabDoorTab
import Derived.Test.YtgfgimpglaepaabDoorParseMath
import Derived.Test.YtgfgimpglaepaabDoorShelfAtoi
import Derived.Test.YtgfgimpglaepaabDoorPfMath
import Derived.Test.YtgfgimpglaepaabDoorSplitTo
import Derived.Test.YtgfgimpglaepaabDoorPfMath2
import Derived.Test.YtgfgimpglaepaabDoorShelfSuf
import Derived.Test.YtgfgimpglaepaabDoorGrid
import Derived.Test.YtgfgimpglaepaabDoorMake
import Derived.Test.YtgfgimpglaepaabDoorPfSpec
namespace Go.Proofs.YtgfgimpglaepaabDoor
open Go.RowKit
set_option linter.unusedVariables false

end Go.Proofs.YtgfgimpglaepaabDoor
namespace Go.Proofs.YtgfgimpglaepaabDoor
open Go.RowKit
set_option linter.unusedVariables false
/-- the sealed text -/
def sealL (l : List UInt8) : List UInt8 := l ++ [35] ++ Lib.itoa (ck l)
/-- whether a text can be sealed, and what it becomes -/
def apB (s : ByteArray) : Bool := decide (s.size ≤ 4000) && !hasB s.data.toList 35 && decide ((sealL s.data.toList).length ≤ 4000)
def apS (s : ByteArray) : ByteArray := if apB s = true then ⟨(sealL s.data.toList).toArray⟩ else ⟨#[]⟩
theorem apS_yes {s : ByteArray} (h : apB s = true) : apS s = ⟨(sealL s.data.toList).toArray⟩ := if_pos h
theorem apS_no {s : ByteArray} (h : apB s = false) : apS s = ⟨#[]⟩ := if_neg (by rw [h]; simp)
theorem apB_long {s : ByteArray} (h : 4000 < s.size) : apB s = false := by
  have : decide (s.size ≤ 4000) = false := decide_eq_false (by omega)
  unfold apB; rw [this]; rfl
theorem apB_has {s : ByteArray} (h : hasB s.data.toList 35 = true) : apB s = false := by
  unfold apB; rw [h]; simp
theorem apB_out {s : ByteArray} (h : 4000 < (sealL s.data.toList).length) : apB s = false := by
  have : decide ((sealL s.data.toList).length ≤ 4000) = false := decide_eq_false (by omega)
  unfold apB; rw [this]; simp
theorem apB_yes {s : ByteArray} (h0 : s.size ≤ 4000) (h1 : hasB s.data.toList 35 = false) (h2 : (sealL s.data.toList).length ≤ 4000) : apB s = true := by
  have e0 : decide (s.size ≤ 4000) = true := decide_eq_true h0
  have e2 : decide ((sealL s.data.toList).length ≤ 4000) = true := decide_eq_true h2
  unfold apB; rw [e0, h1, e2]; rfl
theorem sealL_len (s : ByteArray) : (sealL s.data.toList).length = s.size + 1 + (Lib.itoa (ck s.data.toList)).length := by
  simp [sealL]; omega
theorem itoa_ck (l : List UInt8) : (Lib.itoa (ck l)).length ≤ 21 := by
  have := ck_bd l
  exact Lib.itoa_length_le _ (by omega) (by omega)
theorem seal_str (s : ByteArray) (d : List UInt8) (h : d = Lib.itoa (ck s.data.toList)) : s ++ ⟨#[35]⟩ ++ ⟨d.toArray⟩ = (⟨(sealL s.data.toList).toArray⟩ : ByteArray) := by
  subst h; apply ByteArray.ext; simp [sealL]

theorem indexByte_nonneg (l : List UInt8) (c : UInt8) : decide (0 ≤ Lib.indexByte l c) = hasB l c.toNat ∧ -1 ≤ Lib.indexByte l c := by
  induction l with
  | nil => exact ⟨rfl, by simp [Lib.indexByte]⟩
  | cons b r ih =>
    have hb : hasB (b :: r) c.toNat = ((b == c) || hasB r c.toNat) := by
      have : (((b.toNat : Nat) : Int) == ((c.toNat : Nat) : Int)) = (b == c) := by
        rw [Bool.eq_iff_iff, beq_iff_eq, beq_iff_eq]
        exact ⟨fun h => UInt8.toNat_inj.1 (by omega), fun h => by rw [h]⟩
      simp only [hasB, List.any_cons, this]
    unfold Lib.indexByte
    cases e : (b == c) with
    | true => rw [hb, e]; exact ⟨rfl, by simp⟩
    | false =>
      rw [hb, e]
      simp only [Bool.false_eq_true, if_false, Bool.false_or]
      rw [← ih.1]
      cases e2 : (Lib.indexByte r c == -1) with
      | true =>
        have := beq_iff_eq.1 e2
        rw [this]; simp
      | false =>
        have := beq_eq_false_iff_ne.1 e2
        have h3 := ih.2
        simp only [Bool.false_eq_true, if_false]
        exact ⟨decide_eq_decide.2 (by omega), by omega⟩
end Go.Proofs.YtgfgimpglaepaabDoor
namespace Go.Proofs.YtgfgimpglaepaabDoor
open Go.RowKit
set_option linter.unusedVariables false
end Go.Proofs.YtgfgimpglaepaabDoor
namespace Go.Proofs.YtgfgimpglaepaabDoor
open Go.RowKit
set_option linter.unusedVariables false
/-- the two errors of strconv lie in their variables -/
def Errs (w : World) : Prop := (∃ tp p, w.var? Tryd.prog "strconv.ErrSyntax" = some #[.iface tp p]) ∧ ∃ tp p, w.var? Tryd.prog "strconv.ErrRange" = some #[.iface tp p]
theorem bytes_below (w : World) (t : TypeId) (l : ByteArray) : Below w.heap.size w (Lib.bytesWorld w t l) :=
  Lib.bytesWorld_below w t l
theorem str_isl {l : List UInt8} {s : ByteArray} (h : l = s.data.toList) : (l == s.toList) = true := by rw [beq_iff_eq, Lib.toList_data, h]
theorem str_notl {l : List UInt8} {s : ByteArray} (h : l ≠ s.data.toList) : (l == s.toList) = false := by rw [beq_eq_false_iff_ne, Lib.toList_data]; exact h

set_option maxHeartbeats 1000000 in
theorem implParse_ok (s : ByteArray) (v : Int) (w : World) (hs : s.size ≤ 1048576) (ht : Tab w) (h : Lib.atoiAll s.data.toList = .ok v) :
    Calls Tryd.prog 87 #[.string s] w fun e w' => e = .returned (.tuple #[.int .i64 (pN s), .bool (pB s)]) ∧ Below w.heap.size w w' := by
  have HA := Lib.hid ((Tryd.strconv_Atoi_ok s (by omega) v h w).mono (R' := fun e w' => e = .returned (.tuple #[.int .i64 v, .nilIface]) ∧ Below w.heap.size w w') (fun e w' ⟨a, b⟩ => ⟨a, by
    rcases b with rfl | ⟨t, rfl⟩
    · exact Below.refl _ _
    · exact bytes_below w _ t⟩))
  have HF := Lib.hid (fun W (hb : Below w.heap.size w W) => implFormat_any v W (ht.below hb))
  cases hr : inR v with
  | false =>
    have hb : pB s = false := pB_not fun n h0 h1 e => by
      have h2 := atoi_itoa n h0 h1
      rw [e, h] at h2
      injection h2 with h2
      subst h2
      rw [inR_yes h0 h1] at hr; cases hr
    rw [pN_no hb, hb]
    rw [hr, fmtS_no hr] at HF
    clear hb hr h ht
    go_enter Tryd.func87, Tryd.ntmps87
    go_wp2_with (go_at_call 104; refine HA.out.mono ?_; rintro e w1 ⟨rfl, b1⟩; have HB1 := Lib.hid b1; clear b1)
    refine (HF.out _ HB1.out).mono ?_
    rintro e w2 ⟨rfl, b2⟩
    have HB2 := Lib.hid b2
    clear b2
    go_wp2
    go_ret2
    exact ⟨rfl, HB1.out.trans (HB2.out.mono HB1.out.size)⟩
  | true =>
    have hrr := of_decide_eq_true hr
    rw [hr, fmtS_yes hr] at HF
    by_cases hq : Lib.itoa v = s.data.toList
    · obtain ⟨hb, hn⟩ := pB_of hrr.1 hrr.2 hq
      rw [hb, hn]
      have hq2 := str_isl hq
      clear hb hn hr h ht hq hrr
      generalize Lib.itoa v = d at *
      go_enter Tryd.func87, Tryd.ntmps87
      go_wp2_with (go_at_call 104; refine HA.out.mono ?_; rintro e w1 ⟨rfl, b1⟩; have HB1 := Lib.hid b1; clear b1)
      refine (HF.out _ HB1.out).mono ?_
      rintro e w2 ⟨rfl, b2⟩
      have HB2 := Lib.hid b2
      clear b2
      go_wp2
      go_ret2
      exact ⟨rfl, HB1.out.trans (HB2.out.mono HB1.out.size)⟩
    · have hb : pB s = false := pB_not fun n h0 h1 e => by
        have h2 := atoi_itoa n h0 h1
        rw [e, h] at h2
        injection h2 with h2
        subst h2
        exact hq e
      rw [pN_no hb, hb]
      have hq2 := str_notl hq
      clear hb hr h ht hq hrr
      generalize Lib.itoa v = d at *
      go_enter Tryd.func87, Tryd.ntmps87
      go_wp2_with (go_at_call 104; refine HA.out.mono ?_; rintro e w1 ⟨rfl, b1⟩; have HB1 := Lib.hid b1; clear b1)
      refine (HF.out _ HB1.out).mono ?_
      rintro e w2 ⟨rfl, b2⟩
      have HB2 := Lib.hid b2
      clear b2
      go_wp2
      go_ret2
      exact ⟨rfl, HB1.out.trans (HB2.out.mono HB1.out.size)⟩

set_option maxHeartbeats 1000000 in
theorem implParse_err (s : ByteArray) (w : World) (hn : ∀ v, Lib.atoiAll s.data.toList ≠ .ok v)
    (h : Calls Tryd.prog 104 #[.string s] w fun e w' => ∃ (z : Int) (N : Nat), e = .returned (.tuple #[.int .i64 z, .iface 147 (.pointer (some ⟨N, 0, none⟩))]) ∧ Below w.heap.size w w') :
    Calls Tryd.prog 87 #[.string s] w fun e w' => e = .returned (.tuple #[.int .i64 (pN s), .bool (pB s)]) ∧ Below w.heap.size w w' := by
  have hb : pB s = false := pB_not fun n h0 h1 e => by
    have h2 := atoi_itoa n h0 h1
    rw [e] at h2
    exact hn n h2
  rw [pN_no hb, hb]
  have HA := Lib.hid h
  clear h hb hn
  go_enter Tryd.func87, Tryd.ntmps87
  go_wp2_with (go_at_call 104; refine HA.out.mono ?_; rintro e w1 ⟨z, N, rfl, b1⟩; have HB1 := Lib.hid b1; clear b1)
  go_ret2
  exact ⟨rfl, HB1.out⟩

theorem implParse_any (s : ByteArray) (w : World) (hs : s.size ≤ 1048576) (ht : Tab w) (he : Errs w) :
    Calls Tryd.prog 87 #[.string s] w fun e w' => e = .returned (.tuple #[.int .i64 (pN s), .bool (pB s)]) ∧ Below w.heap.size w w' := by
  obtain ⟨⟨tp, p, hv⟩, tp', p', hv'⟩ := he
  cases h : Lib.atoiAll s.data.toList with
  | ok v => exact implParse_ok s v w hs ht h
  | range =>
    exact implParse_err s w (fun v e => by rw [h] at e; cases e) ((Tryd.strconv_Atoi_range_var s (by omega) h tp' p' w hv').mono fun e w' ⟨N, a, _, _, b⟩ => ⟨_, N, a, b⟩)
  | _ =>
    exact implParse_err s w (fun v e => by rw [h] at e; cases e) ((Tryd.strconv_Atoi_syntax_var s (by omega) h tp p w hv).mono fun e w' ⟨N, a, _, _, b⟩ => ⟨_, N, a, b⟩)
end Go.Proofs.YtgfgimpglaepaabDoor
namespace Go.Proofs.YtgfgimpglaepaabDoor
open Go.RowKit
set_option linter.unusedVariables false
theorem syn_global2 : Tryd.prog.globalNamed "strconv.ErrSyntax" = some 2 := by kernel_rfl
theorem ran_global2 : Tryd.prog.globalNamed "strconv.ErrRange" = some 3 := by kernel_rfl
theorem var_below2 {w w' : World} {n : String} {g : Nat} {tp : TypeId} {p : Value} (hg : Tryd.prog.globalNamed n = some g) (hb : Below w.heap.size w w') (h : w.var? Tryd.prog n = some #[.iface tp p]) : w'.var? Tryd.prog n = some #[.iface tp p] := by
  unfold World.var? at *
  rw [hg] at *
  simp only [Option.bind_some] at *
  rcases Nat.lt_or_ge g w.heap.size with hlt | hge
  · rw [hb.block _ hlt]; exact h
  · rw [Array.getElem?_eq_none hge] at h; cases h
theorem Errs.below {w w' : World} (h : Errs w) (hb : Below w.heap.size w w') : Errs w' := by
  obtain ⟨⟨a, b, h1⟩, c, d, h2⟩ := h
  exact ⟨⟨a, b, var_below2 syn_global2 hb h1⟩, c, d, var_below2 ran_global2 hb h2⟩
theorem pN_bd (s : ByteArray) : -999999 ≤ pN s ∧ pN s ≤ 999999 := by
  cases h : pB s with
  | false => rw [pN_no h]; omega
  | true => obtain ⟨n, h0, h1, _, e⟩ := pB_get h; omega
end Go.Proofs.YtgfgimpglaepaabDoor
namespace Go.Proofs.YtgfgimpglaepaabDoor
open Go.RowKit
set_option linter.unusedVariables false
set_option linter.unusedSimpArgs false
def cellZ (w : List UInt8) : Int := match rdC w with | some v => v | none => 0
theorem cellZ_some {w : List UInt8} {v : Int} (h : rdC w = some v) : cellZ w = v := by unfold cellZ; rw [h]
theorem cellZ_none {w : List UInt8} (h : rdC w = none) : cellZ w = 0 := by unfold cellZ; rw [h]
theorem baL_toList (w : List UInt8) : (baL w).toList = w := by rw [ByteArray.toList_eq, baL_list]
set_option maxRecDepth 100000 in
set_option maxHeartbeats 1000000 in
theorem parseCell_any (x : List UInt8) (w : World) (hs : x.length ≤ 1048576) (ht : Tab w) (he : Errs w) :
    Calls Tryd.prog 68 #[.string (baL x)] w fun e w' => e = .returned (.tuple #[.int .i64 (cellZ x), .bool (rdC x).isSome]) ∧ Below w.heap.size w w' := by
  by_cases h46 : x = [46]
  · subst h46
    have R := Lib.hid (show rdC [46] = some (-9999) from if_pos rfl)
    have R2 := Lib.hid (cellZ_some R.out)
    have hb : (baL [46]).toList = [46] := baL_toList _
    go_enter Tryd.func68, Tryd.ntmps68
    go_wp2
    go_ret2
    exact ⟨by rw [R.out, R2.out]; rfl, Below.refl _ _⟩
  · have hb : (baL x).toList = x := baL_toList _
    have hb2 : (x == [46]) = false := by rw [beq_eq_false_iff_ne]; exact h46
    have hsz : (baL x).size ≤ 1048576 := by show x.toArray.size ≤ _; simpa using hs
    have HP := Lib.hid (implParse_any (baL x) w hsz ht he)
    have hrd : rdC x = if pB (baL x) = true ∧ valB (pN (baL x)) = true then some (pN (baL x)) else none := by unfold rdC; rw [if_neg h46]
    cases hp : pB (baL x) with
    | false =>
      have R := Lib.hid (show rdC x = none by rw [hrd, if_neg (by rw [hp]; simp)])
      have R2 := Lib.hid (cellZ_none R.out)
      rw [hp] at HP
      generalize pN (baL x) = n at *
      clear hrd hp ht he h46
      go_enter Tryd.func68, Tryd.ntmps68
      go_wp2_with fail
      refine HP.out.mono ?_
      rintro e w1 ⟨rfl, b1⟩
      have HB := Lib.hid b1
      clear b1
      go_wp2
      go_ret2
      exact ⟨by rw [R.out, R2.out]; rfl, HB.out⟩
    | true =>
      rw [hp] at HP
      have HV := Lib.hid (fun W v h => implValue_is (pN (baL x)) v W h)
      cases hv : valB (pN (baL x)) with
      | false =>
        have R := Lib.hid (show rdC x = none by rw [hrd, if_neg (by rw [hv]; simp)])
        have R2 := Lib.hid (cellZ_none R.out)
        have HV2 := Lib.hid (fun W => HV.out W false hv)
        generalize pN (baL x) = n at *
        clear hrd hp ht he h46 HV hv
        go_enter Tryd.func68, Tryd.ntmps68
        go_wp2_with fail
        refine HP.out.mono ?_
        rintro e w1 ⟨rfl, b1⟩
        have HB := Lib.hid b1
        clear b1
        go_wp2_with fail
        refine (HV2.out _).mono ?_
        rintro e w2 ⟨rfl, rfl⟩
        go_wp2
        go_ret2
        exact ⟨by rw [R.out, R2.out]; rfl, HB.out⟩
      | true =>
        have R := Lib.hid (show rdC x = some (pN (baL x)) by rw [hrd, if_pos ⟨hp, hv⟩])
        have R2 := Lib.hid (cellZ_some R.out)
        have HV2 := Lib.hid (fun W => HV.out W true hv)
        generalize pN (baL x) = n at *
        clear hrd hp ht he h46 HV hv
        go_enter Tryd.func68, Tryd.ntmps68
        go_wp2_with fail
        refine HP.out.mono ?_
        rintro e w1 ⟨rfl, b1⟩
        have HB := Lib.hid b1
        clear b1
        go_wp2_with fail
        refine (HV2.out _).mono ?_
        rintro e w2 ⟨rfl, rfl⟩
        go_wp2
        go_ret2
        exact ⟨by rw [R.out, R2.out]; rfl, HB.out⟩
end Go.Proofs.YtgfgimpglaepaabDoor
namespace Go.Proofs.YtgfgimpglaepaabDoor
open Go.RowKit
set_option linter.unusedVariables false
set_option linter.unusedSimpArgs false
theorem rdAll_snoc {ws : List (List UInt8)} {vs : List Int} {x : List UInt8} {v : Int} (h : rdAll ws = some vs) (hx : rdC x = some v) : rdAll (ws ++ [x]) = some (vs ++ [v]) := by
  induction ws generalizing vs with
  | nil => injection h with h; subst h; show rdAll [x] = _; unfold rdAll; rw [hx]; rfl
  | cons y r ih =>
    unfold rdAll at h
    rw [List.cons_append]
    unfold rdAll
    cases hc : rdC y with
    | none => rw [hc] at h; cases h
    | some u =>
      rw [hc] at h
      simp only at h ⊢
      cases hr : rdAll r with
      | none => rw [hr] at h; cases h
      | some us =>
        rw [hr] at h
        injection h with h
        subst h
        rw [ih hr]
        rfl
theorem rdAll_fail : ∀ {ws : List (List UInt8)} {k : Nat} (hk : k < ws.length), rdC ws[k] = none → rdAll ws = none
  | y :: r, 0, _, h => by unfold rdAll; rw [show rdC y = none from h]
  | y :: r, k + 1, hk, h => by
    have ih := rdAll_fail (ws := r) (k := k) (by simpa using hk) (by simpa using h)
    unfold rdAll
    cases rdC y with
    | none => rfl
    | some u => simp only; rw [ih]
theorem rdAll_len {ws : List (List UInt8)} {vs : List Int} (h : rdAll ws = some vs) : vs.length = ws.length := by
  rw [← (rdAll_some h).1, List.length_map]
theorem rdAll_step {ws : List (List UInt8)} {k : Nat} {vs : List Int} {v : Int} (hk : k < ws.length) (h : rdAll (ws.take k) = some vs) (hx : rdC ws[k] = some v) : rdAll (ws.take (k + 1)) = some (vs ++ [v]) := by
  rw [List.take_succ_eq_append_getElem hk]; exact rdAll_snoc h hx
/-- the row as far as it is read -/
def rowAt (vs : List Int) (n : Nat) : List Int := vs ++ List.replicate (n - vs.length) 0
theorem rowAt_step {vs : List Int} {n : Nat} (h : vs.length < n) (v : Int) : (rowAt vs n).set vs.length v = rowAt (vs ++ [v]) n := by
  unfold rowAt
  rw [List.set_append_right _ _ (Nat.le_refl _), Nat.sub_self]
  have e : n - vs.length = (n - (vs ++ [v]).length) + 1 := by rw [List.length_append, List.length_singleton]; omega
  rw [e, List.replicate_succ, List.set_cons_zero]
  simp
theorem rowAt_len {vs : List Int} {n : Nat} (h : vs.length ≤ n) : (rowAt vs n).length = n := by unfold rowAt; rw [List.length_append, List.length_replicate]; omega
theorem rowAt_all {vs : List Int} {n : Nat} (h : vs.length = n) : rowAt vs n = vs := by unfold rowAt; rw [h, Nat.sub_self]; simp
def optL (r : Option (List Int)) : List Int := match r with | some l => l | none => []
/-- a row of numbers of the call's own, or none -/
def RwPost (r : Option (List Int)) (w : World) (e : Ending) (w' : World) : Prop :=
  ∃ a c, e = .returned (.tuple #[.slice a (optL r).length c, .bool r.isSome]) ∧ OwnI w' w.heap.size a (optL r) ∧ Below w.heap.size w w'
theorem word_len {line : List UInt8} {w : List UInt8} (h : w ∈ splitL line 32) : w.length ≤ line.length := by
  have hj := join_split 32 line
  have key : ∀ (ws : List (List UInt8)), w ∈ ws → w.length ≤ (joinB 32 ws).length := by
    intro ws hw
    cases ws with
    | nil => cases hw
    | cons y r =>
      simp only [joinB, List.length_append]
      rw [List.mem_cons] at hw
      rcases hw with rfl | hw
      · omega
      · have : w.length ≤ ((r.map fun z => (32 : UInt8) :: z).flatten).length := by
          clear hj h
          induction r with
          | nil => cases hw
          | cons x r ih =>
            simp only [List.map_cons, List.flatten_cons, List.length_append, List.length_cons]
            rw [List.mem_cons] at hw
            rcases hw with rfl | hw
            · omega
            · have := ih hw; omega
        omega
  have h32 : splitL line ((32 : UInt8).toNat : Int) = splitL line 32 := rfl
  have := key _ h
  rw [h32] at hj
  rw [hj] at this
  exact this
set_option maxRecDepth 100000 in
set_option maxHeartbeats 1000000 in
theorem parseRow_any (x : List UInt8) (w : World) (hs : x.length ≤ 4000) (ht : Tab w) (he : Errs w) :
    Calls Tryd.prog 44 #[.string (baL x)] w (RwPost (rdRow x) w) := by
  have hz : (baL x).size ≤ 4000 := by show x.toArray.size ≤ _; simpa using hs
  have HSP := Lib.hid (splitTo_yes (baL x) ⟨#[32]⟩ w hz rfl)
  have e32 : (((⟨#[32]⟩ : ByteArray)[0]'(by decide)).toNat : Int) = 32 := rfl
  rw [e32, baL_list] at HSP
  unfold StPost at HSP
  have HT := Lib.hid (fun W (G : Below w.heap.size w W) => ht.below G)
  have HE := Lib.hid (fun W (G : Below w.heap.size w W) => he.below G)
  have HWL := Lib.hid (fun y (h : y ∈ splitL x 32) => Nat.le_trans (word_len h) hs)
  have hpos := splitL_pos x 32
  have hrr : rdRow x = if (splitL x 32).length ≤ 8 then rdAll (splitL x 32) else none := rfl
  clear ht he
  generalize splitL x 32 = ws at *
  obtain ⟨n, hn⟩ : ∃ n, ws.length = n := ⟨_, rfl⟩
  by_cases h8 : n ≤ 8
  · have hmk := fun W => run_make_row' (P := Tryd.prog) 24 3 (.int .i64 0) 8 Tryd.underlying24 infoInt rfl .i64 .i64 n (by omega) (by omega) W
    rw [hn, if_pos h8] at hrr
    have HN := Lib.hid hn
    have HRR := Lib.hid hrr
    rw [hn] at HSP hpos
    have h8i : ¬ (8 : Int) < (n : Int) := by omega
    clear hrr hn hz hs
    go_enter Tryd.func44, Tryd.ntmps44
    go_wp2_with fail
    refine HSP.out.mono ?_
    rintro e w1 ⟨v, rfl, hown, b1⟩
    obtain ⟨cap, gw, rfl, hgw, hrow, hcap⟩ := Row.of_own hown hpos
    have HB1 := Lib.hid b1
    have HW1 := Lib.hid hrow
    have hgl := hrow.lt
    clear hown b1 hrow
    obtain ⟨gr, hgr⟩ : ∃ q, w1.heap.size = q := ⟨_, rfl⟩
    go_wp2
    clear hmk
    have HGR := Lib.hid hgr
    clear hgr
    go_loopw [28] (fun i wr => ∃ (k : Nat) (vs : List Int), k ≤ n ∧ i = .int .i64 k ∧ vs.length = k ∧ rdAll (ws.take k) = some vs ∧ Row wr gr 3 (iv (rowAt vs n)) ∧ Row wr gw 9 (txt ws) ∧ Below w.heap.size w wr) (fun i _ => n - (intOf i).toNat)
    case atStart =>
      refine ⟨0, [], Nat.zero_le _, rfl, rfl, rfl, ?_, HW1.out.alloc _, HB1.out.alloc HB1.out.size _⟩
      have h9 := heap_alloc_new w1 (.cells (madeCells #[.int .i64 0] n) 3)
      rw [HGR.out] at h9
      exact ⟨_, h9, fun j hj => by rw [made_iv]; simp [rowAt, hj]⟩
    case round =>
      obtain ⟨k, vs, hk, rfl, hvl, hrd, hrg, hrw, hB⟩ := hrel
      have HRD := Lib.hid hrd
      have HRG := Lib.hid hrg
      have HRW := Lib.hid hrw
      have HB := Lib.hid hB
      have HVL := Lib.hid hvl
      clear hrd hrg hrw hB hvl
      by_cases hlt : k < n
      · have hi : (k : Int) < (n : Int) := by omega
        have hi0 : (0 : Int) ≤ (k : Int) := by omega
        have hkw : k < ws.length := by have := HN.out; omega
        have ck := HRW.out.cell (k := k) (by rw [txt_length]; exact hkw)
        have ek : (txt ws)[k]'(by rw [txt_length]; exact hkw) = .string (baL ws[k]) := by simp [txt, baL]
        rw [ek] at ck
        have HCELL := Lib.hid (parseCell_any ws[k] wr (by have := HWL.out _ (List.getElem_mem hkw); omega) (HT.out _ HB.out) (HE.out _ HB.out))
        have HSTEP := Lib.hid (fun v (h : rdC ws[k] = some v) => rdAll_step hkw HRD.out h)
        have HFAIL := Lib.hid (rdAll_fail hkw)
        have HZ := Lib.hid (fun v (h : rdC ws[k] = some v) => cellZ_some h)
        have hgrl := HRG.out.lt
        have hgwl := HRW.out.lt
        clear ek
        cases hc : rdC ws[k] with
        | none =>
          have hz := cellZ_none hc
          have HNO := Lib.hid (show rdRow x = none by rw [HRR.out]; exact HFAIL.out hc)
          rw [hc, hz] at HCELL
          clear hz
          generalize baL ws[k] = sk at *
          clear hc
          go_wp2_with fail
          refine HCELL.out.mono ?_
          rintro e w2 ⟨rfl, b2⟩
          have HB2 := Lib.hid (below_then HB.out b2)
          clear b2
          go_wp2
          go_ret2
          exact ⟨none, 0, by rw [HNO.out]; rfl, by rw [HNO.out]; exact OwnI.none_, HB2.out⟩
        | some v =>
          have hz := HZ.out v hc
          have HS2 := Lib.hid (HSTEP.out v hc)
          rw [hc, hz] at HCELL
          clear hz
          generalize baL ws[k] = sk at *
          clear hc
          go_wp2_with fail
          refine HCELL.out.mono ?_
          rintro e w2 ⟨rfl, b2⟩
          have HB2 := Lib.hid (below_then HB.out b2)
          have HRG2 := Lib.hid (HRG.out.of_block (b2.block gr hgrl))
          have HRW2 := Lib.hid (HRW.out.of_block (b2.block gw hgwl))
          have hlen : (iv (rowAt vs n)).length = n := by rw [iv_length, rowAt_len (by have := HVL.out; omega)]
          have ov := HRG2.out.cell (k := k) (by rw [hlen]; exact hlt)
          have fz := HRG2.out.frozen k
          have hset := HRG2.out.set k (.int .i64 v)
          have e9 : (iv (rowAt vs n)).set k (.int .i64 v) = iv (rowAt (vs ++ [v]) n) := by
            rw [iv_set]
            have := HVL.out
            subst this
            rw [rowAt_step hlt]
          rw [e9] at hset
          have HSET := Lib.hid hset
          generalize (iv (rowAt vs n))[k]'(by rw [hlen]; exact hlt) = o0 at ov
          have hne : gr ≠ gw := by
            intro e
            subst e
            obtain ⟨c1, h1, _⟩ := HRG2.out
            obtain ⟨c2, h2, _⟩ := HRW2.out
            rw [h1] at h2
            injection h2 with h2
            injection h2 with _ ht
            exact absurd ht (by decide)
          have HNE := Lib.hid hne
          have hglo : w.heap.size ≤ gr := by have := HB1.out.size; rw [HGR.out] at this; exact this
          clear b2 hset e9 hlen ck hne
          go_wp2
          go_roundw
          case rel => exact ⟨k + 1, vs ++ [v], by omega, by go_num, by have := HVL.out; simp; omega, HS2.out, HSET.out, HRW2.out.other (show gw ≠ gr from Ne.symm HNE.out) _, HB2.out.setCell hglo _⟩
          case measure => simp [intOf]; omega
      · obtain rfl : k = n := by omega
        have hrd := HRD.out
        rw [List.take_of_length_le (by have := HN.out; omega)] at hrd
        have HYES := Lib.hid (show rdRow x = some vs by rw [HRR.out]; exact hrd)
        have HO := Lib.hid (show OwnI wr w.heap.size (some ⟨gr, 0, none⟩) vs from ⟨gr, by have := HB1.out.size; rw [HGR.out] at this; exact this, .inr ⟨rfl, by have h := HRG.out; rw [rowAt_all HVL.out] at h; exact h⟩⟩)
        have hge : ¬ (k : Int) < (k : Int) := by omega
        clear hlt hrd
        go_wp2
        go_ret2
        exact ⟨some ⟨gr, 0, none⟩, k, by rw [HYES.out]; show _ = Ending.returned (.tuple #[.slice _ vs.length k, .bool true]); rw [HVL.out]; rfl, by rw [HYES.out]; exact HO.out, HB.out⟩
  · have HNO := Lib.hid (show rdRow x = none by rw [hrr, if_neg (by omega)])
    rw [hn] at HSP hpos
    have h8i : (8 : Int) < (n : Int) := by omega
    clear hrr hn hz hs
    go_enter Tryd.func44, Tryd.ntmps44
    go_wp2_with fail
    refine HSP.out.mono ?_
    rintro e w1 ⟨v, rfl, hown, b1⟩
    obtain ⟨cap, gw, rfl, hgw, hrow, hcap⟩ := Row.of_own hown hpos
    have HB1 := Lib.hid b1
    clear hown b1 hrow
    go_wp2
    go_ret2
    exact ⟨none, 0, by rw [HNO.out]; rfl, by rw [HNO.out]; exact OwnI.none_, HB1.out⟩
end Go.Proofs.YtgfgimpglaepaabDoor
namespace Go.Proofs.YtgfgimpglaepaabDoor
open Go.RowKit
set_option linter.unusedVariables false
set_option linter.unusedSimpArgs false
theorem fret_put2 {w w1 : World} {r : Option (Int × Int × List Int)} {e : Ending} {a : Option Addr} {c : Nat} (hb : Below w.heap.size w w1) (ho : OwnI w1 (w.heap.size + 1) a (rL r)) (he : e = .returned (.tuple #[.agg #[.int .i64 (rW r), .int .i64 (rH r), .slice a (rL r).length c], .bool (rB r)])) (u0 u1 u2 : Value) :
    FRet r w e (((w1.setCell ⟨w.heap.size, 0, none⟩ u0).setCell ⟨w.heap.size, 1, none⟩ u1).setCell ⟨w.heap.size, 2, none⟩ u2) :=
  ⟨a, c, he, (ownI_set (ownI_set (ownI_set ho (by omega) _) (by omega) _) (by omega) _).more (by omega), ((hb.setCell (p := ⟨w.heap.size, 0, none⟩) (Nat.le_refl _) _).setCell (p := ⟨w.heap.size, 1, none⟩) (Nat.le_refl _) _).setCell (p := ⟨w.heap.size, 2, none⟩) (Nat.le_refl _) _⟩
theorem suffix_yes (b : List UInt8) : Lib.hasSuffix (b ++ [10]) [10] = true ∧ Lib.trimSuffix (b ++ [10]) [10] = b := by
  have h : Lib.hasSuffix (b ++ [10]) [10] = true := by unfold Lib.hasSuffix; rw [List.isSuffixOf_iff_suffix]; exact ⟨b, rfl⟩
  refine ⟨h, ?_⟩
  unfold Lib.trimSuffix
  rw [if_pos h]
  simp
theorem suffix_no {l : List UInt8} (h : ∀ b, l ≠ b ++ [10]) : Lib.hasSuffix l [10] = false := by
  cases hs : Lib.hasSuffix l [10] with
  | false => rfl
  | true =>
    unfold Lib.hasSuffix at hs
    rw [List.isSuffixOf_iff_suffix] at hs
    obtain ⟨b, hb⟩ := hs
    exact absurd hb.symm (h b)
/-- the slices of the rows that are read so far -/
def rowsV (A : Nat → Option Addr) (C : Nat → Nat) (W k j : Nat) : Value := if j < k then .slice (A j) W (C j) else .slice none 0 0
theorem line_len {s : List UInt8} {x : List UInt8} (h : x ∈ splitL s 10) : x.length ≤ s.length := by
  have hj := join_split 10 s
  have key : ∀ (ws : List (List UInt8)), x ∈ ws → x.length ≤ (joinB 10 ws).length := by
    intro ws hw
    cases ws with
    | nil => cases hw
    | cons y r =>
      simp only [joinB, List.length_append]
      rw [List.mem_cons] at hw
      rcases hw with rfl | hw
      · omega
      · have : x.length ≤ ((r.map fun z => (10 : UInt8) :: z).flatten).length := by
          clear hj h
          induction r with
          | nil => cases hw
          | cons z r ih =>
            simp only [List.map_cons, List.flatten_cons, List.length_append, List.length_cons]
            rw [List.mem_cons] at hw
            rcases hw with rfl | hw
            · omega
            · have := ih hw; omega
        omega
  have h10 : splitL s ((10 : UInt8).toNat : Int) = splitL s 10 := rfl
  have := key _ h
  rw [h10] at hj
  rw [hj] at this
  exact this
set_option maxRecDepth 100000 in
set_option maxHeartbeats 1000000 in
theorem implPF_no (s : ByteArray) (w : World) (hs : s.size ≤ 1048576) (h : ∀ b, s.data.toList ≠ b ++ [10]) :
    Calls Tryd.prog 15 #[.string s] w (FRet (pfR s.data.toList) w) := by
  have HR := Lib.hid (pf_noend h)
  have HC := Lib.hid (fun W => Tryd.strings_CutSuffix s ⟨#[10]⟩ W (by omega))
  have e10 : (⟨#[10]⟩ : ByteArray).data.toList = [10] := rfl
  rw [e10, suffix_no h] at HC
  generalize (⟨(Lib.trimSuffix s.data.toList [10]).toArray⟩ : ByteArray) = z at *
  have X0 := Box.new w 26 (.int .i64 0) (.int .i64 0) (.slice none 0 0)
  obtain ⟨t0, t1, t2⟩ := X0.cells
  have g0 := X0.frozen 0
  have g1 := X0.frozen 1
  have g2 := X0.frozen 2
  have B0 := Lib.hid (below_all w (.cells #[.int .i64 0, .int .i64 0, .slice none 0 0] 26))
  clear h X0 e10
  go_enter Tryd.func15, Tryd.ntmps15
  go_wp2_with fail
  refine (HC.out _).mono ?_
  rintro e w1 ⟨rfl, rfl⟩
  go_wp2
  refine bodyPost_ret (v := .tuple #[.agg #[.int .i64 0, .int .i64 0, .slice none 0 0], .bool false]) (by simp [results, Tryd.results15, go_sem, t0, t1, t2]) rfl ?_
  rw [HR.out]
  first | exact ⟨none, 0, rfl, OwnI.none_, B0.out⟩ | exact fret_put2 (r := none) B0.out OwnI.none_ rfl _ _ _
theorem fopt_none {w w1 : World} (hb : Below w.heap.size w w1) : FRet none w (.returned (.tuple #[.agg #[.int .i64 0, .int .i64 0, .slice none 0 0], .bool false])) w1 := ⟨none, 0, rfl, OwnI.none_, hb⟩
/-- the loop of ParseField: rows that are read -/
structure Pf (w : World) (gr gw n : Nat) (ls : List (List UInt8)) (k : Nat) (R : List (List Int)) (A : Nat → Option Addr) (C : Nat → Nat) (W : Nat) (wr : World) : Prop where
  len : R.length = k
  rd : rdRows (ls.take k) = some R
  wid : ∀ r ∈ R, r.length = W
  rows : wr.rowIs gr 24 n (rowsV A C W k)
  words : Row wr gw 9 (txt ls)
  each : ∀ j (h : j < R.length), ∃ g, At wr (A j) g R[j]
  box : Box wr w.heap.size 26 (.int .i64 0) (.int .i64 0) (.slice none 0 0)
  b : Below w.heap.size w wr
theorem Pf.step {w w1 w2 : World} {gr gw n : Nat} {ls : List (List UInt8)} {k : Nat} {R : List (List Int)} {A : Nat → Option Addr} {C : Nat → Nat} {W : Nat} (h : Pf w gr gw n ls k R A C W w1) (b : Below w1.heap.size w1 w2) : Pf w gr gw n ls k R A C W w2 :=
  ⟨h.len, h.rd, h.wid, h.rows.of_block (b.block gr h.rows.lt), h.words.of_block (b.block gw h.words.lt), fun j hj => by obtain ⟨g, hg⟩ := h.each j hj; exact ⟨g, hg.below b⟩, h.box.below b, below_then h.b b⟩
theorem Pf.put {w w1 : World} {gr gw n : Nat} {ls : List (List UInt8)} {k : Nat} {R : List (List Int)} {A : Nat → Option Addr} {C : Nat → Nat} {W : Nat} (h : Pf w gr gw n ls k R A C W w1) (hk : k < ls.length) {v : List Int} (hv : rdRow ls[k] = some v) (hw : v.length = W) {a : Option Addr} {c : Nat} (hi : ∃ g, At w1 a g v) (hne : gw ≠ gr) (hbx : w.heap.size ≠ gr) (hlo : w.heap.size ≤ gr) :
    Pf w gr gw n ls (k + 1) (R ++ [v]) (fun j => if j = k then a else A j) (fun j => if j = k then c else C j) W (w1.setCell ⟨gr, k, none⟩ (.slice a v.length c)) := by
  have hat : ∀ {a' : Option Addr} {g' : Nat} {l : List Int}, At w1 a' g' l → ∃ g, At (w1.setCell ⟨gr, k, none⟩ (.slice a v.length c)) a' g l := by
    intro a' g' l h9
    rcases h9 with h9 | ⟨h9, h10⟩
    · exact ⟨g', .inl h9⟩
    · refine ⟨g', .inr ⟨h9, h10.other (p := ⟨gr, k, none⟩) ?_ _⟩⟩
      rintro rfl
      obtain ⟨c0, h1, _⟩ := h.rows
      obtain ⟨c2, h2, _⟩ := h10
      rw [h1] at h2
      injection h2 with h2
      injection h2 with _ h3
      exact absurd h3 (by decide)
  refine ⟨by rw [List.length_append, h.len]; rfl, rdRows_step hk h.rd hv, fun r hr => ?_, ?_, h.words.other (show gw ≠ gr from hne) _, fun j hj => ?_, h.box.other (show w.heap.size ≠ gr from hbx) _, h.b.setCell hlo _⟩
  · rw [List.mem_append] at hr
    rcases hr with hr | hr
    · exact h.wid r hr
    · rw [List.mem_singleton] at hr; subst hr; exact hw
  · refine (h.rows.set k _).congr (fun j _ => ?_)
    unfold rowsV
    by_cases e : j = k
    · subst e; simp [hw]
    · rw [if_neg e]
      by_cases e2 : j < k
      · rw [if_pos e2, if_pos (by omega)]
        simp only [if_neg e]
      · rw [if_neg e2, if_neg (by omega)]
  · rw [List.length_append, List.length_singleton, h.len] at hj
    by_cases e : j = k
    · subst e
      obtain ⟨g', h9⟩ := hi
      have e9 : (R ++ [v])[j]'(by rw [List.length_append, List.length_singleton, h.len]; omega) = v := by
        rw [List.getElem_append_right (by rw [h.len]; exact Nat.le_refl _)]
        simp
      rw [e9]
      simp only [if_true]
      exact hat h9
    · have hj2 : j < R.length := by rw [h.len]; omega
      obtain ⟨g', h9⟩ := h.each j hj2
      have e9 : (R ++ [v])[j]'(by rw [List.length_append, List.length_singleton, h.len]; omega) = R[j] := List.getElem_append_left hj2
      rw [e9]
      simp only [if_neg e]
      exact hat h9
end Go.Proofs.YtgfgimpglaepaabDoor
namespace Go.Proofs.YtgfgimpglaepaabDoor
open Go.RowKit
set_option linter.unusedVariables false
set_option linter.unusedSimpArgs false
theorem Pf.any {w w1 : World} {gr gw n : Nat} {ls : List (List UInt8)} {R : List (List Int)} {A : Nat → Option Addr} {C : Nat → Nat} {W : Nat} (h : Pf w gr gw n ls 0 R A C W w1) (W' : Nat) : Pf w gr gw n ls 0 R A C W' w1 := by
  have e : R = [] := List.eq_nil_of_length_eq_zero h.len
  subst e
  exact ⟨rfl, h.rd, (fun r hr => by cases hr), h.rows.congr (fun j _ => by unfold rowsV; rw [if_neg (by omega), if_neg (by omega)]), h.words, h.each, h.box, h.b⟩
theorem pf_fail {b : List UInt8} {k : Nat} (hk : k < (splitL b 10).length) (h : rdRow (splitL b 10)[k] = none) : pfR (b ++ [10]) = none := by
  rw [pf_end]
  split
  · rw [rdRows_fail hk h]
  · rfl
theorem pf_uneven {b : List UInt8} {k W : Nat} {R : List (List Int)} {vs : List Int} (hk : k < (splitL b 10).length) (h0 : 0 < k) (hl : R.length = k) (hr : rdRows ((splitL b 10).take k) = some R) (hw : ∀ r ∈ R, r.length = W) (hv : rdRow (splitL b 10)[k] = some vs) (hne : vs.length ≠ W) : pfR (b ++ [10]) = none := by
  rw [pf_end]
  split
  · cases hS : rdRows (splitL b 10) with
    | none => rfl
    | some S =>
      have h1 := rdRows_pre k hS
      rw [hr] at h1
      injection h1 with h1
      have h2 := rdRows_pre (k + 1) hS
      rw [rdRows_step hk hr hv] at h2
      injection h2 with h2
      have hm : vs ∈ S := List.mem_of_mem_take (i := k + 1) (by rw [← h2]; simp)
      obtain ⟨r0, R', rfl⟩ := List.exists_cons_of_ne_nil (l := R) (by intro e; subst e; simp at hl; omega)
      have hm0 : r0 ∈ S := List.mem_of_mem_take (i := k) (by rw [← h1]; simp)
      have := hw r0 (by simp)
      simp only
      rw [rows_uneven hS hm0 hm (by omega)]
      simp
  · rfl
theorem pf_yes {b : List UInt8} {R : List (List Int)} {W : Nat} (h8 : (splitL b 10).length ≤ 8) (hr : rdRows (splitL b 10) = some R) (hw : ∀ r ∈ R, r.length = W) : pfR (b ++ [10]) = some ((W : Int), ((splitL b 10).length : Int), R.flatten) ∧ 1 ≤ W ∧ W ≤ 8 := by
  have hl := rdRows_len hr
  have hp := splitL_pos b 10
  obtain ⟨r0, R', rfl⟩ := List.exists_cons_of_ne_nil (l := R) (by intro e; subst e; simp at hl; omega)
  have h0 := hw r0 (by simp)
  have hs : sameW (r0 :: R') = true := same_iffW.2 (fun r hr' => by rw [hw r hr']; exact h0.symm)
  obtain ⟨h1, h2, _⟩ := (rdRows_some hr).2 r0 (by simp)
  refine ⟨?_, by omega, by omega⟩
  rw [pf_end, if_pos h8, hr]
  simp only
  rw [if_pos hs, hl]
  show some ((r0.length : Int), _, _) = _
  rw [h0]
set_option maxRecDepth 100000 in
set_option maxHeartbeats 2000000 in
theorem implPF_yes (s : ByteArray) (b : List UInt8) (w : World) (hs : s.size ≤ 1048576) (hb : s.data.toList = b ++ [10]) (ht : Tab w) (he : Errs w) :
    Calls Tryd.prog 15 #[.string s] w (FRet (pfR s.data.toList) w) := by
  have hbl : b.length + 1 = s.size := by
    have h1 : s.data.toList.length = s.size := rfl
    rw [hb] at h1
    simpa using h1
  have HC := Lib.hid (fun W => Tryd.strings_CutSuffix s ⟨#[10]⟩ W (by omega))
  have e10 : (⟨#[10]⟩ : ByteArray).data.toList = [10] := rfl
  rw [e10, hb, (suffix_yes b).1, (suffix_yes b).2] at HC
  rw [hb]
  have eb : (⟨b.toArray⟩ : ByteArray) = baL b := rfl
  rw [eb] at HC
  have hbz : (baL b).size = b.length := by show b.toArray.size = _; simp
  have X0 := Box.new w 26 (.int .i64 0) (.int .i64 0) (.slice none 0 0)
  have B0 := Lib.hid (below_all w (.cells #[.int .i64 0, .int .i64 0, .slice none 0 0] 26))
  have HT := Lib.hid (fun W (G : Below w.heap.size w W) => ht.below G)
  have HE := Lib.hid (fun W (G : Below w.heap.size w W) => he.below G)
  clear ht he e10 eb
  by_cases hlong : 4000 < b.length
  · have HR := Lib.hid (show pfR (b ++ [10]) = none from pf_long (by simp; omega))
    have HSP := Lib.hid (fun W => splitTo_no (baL b) ⟨#[10]⟩ W (by omega) (by omega))
    have R0 := Lib.hid X0
    clear X0 hb
    generalize baL b = bs at *
    go_enter Tryd.func15, Tryd.ntmps15
    go_wp2_with fail
    refine (HC.out _).mono ?_
    rintro e w1 ⟨rfl, rfl⟩
    go_wp2_with fail
    refine (HSP.out _).mono ?_
    rintro e w2 ⟨⟨v, rfl⟩, b2⟩
    have R2 := R0.out.below b2
    obtain ⟨t0, t1, t2⟩ := R2.cells
    have g0 := R2.frozen 0
    have g1 := R2.frozen 1
    have g2 := R2.frozen 2
    have B2 := Lib.hid (below_then B0.out b2)
    clear b2 R2 R0 B0
    go_wp2
    refine bodyPost_ret (v := .tuple #[.agg #[.int .i64 0, .int .i64 0, .slice none 0 0], .bool false]) (by simp [results, Tryd.results15, go_sem, t0, t1, t2]) rfl ?_
    rw [HR.out]
    first | exact fopt_none B2.out | exact fret_put2 (r := none) B2.out OwnI.none_ rfl _ _ _
  · have HSP := Lib.hid (fun W => splitTo_yes (baL b) ⟨#[10]⟩ W (by omega) rfl)
    have e10 : (((⟨#[10]⟩ : ByteArray)[0]'(by decide)).toNat : Int) = 10 := rfl
    rw [e10, baL_list] at HSP
    unfold StPost at HSP
    have hpos := splitL_pos b 10
    have HLL := Lib.hid (fun y (h : y ∈ splitL b 10) => Nat.le_trans (line_len h) (show b.length ≤ 4000 by omega))
    have HFAIL := Lib.hid (fun k (hk : k < (splitL b 10).length) h => pf_fail hk h)
    have HUN := Lib.hid (fun k (hk : k < (splitL b 10).length) R W vs h0 h1 h2 h3 h4 h5 => pf_uneven (R := R) (W := W) (vs := vs) hk h0 h1 h2 h3 h4 h5)
    have HYES := Lib.hid (fun R W h8 h1 h2 => pf_yes (b := b) (R := R) (W := W) h8 h1 h2)
    have HLONG := Lib.hid (show 8 < (splitL b 10).length → pfR (b ++ [10]) = none from fun h => by rw [pf_end, if_neg (by omega)])
    generalize splitL b 10 = ls at *
    generalize pfR (b ++ [10]) = r at *
    obtain ⟨n, hn⟩ : ∃ n, ls.length = n := ⟨_, rfl⟩
    rw [hn] at HSP hpos
    have R0 := Lib.hid X0
    clear X0 hb
    by_cases h8 : n ≤ 8
    · have hmk := fun W => run_make_row' (P := Tryd.prog) 56 24 (.slice none 0 0) 24 Tryd.underlying56 infoRow rfl .i64 .i64 n (by omega) (by omega) W
      have h8i : ¬ (8 : Int) < (n : Int) := by omega
      have HN := Lib.hid hn
      clear hn
      generalize baL b = bs at *
      go_enter Tryd.func15, Tryd.ntmps15
      go_wp2_with fail
      refine (HC.out _).mono ?_
      rintro e w1 ⟨rfl, rfl⟩
      go_wp2_with fail
      refine (HSP.out _).mono ?_
      rintro e w2 ⟨v, rfl, hown, b2⟩
      obtain ⟨cap, gw, rfl, hgw, hrow, hcap⟩ := Row.of_own hown hpos
      have R2 := Lib.hid (R0.out.below b2)
      have B2 := Lib.hid (below_then B0.out b2)
      have HW2 := Lib.hid hrow
      have hgl := hrow.lt
      clear hown b2 hrow R0 B0
      obtain ⟨gr, hgr⟩ : ∃ q, w2.heap.size = q := ⟨_, rfl⟩
      have hbl2 := R2.out.lt
      go_wp2
      clear hmk
      have HGR := Lib.hid hgr
      clear hgr
      have HP0 : Hid (Pf w gr gw n ls 0 [] (fun _ => none) (fun _ => 0) 0 (w2.alloc (.cells (madeCells #[.slice none 0 0] n) 24))) := Lib.hid (by
        refine ⟨rfl, rfl, (fun r hr => by cases hr), ?_, HW2.out.alloc _, (fun j hj => by simp at hj), R2.out.alloc _, B2.out.alloc B2.out.size _⟩
        have h9 := (World.rowIs_made w2 (.slice none 0 0) n 24).congr (g := rowsV (fun _ => none) (fun _ => 0) 0 0) (fun i _ => by simp [rowsV])
        rw [HGR.out] at h9
        exact h9)
      have hlo : w.heap.size < gr := by rw [← HGR.out]; exact hbl2
      have hgwr : gw ≠ gr := by rw [← HGR.out]; omega
      have HLO := Lib.hid (And.intro hlo hgwr)
      clear hlo hgwr R2 B2 HW2 hbl2
      go_loopw [39] (fun i wr => ∃ (k : Nat) (R : List (List Int)) (A : Nat → Option Addr) (C : Nat → Nat) (W : Nat), k ≤ n ∧ i = .int .i64 k ∧ Pf w gr gw n ls k R A C W wr) (fun i _ => n - (intOf i).toNat)
      case atStart => exact ⟨0, _, _, _, _, Nat.zero_le _, rfl, HP0.out⟩
      case round =>
        clear HP0
        obtain ⟨k, R, A, C, W, hk, rfl, hP⟩ := hrel
        have HP := Lib.hid hP
        by_cases hlt : k < n
        · have hi : (k : Int) < (n : Int) := by omega
          have hi0 : (0 : Int) ≤ (k : Int) := by omega
          have hkw : k < ls.length := by have := HN.out; omega
          have ck := hP.words.cell (k := k) (by rw [txt_length]; exact hkw)
          have ek : (txt ls)[k]'(by rw [txt_length]; exact hkw) = .string (baL ls[k]) := by simp [txt, baL]
          rw [ek] at ck
          have HROW := Lib.hid (parseRow_any ls[k] wr (HLL.out _ (List.getElem_mem hkw)) (HT.out _ hP.b) (HE.out _ hP.b))
          unfold RwPost at HROW
          clear ek hP
          cases hc : rdRow ls[k] with
          | none =>
            have HNO := Lib.hid (HFAIL.out k hkw hc)
            rw [hc] at HROW
            generalize baL ls[k] = sk at *
            clear hc
            go_wp2_with fail
            refine HROW.out.mono ?_
            rintro e w3 ⟨a3, c3, rfl, o3, b3⟩
            have HP3 := HP.out.step b3
            obtain ⟨t0, t1, t2⟩ := HP3.box.cells
            have g0 := HP3.box.frozen 0
            have g1 := HP3.box.frozen 1
            have g2 := HP3.box.frozen 2
            have B3 := Lib.hid HP3.b
            clear b3 HP3 o3 ck
            go_wp2
            refine bodyPost_ret (v := .tuple #[.agg #[.int .i64 0, .int .i64 0, .slice none 0 0], .bool false]) (by simp [results, Tryd.results15, go_sem, t0, t1, t2]) rfl ?_
            rw [HNO.out]
            first | exact fopt_none B3.out | exact fret_put2 (r := none) B3.out OwnI.none_ rfl _ _ _
          | some vs =>
            have HRD := Lib.hid hc
            rw [hc] at HROW
            generalize baL ls[k] = sk at *
            clear hc
            have HEX : ∀ a w', OwnI w' wr.heap.size a (optL (some vs)) → ∃ g, At w' a g vs := fun a w' h => by obtain ⟨g, _, h9⟩ := h; exact ⟨g, h9⟩
            have HEX := Lib.hid HEX
            by_cases hk0 : k = 0
            · subst hk0
              have HPA := Lib.hid (HP.out.any vs.length)
              go_wp2_with fail
              refine HROW.out.mono ?_
              rintro e w3 ⟨a3, c3, rfl, o3, b3⟩
              have HP3 := Lib.hid (HPA.out.step b3)
              have hfz := HP3.out.rows.frozen 0
              have hov := HP3.out.rows.cell (i := 0) (by omega)
              generalize rowsV A C vs.length 0 0 = ov at hov
              have hA3 := Lib.hid (HEX.out _ _ o3)
              have HP4 := Lib.hid (HP3.out.put hkw HRD.out rfl (c := c3) hA3.out HLO.out.2 (by have := HLO.out.1; omega) (by have := HLO.out.1; omega))
              clear b3 o3 ck
              go_wp2
              go_roundw
              case rel => exact ⟨1, _, _, _, _, by omega, rfl, HP4.out⟩
              case measure => simp [intOf]; omega
            · have hk1 : (0 : Int) < (k : Int) := by omega
              by_cases hw : vs.length = W
              · subst hw
                go_wp2_with fail
                refine HROW.out.mono ?_
                rintro e w3 ⟨a3, c3, rfl, o3, b3⟩
                have HP3 := Lib.hid (HP.out.step b3)
                have h0 := HP3.out.rows.cell (i := 0) (by omega)
                have e0 : rowsV A C vs.length k 0 = .slice (A 0) vs.length (C 0) := if_pos (by omega)
                rw [e0] at h0
                have hfz := HP3.out.rows.frozen k
                have hov := HP3.out.rows.cell (i := k) hlt
                generalize rowsV A C vs.length k k = ov at hov
                have hA3 := Lib.hid (HEX.out _ _ o3)
                have HP4 := Lib.hid (HP3.out.put hkw HRD.out rfl (c := c3) hA3.out HLO.out.2 (by have := HLO.out.1; omega) (by have := HLO.out.1; omega))
                have hoz : (optL (some vs)).length = vs.length := rfl
                rw [hoz]
                clear b3 o3 ck e0 hoz
                go_wp2
                go_roundw
                case rel => exact ⟨k + 1, _, _, _, _, by omega, by go_num, HP4.out⟩
                case measure => simp [intOf]; omega
              · have HNO := Lib.hid (HUN.out k hkw R W vs (by omega) HP.out.len HP.out.rd HP.out.wid HRD.out hw)
                have hne : ((vs.length : Int) != (W : Int)) = true := by simp; omega
                have hne2 : (vs.length != W) = true := by simp; omega
                go_wp2_with fail
                refine HROW.out.mono ?_
                rintro e w3 ⟨a3, c3, rfl, o3, b3⟩
                have HP3 := Lib.hid (HP.out.step b3)
                have h0 := HP3.out.rows.cell (i := 0) (by omega)
                have e0 : rowsV A C W k 0 = .slice (A 0) W (C 0) := if_pos (by omega)
                rw [e0] at h0
                obtain ⟨t0, t1, t2⟩ := HP3.out.box.cells
                have g0 := HP3.out.box.frozen 0
                have g1 := HP3.out.box.frozen 1
                have g2 := HP3.out.box.frozen 2
                have B3 := Lib.hid HP3.out.b
                have hoz : (optL (some vs)).length = vs.length := rfl
                rw [hoz]
                clear b3 o3 ck e0 hoz HP3 hw
                go_wp2
                refine bodyPost_ret (v := .tuple #[.agg #[.int .i64 0, .int .i64 0, .slice none 0 0], .bool false]) (by simp [results, Tryd.results15, go_sem, t0, t1, t2]) rfl ?_
                rw [HNO.out]
                first | exact fopt_none B3.out | exact fret_put2 (r := none) B3.out OwnI.none_ rfl _ _ _
        · obtain rfl : k = n := by omega
          have hrd := hP.rd
          rw [List.take_of_length_le (by have := HN.out; omega)] at hrd
          obtain ⟨hr, hW1, hW8⟩ := HYES.out R W (by have := HN.out; omega) hrd hP.wid
          rw [HN.out] at hr
          have HR := Lib.hid hr
          have HFR := Lib.hid (fieldOfRows_any gr 0 k k W R A C wr hP.len (by omega) h8 hW1 hW8 hP.wid hP.rows.lt (fun j hj => by
            have h9 := hP.rows.cell (i := j) hj
            rw [show rowsV A C W k j = .slice (A j) W (C j) from if_pos hj] at h9
            rw [Nat.zero_add]; exact h9) (fun j hj => by obtain ⟨g9, h9⟩ := hP.each j hj; exact h9.ints))
          clear hP hr hrd hlt
          go_wp2_with fail
          refine HFR.out.mono ?_
          rintro e w3 ⟨a3, c3, rfl, o3, b3⟩
          have HP3 := HP.out.step b3
          obtain ⟨t0, t1, t2⟩ := HP3.box.cells
          have g0 := HP3.box.frozen 0
          have g1 := HP3.box.frozen 1
          have g2 := HP3.box.frozen 2
          have B3 := Lib.hid HP3.b
          have O3 := Lib.hid (o3.more (C := w.heap.size + 1) (by have := HP.out.box.lt; omega))
          clear b3 HP3 o3
          go_wp2
          refine bodyPost_ret (v := .tuple #[.agg #[.int .i64 W, .int .i64 k, .slice a3 R.flatten.length c3], .bool true]) (by simp [results, Tryd.results15, go_sem, t0, t1, t2]) rfl ?_
          rw [HR.out]
          exact fret_put2 (r := some ((W : Int), (k : Int), R.flatten)) B3.out O3.out rfl _ _ _
    · have HNO := Lib.hid (HLONG.out (by omega))
      have h8i : (8 : Int) < (n : Int) := by omega
      generalize baL b = bs at *
      go_enter Tryd.func15, Tryd.ntmps15
      go_wp2_with fail
      refine (HC.out _).mono ?_
      rintro e w1 ⟨rfl, rfl⟩
      go_wp2_with fail
      refine (HSP.out _).mono ?_
      rintro e w2 ⟨v, rfl, hown, b2⟩
      obtain ⟨cap, gw, rfl, hgw, hrow, hcap⟩ := Row.of_own hown hpos
      have R2 := R0.out.below b2
      obtain ⟨t0, t1, t2⟩ := R2.cells
      have g0 := R2.frozen 0
      have g1 := R2.frozen 1
      have g2 := R2.frozen 2
      have B2 := Lib.hid (below_then B0.out b2)
      clear hown b2 hrow R0 B0 R2
      go_wp2
      refine bodyPost_ret (v := .tuple #[.agg #[.int .i64 0, .int .i64 0, .slice none 0 0], .bool false]) (by simp [results, Tryd.results15, go_sem, t0, t1, t2]) rfl ?_
      rw [HNO.out]
      first | exact fopt_none B2.out | exact fret_put2 (r := none) B2.out OwnI.none_ rfl _ _ _
end Go.Proofs.YtgfgimpglaepaabDoor
namespace Go.Proofs.YtgfgimpglaepaabDoor
open Go.RowKit
set_option linter.unusedVariables false
set_option linter.unusedSimpArgs false
theorem rdS_dot {w : List UInt8} (h : w = [46]) : rdS w = some (-9999) := by unfold rdS; rw [if_pos h]
theorem rdS_yes {w : List UInt8} (h : w ≠ [46]) (h1 : pB (baL w) = true) (h2 : pN (baL w) ≠ -9999) : rdS w = some (pN (baL w)) := by unfold rdS; rw [if_neg h, if_pos ⟨h1, h2⟩]
theorem rdS_no {w : List UInt8} (h : w ≠ [46]) (h1 : pB (baL w) = false ∨ pN (baL w) = -9999) : rdS w = none := by
  unfold rdS
  rw [if_neg h, if_neg]
  rintro ⟨h2, h3⟩
  rcases h1 with h1 | h1
  · rw [h1] at h2; cases h2
  · exact h3 h1
theorem row_fail {ls : List (List UInt8)} {k m : Nat} (hk : k < ls.length) (hm : m < (splitL ls[k] 32).length) (h : rdS (splitL ls[k] 32)[m] = none) : spRows ls = none := spRows_fail hk (spAll_fail hm h)
set_option maxRecDepth 100000 in
set_option maxHeartbeats 8000000 in
theorem specPF_in (s : ByteArray) (w : World) (hs : s.size ≤ 500) (hH1 : 1 ≤ (linesP s.data.toList).length) (hH8 : (linesP s.data.toList).length ≤ 8) :
    Calls Tryd.prog 49 #[.string s] w (FRet (pfR s.data.toList) w) := by
  obtain ⟨i0, hi0', hz0, hz1, hz2⟩ := info_parts infoInt
  have HS := Lib.hid (fun W => split_any s 10 W (by omega))
  unfold SplitPost at HS
  have hl := lines_len s.data.toList
  have hsl := splitL_length s.data.toList 10
  have HFAIL := Lib.hid (fun (h : spRows (linesP s.data.toList) = none) => pfS_fail h)
  have HCHK := Lib.hid (fun R h => pfS_check (s := s.data.toList) (R := R) h)
  have HGET := Lib.hid (fun k h => lines_get (s := s.data.toList) (k := k) h)
  have hsz0 : s.data.toList.length = s.size := rfl
  have HLL := Lib.hid (fun k (h : k < (linesP s.data.toList).length) => (show (linesP s.data.toList)[k].length ≤ 500 by
    obtain ⟨h2, e⟩ := lines_get h
    rw [← e]
    have := line_len (List.getElem_mem h2)
    omega))
  obtain ⟨LS, hLS⟩ : ∃ L, linesP s.data.toList = L := ⟨_, rfl⟩
  rw [hLS] at hl HFAIL HCHK HGET HLL hH1 hH8
  clear hLS
  obtain ⟨H, hH⟩ : ∃ H, LS.length = H := ⟨_, rfl⟩
  rw [hH] at hl hH1 hH8
  have HH := Lib.hid hH
  rw [← hl] at HS
  clear hl hH hsl hsz0
  have R0 := Lib.hid (show Box ((w.alloc (.cells #[.int .i64 0, .int .i64 0, .slice none 0 0] 26)).alloc (.cells #[.int .i64 0, .int .i64 0, .slice none 0 0] 26)) w.heap.size 26 (.int .i64 0) (.int .i64 0) (.slice none 0 0) from (Box.new w _ _ _ _).alloc _)
  have N0 := Lib.hid (show Box ((w.alloc (.cells #[.int .i64 0, .int .i64 0, .slice none 0 0] 26)).alloc (.cells #[.int .i64 0, .int .i64 0, .slice none 0 0] 26)) (w.heap.size + 1) 26 (.int .i64 0) (.int .i64 0) (.slice none 0 0) by have h9 := Box.new (w.alloc (.cells #[.int .i64 0, .int .i64 0, .slice none 0 0] 26)) 26 (.int .i64 0) (.int .i64 0) (.slice none 0 0); rw [World.size_alloc] at h9; exact h9)
  have B0 := Lib.hid (show Below w.heap.size w ((w.alloc (.cells #[.int .i64 0, .int .i64 0, .slice none 0 0] 26)).alloc (.cells #[.int .i64 0, .int .i64 0, .slice none 0 0] 26)) from (below_all w _).alloc (by simp) _)
  have eH : ((H + 1 : Nat) : Int) - 1 = (H : Int) := by omega
  have hnl : ¬ (500 : Int) < (s.size : Int) := by omega
  have HIN := Lib.hid (fun W => in_yes (H : Int) 1 8 W (by omega) (by omega))
  go_enter Tryd.func49, Tryd.ntmps49
  go_wp2_with fail
  refine (HS.out _).mono ?_
  rintro e w1 ⟨v, rfl, hown, b1⟩
  have zb := b1.size
  simp only [World.size_alloc] at zb
  obtain ⟨gl, cap, hv⟩ := own_slice hown (by omega)
  subst hv
  have LROW : Row w1 gl 9 (txt (splitL s.data.toList 10)) := by
    obtain ⟨cap2, g2, e2, _, h2, _⟩ := Row.of_own hown (by omega)
    injection e2 with e3
    have e4 := Option.some.inj e3
    injection e4 with e5
    subst e5
    exact h2
  have P1 := Lib.hid (show Ps w w1.heap.size gl (splitL s.data.toList 10) 0 (H : Int) (.slice none 0 0) [] (w1.alloc (.cells #[.int .i64 0, .int .i64 (H : Int), .slice none 0 0] 26)) from
    ⟨(R0.out.below b1).alloc _, (N0.out.below b1).alloc _, Box.new _ _ _ _ _, LROW.alloc _, World.ownsRow_nil _ _ _ _, (below_then B0.out b1).alloc (below_then B0.out b1).size _, by omega⟩)
  obtain ⟨f0, f1, f2⟩ := P1.out.box.cells
  clear hown b1 LROW R0 N0 B0
  go_wp2_with fail
  refine (HIN.out _).mono ?_
  rintro e w2 ⟨rfl, rfl⟩
  go_wp2
  clear f0 f1 f2 eH hnl
  have HLK : Hid (∀ k (h : k < (splitL s.data.toList 10).length), (txt (splitL s.data.toList 10))[k]'(by rw [txt_length]; exact h) = .string (baL (splitL s.data.toList 10)[k])) := Lib.hid (fun k h => by simp [txt, baL])
  go_loopw [7] (fun i wr => ∃ (k : Nat) (R : List (List Int)) (out : Value), k ≤ H ∧ i = .int .i64 k ∧ spRows (LS.take k) = some R ∧ R.flatten.length ≤ 501 * k ∧ Ps w w1.heap.size gl (splitL s.data.toList 10) (lastW R : Int) (H : Int) out R.flatten wr) (fun i _ => H - (intOf i).toNat)
  case atStart => exact ⟨0, [], .slice none 0 0, Nat.zero_le _, rfl, rfl, by simp, P1.out⟩
  case round =>
    obtain ⟨k, R, out, hk, rfl, hR, hfl, hps⟩ := hrel
    have HP := Lib.hid hps
    have HRR := Lib.hid hR
    clear hR
    by_cases hlt : k < H
    · obtain ⟨h2, hg⟩ := HGET.out k (by rw [HH.out]; exact hlt)
      have hcell := hps.lin.cell (k := k) (by rw [txt_length]; exact h2)
      rw [HLK.out k h2, hg] at hcell
      have hll := HLL.out k (by rw [HH.out]; exact hlt)
      have HNX := Lib.hid (fun vs (h : spAll (splitL (LS[k]'(by rw [HH.out]; exact hlt)) 32) = some vs) => spRows_step (ls := LS) (k := k) (by rw [HH.out]; exact hlt) HRR.out h)
      have HNO := Lib.hid (fun m (hm : m < (splitL (LS[k]'(by rw [HH.out]; exact hlt)) 32).length) h => HFAIL.out (row_fail (ls := LS) (k := k) (by rw [HH.out]; exact hlt) hm h))
      obtain ⟨line, hline⟩ : ∃ L, LS[k]'(by rw [HH.out]; exact hlt) = L := ⟨_, rfl⟩
      rw [hline] at hcell hll HNX HNO
      clear hg h2 hline
      have HSP := Lib.hid (fun W => split_any (baL line) 32 W (by show (baL line).data.toList.length ≤ 1048576; rw [baL_list]; omega))
      rw [baL_list] at HSP
      unfold SplitPost at HSP
      have hwl := splitL_length line 32
      have hwp := splitL_pos line 32
      have HWL := Lib.hid (fun w (h : w ∈ splitL line 32) => Nat.le_trans (word_len h) hll)
      obtain ⟨WS, hWS⟩ : ∃ L, splitL line 32 = L := ⟨_, rfl⟩
      rw [hWS] at HSP hwl hwp HNX HNO HWL
      clear hWS
      obtain ⟨n, hn⟩ : ∃ n, WS.length = n := ⟨_, rfl⟩
      rw [hn] at hwl hwp HSP
      have HN := Lib.hid hn
      clear hn
      have hn501 : n ≤ 501 := by omega
      obtain ⟨c0, c1, c2⟩ := hps.box.cells
      have g0 := hps.box.frozen 0
      have zf := hps.box.lt
      have hi : (k : Int) < (H : Int) := by omega
      have hi1 : (k : Int) < (H : Int) + 1 := by omega
      have hi0 : (0 : Int) ≤ (k : Int) := by omega
      clear hps
      go_wp2_with fail
      refine (HSP.out _).mono ?_
      rintro e w3 ⟨v3, rfl, hown3, b3⟩
      obtain ⟨gw, capw, hv3⟩ := own_slice hown3 (by omega)
      subst hv3
      have WROW : Row w3 gw 9 (txt WS) := by
        obtain ⟨cap2, g2, e2, _, h2, _⟩ := Row.of_own hown3 (by omega)
        injection e2 with e3
        have e4 := Option.some.inj e3
        injection e4 with e5
        subst e5
        exact h2
      have P3 := HP.out.step b3
      obtain ⟨c0, c1, c2⟩ := P3.box.cells
      have g0 := P3.box.frozen 0
      have zf3 := P3.box.lt
      have P4 := Lib.hid (P3.wide (n : Int))
      have W4 := Lib.hid (WROW.other (p := ⟨w1.heap.size, 0, none⟩) (show gw ≠ w1.heap.size from row_ne_box P3.box WROW (by decide)) (.int .i64 (n : Int)))
      clear hown3 b3 WROW P3
      go_wp2
      clear c0 c1 c2 g0
      have HLW : Hid (∀ j (h : j < WS.length), (txt WS)[j]'(by rw [txt_length]; exact h) = .string (baL WS[j])) := Lib.hid (fun j h => by simp [txt, baL])
      go_loopw [9] (fun i wr => ∃ (m : Nat) (vs : List Int) (out : Value), m ≤ n ∧ i = .int .i64 m ∧ spAll (WS.take m) = some vs ∧ Ps w w1.heap.size gl (splitL s.data.toList 10) (n : Int) (H : Int) out (R.flatten ++ vs) wr ∧ Row wr gw 9 (txt WS)) (fun i _ => n - (intOf i).toNat)
      case atStart => exact ⟨0, [], out, Nat.zero_le _, rfl, rfl, by rw [List.append_nil]; exact P4.out, W4.out⟩
      case round =>
        obtain ⟨m, vs, out', hm, rfl, hvs, hp5, hw5⟩ := hrel
        have P5 := Lib.hid hp5
        have W5 := Lib.hid hw5
        have HVS := Lib.hid hvs
        have hvl := spAll_len hvs
        rw [List.length_take, HN.out] at hvl
        clear hvs hp5
        by_cases hltm : m < n
        · have hltW : m < WS.length := by rw [HN.out]; exact hltm
          have hcell := hw5.cell (k := m) (by rw [txt_length]; exact hltW)
          rw [HLW.out m hltW] at hcell
          have hxl := HWL.out _ (List.getElem_mem hltW)
          have HST := Lib.hid (fun v (h : rdS WS[m] = some v) => spAll_step hltW HVS.out h)
          have HNM := Lib.hid (HNO.out m hltW)
          have hLl : (R.flatten ++ vs).length ≤ 5000 := by rw [List.length_append]; omega
          obtain ⟨L, hL⟩ : ∃ L, R.flatten ++ vs = L := ⟨_, rfl⟩
          rw [hL] at P5 hLl
          have HLL2 := Lib.hid hL
          obtain ⟨x, hx⟩ : ∃ x, WS[m] = x := ⟨_, rfl⟩
          rw [hx] at hcell hxl HST HNM
          clear hx hL hvl hw5 hltW
          have HRD := Lib.hid (fun W => read_any (baL x) W (by show (baL x).data.toList.length ≤ 1048576; rw [baL_list]; omega))
          have hbd := pN_bd (baL x)
          have HRY := Lib.hid (fun h h1 h2 => rdS_yes (w := x) h h1 h2)
          have HRN := Lib.hid (fun h h1 => rdS_no (w := x) h h1)
          have HRDOT := Lib.hid (fun h => rdS_dot (w := x) h)
          have hbl := baL_toList x
          generalize pN (baL x) = pn at *
          generalize pB (baL x) = pb at *
          have hi5 : (m : Int) < (n : Int) := by omega
          have hi50 : (0 : Int) ≤ (m : Int) := by omega
          go_wp2_with fail
          refine (HRD.out _).mono ?_
          rintro e w6 ⟨rfl, d6⟩
          have P6 := Lib.hid (P5.out.step (d6.below _))
          have W6 := Lib.hid (W5.out.drew d6)
          have hcell6 : w6.cell? ⟨gw, m, none⟩ = some (.string (baL x)) := (d6.cell _).trans hcell
          clear d6 hcell P5 W5
          by_cases hdot : x = [46]
          · have hq : ((baL x).toList == [46]) = true := by rw [hbl]; exact beq_iff_eq.2 hdot
            have RDYES := HRDOT.out hdot
            have HDOT := Lib.hid hdot
            clear hdot hbl
            have HV := Lib.hid (HST.out _ RDYES)
            obtain ⟨c0, c1, c2⟩ := P6.out.box.cells
            have g2 := P6.out.box.frozen 2
            have zb6 := P6.out.b.size
            have zo6 := P6.out.box.lt
            go_wp2_with (at_builtin; refine wpList_append_own _ rfl _ _ 24 rfl (w.heap.size + 1) 3 i0 (.int .i64 0) 1 8 Tryd.underlying24 hi0' hz0 hz1 hz2 rfl (by decide) _ L.length (iv L) rfl (P6.out.own.alloc _) ⟨w6.heap.size, 0, none⟩ 1 1 [.int .i64 (-9999)] rfl rfl (cell_one_new _ _ _) (by simp [Value.oneCell']) (by unfold maxLen; omega) (by omega) (by simp; omega) ?_; intro v' w7 hown7 hgrow7 _; obtain ⟨g7, cap7, rfl, ⟨u7, hu7⟩, hf7, hz7, P7_, KR⟩ := P6.out.put (x := (-9999)) hown7 hgrow7; have P7 := Lib.hid P7_; have W7 := Lib.hid (KR W6.out); clear hown7 hgrow7 P7_ KR)
            go_roundw
            case rel => exact ⟨m + 1, vs ++ [(-9999)], _, by omega, by go_num, HV.out, by rw [← List.append_assoc, HLL2.out]; exact P7.out, W7.out⟩
            case measure => simp [intOf]; omega
          · have hq : ((baL x).toList == [46]) = false := by rw [hbl]; exact beq_eq_false_iff_ne.2 hdot
            by_cases hmis : pn = -9999
            · have RDNO := HRN.out hdot (.inr hmis)
              have e1 : (pn == -9999) = true := by rw [hmis]; rfl
              have HDOT := Lib.hid hdot
              have HMIS := Lib.hid hmis
              clear hdot hmis hbl
              have HF := Lib.hid (HNM.out RDNO)
              obtain ⟨t0, t1, t2⟩ := P6.out.res.cells
              obtain ⟨n0, n1, n2⟩ := P6.out.non.cells
              have g0 := P6.out.res.frozen 0
              have g1 := P6.out.res.frozen 1
              have g2 := P6.out.res.frozen 2
              go_wp2
              refine bodyPost_ret (v := .tuple #[.agg #[.int .i64 0, .int .i64 0, .slice none 0 0], .bool false]) (by simp [results, Tryd.results49, go_sem, t0, t1, t2]) rfl ?_
              rw [HF.out]
              first | exact fopt_none3 P6.out.b | exact fret_put3 (r := none) P6.out.b OwnI.none_ rfl _ _ _
            · have e1 : (pn == -9999) = false := beq_eq_false_iff_ne.2 hmis
              cases hpb : pb with
              | false =>
                have RDNO := HRN.out hdot (.inl hpb)
                subst hpb
                have HDOT := Lib.hid hdot
                have HMIS := Lib.hid hmis
                clear hdot hmis hbl
                have HF := Lib.hid (HNM.out RDNO)
                obtain ⟨t0, t1, t2⟩ := P6.out.res.cells
                obtain ⟨n0, n1, n2⟩ := P6.out.non.cells
                have g0 := P6.out.res.frozen 0
                have g1 := P6.out.res.frozen 1
                have g2 := P6.out.res.frozen 2
                go_wp2
                refine bodyPost_ret (v := .tuple #[.agg #[.int .i64 0, .int .i64 0, .slice none 0 0], .bool false]) (by simp [results, Tryd.results49, go_sem, t0, t1, t2]) rfl ?_
                rw [HF.out]
                first | exact fopt_none3 P6.out.b | exact fret_put3 (r := none) P6.out.b OwnI.none_ rfl _ _ _
              | true =>
                have RDYES := HRY.out hdot hpb hmis
                subst hpb
                have HDOT := Lib.hid hdot
                have HMIS := Lib.hid hmis
                clear hdot hmis hbl
                have HV := Lib.hid (HST.out _ RDYES)
                obtain ⟨c0, c1, c2⟩ := P6.out.box.cells
                have g2 := P6.out.box.frozen 2
                have zb6 := P6.out.b.size
                have zo6 := P6.out.box.lt
                go_wp2_with (at_builtin; refine wpList_append_own _ rfl _ _ 24 rfl (w.heap.size + 1) 3 i0 (.int .i64 0) 1 8 Tryd.underlying24 hi0' hz0 hz1 hz2 rfl (by decide) _ L.length (iv L) rfl (P6.out.own.alloc _) ⟨w6.heap.size, 0, none⟩ 1 1 [.int .i64 pn] rfl rfl (cell_one_new _ _ _) (by simp [Value.oneCell']) (by unfold maxLen; omega) (by omega) (by simp; omega) ?_; intro v' w7 hown7 hgrow7 _; obtain ⟨g7, cap7, rfl, ⟨u7, hu7⟩, hf7, hz7, P7_, KR⟩ := P6.out.put (x := pn) hown7 hgrow7; have P7 := Lib.hid P7_; have W7 := Lib.hid (KR W6.out); clear hown7 hgrow7 P7_ KR)
                go_roundw
                case rel => exact ⟨m + 1, vs ++ [pn], _, by omega, by go_num, HV.out, by rw [← List.append_assoc, HLL2.out]; exact P7.out, W7.out⟩
                case measure => simp [intOf]; omega
        · obtain rfl : m = n := by omega
          rw [List.take_of_length_le (by rw [HN.out]; exact Nat.le_refl _)] at HVS
          have HNK := Lib.hid (HNX.out vs HVS.out)
          have hlw := lastW_snoc R vs
          have hvl2 : vs.length = m := by rw [hvl]; omega
          rw [hvl2] at hlw
          have HLW2 := Lib.hid hlw
          have HFL : Hid ((R ++ [vs]).flatten = R.flatten ++ vs) := Lib.hid (by simp)
          have HFL2 : Hid ((R ++ [vs]).flatten.length ≤ 501 * (k + 1)) := Lib.hid (by rw [HFL.out, List.length_append]; omega)
          clear hlw hvl hvl2 hw5
          go_wp2
          go_roundw
          case rel => exact ⟨k + 1, R ++ [vs], out', by omega, by go_num, HNK.out, HFL2.out, by rw [HLW2.out, HFL.out]; exact P5.out⟩
          case measure => simp [intOf]; omega
    · obtain rfl : k = H := by omega
      rw [List.take_of_length_le (by rw [HH.out]; exact Nat.le_refl _)] at HRR
      have HCK := HCHK.out R HRR.out
      rw [HH.out] at HCK
      clear hps
      obtain ⟨W, hW⟩ : ∃ W, lastW R = W := ⟨_, rfl⟩
      rw [hW] at HP HCK
      clear hW
      obtain ⟨L, hL⟩ : ∃ L, R.flatten = L := ⟨_, rfl⟩
      rw [hL] at HP HCK hfl
      clear hL
      obtain ⟨a, c, hv, ho⟩ := ownI_of HP.out.own rfl
      subst hv
      have HO := Lib.hid ho
      have hLl : L.length ≤ 1048576 := by omega
      have HGD := Lib.hid (fun v Wd h hB => specGood_is (W : Int) (k : Int) a L c (Wd.heap.size) v Wd h hB hLl)
      obtain ⟨c0, c1, c2⟩ := HP.out.box.cells
      have zf := HP.out.box.lt
      have hlt0 : ¬ (k : Int) < (k : Int) := by omega
      clear ho
      go_wp2_with fail
      rcases HCK with ⟨hnone, hbad⟩ | ⟨hsome, hgood, htext⟩
      · by_cases hg : goodB (W : Int) (k : Int) L = true
        · have hsh := shapeB_iff.1 (good_shape hg)
          have hgl := good_len hg
          have hgl2 : L.length = W * k := by (have hq9 : ((W * k : Nat) : Int) = (W : Int) * (k : Int) := by push_cast; rfl); omega
          have HTX := Lib.hid (fun Wd h => l2Text_any W k a L c Wd h (by omega) (by omega) (by omega) (by omega) hgl2 (good_bd hg))
          refine (HGD.out true _ HO.out.ints (Nat.le_refl _) hg).mono ?_
          rintro e w2 ⟨rfl, b2⟩
          have P2 := Lib.hid (HP.out.step b2)
          have O2 := Lib.hid (HO.out.below b2)
          obtain ⟨c0, c1, c2⟩ := P2.out.box.cells
          clear b2 hsh hgl hgl2
          go_wp2_with fail
          refine (HTX.out _ O2.out.ints).mono ?_
          rintro e w3 ⟨rfl, b3⟩
          have P3 := Lib.hid (P2.out.step b3)
          have O3 := Lib.hid (O2.out.below b3)
          obtain ⟨d0, d1, d2⟩ := P3.out.box.cells
          obtain ⟨t0, t1, t2⟩ := P3.out.res.cells
          obtain ⟨n0, n1, n2⟩ := P3.out.non.cells
          have g0 := P3.out.res.frozen 0
          have g1 := P3.out.res.frozen 1
          have g2 := P3.out.res.frozen 2
          clear b3 P2 O2
          have HNN := Lib.hid hnone
          have hne : textT (chunks L W k) ≠ s.data.toList := by
            rcases hbad with h | h
            · rw [hg] at h; cases h
            · exact h
          have hq := str_notl' hne
          generalize textT (chunks L W k) = T at *
          clear hne hbad hnone hg
          go_wp2
          refine bodyPost_ret (v := .tuple #[.agg #[.int .i64 0, .int .i64 0, .slice none 0 0], .bool false]) (by simp [results, Tryd.results49, go_sem, t0, t1, t2]) rfl ?_
          rw [HNN.out]
          first | exact fopt_none3 P3.out.b | exact fret_put3 (r := none) P3.out.b OwnI.none_ rfl _ _ _
        · have hgf : goodB (W : Int) (k : Int) L = false := by simpa using hg
          refine (HGD.out false _ HO.out.ints (Nat.le_refl _) hgf).mono ?_
          rintro e w2 ⟨rfl, b2⟩
          have P2 := HP.out.step b2
          obtain ⟨t0, t1, t2⟩ := P2.res.cells
          obtain ⟨n0, n1, n2⟩ := P2.non.cells
          have g0 := P2.res.frozen 0
          have g1 := P2.res.frozen 1
          have g2 := P2.res.frozen 2
          have PB := Lib.hid P2.b
          have HNN := Lib.hid hnone
          clear b2 hgf hg hbad P2 hnone
          go_wp2
          refine bodyPost_ret (v := .tuple #[.agg #[.int .i64 0, .int .i64 0, .slice none 0 0], .bool false]) (by simp [results, Tryd.results49, go_sem, t0, t1, t2]) rfl ?_
          rw [HNN.out]
          first | exact fopt_none3 PB.out | exact fret_put3 (r := none) PB.out OwnI.none_ rfl _ _ _
      · have hg := hgood
        have hsh := shapeB_iff.1 (good_shape hg)
        have hgl := good_len hg
        have hgl2 : L.length = W * k := by (have hq9 : ((W * k : Nat) : Int) = (W : Int) * (k : Int) := by push_cast; rfl); omega
        have HTX := Lib.hid (fun Wd h => l2Text_any W k a L c Wd h (by omega) (by omega) (by omega) (by omega) hgl2 (good_bd hg))
        refine (HGD.out true _ HO.out.ints (Nat.le_refl _) hg).mono ?_
        rintro e w2 ⟨rfl, b2⟩
        have P2 := Lib.hid (HP.out.step b2)
        have O2 := Lib.hid (HO.out.below b2)
        obtain ⟨c0, c1, c2⟩ := P2.out.box.cells
        clear b2 hsh hgl hgl2
        go_wp2_with fail
        refine (HTX.out _ O2.out.ints).mono ?_
        rintro e w3 ⟨rfl, b3⟩
        have P3 := Lib.hid (P2.out.step b3)
        have O3 := Lib.hid (O2.out.below b3)
        obtain ⟨d0, d1, d2⟩ := P3.out.box.cells
        obtain ⟨t0, t1, t2⟩ := P3.out.res.cells
        obtain ⟨n0, n1, n2⟩ := P3.out.non.cells
        have g0 := P3.out.res.frozen 0
        have g1 := P3.out.res.frozen 1
        have g2 := P3.out.res.frozen 2
        clear b3 P2 O2
        have HSM := Lib.hid hsome
        have hq := str_isl' htext
        have HTT := Lib.hid htext
        generalize textT (chunks L W k) = T at *
        clear htext hsome hgood hg
        go_wp2
        refine bodyPost_ret (v := .tuple #[.agg #[.int .i64 (W : Int), .int .i64 (k : Int), .slice a L.length c], .bool true]) (by simp [results, Tryd.results49, go_sem, t0, t1, t2]) rfl ?_
        rw [HSM.out]
        exact fret_put3 (r := some ((W : Int), (k : Int), L)) P3.out.b O3.out rfl _ _ _
end Go.Proofs.YtgfgimpglaepaabDoor
namespace Go.Proofs.YtgfgimpglaepaabDoor
open Go.RowKit
set_option linter.unusedVariables false
set_option linter.unusedSimpArgs false
def pfRs (s : ByteArray) : Option (Int × Int × List Int) := pfR s.data.toList
theorem flat_le8 : ∀ (R : List (List Int)), (∀ r ∈ R, r.length ≤ 8) → R.flatten.length ≤ 8 * R.length
  | [], _ => by simp
  | r :: R, h => by
    have h1 := h r (by simp)
    have h2 := flat_le8 R (fun x hx => h x (by simp [hx]))
    simp only [List.flatten_cons, List.length_append, List.length_cons]; omega
theorem pfRs_len (s : ByteArray) : (rL (pfRs s)).length ≤ 64 := by
  unfold pfRs
  cases hp : pfR s.data.toList with
  | none => simp [rL]
  | some f =>
    obtain ⟨R, h1, _, h2, _, _, h3, _⟩ := pf_some hp
    have := flat_le8 R (fun r hr => ((rdRows_some h1).2 r hr).2.1)
    subst h2
    show R.flatten.length ≤ 64
    omega
theorem l2Parse_any (s : ByteArray) (w : World) (hs : s.size ≤ 1048576) : Calls Tryd.prog 49 #[.string s] w (FRet (pfRs s) w) := by
  by_cases h : s.size ≤ 500 ∧ 1 ≤ (linesP s.data.toList).length ∧ (linesP s.data.toList).length ≤ 8
  · exact specPF_in s w h.1 h.2.1 h.2.2
  · exact specPF_out s w hs (by omega)
theorem implPF_any (s : ByteArray) (w : World) (hs : s.size ≤ 1048576) (ht : Tab w) (he : Errs w) : Calls Tryd.prog 15 #[.string s] w (FRet (pfRs s) w) := by
  by_cases h : ∃ b, s.data.toList = b ++ [10]
  · obtain ⟨b, hb⟩ := h
    exact implPF_yes s b w hs hb ht he
  · exact implPF_no s w hs (fun b hb => h ⟨b, hb⟩)
set_option maxHeartbeats 1000000 in
theorem specPF_any (s : ByteArray) (w : World) (hs : s.size ≤ 1048576) : Calls Tryd.prog 17 #[.string s] w (FRet (pfRs s) w) := by
  have C := Lib.hid (fun W => l2Parse_any s W hs)
  have X0 := Lib.hid (Box.new w 26 (.int .i64 0) (.int .i64 0) (.slice none 0 0))
  generalize pfRs s = r at *
  unfold FRet at C
  go_enter Tryd.func17, Tryd.ntmps17
  go_wp2_with fail
  refine (C.out _).mono ?_
  rintro e w1 ⟨a1, c1, rfl, o1, b1⟩
  have X1 := X0.out.below b1
  obtain ⟨t0, t1, t2⟩ := X1.cells
  have g0 := X1.frozen 0
  have g1 := X1.frozen 1
  have g2 := X1.frozen 2
  have B1 := Lib.hid (below_then (below_all _ _) b1)
  have O1 := Lib.hid o1
  clear b1 o1 X1
  go_wp2
  refine bodyPost_ret (v := .tuple #[.agg #[.int .i64 (rW r), .int .i64 (rH r), .slice a1 (rL r).length c1], .bool (rB r)]) (by simp [results, Tryd.results17, go_sem, t0, t1, t2]) rfl ?_
  have h := O1.out
  simp only [World.size_alloc] at h
  exact fret_put3 B1.out h rfl _ _ _
end Go.Proofs.YtgfgimpglaepaabDoor
namespace Go.Proofs.YtgfgimpglaepaabDoor
open Go.RowKit
set_option linter.unusedVariables false
set_option linter.unusedSimpArgs false
set_option maxRecDepth 100000 in
set_option maxHeartbeats 2000000 in
theorem walk_PfLaw (s : ByteArray) (w : World) (hs : s.size ≤ maxLen) (ht : Tab w) (he : Errs w) :
    Calls Tryd.prog 4 #[.string s] w fun e w' => e = .returned (.bool true) ∧ Below w.heap.size w w' := by
  unfold maxLen at hs
  by_cases hbig : (1048576 : Int) < (s.size : Int)
  · clear ht he
    go_enter Tryd.func4, Tryd.ntmps4
    go_wp2
    go_ret
    exact ⟨rfl, Below.refl _ _⟩
  · have hs1 : s.size ≤ 1048576 := by omega
    have HV := Lib.hid (fun W => specPF_any s W hs1)
    have HI := Lib.hid (fun W (G : Below w.heap.size w W) => implPF_any s W hs1 (ht.below G) (he.below G))
    have hlen := pfRs_len s
    generalize pfRs s = r at *
    obtain ⟨rw', hrw⟩ : ∃ x, rW r = x := ⟨_, rfl⟩
    obtain ⟨rh, hrh⟩ : ∃ x, rH r = x := ⟨_, rfl⟩
    obtain ⟨rl, hrl⟩ : ∃ x, rL r = x := ⟨_, rfl⟩
    obtain ⟨rb, hrb⟩ : ∃ x, rB r = x := ⟨_, rfl⟩
    unfold FRet at HV HI
    rw [hrw, hrh, hrl, hrb] at HV HI
    rw [hrl] at hlen
    clear hrw hrh hrl hrb
    clear ht he hs1 hs
    go_enter Tryd.func4, Tryd.ntmps4
    go_wp2_with fail
    refine (HV.out _).mono ?_
    rintro e w1 ⟨a1, c1, rfl, o1, b1⟩
    obtain ⟨W1, hW1⟩ : ∃ W1, w1.alloc (.cells #[.int .i64 rw', .int .i64 rh, .slice a1 rl.length c1] 26) = W1 := ⟨_, rfl⟩
    have s1 : W1.heap.size = w1.heap.size + 1 := by rw [← hW1]; simp
    have X1 : Box W1 w1.heap.size 26 (.int .i64 rw') (.int .i64 rh) (.slice a1 rl.length c1) := by rw [← hW1]; exact Box.new _ _ _ _ _
    have B1 : Below w.heap.size w W1 := by rw [← hW1]; exact below_then b1 (below_all _ _)
    have I1 : Ints .i64 W1 W1.heap.size a1 rl := by rw [← hW1]; exact ints_alloc o1.ints _
    have hB1z := B1.size
    have hX1 := Lib.hid X1
    have hB1 := Lib.hid B1
    have hI1 := Lib.hid I1
    have HW1 := Lib.hid hW1
    clear X1 B1 I1 o1 b1 hW1
    go_wp2_with fail
    rw [HW1.out]
    refine (HI.out _ hB1.out).mono ?_
    rintro e w2 ⟨a2, c2, rfl, o2, b2⟩
    obtain ⟨g, hgB, hgn, at2⟩ := o2.pick b2.size
    obtain ⟨W2, hW2⟩ : ∃ W2, w2.alloc (.cells #[.int .i64 rw', .int .i64 rh, .slice a2 rl.length c2] 26) = W2 := ⟨_, rfl⟩
    have s2 : W2.heap.size = w2.heap.size + 1 := by rw [← hW2]; simp
    have z2 := b2.size
    have X2 : Box W2 w2.heap.size 26 (.int .i64 rw') (.int .i64 rh) (.slice a2 rl.length c2) := by rw [← hW2]; exact Box.new _ _ _ _ _
    have Y2 : Box W2 w1.heap.size 26 (.int .i64 rw') (.int .i64 rh) (.slice a1 rl.length c1) := by rw [← hW2]; exact (hX1.out.below b2).alloc _
    have B2 : Below w.heap.size w W2 := by rw [← hW2]; exact below_then (below_then hB1.out b2) (below_all _ _)
    have I2 : Ints .i64 W2 W1.heap.size a1 rl := by rw [← hW2]; exact hI1.out.below (below_then b2 (below_all _ _)) (Nat.le_refl _)
    have A2 : At W2 a2 g rl := by rw [← hW2]; exact at2.alloc _
    obtain ⟨y0, y1, y2⟩ := (hX1.out.below b2).cells
    have q1 : w1.heap.size < w2.heap.size := by omega
    have q2 : ¬ w1.heap.size = w2.heap.size := by omega
    have hX2 := Lib.hid X2
    have hY2 := Lib.hid Y2
    have hB2 := Lib.hid B2
    have hI2 := Lib.hid I2
    have hA2 := Lib.hid A2
    have HW2 := Lib.hid hW2
    clear X2 Y2 B2 I2 A2 at2 o2 b2 hW2 hX1 hB1 hI1 HW1
    go_wp2_with fail
    rw [HW2.out]
    refine (eqField_yes rw' rh _ _ rl _ _ _ hA2.out.ints (hI2.out.more (by omega)) (by omega)).mono ?_
    rintro e w3 ⟨rfl, b3⟩
    have z3 := b3.size
    have hX3 := Lib.hid (hX2.out.below b3)
    have hY3 := Lib.hid (hY2.out.below b3)
    have hB3 := Lib.hid (below_then hB2.out b3)
    have hI3 := Lib.hid (hI2.out.below b3 (by omega))
    have hA3 := Lib.hid (hA2.out.below b3)
    obtain ⟨x0, x1, x2⟩ := hX3.out.cells
    clear b3 hX2 hY2 hB2 hI2 hA2 HW2 y0 y1 y2
    cases rb <;> go_wp2_with fail
    all_goals
      refine (markField_any rw' rh a2 rl c2 g 1 _ hA3.out (by omega) (by omega) (by omega)).mono ?_
      rintro e w4 ⟨rfl, at4, t4⟩
      have z4 := t4.size
      have hX4 := Lib.hid (hX3.out.turn t4 (by omega))
      have hY4 := Lib.hid (hY3.out.turn t4 (by omega))
      have hB4 := Lib.hid (below_turn hB3.out t4 hB3.out.size (by have := hB3.out.size; have := hB1z; omega))
      have hI4 := Lib.hid (hI3.out.turn t4 (by omega) (by omega))
      have hA4 := Lib.hid at4
      clear x0 x1 x2 at4 t4 hX3 hY3 hB3 hI3 hA3
      obtain ⟨x0, x1, x2⟩ := hX4.out.cells
      go_wp2_with fail
      refine (heldField_any rw' rh a2 rl.length c2 1 _ hA4.out.ints (by omega) (by omega) (by omega)).mono ?_
      rintro e w5 ⟨rfl, b5⟩
      have z5 := b5.size
      have hX5 := Lib.hid (hX4.out.below b5)
      have hY5 := Lib.hid (hY4.out.below b5)
      have hB5 := Lib.hid (below_then hB4.out b5)
      have hI5 := Lib.hid (hI4.out.below b5 (by omega))
      have hA5 := Lib.hid (hA4.out.below b5)
      clear x0 x1 x2 b5 hX4 hY4 hB4 hI4 hA4
      go_wp2_with fail
      refine (HI.out _ hB5.out).mono ?_
      rintro e w6 ⟨a6, c6, rfl, o6, b6⟩
      have z6 := b6.size
      obtain ⟨W6, hW6⟩ : ∃ W6, w6.alloc (.cells #[.int .i64 rw', .int .i64 rh, .slice a6 rl.length c6] 26) = W6 := ⟨_, rfl⟩
      have b6' : Below w5.heap.size w5 W6 := by rw [← hW6]; exact below_then b6 (below_all _ _)
      have I6 : Ints .i64 W6 W6.heap.size a6 rl := by rw [← hW6]; exact ints_alloc o6.ints _
      obtain ⟨y0, y1, y2⟩ := (hY5.out.below b6).cells
      have q3 : w1.heap.size < w6.heap.size := by omega
      have q4 : ¬ w1.heap.size = w6.heap.size := by omega
      have z6' := b6'.size
      have hX6 := Lib.hid (hX5.out.below b6')
      have hB6 := Lib.hid (below_then hB5.out b6')
      have hI6 := Lib.hid (hI5.out.below b6' (by omega))
      have hA6 := Lib.hid (hA5.out.below b6')
      have hJ6 := Lib.hid I6
      have HW6 := Lib.hid hW6
      clear I6 o6 b6 b6' hW6 hX5 hY5 hB5 hI5 hA5
      go_wp2_with fail
      rw [HW6.out]
      refine (eqField_yes rw' rh _ _ rl _ _ _ hJ6.out (hI6.out.more (by omega)) (by omega)).mono ?_
      rintro e w7 ⟨rfl, b7⟩
      have hX7 := Lib.hid (hX6.out.below b7)
      have hB7 := Lib.hid (below_then hB6.out b7)
      have hA7 := Lib.hid (hA6.out.below b7)
      obtain ⟨x0, x1, x2⟩ := hX7.out.cells
      clear y0 y1 y2 b7 hX6 hB6 hI6 hA6 hJ6 HW6
      go_wp2_with fail
      refine (heldField_any rw' rh a2 rl.length c2 1 _ hA7.out.ints (by omega) (by omega) (by omega)).mono ?_
      rintro e w8 ⟨rfl, b8⟩
      have hB8 := Lib.hid (below_then hB7.out b8)
      clear b8
      go_wp2
      go_ret
      exact ⟨rfl, hB8.out⟩
end Go.Proofs.YtgfgimpglaepaabDoor
