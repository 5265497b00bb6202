/- impl.ParseInt: the number whose text this is. -/
import Derived.Test.YtnomcnlmlignbaaDoorParseMath
import Derived.Test.YtnomcnlmlignbaaDoorAppendLaw
import Derived.Test.YtnomcnlmlignbaaDoorShelfAtoi
namespace Go.Proofs.YtnomcnlmlignbaaDoor
open Go.RowKit
set_option linter.unusedVariables false
/-- the two errors of strconv lie in their variables -/
def Errs (w : World) : Prop := (∃ tp p, w.var? Tryd.prog "strconv.ErrSyntax" = some #[.iface tp p]) ∧ ∃ tp p, w.var? Tryd.prog "strconv.ErrRange" = some #[.iface tp p]
theorem bytes_below (w : World) (t : TypeId) (l : ByteArray) : Below w.heap.size w (Lib.bytesWorld w t l) :=
  Lib.bytesWorld_below w t l
theorem str_isl {l : List UInt8} {s : ByteArray} (h : l = s.data.toList) : (l == s.toList) = true := by rw [beq_iff_eq, Lib.toList_data, h]
theorem str_notl {l : List UInt8} {s : ByteArray} (h : l ≠ s.data.toList) : (l == s.toList) = false := by rw [beq_eq_false_iff_ne, Lib.toList_data]; exact h

set_option maxHeartbeats 1000000 in
theorem implParse_ok (s : ByteArray) (v : Int) (w : World) (hs : s.size ≤ 1048576) (ht : Tab w) (h : Lib.atoiAll s.data.toList = .ok v) :
    Calls Tryd.prog 113 #[.string s] w fun e w' => e = .returned (.tuple #[.int .i64 (pN s), .bool (pB s)]) ∧ Below w.heap.size w w' := by
  have HA := Lib.hid ((Tryd.strconv_Atoi_ok s (by omega) v h w).mono (R' := fun e w' => e = .returned (.tuple #[.int .i64 v, .nilIface]) ∧ Below w.heap.size w w') (fun e w' ⟨a, b⟩ => ⟨a, by
    rcases b with rfl | ⟨t, rfl⟩
    · exact Below.refl _ _
    · exact bytes_below w _ t⟩))
  have HF := Lib.hid (fun W (hb : Below w.heap.size w W) => implFormat_any v W (ht.below hb))
  cases hr : inR v with
  | false =>
    have hb : pB s = false := pB_not fun n h0 h1 e => by
      have h2 := atoi_itoa n h0 h1
      rw [e, h] at h2
      injection h2 with h2
      subst h2
      rw [inR_yes h0 h1] at hr; cases hr
    rw [pN_no hb, hb]
    rw [hr, fmtS_no hr] at HF
    clear hb hr h ht
    go_enter Tryd.func113, Tryd.ntmps113
    go_wp2_with (go_at_call 133; refine HA.out.mono ?_; rintro e w1 ⟨rfl, b1⟩; have HB1 := Lib.hid b1; clear b1)
    refine (HF.out _ HB1.out).mono ?_
    rintro e w2 ⟨rfl, b2⟩
    have HB2 := Lib.hid b2
    clear b2
    go_wp2
    go_ret2
    exact ⟨rfl, HB1.out.trans (HB2.out.mono HB1.out.size)⟩
  | true =>
    have hrr := of_decide_eq_true hr
    rw [hr, fmtS_yes hr] at HF
    by_cases hq : Lib.itoa v = s.data.toList
    · obtain ⟨hb, hn⟩ := pB_of hrr.1 hrr.2 hq
      rw [hb, hn]
      have hq2 := str_isl hq
      clear hb hn hr h ht hq hrr
      generalize Lib.itoa v = d at *
      go_enter Tryd.func113, Tryd.ntmps113
      go_wp2_with (go_at_call 133; refine HA.out.mono ?_; rintro e w1 ⟨rfl, b1⟩; have HB1 := Lib.hid b1; clear b1)
      refine (HF.out _ HB1.out).mono ?_
      rintro e w2 ⟨rfl, b2⟩
      have HB2 := Lib.hid b2
      clear b2
      go_wp2
      go_ret2
      exact ⟨rfl, HB1.out.trans (HB2.out.mono HB1.out.size)⟩
    · have hb : pB s = false := pB_not fun n h0 h1 e => by
        have h2 := atoi_itoa n h0 h1
        rw [e, h] at h2
        injection h2 with h2
        subst h2
        exact hq e
      rw [pN_no hb, hb]
      have hq2 := str_notl hq
      clear hb hr h ht hq hrr
      generalize Lib.itoa v = d at *
      go_enter Tryd.func113, Tryd.ntmps113
      go_wp2_with (go_at_call 133; refine HA.out.mono ?_; rintro e w1 ⟨rfl, b1⟩; have HB1 := Lib.hid b1; clear b1)
      refine (HF.out _ HB1.out).mono ?_
      rintro e w2 ⟨rfl, b2⟩
      have HB2 := Lib.hid b2
      clear b2
      go_wp2
      go_ret2
      exact ⟨rfl, HB1.out.trans (HB2.out.mono HB1.out.size)⟩

set_option maxHeartbeats 1000000 in
theorem implParse_err (s : ByteArray) (w : World) (hn : ∀ v, Lib.atoiAll s.data.toList ≠ .ok v)
    (h : Calls Tryd.prog 133 #[.string s] w fun e w' => ∃ (z : Int) (N : Nat), e = .returned (.tuple #[.int .i64 z, .iface 173 (.pointer (some ⟨N, 0, none⟩))]) ∧ Below w.heap.size w w') :
    Calls Tryd.prog 113 #[.string s] w fun e w' => e = .returned (.tuple #[.int .i64 (pN s), .bool (pB s)]) ∧ Below w.heap.size w w' := by
  have hb : pB s = false := pB_not fun n h0 h1 e => by
    have h2 := atoi_itoa n h0 h1
    rw [e] at h2
    exact hn n h2
  rw [pN_no hb, hb]
  have HA := Lib.hid h
  clear h hb hn
  go_enter Tryd.func113, Tryd.ntmps113
  go_wp2_with (go_at_call 133; refine HA.out.mono ?_; rintro e w1 ⟨z, N, rfl, b1⟩; have HB1 := Lib.hid b1; clear b1)
  go_ret2
  exact ⟨rfl, HB1.out⟩

theorem implParse_any (s : ByteArray) (w : World) (hs : s.size ≤ 1048576) (ht : Tab w) (he : Errs w) :
    Calls Tryd.prog 113 #[.string s] w fun e w' => e = .returned (.tuple #[.int .i64 (pN s), .bool (pB s)]) ∧ Below w.heap.size w w' := by
  obtain ⟨⟨tp, p, hv⟩, tp', p', hv'⟩ := he
  cases h : Lib.atoiAll s.data.toList with
  | ok v => exact implParse_ok s v w hs ht h
  | range =>
    exact implParse_err s w (fun v e => by rw [h] at e; cases e) ((Tryd.strconv_Atoi_range_var s (by omega) h tp' p' w hv').mono fun e w' ⟨N, a, _, _, b⟩ => ⟨_, N, a, b⟩)
  | _ =>
    exact implParse_err s w (fun v e => by rw [h] at e; cases e) ((Tryd.strconv_Atoi_syntax_var s (by omega) h tp p w hv).mono fun e w' ⟨N, a, _, _, b⟩ => ⟨_, N, a, b⟩)
end Go.Proofs.YtnomcnlmlignbaaDoor
