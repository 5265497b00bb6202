/- New storms: the program's and the model's. -/
import Derived.Test.YthceffkkokgpnaaStTrS
import Derived.Test.YthceffkkokgpnaaStTr
import Derived.Test.YthceffkkokgpnaaStRet
import Derived.Test.YthceffkkokgpnaaAboLaw
namespace Go.Proofs.Ythceffkkokgpnaa
open Go.RowKit
set_option linter.unusedVariables false
set_option linter.unusedSimpArgs false
def nwR (a b : List StT) (t : List Int) : List Int := if trB a b t = true then nwK t b.length else []
theorem nwR_no {a b : List StT} {t : List Int} (h : trB a b t = false) : nwR a b t = [] := if_neg (by rw [h]; simp)
theorem nwR_yes {a b : List StT} {t : List Int} (h : trB a b t = true) : nwR a b t = nwK t b.length := if_pos h
theorem nwR_len (a b : List StT) (t : List Int) : (nwR a b t).length ≤ 5 := by
  cases h : trB a b t with
  | false => rw [nwR_no h]; simp
  | true => rw [nwR_yes h]; have := nwK_len t b.length; have := sts_len (tr_parts h).2.1; omega
theorem nwK_in {t : List Int} {k : Nat} (h : (k : Int) ∈ t) : nwK t (k + 1) = nwK t k := by show (if (k : Int) ∈ t then _ else _) = _; rw [if_pos h]
theorem nwK_out {t : List Int} {k : Nat} (h : ¬ (k : Int) ∈ t) : nwK t (k + 1) = nwK t k ++ [(k : Int)] := by show (if (k : Int) ∈ t then _ else _) = _; rw [if_neg h]
set_option maxRecDepth 100000 in
set_option maxHeartbeats 8000000 in
theorem implNw_any (aa : Option Addr) (la : List StT) (ca : Nat) (ab : Option Addr) (lb : List StT) (cb : Nat) (at_ : Option Addr) (t : List Int) (ct : Nat) (w : World) (h1 : Sts w w.heap.size aa la) (h2 : Sts w w.heap.size ab lb) (h3 : Ints .i64 w w.heap.size at_ t) (n1 : la.length ≤ 1048576) (n2 : lb.length ≤ 1048576) (n3 : t.length ≤ 1048576) (hc : t.length ≤ ct) :
    Calls Try.prog 25 #[.slice aa la.length ca, .slice ab lb.length cb, .slice at_ t.length ct] w (SvRet (nwR la lb t) (trB la lb t) w) := by
  obtain ⟨i0, hi0', hz0, hz1, hz2⟩ := info_parts infoInt
  have HT := Lib.hid (fun v (hv : trB la lb t = v) => isTr_any aa la ca ab lb cb at_ t ct v w h1 h2 h3 n1 n2 n3 hc hv)
  have H3 := Lib.hid h3
  clear h1 h2 h3
  cases ht : trB la lb t with
  | false =>
    rw [nwR_no ht]
    have HT1 := Lib.hid (HT.out false ht)
    clear HT ht
    go_enter Try.func25, Try.ntmps25
    go_wp2_with (go_at_call 78; (with_reducible refine (HT1.out).mono ?_); rintro e w1 ⟨rfl, b1⟩; have B1 := Lib.hid b1; clear b1)
    go_ret2
    exact ⟨_, _, rfl, OwnI.none_, B1.out.alloc B1.out.size _⟩
  | true =>
    rw [nwR_yes ht]
    have HT1 := Lib.hid (HT.out true ht)
    have lb5 := sts_len (tr_parts ht).2.1
    clear HT ht
    go_enter Try.func25, Try.ntmps25
    go_wp2_with fail
    refine HT1.out.mono ?_
    rintro e w1 ⟨rfl, b1⟩
    have B1 := Lib.hid (b1.alloc b1.size (.cells #[] 3))
    have O1 := Lib.hid (World.ownsRow_made (base := w.heap.size) (e := 3) (size := 1) w1 #[] 0 b1.size (by unfold maxLen; omega) rfl)
    clear b1
    go_wp2
    go_loopw [8, 19] (fun q i wr => ∃ k : Nat, k ≤ lb.length ∧ i = .int .i64 k ∧ wr.ownsRow w.heap.size 3 1 q (nwK t k).length (iv (nwK t k)) ∧ Below w.heap.size w wr) (fun _ i _ => lb.length - (intOf i).toNat)
    case atStart => exact ⟨0, Nat.zero_le _, rfl, O1.out, B1.out⟩
    case round =>
      obtain ⟨k, hk, rfl, hown, hB⟩ := hrel
      have HO := Lib.hid hown
      have HB := Lib.hid hB
      clear hown hB
      by_cases hlt : k < lb.length
      · have hi : (k : Int) < (lb.length : Int) := by omega
        have hi0 : (0 : Int) ≤ (k : Int) := by omega
        have hlen := nwK_len t k
        have HF := Lib.hid (fun v (hv : feB t (k : Int) = v) => isFree_is at_ t ct w.heap.size (k : Int) v wr (H3.out.below HB.out (Nat.le_refl _)) n3 hv)
        by_cases hin : (k : Int) ∈ t
        · have HE := Lib.hid (nwK_in hin)
          have HF1 := Lib.hid (HF.out false (feB_in (by omega) hin))
          clear HF hin
          go_wp2_with (go_at_call 82; (with_reducible refine (HF1.out).mono ?_); rintro e w2 ⟨rfl, rfl⟩)
          go_roundw
          case rel => exact ⟨k + 1, by omega, by go_num, by rw [HE.out]; exact HO.out, HB.out⟩
          case measure => simp [intOf]; omega
        · have HE := Lib.hid (nwK_out hin)
          have HF1 := Lib.hid (HF.out true (feB_out hin))
          clear HF hin
          go_wp2_with (first | (go_at_call 82; (with_reducible refine (HF1.out).mono ?_); rintro e w2 ⟨rfl, rfl⟩) | (at_builtin; refine wpList_append_own _ rfl _ _ 30 rfl w.heap.size 3 i0 (.int .i64 0) 1 8 Try.underlying30 hi0' hz0 hz1 hz2 rfl (by decide) _ (nwK t k).length (iv (nwK t k)) rfl (HO.out.alloc _) ⟨wr.heap.size, 0, none⟩ 1 1 [.int .i64 (k : Int)] rfl rfl (cell_one_new _ _ _) (by simp [Value.oneCell']) (by unfold maxLen; omega) (by omega) (by have := HB.out.size; simp; omega) ?_; intro v' w9 hown9 hgrow9 _; have HO9 := Lib.hid hown9; have HG9 := Lib.hid hgrow9; clear hown9 hgrow9))
          go_roundw
          case rel => exact ⟨k + 1, by omega, by go_num, by rw [HE.out, iv_snoc, List.length_append]; exact HO9.out, (HB.out.alloc HB.out.size _).grown HG9.out (by have := HB.out.size; simp; omega) (fun j hj => (HO.out.lt j hj).1)⟩
          case measure => simp [intOf]; omega
      · obtain rfl : k = lb.length := by omega
        obtain ⟨a', c', rfl, ho⟩ := ownI_of HO.out rfl
        have HOO := Lib.hid ho
        clear ho HO
        go_wp2
        go_ret2
        exact ⟨a', c', rfl, HOO.out, HB.out⟩
set_option maxRecDepth 100000 in
set_option maxHeartbeats 8000000 in
theorem specNwK_any (n : Nat) (ab : Option Addr) (cb : Nat) (at_ : Option Addr) (t : List Int) (ct : Nat) (w : World) (h3 : Ints .i64 w w.heap.size at_ t) (n2 : n ≤ 5) (n3 : t.length ≤ 1048576) :
    Calls Try.prog 81 #[.slice ab n cb, .slice at_ t.length ct] w fun e w' => ∃ a c, e = .returned (.slice a (nwK t n).length c) ∧ OwnI w' w.heap.size a (nwK t n) ∧ Below w.heap.size w w' := by
  obtain ⟨i0, hi0', hz0, hz1, hz2⟩ := info_parts infoInt
  have H3 := Lib.hid h3
  clear h3
  have B1 := Lib.hid (below_all w (.cells #[] 3))
  have O1 := Lib.hid (World.ownsRow_made (base := w.heap.size) (e := 3) (size := 1) w #[] 0 (Nat.le_refl _) (by unfold maxLen; omega) rfl)
  go_enter Try.func81, Try.ntmps81
  go_wp2
  go_loopw [5, 6] (fun q i wr => ∃ k : Nat, k ≤ n ∧ i = .int .i64 k ∧ wr.ownsRow w.heap.size 3 1 q (nwK t k).length (iv (nwK t k)) ∧ Below w.heap.size w wr) (fun _ i _ => n - (intOf i).toNat)
  case atStart => exact ⟨0, Nat.zero_le _, rfl, O1.out, B1.out⟩
  case round =>
    obtain ⟨k, hk, rfl, hown, hB⟩ := hrel
    have HO := Lib.hid hown
    have HB := Lib.hid hB
    clear hown hB
    by_cases hlt : k < n
    · have hi : (k : Int) < (n : Int) := by omega
      have hi0 : (0 : Int) ≤ (k : Int) := by omega
      have hlen := nwK_len t k
      have HF := Lib.hid (fun v (hv : decide ((k : Int) ∈ t) = v) => has_is at_ t ct w.heap.size (k : Int) v wr (H3.out.below HB.out (Nat.le_refl _)) n3 hv)
      by_cases hin : (k : Int) ∈ t
      · have HE := Lib.hid (nwK_in hin)
        have HF1 := Lib.hid (HF.out true (decide_eq_true hin))
        clear HF hin
        go_wp2_with (go_at_call 129; (with_reducible refine (HF1.out).mono ?_); rintro e w2 ⟨rfl, rfl⟩)
        go_roundw
        case rel => exact ⟨k + 1, by omega, by go_num, by rw [HE.out]; exact HO.out, HB.out⟩
        case measure => simp [intOf]; omega
      · have HE := Lib.hid (nwK_out hin)
        have HF1 := Lib.hid (HF.out false (decide_eq_false hin))
        clear HF hin
        go_wp2_with (first | (go_at_call 129; (with_reducible refine (HF1.out).mono ?_); rintro e w2 ⟨rfl, rfl⟩) | (at_builtin; refine wpList_append_own _ rfl _ _ 30 rfl w.heap.size 3 i0 (.int .i64 0) 1 8 Try.underlying30 hi0' hz0 hz1 hz2 rfl (by decide) _ (nwK t k).length (iv (nwK t k)) rfl (HO.out.alloc _) ⟨wr.heap.size, 0, none⟩ 1 1 [.int .i64 (k : Int)] rfl rfl (cell_one_new _ _ _) (by simp [Value.oneCell']) (by unfold maxLen; omega) (by omega) (by have := HB.out.size; simp; omega) ?_; intro v' w9 hown9 hgrow9 _; have HO9 := Lib.hid hown9; have HG9 := Lib.hid hgrow9; clear hown9 hgrow9))
        go_roundw
        case rel => exact ⟨k + 1, by omega, by go_num, by rw [HE.out, iv_snoc, List.length_append]; exact HO9.out, (HB.out.alloc HB.out.size _).grown HG9.out (by have := HB.out.size; simp; omega) (fun j hj => (HO.out.lt j hj).1)⟩
        case measure => simp [intOf]; omega
    · obtain rfl : k = n := by omega
      obtain ⟨a', c', rfl, ho⟩ := ownI_of HO.out rfl
      have HOO := Lib.hid ho
      clear ho HO
      go_wp2
      go_ret
      exact ⟨a', c', rfl, HOO.out, HB.out⟩
set_option maxRecDepth 100000 in
set_option maxHeartbeats 8000000 in
theorem specNw_any (aa : Option Addr) (la : List StT) (ca : Nat) (ab : Option Addr) (lb : List StT) (cb : Nat) (at_ : Option Addr) (t : List Int) (ct : Nat) (w : World) (h1 : Sts w w.heap.size aa la) (h2 : Sts w w.heap.size ab lb) (h3 : Ints .i64 w w.heap.size at_ t) (n1 : la.length ≤ 1048576) (n2 : lb.length ≤ 1048576) (n3 : t.length ≤ 1048576) (hc : t.length ≤ ct) :
    Calls Try.prog 24 #[.slice aa la.length ca, .slice ab lb.length cb, .slice at_ t.length ct] w (SvRet (nwR la lb t) (trB la lb t) w) := by
  have HT := Lib.hid (fun v (hv : trB la lb t = v) => specTr_any aa la ca ab lb cb at_ t ct v w h1 h2 h3 n1 n2 n3 hc hv)
  have H3 := Lib.hid h3
  clear h1 h2 h3
  cases ht : trB la lb t with
  | false =>
    rw [nwR_no ht]
    have HT1 := Lib.hid (HT.out false ht)
    clear HT ht
    go_enter Try.func24, Try.ntmps24
    go_wp2_with (go_at_call 75; (with_reducible refine (HT1.out).mono ?_); rintro e w1 ⟨rfl, b1⟩; have B1 := Lib.hid b1; clear b1)
    go_ret2
    exact ⟨_, _, rfl, OwnI.none_, B1.out.alloc B1.out.size _⟩
  | true =>
    rw [nwR_yes ht]
    have HT1 := Lib.hid (HT.out true ht)
    have lb5 := sts_len (tr_parts ht).2.1
    have HN := Lib.hid (fun W h => specNwK_any lb.length ab cb at_ t ct W h lb5 n3)
    clear HT ht
    generalize nwK t lb.length = r at *
    go_enter Try.func24, Try.ntmps24
    go_wp2_with fail
    refine HT1.out.mono ?_
    rintro e w1 ⟨rfl, b1⟩
    have B1 := Lib.hid b1
    have H31 := Lib.hid ((H3.out.below b1 (Nat.le_refl _)).more b1.size)
    clear b1
    go_wp2_with fail
    refine (HN.out _ H31.out).mono ?_
    rintro e w2 ⟨a, c, rfl, o2, b2⟩
    have B2 := Lib.hid (below_then B1.out b2)
    have O2 := Lib.hid (o2.more B1.out.size)
    clear b2 o2
    go_wp2
    go_ret2
    exact ⟨a, c, rfl, O2.out, B2.out⟩
end Go.Proofs.Ythceffkkokgpnaa
