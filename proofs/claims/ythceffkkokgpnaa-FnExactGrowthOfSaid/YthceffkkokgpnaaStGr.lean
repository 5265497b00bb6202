/- GrowthOf: the program's and the model's. -/
import Derived.Test.YthceffkkokgpnaaStTrS
import Derived.Test.YthceffkkokgpnaaStTr
import Derived.Test.YthceffkkokgpnaaGrLaw
import Derived.Test.YthceffkkokgpnaaAboLaw
import Derived.Test.YthceffkkokgpnaaMake
import Derived.StillTailTactics
import Derived.Deep.AppendLies
import Derived.Deep.RegionLaw
namespace Go.Proofs.Ythceffkkokgpnaa
open Go.RowKit
set_option linter.unusedVariables false
set_option linter.unusedSimpArgs false
/-- how a storm changes, and all of the first k -/
def grE (a b : List StT) (t : List Int) (k : Nat) : GrT := if t.getD k 0 < 0 then (0, 0) else ((b.getD (t.getD k 0).toNat dSt).2.2.1 - (a.getD k dSt).2.2.1, (b.getD (t.getD k 0).toNat dSt).2.2.2 - (a.getD k dSt).2.2.2)
def grL (a b : List StT) (t : List Int) : Nat → List GrT
  | 0 => []
  | k + 1 => grL a b t k ++ [grE a b t k]
theorem grL_len (a b : List StT) (t : List Int) : ∀ k : Nat, (grL a b t k).length = k := by
  intro k
  induction k with
  | zero => rfl
  | succ k ih => show (grL a b t k ++ [_]).length = _; rw [List.length_append, ih]; rfl
def grR (a b : List StT) (t : List Int) : List GrT := if trB a b t = true then grL a b t a.length else []
theorem grR_no {a b : List StT} {t : List Int} (h : trB a b t = false) : grR a b t = [] := if_neg (by rw [h]; simp)
theorem grR_yes {a b : List StT} {t : List Int} (h : trB a b t = true) : grR a b t = grL a b t a.length := if_pos h
theorem grR_len (a b : List StT) (t : List Int) : (grR a b t).length ≤ 5 := by
  cases h : trB a b t with
  | false => rw [grR_no h]; simp
  | true => rw [grR_yes h, grL_len]; exact sts_len (tr_parts h).1
/-- .. and nothing yet behind them -/
def grM (a b : List StT) (t : List Int) (n k : Nat) : List GrT := grL a b t k ++ List.replicate (n - k) (0, 0)
theorem grM_zero (a b : List StT) (t : List Int) (n : Nat) : grM a b t n 0 = List.replicate n (0, 0) := rfl
theorem grM_len (a b : List StT) (t : List Int) (n k : Nat) (h : k ≤ n) : (grM a b t n k).length = n := by unfold grM; rw [List.length_append, grL_len, List.length_replicate]; omega
theorem grM_all (a b : List StT) (t : List Int) (n : Nat) : grM a b t n n = grL a b t n := by unfold grM; rw [Nat.sub_self]; simp
theorem grM_step (a b : List StT) (t : List Int) (n k : Nat) (h : k < n) : (grM a b t n k).set k (grE a b t k) = grM a b t n (k + 1) := by
  unfold grM
  rw [List.set_append_right _ _ (by rw [grL_len]; exact Nat.le_refl _), grL_len, Nat.sub_self, show n - k = (n - (k + 1)) + 1 by omega, List.replicate_succ, List.set_cons_zero]
  show _ = (grL a b t k ++ [grE a b t k]) ++ _
  rw [List.append_assoc]
  rfl
theorem grM_keep (a b : List StT) (t : List Int) (n k : Nat) (h : k < n) (e : grE a b t k = (0, 0)) : grM a b t n k = grM a b t n (k + 1) := by
  unfold grM
  show _ = (grL a b t k ++ [grE a b t k]) ++ _
  rw [e, List.append_assoc, show n - k = (n - (k + 1)) + 1 by omega, List.replicate_succ]
  rfl
theorem grE_none {a b : List StT} {t : List Int} {k : Nat} (hk : k < t.length) (h : t[k] = -1) : grE a b t k = (0, 0) := by unfold grE; rw [getD_int t hk, h]; rfl
theorem grE_some {a b : List StT} {t : List Int} {k n : Nat} (hk : k < t.length) (h : t[k] = (n : Int)) (ha : k < a.length) (hb : n < b.length) : grE a b t k = (b[n].2.2.1 - a[k].2.2.1, b[n].2.2.2 - a[k].2.2.2) := by
  unfold grE; rw [getD_int t hk, h, if_neg (by omega), getD_st a ha, show ((n : Int)).toNat = n from rfl, getD_st b hb]
def GvRet (r : List GrT) (v : Bool) (w : World) (e : Ending) (w' : World) : Prop := ∃ a c, e = .returned (.tuple #[.slice a r.length c, .bool v]) ∧ OwnGr w' w.heap.size a r ∧ Below w.heap.size w w'
theorem OwnGr.pick {w : World} {B : Nat} {a : Option Addr} {l : List GrT} (h : OwnGr w B a l) (hB : B ≤ w.heap.size) : ∃ g, B ≤ g ∧ g ≠ w.heap.size ∧ AtGr w a g l := by
  obtain ⟨g, h1, h2⟩ := h
  rcases h2 with rfl | ⟨e, hr⟩
  · exact ⟨w.heap.size + 1, by omega, by omega, .inl rfl⟩
  · exact ⟨g, h1, by have := hr.lt; omega, .inr ⟨e, hr⟩⟩
theorem Grs.turn {w w' : World} {a : Option Addr} {g B : Nat} {l : List GrT} (h : Grs w B a l) (o : w.grownBy w' (some g)) (hB : B ≤ g) (hw : B ≤ w.heap.size) : Grs w' B a l :=
  h.keep fun q hq => by
    have hb : q.block < w.heap.size := by omega
    unfold World.cell?
    rw [o.block q.block hb (by intro e; injection e with e; omega)]
theorem tr_bnd {a b : List StT} {t : List Int} (h : trB a b t = true) {k n : Nat} (ha : k < a.length) (hb : n < b.length) : ((1 ≤ a[k].2.2.1 ∧ a[k].2.2.1 ≤ 64) ∧ -9000 ≤ a[k].2.2.2 ∧ a[k].2.2.2 ≤ 9000) ∧ (1 ≤ b[n].2.2.1 ∧ b[n].2.2.1 ≤ 64) ∧ -9000 ≤ b[n].2.2.2 ∧ b[n].2.2.2 ≤ 9000 := by
  obtain ⟨h1, h2, _⟩ := tr_parts h
  have g1 := stB_iff.1 (sts_ok h1 ha)
  have g2 := stB_iff.1 (sts_ok h2 hb)
  exact ⟨g1.2.2, g2.2.2⟩
set_option maxRecDepth 100000 in
set_option maxHeartbeats 8000000 in
theorem implGr_any (aa : Option Addr) (la : List StT) (ca : Nat) (ab : Option Addr) (lb : List StT) (cb : Nat) (at_ : Option Addr) (t : List Int) (ct : Nat) (w : World) (h1 : Sts w w.heap.size aa la) (h2 : Sts w w.heap.size ab lb) (h3 : Ints .i64 w w.heap.size at_ t) (n1 : la.length ≤ 1048576) (n2 : lb.length ≤ 1048576) (n3 : t.length ≤ 1048576) (hc : t.length ≤ ct) :
    Calls Try.prog 30 #[.slice aa la.length ca, .slice ab lb.length cb, .slice at_ t.length ct] w (GvRet (grR la lb t) (trB la lb t) w) := by
  have HT := Lib.hid (fun v (hv : trB la lb t = v) => isTr_any aa la ca ab lb cb at_ t ct v w h1 h2 h3 n1 n2 n3 hc hv)
  have H1 := Lib.hid h1
  have H2 := Lib.hid h2
  have H3 := Lib.hid h3
  clear h1 h2 h3
  cases ht : trB la lb t with
  | false =>
    rw [grR_no ht]
    have HT1 := Lib.hid (HT.out false ht)
    clear HT ht
    go_enter Try.func30, Try.ntmps30
    go_wp2_with (go_at_call 78; (with_reducible refine (HT1.out).mono ?_); rintro e w1 ⟨rfl, b1⟩; have B1 := Lib.hid b1; clear b1)
    go_ret2
    exact ⟨_, _, rfl, ⟨_, Nat.le_refl _, .inl rfl⟩, B1.out.alloc B1.out.size _⟩
  | true =>
    rw [grR_yes ht]
    have HT1 := Lib.hid (HT.out true ht)
    have la5 := sts_len (tr_parts ht).1
    have hl := (tr_parts ht).2.2.1
    have HLL := Lib.hid hl
    have HTR := Lib.hid ht
    have hmk := fun W => run_make_gr la.length (by omega) W
    clear HT ht hl
    go_enter Try.func30, Try.ntmps30
    go_wp2_with fail
    refine HT1.out.mono ?_
    rintro e w1 ⟨rfl, b1⟩
    have B1 := Lib.hid (b1.alloc b1.size (.cells (madeCells #[.int .i64 0, .int .i64 0] (la.length * 2)) 109))
    have R1 := Lib.hid (row_made_gr la.length w1)
    have z1 := b1.size
    obtain ⟨g, hg⟩ : ∃ q, w1.heap.size = q := ⟨_, rfl⟩
    clear b1
    go_wp2
    rw [hg] at R1 z1
    clear hmk hg
    go_loopw [22] (fun i wr => ∃ k : Nat, k ≤ t.length ∧ i = .int .i64 k ∧ Row wr g 109 (grv (grM la lb t la.length k)) ∧ Below w.heap.size w wr) (fun i _ => t.length - (intOf i).toNat)
    case atStart => exact ⟨0, Nat.zero_le _, rfl, by rw [grM_zero]; exact R1.out, B1.out⟩
    case round =>
      obtain ⟨k, hk, rfl, hrow, hB⟩ := hrel
      have HR := Lib.hid hrow
      have HBR := Lib.hid hB
      by_cases hlt : k < t.length
      · obtain ⟨b, o, rfl, hb9, hc9⟩ := (H3.out.below hB (Nat.le_refl _)).at_ hlt
        have hi : (k : Int) < (t.length : Int) := by omega
        have hi0 : (0 : Int) ≤ (k : Int) := by omega
        have hka : k < la.length := by have := HLL.out; omega
        have hia : (k : Int) < (la.length : Int) := by omega
        obtain ⟨zlo, zhi⟩ := (trs_at (tr_parts HTR.out).2.2.2 hlt).1
        have HON := Lib.hid (fun (e : t[k] = -1) => grM_keep la lb t la.length k hka (grE_none hlt e))
        have HOS := Lib.hid (fun (n : Nat) (e : t[k] = (n : Int)) (hb : n < lb.length) => grE_some hlt e hka hb)
        have HST := Lib.hid (grM_step la lb t la.length k hka)
        have HLEN := Lib.hid (grM_len la lb t la.length k (by omega))
        generalize grE la lb t k = ge at *
        obtain ⟨M, hM⟩ : ∃ q, grM la lb t la.length k = q := ⟨_, rfl⟩
        obtain ⟨M2, hM2⟩ : ∃ q, grM la lb t la.length (k + 1) = q := ⟨_, rfl⟩
        rw [hM] at HR HON HST HLEN
        rw [hM2] at HON HST
        have HM2 := Lib.hid hM2
        clear hM hM2 hrow
        generalize t[k] = z at *
        by_cases hz : z = -1
        · subst hz
          have HF := Lib.hid (HON.out rfl)
          clear HON HOS hB
          go_wp2
          go_roundw
          case rel => exact ⟨k + 1, by omega, by go_num, by rw [HM2.out, ← HF.out]; exact HR.out, HBR.out⟩
          case measure => simp [intOf]; omega
        · have hne : (z != -1) = true := by simp [hz]
          obtain ⟨n, rfl⟩ : ∃ n : Nat, z = (n : Int) := ⟨z.toNat, by omega⟩
          have hnb : n < lb.length := by omega
          have hjb : (n : Int) < (lb.length : Int) := by omega
          have hjb0 : (0 : Int) ≤ (n : Int) := by omega
          obtain ⟨b1, o1, rfl, hb1, c0, c1, c2, c3⟩ := (H1.out.below hB (Nat.le_refl _)).at_ hka
          obtain ⟨b2, o2, rfl, hb2, d0, d1, d2, d3⟩ := (H2.out.below hB (Nat.le_refl _)).at_ hnb
          have HO := Lib.hid (HOS.out n rfl hnb)
          obtain ⟨⟨q1, q2⟩, q3, q4⟩ := tr_bnd HTR.out hka hnb
          generalize la[k] = s1 at *
          generalize lb[n] = s2 at *
          obtain ⟨x0, y0, m0, p0⟩ := s1
          obtain ⟨x1, y1, m1, p1⟩ := s2
          simp only at c0 c1 c2 c3 d0 d1 d2 d3 q1 q2 q3 q4
          have HO2 := Lib.hid (show ge = (m1 - m0, p1 - p0) from HO.out)
          have hw1 := IntWalk.i64_in (m1 - m0) (by omega)
          have hw2 := IntWalk.i64_in (p1 - p0) (by omega)
          clear c0 c1 d0 d1 HON HOS hz HO q1 q2 q3 q4
          obtain ⟨u, hu⟩ : ∃ q, m1 - m0 = q := ⟨_, rfl⟩
          obtain ⟨v, hv⟩ : ∃ q, p1 - p0 = q := ⟨_, rfl⟩
          rw [hu] at hw1 HO2
          rw [hv] at hw2 HO2
          rw [HO2.out] at HST
          have HNS := Lib.hid ((grv_set M k u v (by have := HLEN.out; omega)).trans (congrArg grv HST.out))
          have HG0 := Lib.hid (show Row wr.drew g 109 (grv M) from HR.out.of_block rfl)
          have HB0 := Lib.hid HBR.out.drew
          clear hB
          go_wp2_with fail
          go_still_tail 26, (by kernel_rfl)
          change wpList _ _ _ _ _ wr.drew
          clear c2 c3 d2 d3 hc9
          generalize wr.drew = w2 at *
          have hnl := grv_length M
          have hml := HLEN.out
          obtain ⟨z0, e0⟩ : ∃ z, w2.cell? ⟨g, k * 2, none⟩ = some z := ⟨_, HG0.out.cell (k := k * 2) (by omega)⟩
          obtain ⟨z1', e1⟩ : ∃ z, w2.cell? ⟨g, k * 2 + 1, none⟩ = some z := ⟨_, HG0.out.cell (k := k * 2 + 1) (by omega)⟩
          have f0 := HG0.out.frozen (k * 2)
          have f1 := HG0.out.frozen (k * 2 + 1)
          clear hnl hml
          go_wp2
          go_roundw
          case rel => exact ⟨k + 1, by omega, by go_num, by rw [HM2.out, ← HNS.out]; exact (HG0.out.set (k * 2) (.int .i64 u)).set (k * 2 + 1) (.int .i64 v), (HB0.out.setCell (p := ⟨g, k * 2, none⟩) z1 _).setCell (p := ⟨g, k * 2 + 1, none⟩) z1 _⟩
          case measure => simp [intOf]; omega
      · obtain rfl : k = t.length := by omega
        have HE := Lib.hid (show grM la lb t la.length t.length = grL la lb t la.length by rw [HLL.out]; exact grM_all _ _ _ _)
        have HL := Lib.hid (grL_len la lb t la.length)
        rw [HE.out] at HR
        generalize grL la lb t la.length = r at *
        clear hB hrow
        go_wp2
        go_ret2
        refine ⟨_, la.length, ?_, ⟨g, z1, .inr ⟨rfl, HR.out⟩⟩, HBR.out⟩
        rw [HL.out]
        rfl
theorem own_keepsZ {w w' : World} {base e size n : Nat} {v : Value} {xs : List Value} (h : w.ownsRow base e size v n xs) (hb : Below w.heap.size w w') : w'.ownsRow base e size v n xs :=
  h.kept (row := none) ⟨hb.os, hb.tape, hb.output, hb.size, fun i hi _ => hb.block i hi⟩ (by cases h1 : v.ownBlock with | none => exact .inl rfl | some k => exact .inr (by simp))
theorem OwnGr.of_own {w : World} {B n cap : Nat} {a : Option Addr} {l : List GrT} (h : w.ownsRow B 109 2 (.slice a n cap) n (grv l)) : OwnGr w B a l := by
  rcases h.2 with ⟨h1, h2⟩ | ⟨g, cap', cur, h1, h2, h3, h4, h5, h6, h7⟩
  · have h9 := h.1
    rw [h2, grv_length] at h9
    have : l = [] := List.eq_nil_of_length_eq_zero (by omega)
    subst this
    exact ⟨_, Nat.le_refl _, .inl rfl⟩
  · injection h1 with h1 _ _
    subst h1
    refine ⟨g, h2, .inr ⟨rfl, cur, h3, fun k hk => ?_⟩⟩
    have e : cur.toList.take (n * 2) = grv l := h7
    have hk2 : k < (cur.toList.take (n * 2)).length := by rw [e]; exact hk
    have h8 : (cur.toList.take (n * 2))[k]? = some (grv l)[k] := by rw [e, List.getElem?_eq_getElem hk]
    rw [List.getElem?_take] at h8
    split at h8
    · rw [← h8]; simp
    · cases h8
set_option maxRecDepth 100000 in
set_option maxHeartbeats 8000000 in
theorem specGr_any (aa : Option Addr) (la : List StT) (ca : Nat) (ab : Option Addr) (lb : List StT) (cb : Nat) (at_ : Option Addr) (t : List Int) (ct : Nat) (w : World) (h1 : Sts w w.heap.size aa la) (h2 : Sts w w.heap.size ab lb) (h3 : Ints .i64 w w.heap.size at_ t) (n1 : la.length ≤ 1048576) (n2 : lb.length ≤ 1048576) (n3 : t.length ≤ 1048576) (hc : t.length ≤ ct) :
    Calls Try.prog 29 #[.slice aa la.length ca, .slice ab lb.length cb, .slice at_ t.length ct] w (GvRet (grR la lb t) (trB la lb t) w) := by
  obtain ⟨iP, hP', hPz, hP1, hP2⟩ := info_parts infoGr
  have O0 := Lib.hid (World.ownsRow_made (base := w.heap.size) (e := 109) (size := 2) w #[] 0 (Nat.le_refl _) (by unfold maxLen; omega) rfl)
  have W0 := Lib.hid (below_all w (.cells #[] 109))
  have HT := Lib.hid (fun v (hv : trB la lb t = v) => specTr_any aa la ca ab lb cb at_ t ct v (w.alloc (.cells #[] 109)) (sts_alloc h1 _) (sts_alloc h2 _) ((h3.below (below_all _ _) (Nat.le_refl _)).more (by simp)) n1 n2 n3 hc hv)
  have H1 := Lib.hid h1
  have H2 := Lib.hid h2
  have H3 := Lib.hid h3
  clear h1 h2 h3
  cases ht : trB la lb t with
  | false =>
    rw [grR_no ht]
    have HT1 := Lib.hid (HT.out false ht)
    clear HT ht
    go_enter Try.func29, Try.ntmps29
    go_wp2_with (go_at_call 75; (with_reducible refine (HT1.out).mono ?_); rintro e w1 ⟨rfl, b1⟩; have B1 := Lib.hid b1; clear b1)
    go_ret2
    exact ⟨_, _, rfl, ⟨_, Nat.le_refl _, .inl rfl⟩, below_then W0.out B1.out⟩
  | true =>
    rw [grR_yes ht]
    have HT1 := Lib.hid (HT.out true ht)
    have la5 := sts_len (tr_parts ht).1
    have hl := (tr_parts ht).2.2.1
    have HLL := Lib.hid hl
    have HTR := Lib.hid ht
    clear HT ht hl
    go_enter Try.func29, Try.ntmps29
    go_wp2_with fail
    refine HT1.out.mono ?_
    rintro e w1 ⟨rfl, b1⟩
    have B1 := Lib.hid (below_then W0.out b1)
    have O1 := Lib.hid (own_keepsZ O0.out b1)
    clear b1
    go_wp2
    go_loopw [8, 9] (fun q i wr => ∃ k : Nat, k ≤ la.length ∧ i = .int .i64 k ∧ wr.ownsRow w.heap.size 109 2 q (grL la lb t k).length (grv (grL la lb t k)) ∧ Below w.heap.size w wr) (fun _ i _ => la.length - (intOf i).toNat)
    case atStart => exact ⟨0, Nat.zero_le _, rfl, O1.out, B1.out⟩
    case round =>
      obtain ⟨k, hk, rfl, hown, hB⟩ := hrel
      have HO := Lib.hid hown
      have HBR := Lib.hid hB
      clear hown
      by_cases hka : k < la.length
      · have hlt : k < t.length := by have := HLL.out; omega
        obtain ⟨b, o, rfl, hb9, hc9⟩ := (H3.out.below hB (Nat.le_refl _)).at_ hlt
        have hi : (k : Int) < (t.length : Int) := by omega
        have hi0 : (0 : Int) ≤ (k : Int) := by omega
        have hia : (k : Int) < (la.length : Int) := by omega
        obtain ⟨zlo, zhi⟩ := (trs_at (tr_parts HTR.out).2.2.2 hlt).1
        have HON := Lib.hid (fun (e : t[k] = -1) => grE_none (a := la) (b := lb) hlt e)
        have HOS := Lib.hid (fun (n : Nat) (e : t[k] = (n : Int)) (hb : n < lb.length) => grE_some hlt e hka hb)
        have HNX := Lib.hid (show grL la lb t (k + 1) = grL la lb t k ++ [grE la lb t k] from rfl)
        have hlen : (grL la lb t k).length ≤ 5 := by rw [grL_len]; omega
        generalize grE la lb t k = ge at *
        generalize t[k] = z at *
        by_cases hz : z = -1
        · subst hz
          have HF := Lib.hid (HON.out rfl)
          rw [HF.out] at HNX
          clear HON HOS hB
          go_wp2_with (at_builtin; refine wpList_append_own _ rfl _ _ 44 rfl w.heap.size 109 iP (.agg #[.int .i64 0, .int .i64 0]) 2 16 Try.underlying44 hP' hPz hP1 hP2 rfl (by decide) u8 (grL la lb t k).length (grv (grL la lb t k)) rfl (HO.out.alloc _) ⟨wr.heap.size, 0, none⟩ 1 1 [.int .i64 0, .int .i64 0] rfl rfl (World.news_of_block (heap_alloc_new _ _)) (by simp [Value.oneCell']) (by unfold maxLen; omega) (by omega) (by have := HBR.out.size; simp; omega) ?_; intro v' w9 hown9 hgrow9 _; have HO9 := Lib.hid hown9; have HG9 := Lib.hid hgrow9; clear hown9 hgrow9)
          go_roundw
          case rel => exact ⟨k + 1, by omega, by go_num, by rw [HNX.out, grv_append, List.length_append]; exact HO9.out, (HBR.out.alloc HBR.out.size _).grown HG9.out (by have := HBR.out.size; simp; omega) (fun j hj => (HO.out.lt j hj).1)⟩
          case measure => simp [intOf]; omega
        · obtain ⟨n, rfl⟩ : ∃ n : Nat, z = (n : Int) := ⟨z.toNat, by omega⟩
          have hneg : ¬ (n : Int) < 0 := by omega
          have hnb : n < lb.length := by omega
          have hjb : (n : Int) < (lb.length : Int) := by omega
          have hjb0 : (0 : Int) ≤ (n : Int) := by omega
          obtain ⟨b1, o1, rfl, hb1, c0, c1, c2, c3⟩ := (H1.out.below hB (Nat.le_refl _)).at_ hka
          obtain ⟨b2, o2, rfl, hb2, d0, d1, d2, d3⟩ := (H2.out.below hB (Nat.le_refl _)).at_ hnb
          have HOX := Lib.hid (HOS.out n rfl hnb)
          obtain ⟨⟨q1, q2⟩, q3, q4⟩ := tr_bnd HTR.out hka hnb
          generalize la[k] = s1 at *
          generalize lb[n] = s2 at *
          obtain ⟨x0, y0, m0, p0⟩ := s1
          obtain ⟨x1, y1, m1, p1⟩ := s2
          simp only at c0 c1 c2 c3 d0 d1 d2 d3 q1 q2 q3 q4
          have HO2 := Lib.hid (show ge = (m1 - m0, p1 - p0) from HOX.out)
          have hw1 := IntWalk.i64_in (m1 - m0) (by omega)
          have hw2 := IntWalk.i64_in (p1 - p0) (by omega)
          obtain ⟨u, hu⟩ : ∃ q, m1 - m0 = q := ⟨_, rfl⟩
          obtain ⟨v, hv⟩ : ∃ q, p1 - p0 = q := ⟨_, rfl⟩
          rw [hu] at hw1 HO2
          rw [hv] at hw2 HO2
          rw [HO2.out] at HNX
          have hsz := hB.size
          have hb1' : b1 < wr.heap.size := by omega
          have BX := Lib.hid (below_all wr (.cells #[.int .i64 x1, .int .i64 y1, .int .i64 m1, .int .i64 p1] 26))
          have y2 : (wr.alloc (.cells #[.int .i64 x1, .int .i64 y1, .int .i64 m1, .int .i64 p1] 26)).cell? ⟨wr.heap.size, 2, none⟩ = some (.int .i64 m1) := by simp [go_sem]
          have y3 : (wr.alloc (.cells #[.int .i64 x1, .int .i64 y1, .int .i64 m1, .int .i64 p1] 26)).cell? ⟨wr.heap.size, 3, none⟩ = some (.int .i64 p1) := by simp [go_sem]
          have s2 := (BX.out.cell (p := ⟨b1, o1 + k * 4 + 2, none⟩) hb1').trans c2
          have s3 := (BX.out.cell (p := ⟨b1, o1 + k * 4 + 3, none⟩) hb1').trans c3
          have HO3 := Lib.hid (own_keepsZ HO.out BX.out)
          have HX := Lib.hid (And.intro (And.intro y2 y3) (And.intro s2 s3))
          have HBX := Lib.hid (below_then HBR.out BX.out)
          clear HON HOS hz HOX q1 q2 q3 q4 c0 c1 c2 c3 y2 y3 s2 s3 HO hsz
          go_wp2_with fail
          clear d0 d1 d2 d3
          generalize wr.alloc (.cells #[.int .i64 x1, .int .i64 y1, .int .i64 m1, .int .i64 p1] 26) = Wx at *
          obtain ⟨⟨y2, y3⟩, s2, s3⟩ := HX.out
          have HO4 := Lib.hid (show Wx.drew.ownsRow w.heap.size 109 2 u8 (grL la lb t k).length (grv (grL la lb t k)) from HO3.out)
          have HB4 := Lib.hid HBX.out.drew
          clear HX
          go_region_law (first
            | (refine step_append_lies _ (by rfl) _ _ _ (by rfl) w.heap.size 109 iP _ 2 16 Try.underlying44 hP' hPz hP1 hP2 rfl (by omega) u8 (grL la lb t k).length (grv (grL la lb t k)) (by rfl) (HO4.out.alloc _) ⟨Wx.drew.heap.size, 0, none⟩ 1 1 [.int .i64 u, .int .i64 v] (by rfl) (by rfl) (World.news_of_block (heap_alloc_new _ _)) (by simp [Value.oneCell']) (by omega) (by unfold maxLen; omega) (by omega) (by have := HB4.out.size; simp at this ⊢; omega) _ rfl ?_; intro gg cap8 w8 hown8 hgrow8 hat8 hlt8; have HO9 := Lib.hid hown8; have HG9 := Lib.hid hgrow8; clear hown8 hgrow8 hat8 hlt8))
          all_goals
            go_wp2
            go_roundw
            case rel => exact ⟨k + 1, by omega, by go_num, by rw [HNX.out, grv_append, List.length_append]; exact HO9.out, (HB4.out.alloc HB4.out.size _).grown HG9.out (HB4.out.alloc HB4.out.size _).size (fun j hj => (HO4.out.lt j hj).1)⟩
            case measure => simp [intOf]; omega
      · obtain rfl : k = la.length := by omega
        have HL := Lib.hid (grL_len la lb t la.length)
        generalize grL la lb t la.length = r at *
        obtain ⟨a', c', rfl⟩ : ∃ a' c', u8 = .slice a' r.length c' := by
          rcases HO.out.2 with ⟨h1, h2⟩ | ⟨g, cap', cur, h1, _⟩
          · exact ⟨_, _, by rw [h1, h2]⟩
          · exact ⟨_, _, h1⟩
        have HOO := Lib.hid (OwnGr.of_own HO.out)
        clear HO hB
        go_wp2
        go_ret2
        exact ⟨a', c', rfl, HOO.out, HBR.out⟩
end Go.Proofs.Ythceffkkokgpnaa
