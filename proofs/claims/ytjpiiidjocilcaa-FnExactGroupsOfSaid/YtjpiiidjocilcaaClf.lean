/- ClassFor: the model's and the program's. -/
import Derived.Test.YtjpiiidjocilcaaCalSp
namespace Go.Proofs.Ytjpiiidjocilcaa
open Go.RowKit
set_option linter.unusedVariables false
set_option linter.unusedSimpArgs false
/-- the first that is not less -/
def fstC (L : List ShT) (n d : Int) : Nat := (L.takeWhile fun p => lsB p.1 p.2 n d).length
theorem fst_at : ∀ (L : List ShT) (n d : Int) (k : Nat) (hk : k < L.length), (∀ j (h : j < L.length), j < k → lsB L[j].1 L[j].2 n d = true) → lsB L[k].1 L[k].2 n d = false → fstC L n d = k
  | [], _, _, k, hk, _, _ => by simp at hk
  | p :: L, n, d, k, hk, h1, h2 => by
    unfold fstC
    cases k with
    | zero =>
      have e : lsB p.1 p.2 n d = false := h2
      rw [List.takeWhile_cons, e]; rfl
    | succ k =>
      have e : lsB p.1 p.2 n d = true := h1 0 (by simp) (by omega)
      have := fst_at L n d k (by simpa using hk) (fun j h hj => h1 (j + 1) (by simp; exact h) (by omega)) h2
      unfold fstC at this
      rw [List.takeWhile_cons, e]
      simp [this]
theorem fst_all : ∀ (L : List ShT) (n d : Int), (∀ j (h : j < L.length), lsB L[j].1 L[j].2 n d = true) → fstC L n d = L.length
  | [], _, _, _ => rfl
  | p :: L, n, d, h1 => by
    unfold fstC
    have e : lsB p.1 p.2 n d = true := h1 0 (by simp)
    have := fst_all L n d (fun j h => h1 (j + 1) (by simp; exact h))
    unfold fstC at this
    rw [List.takeWhile_cons, e]
    simp [this]
def clfB (l r : List Int) (n d : Int) : Bool := tlB l r && (shB n d && decide (fstC (calL l r) n d < (calL l r).length))
def clfN (l r : List Int) (n d : Int) : Int := if clfB l r n d = true then (fstC (calL l r) n d : Int) else 0
theorem bestI_lt (G : List CgT) (c : Int) : ∀ n, 0 < n → bestI G c n < n
  | 0, h => by omega
  | n + 1, _ => by
    unfold bestI
    split
    · omega
    · rcases Nat.eq_zero_or_pos n with h | h
      · subst h; show 0 < 1; omega
      · have := bestI_lt G c n h; omega
theorem cal_sh {l r : List Int} (h : tlB l r = true) : ∀ p ∈ calL l r, shB p.1 p.2 = true := by
  rw [calL_yes h]
  intro p hp
  unfold calT at hp
  split at hp
  · simp at hp
  · rename_i h0
    unfold calS at hp
    rw [List.mem_map] at hp
    obtain ⟨c, _, rfl⟩ := hp
    have hlt := bestI_lt (cgL (calG l r 11)) (c : Int) (cgL (calG l r 11)).length (by rw [cgL_len]; omega)
    rw [List.getD_eq_getElem?_getD, List.getElem?_eq_getElem hlt]
    have hm := (cg_ok h _ (List.getElem_mem hlt)).1
    obtain ⟨p, hp⟩ : ∃ p, (cgL (calG l r 11))[bestI (cgL (calG l r 11)) (c : Int) (cgL (calG l r 11)).length]'hlt = p := ⟨_, rfl⟩
    rw [hp] at hm ⊢
    exact red_share (a := p.2.2) (b := p.2.1) hm.2.1 (by omega) hm.2.2.1 (by omega)
theorem clf_no {l r : List Int} {n d : Int} (h : clfB l r n d = false) : clfN l r n d = 0 := by unfold clfN; rw [h]; rfl
theorem clf_k {l r : List Int} {n d : Int} {k : Nat} (h1 : tlB l r = true) (h2 : shB n d = true) (hk : k < (calL l r).length) (h3 : ∀ j (h : j < (calL l r).length), j < k → lsB (calL l r)[j].1 (calL l r)[j].2 n d = true) (h4 : lsB (calL l r)[k].1 (calL l r)[k].2 n d = false) : clfB l r n d = true ∧ clfN l r n d = (k : Int) := by
  have e := fst_at _ n d k hk h3 h4
  have hb : clfB l r n d = true := by unfold clfB; rw [h1, h2, e]; simpa using hk
  exact ⟨hb, by unfold clfN; rw [hb, e]; rfl⟩
theorem clf_end {l r : List Int} {n d : Int} (h : ∀ j (h : j < (calL l r).length), lsB (calL l r)[j].1 (calL l r)[j].2 n d = true) : clfB l r n d = false := by
  have e := fst_all _ n d h
  unfold clfB
  rw [e]
  simp
set_option maxRecDepth 100000 in
set_option maxHeartbeats 8000000 in
theorem specClf_any (a b : Option Addr) (l r : List Int) (c d : Nat) (sn sd : Int) (w : World) (hl : Ints .i64 w w.heap.size a l) (hr : Ints .i64 w w.heap.size b r) :
    Calls Try.prog 41 #[.agg #[.slice a l.length c, .slice b r.length d], .agg #[.int .i64 sn, .int .i64 sd]] w fun e w' => e = .returned (.tuple #[.int .i64 (clfN l r sn sd), .bool (clfB l r sn sd)]) ∧ Below w.heap.size w w' := by
  have hlW := ints_alloc (ints_alloc hl (.cells #[.slice a l.length c, .slice b r.length d] 27)) (.cells #[.int .i64 sn, .int .i64 sd] 38)
  have hrW := ints_alloc (ints_alloc hr (.cells #[.slice a l.length c, .slice b r.length d] 27)) (.cells #[.int .i64 sn, .int .i64 sd] 38)
  have HV := Lib.hid (specTl_is a b l r c d _ _ hlW hrW rfl)
  have HF := Lib.hid (fun W => specFrac_any sn sd W)
  have B0 := Lib.hid (((Below.refl w.heap.size w).alloc (Nat.le_refl _) (.cells #[.slice a l.length c, .slice b r.length d] 27)).alloc (by simp) (.cells #[.int .i64 sn, .int .i64 sd] 38))
  have HL := Lib.hid hlW
  have HR := Lib.hid hrW
  clear hl hr hlW hrW
  cases ht : tlB l r with
  | false =>
    have eB : clfB l r sn sd = false := by unfold clfB; rw [ht]; rfl
    rw [clf_no eB, eB]
    rw [ht] at HV
    clear ht eB
    go_enter Try.func41, Try.ntmps41
    go_wp2_with fail
    refine HV.out.mono ?_
    rintro e w1 ⟨rfl, b1⟩
    have HB := Lib.hid (B0.out.trans (b1.mono B0.out.size))
    clear b1
    go_wp2
    go_ret2
    exact ⟨rfl, HB.out⟩
  | true =>
    rw [ht] at HV
    have hs0 : ((w.alloc (.cells #[.slice a l.length c, .slice b r.length d] 27)).alloc (.cells #[.int .i64 sn, .int .i64 sd] 38)).heap.size = w.heap.size + 2 := by simp
    have X0 := Lib.hid (show ∀ W, Below ((w.alloc (.cells #[.slice a l.length c, .slice b r.length d] 27)).alloc (.cells #[.int .i64 sn, .int .i64 sd] 38)).heap.size ((w.alloc (.cells #[.slice a l.length c, .slice b r.length d] 27)).alloc (.cells #[.int .i64 sn, .int .i64 sd] 38)) W → (W.cell? ⟨w.heap.size, 0, none⟩ = some (.slice a l.length c) ∧ W.cell? ⟨w.heap.size, 1, none⟩ = some (.slice b r.length d)) ∧ W.cell? ⟨w.heap.size + 1, 0, none⟩ = some (.int .i64 sn) ∧ W.cell? ⟨w.heap.size + 1, 1, none⟩ = some (.int .i64 sd) from fun W G =>
      ⟨⟨(G.cell (p := ⟨w.heap.size, 0, none⟩) (by simp; omega)).trans (by simp [go_sem]), (G.cell (p := ⟨w.heap.size, 1, none⟩) (by simp; omega)).trans (by simp [go_sem])⟩, (G.cell (p := ⟨w.heap.size + 1, 0, none⟩) (by simp)).trans (by simp [go_sem]), (G.cell (p := ⟨w.heap.size + 1, 1, none⟩) (by simp)).trans (by simp [go_sem])⟩)
    have D0 := Lib.hid (Below.refl ((w.alloc (.cells #[.slice a l.length c, .slice b r.length d] 27)).alloc (.cells #[.int .i64 sn, .int .i64 sd] 38)).heap.size ((w.alloc (.cells #[.slice a l.length c, .slice b r.length d] 27)).alloc (.cells #[.int .i64 sn, .int .i64 sd] 38)))
    have HS0 := Lib.hid hs0
    clear hs0
    cases hs : shB sn sd with
    | false =>
      have eB : clfB l r sn sd = false := by unfold clfB; rw [ht, hs]; rfl
      rw [clf_no eB, eB]
      rw [hs] at HF
      clear ht hs eB
      go_enter Try.func41, Try.ntmps41
      go_wp2_with fail
      refine HV.out.mono ?_
      rintro e w1 ⟨rfl, b1⟩
      have D1 := Lib.hid (D0.out.trans (b1.mono (Nat.le_refl _)))
      clear b1
      obtain ⟨⟨y0, y1⟩, y2, y3⟩ := X0.out _ D1.out
      go_wp2_with (go_at_call 71; refine (HF.out _).mono ?_; rintro e w2 ⟨rfl, b2⟩; have D2 := Lib.hid (D1.out.trans (b2.mono D1.out.size)); clear b2)
      go_ret2
      exact ⟨rfl, B0.out.trans (D2.out.mono B0.out.size)⟩
    | true =>
      have HSH := Lib.hid (fun W (h : Ints .i64 W W.heap.size a l) (h' : Ints .i64 W W.heap.size b r) => specShares_any a b l r c d W h h' ht)
      have HCS := Lib.hid (cal_sh ht)
      have HK := Lib.hid (fun k hk => clf_k (l := l) (r := r) (n := sn) (d := sd) (k := k) ht hs hk)
      have HEN := Lib.hid (clf_end (l := l) (r := r) (n := sn) (d := sd))
      have HNO := Lib.hid (clf_no (l := l) (r := r) (n := sn) (d := sd))
      have hll := calL_len l r
      have HSS := Lib.hid hs
      rw [hs] at HF
      rw [← calL_yes ht] at HSH
      unfold ShPost at HSH
      clear ht hs
      generalize calL l r = L at *
      obtain ⟨rn, hrn⟩ : ∃ z, clfN l r sn sd = z := ⟨_, rfl⟩
      obtain ⟨rv, hrv⟩ : ∃ z, clfB l r sn sd = z := ⟨_, rfl⟩
      rw [hrn, hrv] at HK
      rw [hrv] at HEN HNO
      rw [hrn] at HNO
      rw [hrn, hrv]
      clear hrn hrv
      go_enter Try.func41, Try.ntmps41
      go_wp2_with fail
      refine HV.out.mono ?_
      rintro e w1 ⟨rfl, b1⟩
      have D1 := Lib.hid (D0.out.trans (b1.mono (Nat.le_refl _)))
      have LA := Lib.hid (ints_below HL.out b1)
      have RA := Lib.hid (ints_below HR.out b1)
      clear b1
      obtain ⟨⟨y0, y1⟩, y2, y3⟩ := X0.out _ D1.out
      go_wp2_with (go_at_call 71; refine (HF.out _).mono ?_; rintro e w2 ⟨rfl, b2⟩; have D2 := Lib.hid (D1.out.trans (b2.mono D1.out.size)); have LA2 := Lib.hid (ints_below LA.out b2); have RA2 := Lib.hid (ints_below RA.out b2); obtain ⟨⟨y0, y1⟩, y2, y3⟩ := X0.out _ D2.out; clear b2)
      refine (HSH.out _ LA2.out RA2.out).mono ?_
      rintro e w3 ⟨av, cv, rfl, o3, b3⟩
      have D3 := Lib.hid (D2.out.trans (b3.mono D2.out.size))
      have R3 := Lib.hid o3.reads
      clear b3 o3 y0 y1 y2 y3 D1 D2 LA RA LA2 RA2
      go_wp2
      go_loopw [7] (fun i wr => ∃ k : Nat, k ≤ L.length ∧ i = .int .i64 k ∧ Below w3.heap.size w3 wr ∧ ∀ j (h : j < L.length), j < k → lsB L[j].1 L[j].2 sn sd = true) (fun i _ => L.length - (intOf i).toNat)
      case atStart => exact ⟨0, Nat.zero_le _, rfl, Below.refl _ _, fun _ _ h => by omega⟩
      case round =>
        obtain ⟨k, hk, rfl, hB, hall⟩ := hrel
        have HB := Lib.hid hB
        have HA := Lib.hid hall
        have D4 := Lib.hid (D3.out.trans (hB.mono D3.out.size))
        by_cases hlt : k < L.length
        · obtain ⟨b1, o1, rfl, hb1, c0, c1⟩ := (R3.out.below hB (Nat.le_refl _)).at_ hlt
          have hi : (k : Int) < (L.length : Int) := by omega
          have hi0 : (0 : Int) ≤ (k : Int) := by omega
          have HNX := Lib.hid (fun (hx : lsB L[k].1 L[k].2 sn sd = true) j (x : j < L.length) (hj : j < k + 1) => show lsB L[j].1 L[j].2 sn sd = true by
            rcases Nat.lt_or_ge j k with h1 | h1
            · exact HA.out j x h1
            · obtain rfl : j = k := by omega
              exact hx)
          have HYES := Lib.hid (fun hx => HK.out k hlt HA.out hx)
          have HC := Lib.hid (fun W => specLess_any L[k].1 L[k].2 sn sd W (HCS.out _ (List.getElem_mem hlt)) HSS.out)
          obtain ⟨⟨y0, y1⟩, y2, y3⟩ := X0.out _ D4.out
          have hsz := hB.size
          have hsd := D4.out.size
          have hs0 := HS0.out
          have p0 := later_cell c0 (by omega)
          have p1 := later_cell c1 (by omega)
          have p2 := later_cell y2 (by omega)
          have p3 := later_cell y3 (by omega)
          clear hB hall c0 c1 y0 y1 y2 y3 hs0 hsd hsz
          generalize L[k].1 = x at *
          generalize L[k].2 = y at *
          go_wp2_with fail
          cases hx : lsB x y sn sd with
          | false =>
            rw [hx] at HC
            have HR9 := Lib.hid (HYES.out hx)
            clear hx
            refine wp_region_later (by kernel_rfl) (by kernel_rfl) ?_
            repeat (go_big_quiet_step ((go_at_call 72; exact calls_later (HC.out _))))
            refine wpQuiet_nil ?_
            intro _ hw'
            obtain ⟨pq, hw''⟩ := hw'
            subst hw''
            have B1 := Lib.hid (D4.out.trans (pq.below.mono D4.out.size))
            clear p0 p1 p2 p3
            go_wp2
            go_ret2
            exact ⟨by rw [HR9.out.1, HR9.out.2]; rfl, B0.out.trans (B1.out.mono B0.out.size)⟩
          | true =>
            rw [hx] at HC
            have HX := Lib.hid hx
            clear hx
            refine wp_region_later (by kernel_rfl) (by kernel_rfl) ?_
            repeat (go_big_quiet_step ((go_at_call 72; exact calls_later (HC.out _))))
            refine wpQuiet_nil ?_
            intro _ hw'
            obtain ⟨pq, hw''⟩ := hw'
            subst hw''
            have B1 := Lib.hid (HB.out.trans (pq.below.mono HB.out.size))
            clear p0 p1 p2 p3
            go_wp2
            go_roundw
            case rel => exact ⟨k + 1, by omega, by go_num, B1.out, HNX.out HX.out⟩
            case measure => simp [intOf]; omega
        · obtain rfl : k = L.length := by omega
          have HV0 := Lib.hid (HEN.out (fun j x => HA.out j x x))
          have HN0 := Lib.hid (HNO.out HV0.out)
          clear hall hB
          go_wp2
          go_ret2
          exact ⟨by rw [HV0.out, HN0.out]; rfl, B0.out.trans (D4.out.mono B0.out.size)⟩
set_option maxRecDepth 100000 in
set_option maxHeartbeats 8000000 in
theorem implClf_any (a b : Option Addr) (l r : List Int) (c d : Nat) (sn sd : Int) (w : World) (hl : Ints .i64 w w.heap.size a l) (hr : Ints .i64 w w.heap.size b r) :
    Calls Try.prog 43 #[.agg #[.slice a l.length c, .slice b r.length d], .agg #[.int .i64 sn, .int .i64 sd]] w fun e w' => e = .returned (.tuple #[.int .i64 (clfN l r sn sd), .bool (clfB l r sn sd)]) ∧ Below w.heap.size w w' := by
  have hlW := ints_alloc (ints_alloc hl (.cells #[.slice a l.length c, .slice b r.length d] 27)) (.cells #[.int .i64 sn, .int .i64 sd] 38)
  have hrW := ints_alloc (ints_alloc hr (.cells #[.slice a l.length c, .slice b r.length d] 27)) (.cells #[.int .i64 sn, .int .i64 sd] 38)
  have HV := Lib.hid (implCal_any a b l r c d _ hlW hrW)
  have HF := Lib.hid (fun W => isShare_any sn sd W)
  have B0 := Lib.hid (((Below.refl w.heap.size w).alloc (Nat.le_refl _) (.cells #[.slice a l.length c, .slice b r.length d] 27)).alloc (by simp) (.cells #[.int .i64 sn, .int .i64 sd] 38))
  have hs0 : ((w.alloc (.cells #[.slice a l.length c, .slice b r.length d] 27)).alloc (.cells #[.int .i64 sn, .int .i64 sd] 38)).heap.size = w.heap.size + 2 := by simp
  have X0 := Lib.hid (show ∀ W, Below ((w.alloc (.cells #[.slice a l.length c, .slice b r.length d] 27)).alloc (.cells #[.int .i64 sn, .int .i64 sd] 38)).heap.size ((w.alloc (.cells #[.slice a l.length c, .slice b r.length d] 27)).alloc (.cells #[.int .i64 sn, .int .i64 sd] 38)) W → W.cell? ⟨w.heap.size + 1, 0, none⟩ = some (.int .i64 sn) ∧ W.cell? ⟨w.heap.size + 1, 1, none⟩ = some (.int .i64 sd) from fun W G =>
    ⟨(G.cell (p := ⟨w.heap.size + 1, 0, none⟩) (by simp)).trans (by simp [go_sem]), (G.cell (p := ⟨w.heap.size + 1, 1, none⟩) (by simp)).trans (by simp [go_sem])⟩)
  have D0 := Lib.hid (Below.refl ((w.alloc (.cells #[.slice a l.length c, .slice b r.length d] 27)).alloc (.cells #[.int .i64 sn, .int .i64 sd] 38)).heap.size ((w.alloc (.cells #[.slice a l.length c, .slice b r.length d] 27)).alloc (.cells #[.int .i64 sn, .int .i64 sd] 38)))
  have HS0 := Lib.hid hs0
  have HNO := Lib.hid (clf_no (l := l) (r := r) (n := sn) (d := sd))
  unfold SRet at HV
  clear hl hr hlW hrW hs0
  cases hb : calB l r with
  | false =>
    have eL : calL l r = [] := by
      cases ht : tlB l r with
      | false => unfold calL; rw [ht]; rfl
      | true =>
        rw [calB_is l r ht] at hb
        rw [calL_yes ht]
        cases e : calT l r with
        | nil => rfl
        | cons p L => rw [e] at hb; simp at hb
    have eB : clfB l r sn sd = false := clf_end (fun j h => by rw [eL] at h; simp at h)
    rw [clf_no eB, eB]
    rw [hb] at HV
    clear hb eB eL
    go_enter Try.func43, Try.ntmps43
    go_wp2_with fail
    refine HV.out.mono ?_
    rintro e w1 ⟨av, cv, rfl, o1, b1⟩
    have HB := Lib.hid (B0.out.trans (b1.mono B0.out.size))
    clear b1 o1
    go_wp2
    go_ret2
    exact ⟨rfl, HB.out⟩
  | true =>
    have ht : tlB l r = true := by unfold calB at hb; rw [Bool.and_eq_true] at hb; exact hb.1
    rw [hb] at HV
    cases hs : shB sn sd with
    | false =>
      have eB : clfB l r sn sd = false := by unfold clfB; rw [hs, ht]; rfl
      rw [clf_no eB, eB]
      rw [hs] at HF
      clear hb ht hs eB
      go_enter Try.func43, Try.ntmps43
      go_wp2_with fail
      refine HV.out.mono ?_
      rintro e w1 ⟨av, cv, rfl, o1, b1⟩
      have D1 := Lib.hid (D0.out.trans (b1.mono (Nat.le_refl _)))
      clear b1 o1
      obtain ⟨y2, y3⟩ := X0.out _ D1.out
      go_wp2_with (go_at_call 75; refine (HF.out _).mono ?_; rintro e w2 ⟨rfl, b2⟩; have D2 := Lib.hid (D1.out.trans (b2.mono D1.out.size)); clear b2)
      go_ret2
      exact ⟨rfl, B0.out.trans (D2.out.mono B0.out.size)⟩
    | true =>
      have HCS := Lib.hid (cal_sh ht)
      have HK := Lib.hid (fun k hk => clf_k (l := l) (r := r) (n := sn) (d := sd) (k := k) ht hs hk)
      have HEN := Lib.hid (clf_end (l := l) (r := r) (n := sn) (d := sd))
      have hll := calL_len l r
      have HSS := Lib.hid hs
      rw [hs] at HF
      clear hb ht hs
      generalize calL l r = L at *
      obtain ⟨rn, hrn⟩ : ∃ z, clfN l r sn sd = z := ⟨_, rfl⟩
      obtain ⟨rv, hrv⟩ : ∃ z, clfB l r sn sd = z := ⟨_, rfl⟩
      rw [hrn, hrv] at HK
      rw [hrv] at HEN HNO
      rw [hrn] at HNO
      rw [hrn, hrv]
      clear hrn hrv
      go_enter Try.func43, Try.ntmps43
      go_wp2_with fail
      refine HV.out.mono ?_
      rintro e w1 ⟨av, cv, rfl, o1, b1⟩
      have D1 := Lib.hid (D0.out.trans (b1.mono (Nat.le_refl _)))
      have R1 := Lib.hid o1.reads
      clear b1 o1
      obtain ⟨y2, y3⟩ := X0.out _ D1.out
      go_wp2_with (go_at_call 75; refine (HF.out _).mono ?_; rintro e w2 ⟨rfl, b2⟩; have D2 := Lib.hid (D1.out.trans (b2.mono D1.out.size)); have R2 := Lib.hid (shs_below R1.out b2); clear b2)
      clear y2 y3
      go_loopw [24] (fun i wr => ∃ k : Nat, k ≤ L.length ∧ i = .int .i64 k ∧ Below w2.heap.size w2 wr ∧ ∀ j (h : j < L.length), j < k → lsB L[j].1 L[j].2 sn sd = true) (fun i _ => L.length - (intOf i).toNat)
      case atStart => exact ⟨0, Nat.zero_le _, rfl, Below.refl _ _, fun _ _ h => by omega⟩
      case round =>
        obtain ⟨k, hk, rfl, hB, hall⟩ := hrel
        have HB := Lib.hid hB
        have HA := Lib.hid hall
        have D4 := Lib.hid (D2.out.trans (hB.mono D2.out.size))
        by_cases hlt : k < L.length
        · obtain ⟨b1, o1, rfl, hb1, c0, c1⟩ := (R2.out.below hB (Nat.le_refl _)).at_ hlt
          have hi : (k : Int) < (L.length : Int) := by omega
          have hi0 : (0 : Int) ≤ (k : Int) := by omega
          have HNX := Lib.hid (fun (hx : lsB L[k].1 L[k].2 sn sd = true) j (x : j < L.length) (hj : j < k + 1) => show lsB L[j].1 L[j].2 sn sd = true by
            rcases Nat.lt_or_ge j k with h1 | h1
            · exact HA.out j x h1
            · obtain rfl : j = k := by omega
              exact hx)
          have HYES := Lib.hid (fun hx => HK.out k hlt HA.out hx)
          have HC := Lib.hid (fun W => cmp_any L[k].1 L[k].2 sn sd W (HCS.out _ (List.getElem_mem hlt)) HSS.out)
          rw [lsB_cmp] at HNX HYES
          obtain ⟨y2, y3⟩ := X0.out _ D4.out
          have hsz := hB.size
          have hsd := D4.out.size
          have hs0 := HS0.out
          have l1 : w.heap.size + 1 < wr.heap.size := by omega
          have l2 : ¬ wr.heap.size = w.heap.size + 1 := by omega
          have l3 : ¬ w.heap.size + 1 = wr.heap.size := by omega
          clear hB hall hsd hsz hs0
          generalize L[k].1 = x at *
          generalize L[k].2 = y at *
          generalize cmpS x y sn sd = z at *
          by_cases hz : z < 0
          · have HX := Lib.hid (HNX.out (decide_eq_true hz))
            have hz2 : ¬ z ≥ 0 := by omega
            go_wp2_with (go_at_call 77; refine (HC.out _).mono ?_; rintro e w5 ⟨rfl, b5⟩; have B1 := Lib.hid ((HB.out.alloc HB.out.size _).trans (b5.mono (HB.out.alloc HB.out.size _).size)); clear b5)
            go_roundw
            case rel => exact ⟨k + 1, by omega, by go_num, B1.out, HX.out⟩
            case measure => simp [intOf]; omega
          · have HR9 := Lib.hid (HYES.out (decide_eq_false hz))
            have hz2 : z ≥ 0 := by omega
            go_wp2_with (go_at_call 77; refine (HC.out _).mono ?_; rintro e w5 ⟨rfl, b5⟩; have B1 := Lib.hid ((D4.out.alloc D4.out.size _).trans (b5.mono (D4.out.alloc D4.out.size _).size)); clear b5)
            go_ret2
            exact ⟨by rw [HR9.out.1, HR9.out.2]; rfl, B0.out.trans (B1.out.mono B0.out.size)⟩
        · obtain rfl : k = L.length := by omega
          have HV0 := Lib.hid (HEN.out (fun j x => HA.out j x x))
          have HN0 := Lib.hid (HNO.out HV0.out)
          clear hall hB
          go_wp2
          go_ret2
          exact ⟨by rw [HV0.out, HN0.out]; rfl, B0.out.trans (D4.out.mono B0.out.size)⟩
end Go.Proofs.Ytjpiiidjocilcaa
