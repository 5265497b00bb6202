/- The program's risingGroups: the groups of a calibration. -/
import Derived.Test.YtjpiiidjocilcaaCalI
import Derived.Deep.LoopGhost
namespace Go.Proofs.Ytjpiiidjocilcaa
open Go.RowKit
set_option linter.unusedVariables false
set_option linter.unusedSimpArgs false
theorem ok_cg {g : Gr} (h : okG g) (hs : g.ca ≤ 100000) : okC (cgOf g) := ⟨h.1, h.2.1, h.2.2.1, hs⟩
theorem join_cg {p g : Gr} (h : okG p) : joinC (cgOf p) (cgOf g) = cgOf (p.join g) := by
  obtain ⟨cs, ca, hi⟩ := p
  have hne : cs ≠ [] := h.2.2.2
  unfold joinC cgOf Gr.join
  cases cs with
  | nil => exact absurd rfl hne
  | cons a r => rfl
theorem cgs_of_own {w : World} {base g n cap : Nat} {l : List CgT} (h : w.ownsRow base 83 3 (.slice (some ⟨g, 0, none⟩) n cap) n (cgv l)) (hn : n = l.length) : Cgs w w.heap.size (some ⟨g, 0, none⟩) l := by
  subst hn
  refine .inr ⟨g, 0, rfl, (h.lt g rfl).2, fun j hj => ?_⟩
  have e := cgv_get l j hj
  have h1 := h.cellAt (j * 3) (by omega)
  have h2 := h.cellAt (j * 3 + 1) (by omega)
  have h3 := h.cellAt (j * 3 + 2) (by omega)
  rw [Nat.zero_add, h1, h2, h3]
  exact e
/-- what the stack of groups is in memory -/
structure RgI (w0 : World) (st : List Gr) (v : Value) (wr : World) : Prop where
  ok : ∀ x ∈ st, okG x
  sum : sumC st ≤ 11000
  len : st.length ≤ 11
  own : wr.ownsRow w0.heap.size 83 3 v st.length (cgv (cgL st))
  bel : Below w0.heap.size w0 wr
theorem RgI.small {w0 wr : World} {st : List Gr} {v : Value} (h : RgI w0 st v wr) {x : Gr} (hx : x ∈ st) : x.ca ≤ 11000 := Int.le_trans (sum_mem st h.ok x hx) h.sum
theorem RgI.later {w0 wr w' : World} {st : List Gr} {v : Value} (h : RgI w0 st v wr) (hb : Below wr.heap.size wr w') : RgI w0 st v w' :=
  ⟨h.ok, h.sum, h.len, h.own.kept (gb_none hb) (by rcases e : v.ownBlock with _ | k; exact .inl rfl; exact .inr (by simp)), h.bel.trans (hb.mono h.bel.size)⟩
theorem RgI.turn {w0 wr w' : World} {st st' : List Gr} {v v' : Value} (h : RgI w0 st v wr) (hg : wr.grownBy w' v.ownBlock) (h1 : ∀ x ∈ st', okG x) (h2 : sumC st' ≤ 11000) (h3 : st'.length ≤ 11) (h4 : w'.ownsRow w0.heap.size 83 3 v' st'.length (cgv (cgL st'))) : RgI w0 st' v' w' :=
  ⟨h1, h2, h3, h4, h.bel.grown hg h.bel.size (fun j hj => (h.own.lt j hj).1)⟩
def RisePost (L : List Gr) (w : World) (e : Ending) (w' : World) : Prop :=
  ∃ a c, e = .returned (.slice a L.length c) ∧ Cgs w' w'.heap.size a (cgL L) ∧ (∀ x, a = some x → w.heap.size ≤ x.block) ∧ Below w.heap.size w w'
set_option maxRecDepth 100000 in
set_option maxHeartbeats 8000000 in
theorem rising_any (a b : Option Addr) (l r : List Int) (c d : Nat) (w : World) (hl : Ints .i64 w w.heap.size a l) (hr : Ints .i64 w w.heap.size b r) (ht : tlB l r = true) :
    Calls Try.prog 68 #[.agg #[.slice a l.length c, .slice b r.length d]] w (RisePost (calG l r 11) w) := by
  obtain ⟨iP, hP', hPz, hP1, hP2⟩ := info_parts infoCg
  obtain ⟨hl11, hr11⟩ := tl_len ht
  have HT := Lib.hid ht
  have HL := Lib.hid (ints_alloc hl (.cells #[.slice a l.length c, .slice b r.length d] 27))
  have HR := Lib.hid (ints_alloc hr (.cells #[.slice a l.length c, .slice b r.length d] 27))
  have H11 := Lib.hid hl11
  have R11 := Lib.hid hr11
  have c0 : (w.alloc (.cells #[.slice a l.length c, .slice b r.length d] 27)).cell? ⟨w.heap.size, 0, none⟩ = some (.slice a l.length c) := by simp [go_sem]
  have c1 : (w.alloc (.cells #[.slice a l.length c, .slice b r.length d] 27)).cell? ⟨w.heap.size, 1, none⟩ = some (.slice b r.length d) := by simp [go_sem]
  have B0 := Lib.hid (below_all w (.cells #[.slice a l.length c, .slice b r.length d] 27))
  have hs0 : (w.alloc (.cells #[.slice a l.length c, .slice b r.length d] 27)).heap.size = w.heap.size + 1 := by simp
  clear hl hr ht hl11 hr11
  go_enter Try.func68, Try.ntmps68
  go_wp2
  have HS0 := Lib.hid hs0
  have C0 := Lib.hid c0
  have C1 := Lib.hid c1
  generalize w.alloc (.cells #[.slice a l.length c, .slice b r.length d] 27) = w0 at *
  have I0 := Lib.hid (show RgI w0 (calG l r 0) (.slice (some ⟨w0.heap.size, 0, none⟩) 0 0) (w0.alloc (.cells #[] 83)) from
    ⟨fun x hx => by simp [calG] at hx, by simp [calG, sumC], by simp [calG], World.ownsRow_made (base := w0.heap.size) (e := 83) (size := 3) w0 #[] 0 (Nat.le_refl _) (by unfold maxLen; omega) rfl, (Below.refl _ _).alloc (Nat.le_refl _) _⟩)
  rw [HS0.out] at I0
  clear hs0 c0 c1
  go_loopw [10, 3] (fun i v wr => ∃ k : Nat, k ≤ 11 ∧ i = .int .i64 k ∧ RgI w0 (calG l r k) v wr) (fun i _ _ => 11 - (intOf i).toNat)
  case atStart => exact ⟨0, by omega, rfl, I0.out⟩
  case round =>
    obtain ⟨k, hk, rfl, hI⟩ := hrel
    have HI := Lib.hid hI
    clear hI I0
    by_cases hlt : k < 11
    · have hk1 : k < l.length := by have := H11.out; omega
      have hk2 : k < r.length := by have := R11.out; omega
      have HG := Lib.hid (fun W (h : Ints .i64 W W.heap.size a l) (h' : Ints .i64 W W.heap.size b r) => groupOf_any a b l r c d k W h h' hk1 hk2 (by have := H11.out; omega) (by have := R11.out; omega))
      have gl := getD_at l hk1
      have gr := getD_at r hk2
      have HA := Lib.hid ((HL.out.below HI.out.bel (Nat.le_refl _)).more HI.out.bel.size)
      have HB := Lib.hid ((HR.out.below HI.out.bel (Nat.le_refl _)).more HI.out.bel.size)
      have e0 := (HI.out.bel.cell (p := ⟨w.heap.size, 0, none⟩) (by have := HS0.out; show w.heap.size < _; omega)).trans C0.out
      have e1 := (HI.out.bel.cell (p := ⟨w.heap.size, 1, none⟩) (by have := HS0.out; show w.heap.size < _; omega)).trans C1.out
      obtain ⟨b1, o1, ea, hb1, hc1⟩ := HA.out.at_ hk1
      have hi : (k : Int) < (l.length : Int) := by omega
      have hi0 : (0 : Int) ≤ (k : Int) := by omega
      have HST := Lib.hid (show calG l r (k + 1) = if l.getD k 0 = 0 then calG l r k else pushG (calG l r k) (oneG l r k) from rfl)
      have HON := Lib.hid (show l.getD k 0 ≠ 0 → okG (oneG l r k) ∧ (oneG l r k).ca ≤ 1000 from fun h => one_ok HT.out (by omega) h)
      have HOG := Lib.hid (show oneG l r k = ⟨[(k : Int)], l.getD k 0, r.getD k 0⟩ from rfl)
      have HLE := Lib.hid (cal_ok HT.out k (by omega)).2
      have HLN := Lib.hid (cal_len l r k)
      rw [gl] at HST HON HOG
      rw [gr] at HOG
      clear gl gr
      obtain ⟨T, hT⟩ : ∃ T, calG l r (k + 1) = T := ⟨_, rfl⟩
      have HTT := Lib.hid hT
      rw [hT] at HST
      clear hT
      generalize calG l r k = st at *
      generalize oneG l r k = g0 at *
      generalize l[k] = x at *
      generalize r[k] = y at *
      subst ea
      by_cases hx : x = 0
      · have HT0 := Lib.hid (show T = st by rw [HST.out, if_pos hx])
        subst hx
        go_wp2
        go_roundw
        case rel => exact ⟨k + 1, by omega, by go_num, by rw [HTT.out, HT0.out]; exact HI.out⟩
        case measure => simp [intOf]; omega
      · have HT1 := Lib.hid (show T = pushG st g0 by rw [HST.out, if_neg hx])
        have HO1 := Lib.hid (HON.out hx)
        have hx2 : (x == 0) = false := by simp [hx]
        clear HST HON
        go_wp2_with (first
          | (go_at_call 65; refine (HG.out _ HA.out HB.out).mono ?_; rintro e w1 ⟨rfl, bb1⟩; have HB1 := Lib.hid bb1; have HI1 := Lib.hid (HI.out.later bb1); clear bb1)
          | (at_builtin; refine wpList_append_own _ rfl _ _ 87 rfl w0.heap.size 83 iP (.agg #[.int .i64 0, .int .i64 0, .int .i64 0]) 3 24 Try.underlying87 hP' hPz hP1 hP2 rfl (by decide) u3 st.length (cgv (cgL st)) rfl (HI1.out.own.alloc _) ⟨w1.heap.size, 0, none⟩ 1 1 [.int .i64 k, .int .i64 x, .int .i64 y] rfl rfl (World.news_of_block (heap_alloc_new _ _)) (by simp [Value.oneCell']) (by have := HLN.out; unfold maxLen; omega) (by have := HLN.out; omega) (by have := HI1.out.bel.size; simp; omega) ?_; intro v2 w2 hown2 hgrow2 _; have O2 := Lib.hid hown2; have G2 := Lib.hid hgrow2; clear hown2 hgrow2))
        have I2 := Lib.hid (show RgI w0 (g0 :: st) v2 w2 from (HI1.out.later (below_all _ _)).turn G2.out
          (fun q hq => by rcases List.mem_cons.1 hq with rfl | hq; exact HO1.out.1; exact HI.out.ok q hq)
          (by have h1 := HO1.out.2; have h2 := HLE.out; show g0.ca + sumC st ≤ 11000; omega)
          (by have h1 := HLN.out; show st.length + 1 ≤ 11; omega)
          (by rw [cgL_cons, cgv_append, HOG.out]; exact O2.out))
        clear O2 G2 HI1 HB1 HA HB e0 e1 HLE HOG HG hc1 hb1
        clear hx hx2
        go_loopg [3] st.length (fun gk v wi => ∃ (g : Gr) (q : List Gr), gk = q.length ∧ pushG q g = T ∧ RgI w0 (g :: q) v wi)
        case atStart => exact ⟨g0, st, rfl, HT1.out.symm, I2.out⟩
        case round =>
          obtain ⟨g, q, hgk, hp, hI⟩ := hrel
          have HGK := Lib.hid hgk
          have HP := Lib.hid hp
          have HQ := Lib.hid hI
          clear hgk hp hI I2 HT1
          cases q with
          | nil =>
            have HE := Lib.hid (show T = [g] by rw [← HP.out]; rfl)
            obtain ⟨gb, cb, ev, _, _⟩ := HQ.out.own.form (by simp)
            have HF := Lib.hid (fun W => lastFalls_few (some ⟨gb, 0, none⟩) ([g] : List Gr).length cb W (by simp))
            subst ev
            go_wp2_with (go_at_call 87; refine (HF.out _).mono ?_; rintro e w3 ⟨rfl, b3⟩; have I3 := Lib.hid (HQ.out.later b3); clear b3)
            go_roundw
            case rel => exact ⟨k + 1, by omega, by go_num, by rw [HTT.out, HE.out]; exact I3.out⟩
            case measure => simp [intOf]; omega
          | cons p q =>
            have hq0 := HQ.out.len
            simp only [List.length_cons] at hq0
            have op := HQ.out.ok p (by simp)
            have og := HQ.out.ok g (by simp)
            have sp := HQ.out.small (x := p) (by simp)
            have sg := HQ.out.small (x := g) (by simp)
            have hsum := HQ.out.sum
            have OK9 := Lib.hid (fun y (hy : y ∈ q) => HQ.out.ok y (List.mem_cons_of_mem _ (List.mem_cons_of_mem _ hy)))
            have OJ := Lib.hid (ok_join op og)
            have JC := Lib.hid (join_cg (g := g) op)
            obtain ⟨gb, cb, ev, _, hgl⟩ := HQ.out.own.form (by simp)
            have HOW := HQ.out.own
            rw [ev] at HOW
            have HCG := Lib.hid (cgs_of_own HOW (by rw [cgL_len]))
            have EL : cgL (g :: p :: q) = cgL q ++ [cgOf p, cgOf g] := by rw [cgL_cons, cgL_cons, List.append_assoc]; rfl
            obtain ⟨n, hn⟩ : ∃ n, q.length = n := ⟨_, rfl⟩
            have hlen : (cgL (g :: p :: q)).length = n + 2 := by rw [cgL_len]; simp [hn]
            have hlq : (cgL q).length = n := by rw [cgL_len, hn]
            have xg : (cgL (g :: p :: q))[n + 1]'(by omega) = cgOf g := by simp only [EL]; rw [List.getElem_append_right (by omega)]; simp [hlq]
            have xp : (cgL (g :: p :: q))[n]'(by omega) = cgOf p := by simp only [EL]; rw [List.getElem_append_right (by omega)]; simp [hlq]
            have hll : (g :: p :: q).length = n + 2 := by simp [hn]
            have HF := Lib.hid (fun W (h : Cgs W W.heap.size (some ⟨gb, 0, none⟩) (cgL (g :: p :: q))) => lastFalls_two (some ⟨gb, 0, none⟩) (cgL (g :: p :: q)) cb n W h hlen (by omega) (cgOf g) (cgOf p) xg xp (ok_cg og (by omega)) (ok_cg op (by omega)) _ (show fallC (cgOf p) (cgOf g) = fallB p g from rfl))
            rw [hlen] at HF
            rw [hll] at ev
            subst ev
            have hpush : pushG (p :: q) g = if fallB p g = true then pushG q (p.join g) else g :: p :: q := rfl
            rw [HP.out] at hpush
            have HPU := Lib.hid hpush
            have HJT := Lib.hid (fun W (h : W.ownsRow w0.heap.size 83 3 (.slice (some ⟨gb, 0, none⟩) (n + 2) cb) (n + 2) (cgv (cgL q ++ [cgOf p, cgOf g]))) (hb : w0.heap.size ≤ W.heap.size) => joinTwo_any w0.heap.size gb cb n (cgL q) (cgOf p) (cgOf g) W hlq (by omega) hb h (by show 0 ≤ p.ca + g.ca ∧ p.ca + g.ca ≤ 100000; have := op.1; have := og.1; omega) (by show 0 ≤ p.hi + g.hi ∧ p.hi + g.hi ≤ 100000; have := op.2.1; have := og.2.1; have := op.2.2.1; have := og.2.2.1; omega))
            have HS2 := Lib.hid (show sumC (p.join g :: q) ≤ 11000 by
              have h0 : g.ca + (p.ca + sumC q) ≤ 11000 := hsum
              show p.ca + g.ca + sumC q ≤ 11000
              omega)
            rw [EL] at HOW
            have HN := Lib.hid hn
            clear xg xp hlen hll hlq hpush HOW op og sp sg hsum hn EL
            cases hf : fallB p g with
            | false =>
              rw [hf] at HF
              have HE := Lib.hid (show T = g :: p :: q by rw [HPU.out, hf]; rfl)
              clear hf
              go_wp2_with (go_at_call 87; refine (HF.out _ HCG.out).mono ?_; rintro e w3 ⟨rfl, b3⟩; have I3 := Lib.hid (HQ.out.later b3); clear b3)
              go_roundw
              case rel => exact ⟨k + 1, by omega, by go_num, by rw [HTT.out, HE.out]; have h9 := I3.out; rw [← HN.out] at *; exact h9⟩
              case measure => simp [intOf]; omega
            | true =>
              rw [hf] at HF
              have HE := Lib.hid (show pushG q (p.join g) = T by rw [HPU.out, hf]; rfl)
              clear hf
              go_wp2_with (first
                | (go_at_call 87; refine (HF.out _ HCG.out).mono ?_; rintro e w3 ⟨rfl, b3⟩; have I3 := Lib.hid (HQ.out.later b3); clear b3)
                | (go_at_call 88; refine (HJT.out _ (by have h9 := I3.out.own; rw [cgL_cons, cgL_cons, List.append_assoc] at h9; rw [← HN.out] at *; exact h9) I3.out.bel.size).mono ?_; rintro e w4 ⟨v4, rfl, h4, g4⟩; have O4 := Lib.hid h4; have G4 := Lib.hid g4; clear h4 g4))
              go_roundg q.length
              case rel =>
                refine ⟨p.join g, q, rfl, HE.out, I3.out.turn G4.out ?_ HS2.out ?_ ?_⟩
                · intro y hy
                  rcases List.mem_cons.1 hy with rfl | hy
                  · exact OJ.out
                  · exact OK9.out y hy
                · simp only [List.length_cons]; have := HN.out; omega
                · rw [cgL_cons, ← JC.out]
                  have h9 := O4.out
                  rw [← HN.out] at h9
                  exact h9
              case measure => have h9 := HGK.out; simp only [List.length_cons] at h9; omega
    · obtain rfl : k = 11 := by omega
      have hi : ¬ ((11 : Nat) : Int) < (l.length : Int) := by have := H11.out; omega
      obtain ⟨gb, cb, ev, hgn, hgb⟩ : ∃ a cb, u3 = .slice a (calG l r 11).length cb ∧ Cgs wr wr.heap.size a (cgL (calG l r 11)) ∧ (∀ x, a = some x → w.heap.size ≤ x.block) := by
        have how := HI.out.own
        rcases Nat.eq_zero_or_pos (calG l r 11).length with h0 | h0
        · have e0 := List.eq_nil_of_length_eq_zero h0
          rw [e0] at how ⊢
          rcases how.2 with ⟨h1, _⟩ | ⟨g, cap, cur, h1, h2, _⟩
          · exact ⟨_, _, h1, .inl rfl, fun x hx => by cases hx⟩
          · exact ⟨_, _, h1, .inl rfl, fun x hx => by cases hx; have := HS0.out; show w.heap.size ≤ g; omega⟩
        · obtain ⟨g, cb, ev, h2, _⟩ := how.form h0
          rw [ev] at how
          exact ⟨_, cb, ev, cgs_of_own how (by rw [cgL_len]), fun x hx => by cases hx; have := HS0.out; show w.heap.size ≤ g; omega⟩
      subst ev
      have HCG := Lib.hid hgn
      have HCB := Lib.hid hgb
      clear hgn hgb
      go_wp2
      go_ret
      exact ⟨gb, cb, rfl, HCG.out, HCB.out, B0.out.trans (HI.out.bel.mono (by have := HS0.out; omega))⟩
end Go.Proofs.Ytjpiiidjocilcaa
