/- The model's l1Put: a number into a list in order. -/
import Derived.Test.YthceffkkokgpnaaFieldLaw
import Derived.Test.YthceffkkokgpnaaBox
import Derived.Test.YthceffkkokgpnaaMake
import Derived.Deep.AppendLies
import Derived.Deep.RegionLaw
import Derived.Deep.QuietTactic
import Derived.BigQuiet
import Derived.WalkKit
namespace Go.Proofs.Ythceffkkokgpnaa
open Go.RowKit
set_option linter.unusedVariables false
set_option linter.unusedSimpArgs false
/-- an append onto a row of the call's own, as a step of a region; the source may be empty -/
theorem step_put {P : Program} {w : World} {ops : Array Oper} {o : Oper} {a : Act} {K : Act → World → Prop} {Q : Exit → Act → World → Prop} {E : Prop} (hgd : o.guard = none) (s x : Operand) (t : TypeId)
    (ho : o.op = .call { callee := .builtin .append, args := #[s, x], argTypes := #[t, t] })
    (base : Nat) (e : TypeId) (i : TypeInfo) (z : Value) (ht : P.underlying t = some (.slice e)) (hi : P.info? e = some i) (hz : i.zero = some z)
    (hsize : i.size = 1) (hby : i.bytes = 8) (hzs : z.cells.size = 1)
    (v : Value) (n : Nat) (xs : List Value) (hs : a.eval s = v) (hown : w.ownsRow base e 1 v n xs)
    (ad : Addr) (m c : Nat) (news : List Value) (hx : a.eval x = .slice (some ad) m c) (hl : news.length = m) (hnews : ∀ j u, news[j]? = some u → w.cell? (ad.add j) = some u) (h1 : ∀ u ∈ news, u.oneCell' = true)
    (h63 : n + m ≤ 1048576) (hbase : base ≤ w.heap.size)
    (h : ∀ v' w', w'.ownsRow base e 1 v' (n + m) (xs ++ news) → w.grownBy w' v.ownBlock → K (a.put o.dst v') w') :
    if Region.wanted o (yielded ops a.tmps) = true then Oper.wp P o a w K Q else E := by
  rw [if_pos (by simp [Region.wanted, hgd])]
  exact wp_append_own w s x t ho base e i z 1 8 ht hi hz hsize hby hzs (by omega) v n xs hs hown ad m c news hx (by omega) hnews h1 (by unfold maxLen; omega) (by omega) hbase fun v' w' h2 h3 _ => h v' w' h2 h3
def putK (l : List Int) (n : Int) : Nat := (l.takeWhile fun z => decide (z < n)).length
theorem put_take {w W : World} {g : Nat} {l : List Int} {k : Nat} (h : ∀ j (h : j < l.length), w.cell? ⟨g, j, none⟩ = some (.int .i64 l[j])) (hg : g < w.heap.size) (hb : Below w.heap.size w W) : ∀ (j : Nat) (u : Value), (iv (l.take k))[j]? = some u → W.cell? ((⟨g, 0, none⟩ : Addr).add j) = some u := by
  intro j u hu
  have hadd : (⟨g, 0, none⟩ : Addr).add j = ⟨g, j, none⟩ := by unfold Addr.add; split <;> simp_all
  obtain ⟨hj, e⟩ := List.getElem?_eq_some_iff.1 hu
  rw [iv_get, List.getElem_take] at e
  rw [iv_length, List.length_take] at hj
  rw [hadd, hb.cell (p := ⟨g, j, none⟩) hg, h j (by omega), e]
theorem put_drop {w W : World} {g : Nat} {l : List Int} {k : Nat} (h : ∀ j (h : j < l.length), w.cell? ⟨g, j, none⟩ = some (.int .i64 l[j])) (hg : g < w.heap.size) (hb : Below w.heap.size w W) : ∀ (j : Nat) (u : Value), (iv (l.drop k))[j]? = some u → W.cell? ((⟨g, k, none⟩ : Addr).add j) = some u := by
  intro j u hu
  have hadd : (⟨g, k, none⟩ : Addr).add j = ⟨g, k + j, none⟩ := by unfold Addr.add; split <;> simp_all
  obtain ⟨hj, e⟩ := List.getElem?_eq_some_iff.1 hu
  rw [iv_get, List.getElem_drop] at e
  rw [iv_length, List.length_drop] at hj
  rw [hadd, hb.cell (p := ⟨g, k + j, none⟩) hg, h (k + j) (by omega), e]
theorem lit_grown {W W1 : World} {B g : Nat} {x : Value} (h : ∀ (j : Nat) (u : Value), [x][j]? = some u → W.cell? ((⟨B, 0, none⟩ : Addr).add j) = some u) (hg : W.grownBy W1 (some g)) (hB : B < W.heap.size) (hne : B ≠ g) : ∀ (j : Nat) (u : Value), [x][j]? = some u → W1.cell? ((⟨B, 0, none⟩ : Addr).add j) = some u := by
  intro j u hu
  have e := h j u hu
  have hadd : (⟨B, 0, none⟩ : Addr).add j = ⟨B, j, none⟩ := by unfold Addr.add; split <;> simp_all
  rw [hadd] at e ⊢
  unfold World.cell? at e ⊢
  rw [hg.block B hB (by intro q; injection q with q; exact hne q)]
  exact e
theorem lit_below {W W1 : World} {B : Nat} {x : Value} (h : ∀ (j : Nat) (u : Value), [x][j]? = some u → W.cell? ((⟨B, 0, none⟩ : Addr).add j) = some u) (hb : Below W.heap.size W W1) (hB : B < W.heap.size) : ∀ (j : Nat) (u : Value), [x][j]? = some u → W1.cell? ((⟨B, 0, none⟩ : Addr).add j) = some u := by
  intro j u hu
  have e := h j u hu
  have hadd : (⟨B, 0, none⟩ : Addr).add j = ⟨B, j, none⟩ := by unfold Addr.add; split <;> simp_all
  rw [hadd] at e ⊢
  rw [hb.cell (p := ⟨B, j, none⟩) hB]
  exact e
def PutPost (g : Nat) (l : List Int) (c : Nat) (n : Int) (w : World) (e : Ending) (w' : World) : Prop :=
  ∃ (k : Nat) (v : Value) (L : List Int), k ≤ l.length ∧ (∀ j (h : j < l.length), j < k → l[j] < n) ∧ ((∃ h : k < l.length, l[k] = n ∧ L = l) ∨ ((∀ h : k < l.length, ¬ l[k] < n ∧ ¬ l[k] = n) ∧ L = l.take k ++ [n] ++ l.drop k)) ∧
    e = .returned v ∧ ((v = .slice (some ⟨g, 0, none⟩) l.length c ∧ L = l) ∨ w'.ownsRow w.heap.size 3 1 v L.length (iv L)) ∧ Below w.heap.size w w'
theorem put_own {w w' : World} {v : Value} {l r : List Int} {k q : Nat} {n : Int} (h : w'.ownsRow w.heap.size 3 1 v q ([] ++ iv (l.take k) ++ [.int .i64 n] ++ iv r)) (hq : q = (l.take k ++ [n] ++ r).length) : w'.ownsRow w.heap.size 3 1 v (l.take k ++ [n] ++ r).length (iv (l.take k ++ [n] ++ r)) := by
  subst hq
  have e : iv (l.take k ++ [n] ++ r) = [] ++ iv (l.take k) ++ [.int .i64 n] ++ iv r := by simp [iv]
  rw [e]
  exact h
set_option maxHeartbeats 2000000 in
theorem put_any (g : Nat) (l : List Int) (c : Nat) (n : Int) (w : World) (hg : g < w.heap.size) (hl : ∀ j (h : j < l.length), w.cell? ⟨g, j, none⟩ = some (.int .i64 l[j])) (hc : l.length ≤ c) (hn : l.length ≤ 1000) :
    Calls Try.prog 135 #[.slice (some ⟨g, 0, none⟩) l.length c, .int .i64 n] w (PutPost g l c n w) := by
  obtain ⟨i0, hi0', hz0, hz1, hz2⟩ := info_parts infoInt
  have HL := Lib.hid hl
  clear hl
  go_enter Try.func135, Try.ntmps135
  go_wp2
  go_loopw [5] (fun i wr => ∃ k : Nat, k ≤ l.length ∧ i = .int .i64 k ∧ (∀ j (h : j < l.length), j < k → l[j] < n) ∧ Drew w wr) (fun i _ => l.length - (intOf i).toNat)
  case atStart => exact ⟨0, Nat.zero_le _, rfl, by intro j _ h; omega, Drew.refl _⟩
  case round =>
    obtain ⟨k, hk, rfl, hlow, hw⟩ := hrel
    have HLOW := Lib.hid hlow
    have HW := Lib.hid hw
    clear hlow hw
    by_cases hlt : k < l.length
    · have hc0 := (HW.out.cell ⟨g, k, none⟩).trans (HL.out k hlt)
      have hi : (k : Int) < (l.length : Int) := by omega
      have hi0 : (0 : Int) ≤ (k : Int) := by omega
      obtain ⟨z, hz⟩ : ∃ z, l[k] = z := ⟨_, rfl⟩
      rw [hz] at hc0
      have HZ := Lib.hid hz
      clear hz
      by_cases hzn : z < n
      · have HLOW2 := Lib.hid (show ∀ j (h : j < l.length), j < k + 1 → l[j] < n from by
          intro j hj hjk
          by_cases hjk2 : j < k
          · exact HLOW.out j hj hjk2
          · obtain rfl : j = k := by omega
            rw [HZ.out]; exact hzn)
        go_wp2
        go_roundw
        case rel => exact ⟨k + 1, by omega, by go_num, HLOW2.out, HW.out⟩
        case measure => simp [intOf]; omega
      · by_cases hzz : z = n
        · subst hzz
          go_wp2
          go_ret
          exact ⟨k, _, l, hk, HLOW.out, .inl ⟨hlt, HZ.out, rfl⟩, rfl, .inl ⟨rfl, rfl⟩, HW.out.below _⟩
        · have e2 : (z == n) = false := by rw [beq_eq_false_iff_ne]; exact hzz
          have HZZ := Lib.hid (And.intro hzn hzz)
          have hk1 : (k : Int) ≤ (c : Int) := by omega
          have hk2 : (k : Int) ≤ (l.length : Int) := by omega
          have hck : ¬ c = k := by omega
          have hwz := (HW.out.below w.heap.size).size
          have BW := Lib.hid (show Below w.heap.size w (wr.alloc (.cells #[] 3)).drew from ((HW.out.below _).alloc hwz _).drew)
          have OW := Lib.hid (show (wr.alloc (.cells #[] 3)).drew.ownsRow w.heap.size 3 1 (.slice (some ⟨wr.heap.size, 0, none⟩) 0 0) 0 [] from own_keeps (World.ownsRow_made (base := w.heap.size) (e := 3) (size := 1) wr #[] 0 hwz (by simp) rfl) ((Drew.more (Drew.refl _) 1).below _))
          have BWb := Lib.hid (show Below w.heap.size w ((wr.alloc (.cells #[] 3)).alloc (.cells #[.int .i64 n] 3)).drew from (((HW.out.below _).alloc hwz _).alloc (by simp; omega) _).drew)
          have OWb := Lib.hid (show ((wr.alloc (.cells #[] 3)).alloc (.cells #[.int .i64 n] 3)).drew.ownsRow w.heap.size 3 1 (.slice (some ⟨wr.heap.size, 0, none⟩) 0 0) 0 [] from own_keeps ((World.ownsRow_made (base := w.heap.size) (e := 3) (size := 1) wr #[] 0 hwz (by simp) rfl).alloc _) ((Drew.more (Drew.refl _) 1).below _))
          have LTb := Lib.hid (show ∀ (j : Nat) (u : Value), [Value.int .i64 n][j]? = some u → ((wr.alloc (.cells #[] 3)).alloc (.cells #[.int .i64 n] 3)).drew.cell? ((⟨wr.heap.size + 1, 0, none⟩ : Addr).add j) = some u from by
            have h := cell_one_new (wr.alloc (.cells #[] 3)) (.int .i64 n) 3
            rw [World.size_alloc] at h
            exact lit_below h ((Drew.more (Drew.refl _) 1).below _) (by simp))
          have BWc := Lib.hid (show Below w.heap.size w ((wr.alloc (.cells #[.int .i64 n] 3)).alloc (.cells #[] 3)).drew from (((HW.out.below _).alloc hwz _).alloc (by simp; omega) _).drew)
          have OWc := Lib.hid (show ((wr.alloc (.cells #[.int .i64 n] 3)).alloc (.cells #[] 3)).drew.ownsRow w.heap.size 3 1 (.slice (some ⟨wr.heap.size + 1, 0, none⟩) 0 0) 0 [] from by
            have h := World.ownsRow_made (base := w.heap.size) (e := 3) (size := 1) (wr.alloc (.cells #[.int .i64 n] 3)) #[] 0 (by simp; omega) (by simp) rfl
            rw [World.size_alloc] at h
            exact own_keeps h ((Drew.more (Drew.refl _) 1).below _))
          have LTc := Lib.hid (show ∀ (j : Nat) (u : Value), [Value.int .i64 n][j]? = some u → ((wr.alloc (.cells #[.int .i64 n] 3)).alloc (.cells #[] 3)).drew.cell? ((⟨wr.heap.size, 0, none⟩ : Addr).add j) = some u from
            lit_below (cell_one_new wr (.int .i64 n) 3) (((below_all _ _)).drew) (by simp))
          have HBb := Lib.hid (show wr.heap.size + 1 < ((wr.alloc (.cells #[] 3)).alloc (.cells #[.int .i64 n] 3)).drew.heap.size by
            show wr.heap.size + 1 < ((wr.alloc (.cells #[] 3)).alloc (.cells #[.int .i64 n] 3)).heap.size
            simp)
          have HBc := Lib.hid (show wr.heap.size < ((wr.alloc (.cells #[.int .i64 n] 3)).alloc (.cells #[] 3)).drew.heap.size by
            show wr.heap.size < ((wr.alloc (.cells #[.int .i64 n] 3)).alloc (.cells #[] 3)).heap.size
            simp <;> omega)
          have HNb := Lib.hid (show wr.heap.size + 1 ≠ wr.heap.size by omega)
          have HNc := Lib.hid (show wr.heap.size ≠ wr.heap.size + 1 by omega)
          go_wp2_with fail
          go_region_law (first
            | (refine step_put (by rfl) _ _ _ (by rfl) w.heap.size 3 i0 (.int .i64 0) Try.underlying30 hi0' hz0 hz1 hz2 rfl (.slice (some ⟨wr.heap.size, 0, none⟩) 0 0) 0 [] (by rfl) OW.out ⟨g, 0, none⟩ k c (iv (l.take k)) (by rfl) (by rw [iv_length, List.length_take]; omega) (put_take HL.out hg BW.out) (iv_one _) (by omega) BW.out.size ?_; intro v1 w1 hown1 hgrow1; have BW1 := Lib.hid (BW.out.grown hgrow1 BW.out.size (fun j hj => (OW.out.lt j hj).1)); have OW1 := Lib.hid hown1; clear hown1 hgrow1)
            | (refine step_put (by rfl) _ _ _ (by rfl) w.heap.size 3 i0 (.int .i64 0) Try.underlying30 hi0' hz0 hz1 hz2 rfl v1 (0 + k) ([] ++ iv (l.take k)) (by rfl) (OW1.out.alloc _) ⟨w1.heap.size, 0, none⟩ 1 1 [.int .i64 n] (by rfl) (by rfl) (cell_one_new _ _ _) (by simp [Value.oneCell']) (by omega) ((BW1.out.alloc BW1.out.size _).size) ?_; intro v2 w2 hown2 hgrow2; have BW2 := Lib.hid ((BW1.out.alloc BW1.out.size (.cells #[.int .i64 n] 3)).grown hgrow2 (BW1.out.alloc BW1.out.size _).size (fun j hj => (OW1.out.lt j hj).1)); have OW2 := Lib.hid hown2; clear hown2 hgrow2)
            | (refine step_put (by rfl) _ _ _ (by rfl) w.heap.size 3 i0 (.int .i64 0) Try.underlying30 hi0' hz0 hz1 hz2 rfl v2 (0 + k + 1) ([] ++ iv (l.take k) ++ [.int .i64 n]) (by rfl) OW2.out ⟨g, k, none⟩ (l.length - k) (c - k) (iv (l.drop k)) (by rfl) (by rw [iv_length]; rw [List.length_drop]) (put_drop HL.out hg BW2.out) (iv_one _) (by omega) BW2.out.size ?_; intro v3 w3 hown3 hgrow3; have BW3 := Lib.hid (BW2.out.grown hgrow3 BW2.out.size (fun j hj => (OW2.out.lt j hj).1)); have OW3 := Lib.hid hown3; clear hown3 hgrow3)
            | (refine step_put (by rfl) _ _ _ (by rfl) w.heap.size 3 i0 (.int .i64 0) Try.underlying30 hi0' hz0 hz1 hz2 rfl (.slice (some ⟨wr.heap.size, 0, none⟩) 0 0) 0 [] (by rfl) OWb.out ⟨g, 0, none⟩ k c (iv (l.take k)) (by rfl) (by rw [iv_length, List.length_take]; omega) (put_take HL.out hg BWb.out) (iv_one _) (by omega) BWb.out.size ?_; intro v1 w1 hown1 hgrow1; have BW1 := Lib.hid (BWb.out.grown hgrow1 BWb.out.size (fun j hj => (OWb.out.lt j hj).1)); have OW1 := Lib.hid hown1; have LT1 := Lib.hid (lit_grown (g := wr.heap.size) LTb.out hgrow1 HBb.out HNb.out); clear hown1 hgrow1)
            | (refine step_put (by rfl) _ _ _ (by rfl) w.heap.size 3 i0 (.int .i64 0) Try.underlying30 hi0' hz0 hz1 hz2 rfl (.slice (some ⟨wr.heap.size + 1, 0, none⟩) 0 0) 0 [] (by rfl) OWc.out ⟨g, 0, none⟩ k c (iv (l.take k)) (by rfl) (by rw [iv_length, List.length_take]; omega) (put_take HL.out hg BWc.out) (iv_one _) (by omega) BWc.out.size ?_; intro v1 w1 hown1 hgrow1; have BW1 := Lib.hid (BWc.out.grown hgrow1 BWc.out.size (fun j hj => (OWc.out.lt j hj).1)); have OW1 := Lib.hid hown1; have LT1 := Lib.hid (lit_grown (g := wr.heap.size + 1) LTc.out hgrow1 HBc.out HNc.out); clear hown1 hgrow1)
            | (refine step_put (by rfl) _ _ _ (by rfl) w.heap.size 3 i0 (.int .i64 0) Try.underlying30 hi0' hz0 hz1 hz2 rfl v1 (0 + k) ([] ++ iv (l.take k)) (by rfl) OW1.out ⟨wr.heap.size + 1, 0, none⟩ 1 1 [.int .i64 n] (by rfl) (by rfl) LT1.out (by simp [Value.oneCell']) (by omega) BW1.out.size ?_; intro v2 w2 hown2 hgrow2; have BW2 := Lib.hid (BW1.out.grown hgrow2 BW1.out.size (fun j hj => (OW1.out.lt j hj).1)); have OW2 := Lib.hid hown2; clear hown2 hgrow2)
            | (refine step_put (by rfl) _ _ _ (by rfl) w.heap.size 3 i0 (.int .i64 0) Try.underlying30 hi0' hz0 hz1 hz2 rfl v1 (0 + k) ([] ++ iv (l.take k)) (by rfl) OW1.out ⟨wr.heap.size, 0, none⟩ 1 1 [.int .i64 n] (by rfl) (by rfl) LT1.out (by simp [Value.oneCell']) (by omega) BW1.out.size ?_; intro v2 w2 hown2 hgrow2; have BW2 := Lib.hid (BW1.out.grown hgrow2 BW1.out.size (fun j hj => (OW1.out.lt j hj).1)); have OW2 := Lib.hid hown2; clear hown2 hgrow2))
          all_goals
            go_wp2
            go_ret
            exact ⟨k, v3, l.take k ++ [n] ++ l.drop k, hk, HLOW.out, .inr ⟨fun _ => by rw [HZ.out]; exact ⟨by have := HZZ.out; omega, HZZ.out.2⟩, rfl⟩, rfl, .inr (put_own OW3.out (by simp; omega)), BW3.out⟩
    · have HKL := Lib.hid (show k = l.length by omega)
      have HDR := Lib.hid (show l.drop k = [] by rw [HKL.out]; exact List.drop_length)
      have hge : ¬ ((k : Int) < (l.length : Int)) := by omega
      have hk1 : (k : Int) ≤ (c : Int) := by omega
      have hk2 : (k : Int) ≤ (l.length : Int) := by omega
      have hi0 : (0 : Int) ≤ (k : Int) := by omega
      by_cases hck : c = k
      · subst hck
        have hwz := (HW.out.below w.heap.size).size
        have BW := Lib.hid (show Below w.heap.size w (wr.alloc (.cells #[] 3)).drew from ((HW.out.below _).alloc hwz _).drew)
        have OW := Lib.hid (show (wr.alloc (.cells #[] 3)).drew.ownsRow w.heap.size 3 1 (.slice (some ⟨wr.heap.size, 0, none⟩) 0 0) 0 [] from own_keeps (World.ownsRow_made (base := w.heap.size) (e := 3) (size := 1) wr #[] 0 hwz (by simp) rfl) ((Drew.more (Drew.refl _) 1).below _))
        have BWb := Lib.hid (show Below w.heap.size w ((wr.alloc (.cells #[] 3)).alloc (.cells #[.int .i64 n] 3)).drew from (((HW.out.below _).alloc hwz _).alloc (by simp; omega) _).drew)
        have OWb := Lib.hid (show ((wr.alloc (.cells #[] 3)).alloc (.cells #[.int .i64 n] 3)).drew.ownsRow w.heap.size 3 1 (.slice (some ⟨wr.heap.size, 0, none⟩) 0 0) 0 [] from own_keeps ((World.ownsRow_made (base := w.heap.size) (e := 3) (size := 1) wr #[] 0 hwz (by simp) rfl).alloc _) ((Drew.more (Drew.refl _) 1).below _))
        have LTb := Lib.hid (show ∀ (j : Nat) (u : Value), [Value.int .i64 n][j]? = some u → ((wr.alloc (.cells #[] 3)).alloc (.cells #[.int .i64 n] 3)).drew.cell? ((⟨wr.heap.size + 1, 0, none⟩ : Addr).add j) = some u from by
          have h := cell_one_new (wr.alloc (.cells #[] 3)) (.int .i64 n) 3
          rw [World.size_alloc] at h
          exact lit_below h ((Drew.more (Drew.refl _) 1).below _) (by simp))
        have BWc := Lib.hid (show Below w.heap.size w ((wr.alloc (.cells #[.int .i64 n] 3)).alloc (.cells #[] 3)).drew from (((HW.out.below _).alloc hwz _).alloc (by simp; omega) _).drew)
        have OWc := Lib.hid (show ((wr.alloc (.cells #[.int .i64 n] 3)).alloc (.cells #[] 3)).drew.ownsRow w.heap.size 3 1 (.slice (some ⟨wr.heap.size + 1, 0, none⟩) 0 0) 0 [] from by
          have h := World.ownsRow_made (base := w.heap.size) (e := 3) (size := 1) (wr.alloc (.cells #[.int .i64 n] 3)) #[] 0 (by simp; omega) (by simp) rfl
          rw [World.size_alloc] at h
          exact own_keeps h ((Drew.more (Drew.refl _) 1).below _))
        have LTc := Lib.hid (show ∀ (j : Nat) (u : Value), [Value.int .i64 n][j]? = some u → ((wr.alloc (.cells #[.int .i64 n] 3)).alloc (.cells #[] 3)).drew.cell? ((⟨wr.heap.size, 0, none⟩ : Addr).add j) = some u from
          lit_below (cell_one_new wr (.int .i64 n) 3) (((below_all _ _)).drew) (by simp))
        have HBb := Lib.hid (show wr.heap.size + 1 < ((wr.alloc (.cells #[] 3)).alloc (.cells #[.int .i64 n] 3)).drew.heap.size by
          show wr.heap.size + 1 < ((wr.alloc (.cells #[] 3)).alloc (.cells #[.int .i64 n] 3)).heap.size
          simp)
        have HBc := Lib.hid (show wr.heap.size < ((wr.alloc (.cells #[.int .i64 n] 3)).alloc (.cells #[] 3)).drew.heap.size by
          show wr.heap.size < ((wr.alloc (.cells #[.int .i64 n] 3)).alloc (.cells #[] 3)).heap.size
          simp <;> omega)
        have HNb := Lib.hid (show wr.heap.size + 1 ≠ wr.heap.size by omega)
        have HNc := Lib.hid (show wr.heap.size ≠ wr.heap.size + 1 by omega)
        go_wp2_with fail
        go_region_law (first
          | (refine step_put (by rfl) _ _ _ (by rfl) w.heap.size 3 i0 (.int .i64 0) Try.underlying30 hi0' hz0 hz1 hz2 rfl (.slice (some ⟨wr.heap.size, 0, none⟩) 0 0) 0 [] (by rfl) OW.out ⟨g, 0, none⟩ c c (iv (l.take c)) (by rfl) (by rw [iv_length, List.length_take]; omega) (put_take HL.out hg BW.out) (iv_one _) (by omega) BW.out.size ?_; intro v1 w1 hown1 hgrow1; have BW1 := Lib.hid (BW.out.grown hgrow1 BW.out.size (fun j hj => (OW.out.lt j hj).1)); have OW1 := Lib.hid hown1; clear hown1 hgrow1)
          | (refine step_put (by rfl) _ _ _ (by rfl) w.heap.size 3 i0 (.int .i64 0) Try.underlying30 hi0' hz0 hz1 hz2 rfl v1 (0 + c) ([] ++ iv (l.take c)) (by rfl) (OW1.out.alloc _) ⟨w1.heap.size, 0, none⟩ 1 1 [.int .i64 n] (by rfl) (by rfl) (cell_one_new _ _ _) (by simp [Value.oneCell']) (by omega) ((BW1.out.alloc BW1.out.size _).size) ?_; intro v2 w2 hown2 hgrow2; have BW2 := Lib.hid ((BW1.out.alloc BW1.out.size (.cells #[.int .i64 n] 3)).grown hgrow2 (BW1.out.alloc BW1.out.size _).size (fun j hj => (OW1.out.lt j hj).1)); have OW2 := Lib.hid hown2; clear hown2 hgrow2)
          | (refine step_put (by rfl) _ _ _ (by rfl) w.heap.size 3 i0 (.int .i64 0) Try.underlying30 hi0' hz0 hz1 hz2 rfl v2 (0 + c + 1) ([] ++ iv (l.take c) ++ [.int .i64 n]) (by rfl) OW2.out ⟨g, 0, none⟩ 0 0 (iv []) (by rfl) rfl (by intro j u h; simp [iv] at h) (iv_one _) (by omega) BW2.out.size ?_; intro v3 w3 hown3 hgrow3; have BW3 := Lib.hid (BW2.out.grown hgrow3 BW2.out.size (fun j hj => (OW2.out.lt j hj).1)); have OW3 := Lib.hid hown3; clear hown3 hgrow3)
          | (refine step_put (by rfl) _ _ _ (by rfl) w.heap.size 3 i0 (.int .i64 0) Try.underlying30 hi0' hz0 hz1 hz2 rfl (.slice (some ⟨wr.heap.size, 0, none⟩) 0 0) 0 [] (by rfl) OWb.out ⟨g, 0, none⟩ c c (iv (l.take c)) (by rfl) (by rw [iv_length, List.length_take]; omega) (put_take HL.out hg BWb.out) (iv_one _) (by omega) BWb.out.size ?_; intro v1 w1 hown1 hgrow1; have BW1 := Lib.hid (BWb.out.grown hgrow1 BWb.out.size (fun j hj => (OWb.out.lt j hj).1)); have OW1 := Lib.hid hown1; have LT1 := Lib.hid (lit_grown (g := wr.heap.size) LTb.out hgrow1 HBb.out HNb.out); clear hown1 hgrow1)
          | (refine step_put (by rfl) _ _ _ (by rfl) w.heap.size 3 i0 (.int .i64 0) Try.underlying30 hi0' hz0 hz1 hz2 rfl (.slice (some ⟨wr.heap.size + 1, 0, none⟩) 0 0) 0 [] (by rfl) OWc.out ⟨g, 0, none⟩ c c (iv (l.take c)) (by rfl) (by rw [iv_length, List.length_take]; omega) (put_take HL.out hg BWc.out) (iv_one _) (by omega) BWc.out.size ?_; intro v1 w1 hown1 hgrow1; have BW1 := Lib.hid (BWc.out.grown hgrow1 BWc.out.size (fun j hj => (OWc.out.lt j hj).1)); have OW1 := Lib.hid hown1; have LT1 := Lib.hid (lit_grown (g := wr.heap.size + 1) LTc.out hgrow1 HBc.out HNc.out); clear hown1 hgrow1)
          | (refine step_put (by rfl) _ _ _ (by rfl) w.heap.size 3 i0 (.int .i64 0) Try.underlying30 hi0' hz0 hz1 hz2 rfl v1 (0 + c) ([] ++ iv (l.take c)) (by rfl) OW1.out ⟨wr.heap.size + 1, 0, none⟩ 1 1 [.int .i64 n] (by rfl) (by rfl) LT1.out (by simp [Value.oneCell']) (by omega) BW1.out.size ?_; intro v2 w2 hown2 hgrow2; have BW2 := Lib.hid (BW1.out.grown hgrow2 BW1.out.size (fun j hj => (OW1.out.lt j hj).1)); have OW2 := Lib.hid hown2; clear hown2 hgrow2)
          | (refine step_put (by rfl) _ _ _ (by rfl) w.heap.size 3 i0 (.int .i64 0) Try.underlying30 hi0' hz0 hz1 hz2 rfl v1 (0 + c) ([] ++ iv (l.take c)) (by rfl) OW1.out ⟨wr.heap.size, 0, none⟩ 1 1 [.int .i64 n] (by rfl) (by rfl) LT1.out (by simp [Value.oneCell']) (by omega) BW1.out.size ?_; intro v2 w2 hown2 hgrow2; have BW2 := Lib.hid (BW1.out.grown hgrow2 BW1.out.size (fun j hj => (OW1.out.lt j hj).1)); have OW2 := Lib.hid hown2; clear hown2 hgrow2))
        all_goals
          go_wp2
          go_ret
          exact ⟨c, v3, l.take c ++ [n] ++ [], hk, HLOW.out, .inr ⟨fun hq => absurd hq (by have := HKL.out; omega), by rw [HDR.out]⟩, rfl, .inr (put_own OW3.out (by simp; omega)), BW3.out⟩
      · skip
        have hwz := (HW.out.below w.heap.size).size
        have BW := Lib.hid (show Below w.heap.size w (wr.alloc (.cells #[] 3)).drew from ((HW.out.below _).alloc hwz _).drew)
        have OW := Lib.hid (show (wr.alloc (.cells #[] 3)).drew.ownsRow w.heap.size 3 1 (.slice (some ⟨wr.heap.size, 0, none⟩) 0 0) 0 [] from own_keeps (World.ownsRow_made (base := w.heap.size) (e := 3) (size := 1) wr #[] 0 hwz (by simp) rfl) ((Drew.more (Drew.refl _) 1).below _))
        have BWb := Lib.hid (show Below w.heap.size w ((wr.alloc (.cells #[] 3)).alloc (.cells #[.int .i64 n] 3)).drew from (((HW.out.below _).alloc hwz _).alloc (by simp; omega) _).drew)
        have OWb := Lib.hid (show ((wr.alloc (.cells #[] 3)).alloc (.cells #[.int .i64 n] 3)).drew.ownsRow w.heap.size 3 1 (.slice (some ⟨wr.heap.size, 0, none⟩) 0 0) 0 [] from own_keeps ((World.ownsRow_made (base := w.heap.size) (e := 3) (size := 1) wr #[] 0 hwz (by simp) rfl).alloc _) ((Drew.more (Drew.refl _) 1).below _))
        have LTb := Lib.hid (show ∀ (j : Nat) (u : Value), [Value.int .i64 n][j]? = some u → ((wr.alloc (.cells #[] 3)).alloc (.cells #[.int .i64 n] 3)).drew.cell? ((⟨wr.heap.size + 1, 0, none⟩ : Addr).add j) = some u from by
          have h := cell_one_new (wr.alloc (.cells #[] 3)) (.int .i64 n) 3
          rw [World.size_alloc] at h
          exact lit_below h ((Drew.more (Drew.refl _) 1).below _) (by simp))
        have BWc := Lib.hid (show Below w.heap.size w ((wr.alloc (.cells #[.int .i64 n] 3)).alloc (.cells #[] 3)).drew from (((HW.out.below _).alloc hwz _).alloc (by simp; omega) _).drew)
        have OWc := Lib.hid (show ((wr.alloc (.cells #[.int .i64 n] 3)).alloc (.cells #[] 3)).drew.ownsRow w.heap.size 3 1 (.slice (some ⟨wr.heap.size + 1, 0, none⟩) 0 0) 0 [] from by
          have h := World.ownsRow_made (base := w.heap.size) (e := 3) (size := 1) (wr.alloc (.cells #[.int .i64 n] 3)) #[] 0 (by simp; omega) (by simp) rfl
          rw [World.size_alloc] at h
          exact own_keeps h ((Drew.more (Drew.refl _) 1).below _))
        have LTc := Lib.hid (show ∀ (j : Nat) (u : Value), [Value.int .i64 n][j]? = some u → ((wr.alloc (.cells #[.int .i64 n] 3)).alloc (.cells #[] 3)).drew.cell? ((⟨wr.heap.size, 0, none⟩ : Addr).add j) = some u from
          lit_below (cell_one_new wr (.int .i64 n) 3) (((below_all _ _)).drew) (by simp))
        have HBb := Lib.hid (show wr.heap.size + 1 < ((wr.alloc (.cells #[] 3)).alloc (.cells #[.int .i64 n] 3)).drew.heap.size by
          show wr.heap.size + 1 < ((wr.alloc (.cells #[] 3)).alloc (.cells #[.int .i64 n] 3)).heap.size
          simp)
        have HBc := Lib.hid (show wr.heap.size < ((wr.alloc (.cells #[.int .i64 n] 3)).alloc (.cells #[] 3)).drew.heap.size by
          show wr.heap.size < ((wr.alloc (.cells #[.int .i64 n] 3)).alloc (.cells #[] 3)).heap.size
          simp <;> omega)
        have HNb := Lib.hid (show wr.heap.size + 1 ≠ wr.heap.size by omega)
        have HNc := Lib.hid (show wr.heap.size ≠ wr.heap.size + 1 by omega)
        go_wp2_with fail
        go_region_law (first
          | (refine step_put (by rfl) _ _ _ (by rfl) w.heap.size 3 i0 (.int .i64 0) Try.underlying30 hi0' hz0 hz1 hz2 rfl (.slice (some ⟨wr.heap.size, 0, none⟩) 0 0) 0 [] (by rfl) OW.out ⟨g, 0, none⟩ k c (iv (l.take k)) (by rfl) (by rw [iv_length, List.length_take]; omega) (put_take HL.out hg BW.out) (iv_one _) (by omega) BW.out.size ?_; intro v1 w1 hown1 hgrow1; have BW1 := Lib.hid (BW.out.grown hgrow1 BW.out.size (fun j hj => (OW.out.lt j hj).1)); have OW1 := Lib.hid hown1; clear hown1 hgrow1)
          | (refine step_put (by rfl) _ _ _ (by rfl) w.heap.size 3 i0 (.int .i64 0) Try.underlying30 hi0' hz0 hz1 hz2 rfl v1 (0 + k) ([] ++ iv (l.take k)) (by rfl) (OW1.out.alloc _) ⟨w1.heap.size, 0, none⟩ 1 1 [.int .i64 n] (by rfl) (by rfl) (cell_one_new _ _ _) (by simp [Value.oneCell']) (by omega) ((BW1.out.alloc BW1.out.size _).size) ?_; intro v2 w2 hown2 hgrow2; have BW2 := Lib.hid ((BW1.out.alloc BW1.out.size (.cells #[.int .i64 n] 3)).grown hgrow2 (BW1.out.alloc BW1.out.size _).size (fun j hj => (OW1.out.lt j hj).1)); have OW2 := Lib.hid hown2; clear hown2 hgrow2)
          | (refine step_put (by rfl) _ _ _ (by rfl) w.heap.size 3 i0 (.int .i64 0) Try.underlying30 hi0' hz0 hz1 hz2 rfl v2 (0 + k + 1) ([] ++ iv (l.take k) ++ [.int .i64 n]) (by rfl) OW2.out ⟨g, k, none⟩ (l.length - k) (c - k) (iv (l.drop k)) (by rfl) (by rw [iv_length]; rw [List.length_drop]) (put_drop HL.out hg BW2.out) (iv_one _) (by omega) BW2.out.size ?_; intro v3 w3 hown3 hgrow3; have BW3 := Lib.hid (BW2.out.grown hgrow3 BW2.out.size (fun j hj => (OW2.out.lt j hj).1)); have OW3 := Lib.hid hown3; clear hown3 hgrow3)
          | (refine step_put (by rfl) _ _ _ (by rfl) w.heap.size 3 i0 (.int .i64 0) Try.underlying30 hi0' hz0 hz1 hz2 rfl (.slice (some ⟨wr.heap.size, 0, none⟩) 0 0) 0 [] (by rfl) OWb.out ⟨g, 0, none⟩ k c (iv (l.take k)) (by rfl) (by rw [iv_length, List.length_take]; omega) (put_take HL.out hg BWb.out) (iv_one _) (by omega) BWb.out.size ?_; intro v1 w1 hown1 hgrow1; have BW1 := Lib.hid (BWb.out.grown hgrow1 BWb.out.size (fun j hj => (OWb.out.lt j hj).1)); have OW1 := Lib.hid hown1; have LT1 := Lib.hid (lit_grown (g := wr.heap.size) LTb.out hgrow1 HBb.out HNb.out); clear hown1 hgrow1)
          | (refine step_put (by rfl) _ _ _ (by rfl) w.heap.size 3 i0 (.int .i64 0) Try.underlying30 hi0' hz0 hz1 hz2 rfl (.slice (some ⟨wr.heap.size + 1, 0, none⟩) 0 0) 0 [] (by rfl) OWc.out ⟨g, 0, none⟩ k c (iv (l.take k)) (by rfl) (by rw [iv_length, List.length_take]; omega) (put_take HL.out hg BWc.out) (iv_one _) (by omega) BWc.out.size ?_; intro v1 w1 hown1 hgrow1; have BW1 := Lib.hid (BWc.out.grown hgrow1 BWc.out.size (fun j hj => (OWc.out.lt j hj).1)); have OW1 := Lib.hid hown1; have LT1 := Lib.hid (lit_grown (g := wr.heap.size + 1) LTc.out hgrow1 HBc.out HNc.out); clear hown1 hgrow1)
          | (refine step_put (by rfl) _ _ _ (by rfl) w.heap.size 3 i0 (.int .i64 0) Try.underlying30 hi0' hz0 hz1 hz2 rfl v1 (0 + k) ([] ++ iv (l.take k)) (by rfl) OW1.out ⟨wr.heap.size + 1, 0, none⟩ 1 1 [.int .i64 n] (by rfl) (by rfl) LT1.out (by simp [Value.oneCell']) (by omega) BW1.out.size ?_; intro v2 w2 hown2 hgrow2; have BW2 := Lib.hid (BW1.out.grown hgrow2 BW1.out.size (fun j hj => (OW1.out.lt j hj).1)); have OW2 := Lib.hid hown2; clear hown2 hgrow2)
          | (refine step_put (by rfl) _ _ _ (by rfl) w.heap.size 3 i0 (.int .i64 0) Try.underlying30 hi0' hz0 hz1 hz2 rfl v1 (0 + k) ([] ++ iv (l.take k)) (by rfl) OW1.out ⟨wr.heap.size, 0, none⟩ 1 1 [.int .i64 n] (by rfl) (by rfl) LT1.out (by simp [Value.oneCell']) (by omega) BW1.out.size ?_; intro v2 w2 hown2 hgrow2; have BW2 := Lib.hid (BW1.out.grown hgrow2 BW1.out.size (fun j hj => (OW1.out.lt j hj).1)); have OW2 := Lib.hid hown2; clear hown2 hgrow2))
        all_goals
          go_wp2
          go_ret
          exact ⟨k, v3, l.take k ++ [n] ++ l.drop k, hk, HLOW.out, .inr ⟨fun hq => absurd hq (by have := HKL.out; omega), rfl⟩, rfl, .inr (put_own OW3.out (by simp; omega)), BW3.out⟩
end Go.Proofs.Ythceffkkokgpnaa
