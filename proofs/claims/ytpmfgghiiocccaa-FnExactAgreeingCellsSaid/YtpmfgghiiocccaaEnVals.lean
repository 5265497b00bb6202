/- The model's values at a cell of an ensemble, in order: l9Values; and how many reach a number: l9Least. -/
import Derived.Test.YtpmfgghiiocccaaEnMath
import Derived.Test.YtpmfgghiiocccaaPutL
namespace Go.Proofs.Ytpmfgghiiocccaa
open Go.RowKit
set_option linter.unusedVariables false
set_option linter.unusedSimpArgs false
theorem own_base {w : World} {B C e n : Nat} {v : Value} {xs : List Value} (h : w.ownsRow C e 1 v n xs) (hB : B ≤ C) : w.ownsRow B e 1 v n xs := by
  obtain ⟨h1, h2 | ⟨g, cap, cur, h2, h3, h4⟩⟩ := h
  · exact ⟨h1, .inl h2⟩
  · exact ⟨h1, .inr ⟨g, cap, cur, h2, Nat.le_trans hB h3, h4⟩⟩
/-- a list of the call's own, in a block that is known -/
structure OutL (w : World) (s : List Int) (g cap : Nat) (wr : World) : Prop where
  o : wr.ownsRow w.heap.size 3 1 (.slice (some ⟨g, 0, none⟩) s.length cap) s.length (iv s)
  b : Below w.heap.size w wr
theorem OutL.facts {w wr : World} {s : List Int} {g cap : Nat} (h : OutL w s g cap wr) : g < wr.heap.size ∧ s.length ≤ cap ∧ ∀ j (hj : j < s.length), wr.cell? ⟨g, j, none⟩ = some (.int .i64 s[j]) := by
  refine ⟨?_, ?_, fun j hj => ?_⟩
  · obtain ⟨_, ⟨h2, _⟩ | ⟨g', cap', cur, e1, _, h4, _⟩⟩ := h.o
    · cases h2
    · injection e1 with e1 _ _
      injection e1 with e1
      injection e1 with e1
      subst e1
      exact (Array.getElem?_eq_some_iff.1 h4).1
  · obtain ⟨_, ⟨h2, _⟩ | ⟨g', cap', cur, e1, _, _, h5, _⟩⟩ := h.o
    · cases h2
    · injection e1 with _ _ e2
      subst e2
      exact h5
  · obtain ⟨c, g', e, h1, h2, h3⟩ := Row.of_own h.o (by omega)
    injection e with e
    injection e with e
    injection e with e
    subst e
    rw [h2.cell (k := j) (by rw [iv_length]; exact hj), iv_get]
theorem OutL.start (w : World) : OutL w [] w.heap.size 0 (w.alloc (.cells #[] 3)) :=
  ⟨World.ownsRow_made (base := w.heap.size) (e := 3) (size := 1) w #[] 0 (Nat.le_refl _) (by simp) rfl, below_all _ _⟩
theorem OutL.ins {w wr w3 : World} {s : List Int} {g cap k q : Nat} {z : Int} {v3 : Value} (h : OutL w s g cap wr) (hb : Below wr.heap.size wr w3) (ho : w3.ownsRow wr.heap.size 3 1 v3 q ([] ++ iv (s.take k) ++ [.int .i64 z] ++ iv (s.drop k))) (hk : spotN s z s.length = k) (hq : q = s.length + 1) :
    ∃ g' cap', v3 = .slice (some ⟨g', 0, none⟩) (Proofs.Ytpmfgghiiocccaa.ins s z).length cap' ∧ OutL w (Proofs.Ytpmfgghiiocccaa.ins s z) g' cap' w3 := by
  have hle := spotN_le s z s.length
  have e : [] ++ iv (s.take k) ++ [.int .i64 z] ++ iv (s.drop k) = iv (Proofs.Ytpmfgghiiocccaa.ins s z) := by
    unfold Proofs.Ytpmfgghiiocccaa.ins gap
    rw [hk]
    simp [iv]
  have el : (Proofs.Ytpmfgghiiocccaa.ins s z).length = s.length + 1 := gap_len hle
  subst hq
  obtain ⟨g', cap', rfl⟩ := own_slice ho (by omega)
  rw [e] at ho
  rw [← el] at ho ⊢
  exact ⟨g', cap', rfl, own_base ho h.b.size, h.b.trans (hb.mono h.b.size)⟩
set_option maxRecDepth 100000 in
set_option maxHeartbeats 8000000 in
theorem enVals_any (W H : Nat) (a : Option Addr) (es : List FE) (c0 i : Nat) (w : World) (hok : OkE es W H) (hi : i < W * H) (hl : Flds w w.heap.size a es) :
    Calls Try.prog 47 #[.slice a es.length c0, .int .i64 (i : Int)] w (IntsPost (insAll (colV (plains es) i)) w) := by
  obtain ⟨i0, hi0', hz0, hz1, hz2⟩ := info_parts infoInt
  have HOK := Lib.hid hok
  have HI := Lib.hid hi
  have HL := Lib.hid hl
  have hn8 : es.length ≤ 8 := hok.n.2
  have hi64 : i < 64 := Nat.lt_of_lt_of_le hi hok.le.1
  have S0 := Lib.hid (OutL.start w)
  clear hok hi hl
  go_enter Try.func47, Try.ntmps47
  go_wp2
  go_loopw [5, 6] (fun out i1 wr => ∃ j : Nat, j ≤ es.length ∧ i1 = .int .i64 j ∧ ∃ g cap, out = .slice (some ⟨g, 0, none⟩) (insAll (colK es i j)).length cap ∧ OutL w (insAll (colK es i j)) g cap wr) (fun _ i1 _ => es.length - (intOf i1).toNat)
  case atStart => exact ⟨0, Nat.zero_le _, rfl, _, 0, rfl, S0.out⟩
  case round =>
    clear S0
    obtain ⟨j, hj, rfl, g, c, rfl, hS⟩ := hrel
    have HS := Lib.hid hS
    clear hS
    by_cases hlt : j < es.length
    · obtain ⟨b, o, rfl, hb, q0, q1, q2, q3⟩ := (HL.out.below HS.out.b (Nat.le_refl _)).at_ hlt
      have hil : i < es[j].l.length := by rw [(HOK.out.e j hlt).2.2.1]; exact HI.out
      obtain ⟨b2, o2, e2, hb2, ck⟩ := q3.at_ hil
      have HJ := Lib.hid (colK_hit hlt hil)
      have HM := Lib.hid (colK_miss hlt hil)
      have hln : (insAll (colK es i j)).length ≤ 8 := by rw [insAll_len]; have := colK_le es i j; omega
      have hji : (j : Int) < (es.length : Int) := by omega
      have hj0 : (0 : Int) ≤ (j : Int) := by omega
      have hii : (i : Int) < (es[j].l.length : Int) := by omega
      have hi0 : (0 : Int) ≤ (i : Int) := by omega
      clear q3 q0 q1
      generalize es[j].l[i] = n at *
      generalize es[j].l.length = ln at *
      rw [e2] at q2
      clear e2 hil
      by_cases hmz : n = -9999
      · subst hmz
        have hE := HJ.out rfl
        rw [← hE] at HS ⊢
        have HS' := Lib.hid HS.out
        go_wp2
        go_roundw
        case rel => exact ⟨j + 1, by omega, by go_num, g, c, rfl, HS'.out⟩
        case measure => simp [intOf]; omega
      · have hm2 : (n == -9999) = false := by rw [beq_eq_false_iff_ne]; exact hmz
        have hIN : insAll (colK es i (j + 1)) = ins (insAll (colK es i j)) n := by rw [HM.out hmz, insAll_snoc]
        have HIN := Lib.hid hIN
        clear hIN HJ HM
        generalize insAll (colK es i j) = l at *
        obtain ⟨hg, hcap, hcell⟩ := HS.out.facts
        have HL1 := Lib.hid hcell
        clear hcell
        go_wp2
        clear hm2 q2 ck
        go_loop [8] (fun p => ∃ k : Nat, k ≤ l.length ∧ p = .int .i64 k ∧ Hid (spotN l n l.length = spotN l n k)) (fun p => (intOf p).toNat)
        case atStart => exact ⟨l.length, Nat.le_refl _, rfl, Lib.hid rfl⟩
        case round =>
          obtain ⟨k, hk, rfl, HSP⟩ := hrel
          by_cases hk0 : k = 0
          · have HE := Lib.hid (show spotN l n l.length = k by rw [HSP.out, hk0]; rfl)
            have hk00 : ¬ (0 : Int) < (k : Int) := by omega
            clear hk0
            by_cases hck : c = k
            · have HKL := Lib.hid (show k = l.length by omega)
              have HDR := Lib.hid (show l.drop k = [] by rw [HKL.out]; exact List.drop_length)
              subst hck
              have hwz : wr.heap.size ≤ wr.heap.size := Nat.le_refl _
              have BW := Lib.hid (show Below wr.heap.size wr (wr.alloc (.cells #[] 3)).drew from ((Below.refl wr.heap.size wr).alloc hwz _).drew)
              have OW := Lib.hid (show (wr.alloc (.cells #[] 3)).drew.ownsRow wr.heap.size 3 1 (.slice (some ⟨wr.heap.size, 0, none⟩) 0 0) 0 [] from own_keeps (World.ownsRow_made (base := wr.heap.size) (e := 3) (size := 1) wr #[] 0 hwz (by simp) rfl) ((Drew.more (Drew.refl _) 1).below _))
              have BWb := Lib.hid (show Below wr.heap.size wr ((wr.alloc (.cells #[] 3)).alloc (.cells #[.int .i64 n] 3)).drew from (((Below.refl wr.heap.size wr).alloc hwz _).alloc (by simp <;> omega) _).drew)
              have OWb := Lib.hid (show ((wr.alloc (.cells #[] 3)).alloc (.cells #[.int .i64 n] 3)).drew.ownsRow wr.heap.size 3 1 (.slice (some ⟨wr.heap.size, 0, none⟩) 0 0) 0 [] from own_keeps ((World.ownsRow_made (base := wr.heap.size) (e := 3) (size := 1) wr #[] 0 hwz (by simp) rfl).alloc _) ((Drew.more (Drew.refl _) 1).below _))
              have LTb := Lib.hid (show ∀ (j : Nat) (u : Value), [Value.int .i64 n][j]? = some u → ((wr.alloc (.cells #[] 3)).alloc (.cells #[.int .i64 n] 3)).drew.cell? ((⟨wr.heap.size + 1, 0, none⟩ : Addr).add j) = some u from by
                have h := cell_one_new (wr.alloc (.cells #[] 3)) (.int .i64 n) 3
                rw [World.size_alloc] at h
                exact lit_below h ((Drew.more (Drew.refl _) 1).below _) (by simp))
              have BWc := Lib.hid (show Below wr.heap.size wr ((wr.alloc (.cells #[.int .i64 n] 3)).alloc (.cells #[] 3)).drew from (((Below.refl wr.heap.size wr).alloc hwz _).alloc (by simp <;> omega) _).drew)
              have OWc := Lib.hid (show ((wr.alloc (.cells #[.int .i64 n] 3)).alloc (.cells #[] 3)).drew.ownsRow wr.heap.size 3 1 (.slice (some ⟨wr.heap.size + 1, 0, none⟩) 0 0) 0 [] from by
                have h := World.ownsRow_made (base := wr.heap.size) (e := 3) (size := 1) (wr.alloc (.cells #[.int .i64 n] 3)) #[] 0 (by simp <;> omega) (by simp) rfl
                rw [World.size_alloc] at h
                exact own_keeps h ((Drew.more (Drew.refl _) 1).below _))
              have LTc := Lib.hid (show ∀ (j : Nat) (u : Value), [Value.int .i64 n][j]? = some u → ((wr.alloc (.cells #[.int .i64 n] 3)).alloc (.cells #[] 3)).drew.cell? ((⟨wr.heap.size, 0, none⟩ : Addr).add j) = some u from
                lit_below (cell_one_new wr (.int .i64 n) 3) (((below_all _ _)).drew) (by simp))
              have HBb := Lib.hid (show wr.heap.size + 1 < ((wr.alloc (.cells #[] 3)).alloc (.cells #[.int .i64 n] 3)).drew.heap.size by
                show wr.heap.size + 1 < ((wr.alloc (.cells #[] 3)).alloc (.cells #[.int .i64 n] 3)).heap.size
                simp)
              have HBc := Lib.hid (show wr.heap.size < ((wr.alloc (.cells #[.int .i64 n] 3)).alloc (.cells #[] 3)).drew.heap.size by
                show wr.heap.size < ((wr.alloc (.cells #[.int .i64 n] 3)).alloc (.cells #[] 3)).heap.size
                simp <;> omega)
              have HNb := Lib.hid (show wr.heap.size + 1 ≠ wr.heap.size by omega)
              have HNc := Lib.hid (show wr.heap.size ≠ wr.heap.size + 1 by omega)
              go_wp2_with fail
              go_region_law (first
                | (refine step_put (by rfl) _ _ _ (by rfl) wr.heap.size 3 i0 (.int .i64 0) Try.underlying29 hi0' hz0 hz1 hz2 rfl (.slice (some ⟨wr.heap.size, 0, none⟩) 0 0) 0 [] (by rfl) OW.out ⟨g, 0, none⟩ c c (iv (l.take c)) (by rfl) (by rw [iv_length, List.length_take]; omega) (put_take HL1.out hg BW.out) (iv_one _) (by omega) BW.out.size ?_; intro v1 w1 hown1 hgrow1; have BW1 := Lib.hid (BW.out.grown hgrow1 BW.out.size (fun j hj => (OW.out.lt j hj).1)); have OW1 := Lib.hid hown1; clear hown1 hgrow1)
                | (refine step_put (by rfl) _ _ _ (by rfl) wr.heap.size 3 i0 (.int .i64 0) Try.underlying29 hi0' hz0 hz1 hz2 rfl v1 (0 + c) ([] ++ iv (l.take c)) (by rfl) (OW1.out.alloc _) ⟨w1.heap.size, 0, none⟩ 1 1 [.int .i64 n] (by rfl) (by rfl) (cell_one_new _ _ _) (by simp [Value.oneCell']) (by omega) ((BW1.out.alloc BW1.out.size _).size) ?_; intro v2 w2 hown2 hgrow2; have BW2 := Lib.hid ((BW1.out.alloc BW1.out.size (.cells #[.int .i64 n] 3)).grown hgrow2 (BW1.out.alloc BW1.out.size _).size (fun j hj => (OW1.out.lt j hj).1)); have OW2 := Lib.hid hown2; clear hown2 hgrow2)
                | (refine step_put (by rfl) _ _ _ (by rfl) wr.heap.size 3 i0 (.int .i64 0) Try.underlying29 hi0' hz0 hz1 hz2 rfl v2 (0 + c + 1) ([] ++ iv (l.take c) ++ [.int .i64 n]) (by rfl) OW2.out ⟨g, 0, none⟩ 0 0 (iv []) (by rfl) rfl (by intro j u h; simp [iv] at h) (iv_one _) (by omega) BW2.out.size ?_; intro v3 w3 hown3 hgrow3; have BW3 := Lib.hid (BW2.out.grown hgrow3 BW2.out.size (fun j hj => (OW2.out.lt j hj).1)); have OW3 := Lib.hid hown3; clear hown3 hgrow3)
                | (refine step_put (by rfl) _ _ _ (by rfl) wr.heap.size 3 i0 (.int .i64 0) Try.underlying29 hi0' hz0 hz1 hz2 rfl (.slice (some ⟨wr.heap.size, 0, none⟩) 0 0) 0 [] (by rfl) OWb.out ⟨g, 0, none⟩ c c (iv (l.take c)) (by rfl) (by rw [iv_length, List.length_take]; omega) (put_take HL1.out hg BWb.out) (iv_one _) (by omega) BWb.out.size ?_; intro v1 w1 hown1 hgrow1; have BW1 := Lib.hid (BWb.out.grown hgrow1 BWb.out.size (fun j hj => (OWb.out.lt j hj).1)); have OW1 := Lib.hid hown1; have LT1 := Lib.hid (lit_grown (g := wr.heap.size) LTb.out hgrow1 HBb.out HNb.out); clear hown1 hgrow1)
                | (refine step_put (by rfl) _ _ _ (by rfl) wr.heap.size 3 i0 (.int .i64 0) Try.underlying29 hi0' hz0 hz1 hz2 rfl (.slice (some ⟨wr.heap.size + 1, 0, none⟩) 0 0) 0 [] (by rfl) OWc.out ⟨g, 0, none⟩ c c (iv (l.take c)) (by rfl) (by rw [iv_length, List.length_take]; omega) (put_take HL1.out hg BWc.out) (iv_one _) (by omega) BWc.out.size ?_; intro v1 w1 hown1 hgrow1; have BW1 := Lib.hid (BWc.out.grown hgrow1 BWc.out.size (fun j hj => (OWc.out.lt j hj).1)); have OW1 := Lib.hid hown1; have LT1 := Lib.hid (lit_grown (g := wr.heap.size + 1) LTc.out hgrow1 HBc.out HNc.out); clear hown1 hgrow1)
                | (refine step_put (by rfl) _ _ _ (by rfl) wr.heap.size 3 i0 (.int .i64 0) Try.underlying29 hi0' hz0 hz1 hz2 rfl v1 (0 + c) ([] ++ iv (l.take c)) (by rfl) OW1.out ⟨wr.heap.size + 1, 0, none⟩ 1 1 [.int .i64 n] (by rfl) (by rfl) LT1.out (by simp [Value.oneCell']) (by omega) BW1.out.size ?_; intro v2 w2 hown2 hgrow2; have BW2 := Lib.hid (BW1.out.grown hgrow2 BW1.out.size (fun j hj => (OW1.out.lt j hj).1)); have OW2 := Lib.hid hown2; clear hown2 hgrow2)
                | (refine step_put (by rfl) _ _ _ (by rfl) wr.heap.size 3 i0 (.int .i64 0) Try.underlying29 hi0' hz0 hz1 hz2 rfl v1 (0 + c) ([] ++ iv (l.take c)) (by rfl) OW1.out ⟨wr.heap.size, 0, none⟩ 1 1 [.int .i64 n] (by rfl) (by rfl) LT1.out (by simp [Value.oneCell']) (by omega) BW1.out.size ?_; intro v2 w2 hown2 hgrow2; have BW2 := Lib.hid (BW1.out.grown hgrow2 BW1.out.size (fun j hj => (OW1.out.lt j hj).1)); have OW2 := Lib.hid hown2; clear hown2 hgrow2))
              all_goals
                obtain ⟨g3, c3, rfl, hS3⟩ := HS.out.ins BW3.out (by rw [HDR.out]; exact OW3.out) HE.out (by omega)
                have HS3 := Lib.hid hS3
                clear hS3 OW3 BW3 OW2 BW2 OW1 BW1 BW OW BWb OWb LTb BWc OWc LTc
                rw [← HIN.out] at HS3 ⊢
                go_wp2
                go_roundw
                case rel => exact ⟨j + 1, by omega, by go_num, g3, c3, rfl, HS3.out⟩
                case measure => simp [intOf]; omega
            · have hk1 : (k : Int) ≤ (c : Int) := by omega
              have hk2 : (k : Int) ≤ (l.length : Int) := by omega
              have hkz : (0 : Int) ≤ (k : Int) := by omega
              have hwz : wr.heap.size ≤ wr.heap.size := Nat.le_refl _
              have BW := Lib.hid (show Below wr.heap.size wr (wr.alloc (.cells #[] 3)).drew from ((Below.refl wr.heap.size wr).alloc hwz _).drew)
              have OW := Lib.hid (show (wr.alloc (.cells #[] 3)).drew.ownsRow wr.heap.size 3 1 (.slice (some ⟨wr.heap.size, 0, none⟩) 0 0) 0 [] from own_keeps (World.ownsRow_made (base := wr.heap.size) (e := 3) (size := 1) wr #[] 0 hwz (by simp) rfl) ((Drew.more (Drew.refl _) 1).below _))
              have BWb := Lib.hid (show Below wr.heap.size wr ((wr.alloc (.cells #[] 3)).alloc (.cells #[.int .i64 n] 3)).drew from (((Below.refl wr.heap.size wr).alloc hwz _).alloc (by simp <;> omega) _).drew)
              have OWb := Lib.hid (show ((wr.alloc (.cells #[] 3)).alloc (.cells #[.int .i64 n] 3)).drew.ownsRow wr.heap.size 3 1 (.slice (some ⟨wr.heap.size, 0, none⟩) 0 0) 0 [] from own_keeps ((World.ownsRow_made (base := wr.heap.size) (e := 3) (size := 1) wr #[] 0 hwz (by simp) rfl).alloc _) ((Drew.more (Drew.refl _) 1).below _))
              have LTb := Lib.hid (show ∀ (j : Nat) (u : Value), [Value.int .i64 n][j]? = some u → ((wr.alloc (.cells #[] 3)).alloc (.cells #[.int .i64 n] 3)).drew.cell? ((⟨wr.heap.size + 1, 0, none⟩ : Addr).add j) = some u from by
                have h := cell_one_new (wr.alloc (.cells #[] 3)) (.int .i64 n) 3
                rw [World.size_alloc] at h
                exact lit_below h ((Drew.more (Drew.refl _) 1).below _) (by simp))
              have BWc := Lib.hid (show Below wr.heap.size wr ((wr.alloc (.cells #[.int .i64 n] 3)).alloc (.cells #[] 3)).drew from (((Below.refl wr.heap.size wr).alloc hwz _).alloc (by simp <;> omega) _).drew)
              have OWc := Lib.hid (show ((wr.alloc (.cells #[.int .i64 n] 3)).alloc (.cells #[] 3)).drew.ownsRow wr.heap.size 3 1 (.slice (some ⟨wr.heap.size + 1, 0, none⟩) 0 0) 0 [] from by
                have h := World.ownsRow_made (base := wr.heap.size) (e := 3) (size := 1) (wr.alloc (.cells #[.int .i64 n] 3)) #[] 0 (by simp <;> omega) (by simp) rfl
                rw [World.size_alloc] at h
                exact own_keeps h ((Drew.more (Drew.refl _) 1).below _))
              have LTc := Lib.hid (show ∀ (j : Nat) (u : Value), [Value.int .i64 n][j]? = some u → ((wr.alloc (.cells #[.int .i64 n] 3)).alloc (.cells #[] 3)).drew.cell? ((⟨wr.heap.size, 0, none⟩ : Addr).add j) = some u from
                lit_below (cell_one_new wr (.int .i64 n) 3) (((below_all _ _)).drew) (by simp))
              have HBb := Lib.hid (show wr.heap.size + 1 < ((wr.alloc (.cells #[] 3)).alloc (.cells #[.int .i64 n] 3)).drew.heap.size by
                show wr.heap.size + 1 < ((wr.alloc (.cells #[] 3)).alloc (.cells #[.int .i64 n] 3)).heap.size
                simp)
              have HBc := Lib.hid (show wr.heap.size < ((wr.alloc (.cells #[.int .i64 n] 3)).alloc (.cells #[] 3)).drew.heap.size by
                show wr.heap.size < ((wr.alloc (.cells #[.int .i64 n] 3)).alloc (.cells #[] 3)).heap.size
                simp <;> omega)
              have HNb := Lib.hid (show wr.heap.size + 1 ≠ wr.heap.size by omega)
              have HNc := Lib.hid (show wr.heap.size ≠ wr.heap.size + 1 by omega)
              go_wp2_with fail
              go_region_law (first
                | (refine step_put (by rfl) _ _ _ (by rfl) wr.heap.size 3 i0 (.int .i64 0) Try.underlying29 hi0' hz0 hz1 hz2 rfl (.slice (some ⟨wr.heap.size, 0, none⟩) 0 0) 0 [] (by rfl) OW.out ⟨g, 0, none⟩ k c (iv (l.take k)) (by rfl) (by rw [iv_length, List.length_take]; omega) (put_take HL1.out hg BW.out) (iv_one _) (by omega) BW.out.size ?_; intro v1 w1 hown1 hgrow1; have BW1 := Lib.hid (BW.out.grown hgrow1 BW.out.size (fun j hj => (OW.out.lt j hj).1)); have OW1 := Lib.hid hown1; clear hown1 hgrow1)
                | (refine step_put (by rfl) _ _ _ (by rfl) wr.heap.size 3 i0 (.int .i64 0) Try.underlying29 hi0' hz0 hz1 hz2 rfl v1 (0 + k) ([] ++ iv (l.take k)) (by rfl) (OW1.out.alloc _) ⟨w1.heap.size, 0, none⟩ 1 1 [.int .i64 n] (by rfl) (by rfl) (cell_one_new _ _ _) (by simp [Value.oneCell']) (by omega) ((BW1.out.alloc BW1.out.size _).size) ?_; intro v2 w2 hown2 hgrow2; have BW2 := Lib.hid ((BW1.out.alloc BW1.out.size (.cells #[.int .i64 n] 3)).grown hgrow2 (BW1.out.alloc BW1.out.size _).size (fun j hj => (OW1.out.lt j hj).1)); have OW2 := Lib.hid hown2; clear hown2 hgrow2)
                | (refine step_put (by rfl) _ _ _ (by rfl) wr.heap.size 3 i0 (.int .i64 0) Try.underlying29 hi0' hz0 hz1 hz2 rfl v2 (0 + k + 1) ([] ++ iv (l.take k) ++ [.int .i64 n]) (by rfl) OW2.out ⟨g, k, none⟩ (l.length - k) (c - k) (iv (l.drop k)) (by rfl) (by rw [iv_length]; rw [List.length_drop]) (put_drop HL1.out hg BW2.out) (iv_one _) (by omega) BW2.out.size ?_; intro v3 w3 hown3 hgrow3; have BW3 := Lib.hid (BW2.out.grown hgrow3 BW2.out.size (fun j hj => (OW2.out.lt j hj).1)); have OW3 := Lib.hid hown3; clear hown3 hgrow3)
                | (refine step_put (by rfl) _ _ _ (by rfl) wr.heap.size 3 i0 (.int .i64 0) Try.underlying29 hi0' hz0 hz1 hz2 rfl (.slice (some ⟨wr.heap.size, 0, none⟩) 0 0) 0 [] (by rfl) OWb.out ⟨g, 0, none⟩ k c (iv (l.take k)) (by rfl) (by rw [iv_length, List.length_take]; omega) (put_take HL1.out hg BWb.out) (iv_one _) (by omega) BWb.out.size ?_; intro v1 w1 hown1 hgrow1; have BW1 := Lib.hid (BWb.out.grown hgrow1 BWb.out.size (fun j hj => (OWb.out.lt j hj).1)); have OW1 := Lib.hid hown1; have LT1 := Lib.hid (lit_grown (g := wr.heap.size) LTb.out hgrow1 HBb.out HNb.out); clear hown1 hgrow1)
                | (refine step_put (by rfl) _ _ _ (by rfl) wr.heap.size 3 i0 (.int .i64 0) Try.underlying29 hi0' hz0 hz1 hz2 rfl (.slice (some ⟨wr.heap.size + 1, 0, none⟩) 0 0) 0 [] (by rfl) OWc.out ⟨g, 0, none⟩ k c (iv (l.take k)) (by rfl) (by rw [iv_length, List.length_take]; omega) (put_take HL1.out hg BWc.out) (iv_one _) (by omega) BWc.out.size ?_; intro v1 w1 hown1 hgrow1; have BW1 := Lib.hid (BWc.out.grown hgrow1 BWc.out.size (fun j hj => (OWc.out.lt j hj).1)); have OW1 := Lib.hid hown1; have LT1 := Lib.hid (lit_grown (g := wr.heap.size + 1) LTc.out hgrow1 HBc.out HNc.out); clear hown1 hgrow1)
                | (refine step_put (by rfl) _ _ _ (by rfl) wr.heap.size 3 i0 (.int .i64 0) Try.underlying29 hi0' hz0 hz1 hz2 rfl v1 (0 + k) ([] ++ iv (l.take k)) (by rfl) OW1.out ⟨wr.heap.size + 1, 0, none⟩ 1 1 [.int .i64 n] (by rfl) (by rfl) LT1.out (by simp [Value.oneCell']) (by omega) BW1.out.size ?_; intro v2 w2 hown2 hgrow2; have BW2 := Lib.hid (BW1.out.grown hgrow2 BW1.out.size (fun j hj => (OW1.out.lt j hj).1)); have OW2 := Lib.hid hown2; clear hown2 hgrow2)
                | (refine step_put (by rfl) _ _ _ (by rfl) wr.heap.size 3 i0 (.int .i64 0) Try.underlying29 hi0' hz0 hz1 hz2 rfl v1 (0 + k) ([] ++ iv (l.take k)) (by rfl) OW1.out ⟨wr.heap.size, 0, none⟩ 1 1 [.int .i64 n] (by rfl) (by rfl) LT1.out (by simp [Value.oneCell']) (by omega) BW1.out.size ?_; intro v2 w2 hown2 hgrow2; have BW2 := Lib.hid (BW1.out.grown hgrow2 BW1.out.size (fun j hj => (OW1.out.lt j hj).1)); have OW2 := Lib.hid hown2; clear hown2 hgrow2))
              all_goals
                obtain ⟨g3, c3, rfl, hS3⟩ := HS.out.ins BW3.out OW3.out HE.out (by omega)
                have HS3 := Lib.hid hS3
                clear hS3 OW3 BW3 OW2 BW2 OW1 BW1 BW OW BWb OWb LTb BWc OWc LTc
                rw [← HIN.out] at HS3 ⊢
                go_wp2
                go_roundw
                case rel => exact ⟨j + 1, by omega, by go_num, g3, c3, rfl, HS3.out⟩
                case measure => simp [intOf]; omega
          · obtain ⟨k', hkk⟩ : ∃ k', k = k' + 1 := ⟨k - 1, by omega⟩
            have hk' : k' < l.length := by omega
            have hc1 := HL1.out k' hk'
            have hk00 : (0 : Int) < (k : Int) := by omega
            have hx1 : (k : Int) - 1 = (k' : Int) := by omega
            have hk3 : (k' : Int) < (l.length : Int) := by omega
            have hk4 : (0 : Int) ≤ (k' : Int) := by omega
            have HDN := Lib.hid (fun h => spotN_down (n := n) hk' h)
            have HST := Lib.hid (fun h => spotN_stop (n := n) hk' h)
            generalize l[k'] = y at *
            rw [← hkk] at HDN HST
            have HKK := Lib.hid hkk
            have hkm : k' < k := by omega
            clear hkk hk0
            by_cases hyn : n < y
            · have HSP2 := Lib.hid (HSP.out.trans (HDN.out hyn))
              clear HDN HST HSP
              go_wp2
              go_round
              case rel => exact ⟨k', by omega, rfl, HSP2⟩
              case measure => simp [intOf]; omega
            · have HE := Lib.hid (HSP.out.trans (HST.out hyn))
              clear HDN HST HSP
              by_cases hck : c = k
              · have HKL := Lib.hid (show k = l.length by omega)
                have HDR := Lib.hid (show l.drop k = [] by rw [HKL.out]; exact List.drop_length)
                subst hck
                have hwz : wr.heap.size ≤ wr.heap.size := Nat.le_refl _
                have BW := Lib.hid (show Below wr.heap.size wr (wr.alloc (.cells #[] 3)).drew from ((Below.refl wr.heap.size wr).alloc hwz _).drew)
                have OW := Lib.hid (show (wr.alloc (.cells #[] 3)).drew.ownsRow wr.heap.size 3 1 (.slice (some ⟨wr.heap.size, 0, none⟩) 0 0) 0 [] from own_keeps (World.ownsRow_made (base := wr.heap.size) (e := 3) (size := 1) wr #[] 0 hwz (by simp) rfl) ((Drew.more (Drew.refl _) 1).below _))
                have BWb := Lib.hid (show Below wr.heap.size wr ((wr.alloc (.cells #[] 3)).alloc (.cells #[.int .i64 n] 3)).drew from (((Below.refl wr.heap.size wr).alloc hwz _).alloc (by simp <;> omega) _).drew)
                have OWb := Lib.hid (show ((wr.alloc (.cells #[] 3)).alloc (.cells #[.int .i64 n] 3)).drew.ownsRow wr.heap.size 3 1 (.slice (some ⟨wr.heap.size, 0, none⟩) 0 0) 0 [] from own_keeps ((World.ownsRow_made (base := wr.heap.size) (e := 3) (size := 1) wr #[] 0 hwz (by simp) rfl).alloc _) ((Drew.more (Drew.refl _) 1).below _))
                have LTb := Lib.hid (show ∀ (j : Nat) (u : Value), [Value.int .i64 n][j]? = some u → ((wr.alloc (.cells #[] 3)).alloc (.cells #[.int .i64 n] 3)).drew.cell? ((⟨wr.heap.size + 1, 0, none⟩ : Addr).add j) = some u from by
                  have h := cell_one_new (wr.alloc (.cells #[] 3)) (.int .i64 n) 3
                  rw [World.size_alloc] at h
                  exact lit_below h ((Drew.more (Drew.refl _) 1).below _) (by simp))
                have BWc := Lib.hid (show Below wr.heap.size wr ((wr.alloc (.cells #[.int .i64 n] 3)).alloc (.cells #[] 3)).drew from (((Below.refl wr.heap.size wr).alloc hwz _).alloc (by simp <;> omega) _).drew)
                have OWc := Lib.hid (show ((wr.alloc (.cells #[.int .i64 n] 3)).alloc (.cells #[] 3)).drew.ownsRow wr.heap.size 3 1 (.slice (some ⟨wr.heap.size + 1, 0, none⟩) 0 0) 0 [] from by
                  have h := World.ownsRow_made (base := wr.heap.size) (e := 3) (size := 1) (wr.alloc (.cells #[.int .i64 n] 3)) #[] 0 (by simp <;> omega) (by simp) rfl
                  rw [World.size_alloc] at h
                  exact own_keeps h ((Drew.more (Drew.refl _) 1).below _))
                have LTc := Lib.hid (show ∀ (j : Nat) (u : Value), [Value.int .i64 n][j]? = some u → ((wr.alloc (.cells #[.int .i64 n] 3)).alloc (.cells #[] 3)).drew.cell? ((⟨wr.heap.size, 0, none⟩ : Addr).add j) = some u from
                  lit_below (cell_one_new wr (.int .i64 n) 3) (((below_all _ _)).drew) (by simp))
                have HBb := Lib.hid (show wr.heap.size + 1 < ((wr.alloc (.cells #[] 3)).alloc (.cells #[.int .i64 n] 3)).drew.heap.size by
                  show wr.heap.size + 1 < ((wr.alloc (.cells #[] 3)).alloc (.cells #[.int .i64 n] 3)).heap.size
                  simp)
                have HBc := Lib.hid (show wr.heap.size < ((wr.alloc (.cells #[.int .i64 n] 3)).alloc (.cells #[] 3)).drew.heap.size by
                  show wr.heap.size < ((wr.alloc (.cells #[.int .i64 n] 3)).alloc (.cells #[] 3)).heap.size
                  simp <;> omega)
                have HNb := Lib.hid (show wr.heap.size + 1 ≠ wr.heap.size by omega)
                have HNc := Lib.hid (show wr.heap.size ≠ wr.heap.size + 1 by omega)
                go_wp2_with fail
                go_region_law (first
                  | (refine step_put (by rfl) _ _ _ (by rfl) wr.heap.size 3 i0 (.int .i64 0) Try.underlying29 hi0' hz0 hz1 hz2 rfl (.slice (some ⟨wr.heap.size, 0, none⟩) 0 0) 0 [] (by rfl) OW.out ⟨g, 0, none⟩ c c (iv (l.take c)) (by rfl) (by rw [iv_length, List.length_take]; omega) (put_take HL1.out hg BW.out) (iv_one _) (by omega) BW.out.size ?_; intro v1 w1 hown1 hgrow1; have BW1 := Lib.hid (BW.out.grown hgrow1 BW.out.size (fun j hj => (OW.out.lt j hj).1)); have OW1 := Lib.hid hown1; clear hown1 hgrow1)
                  | (refine step_put (by rfl) _ _ _ (by rfl) wr.heap.size 3 i0 (.int .i64 0) Try.underlying29 hi0' hz0 hz1 hz2 rfl v1 (0 + c) ([] ++ iv (l.take c)) (by rfl) (OW1.out.alloc _) ⟨w1.heap.size, 0, none⟩ 1 1 [.int .i64 n] (by rfl) (by rfl) (cell_one_new _ _ _) (by simp [Value.oneCell']) (by omega) ((BW1.out.alloc BW1.out.size _).size) ?_; intro v2 w2 hown2 hgrow2; have BW2 := Lib.hid ((BW1.out.alloc BW1.out.size (.cells #[.int .i64 n] 3)).grown hgrow2 (BW1.out.alloc BW1.out.size _).size (fun j hj => (OW1.out.lt j hj).1)); have OW2 := Lib.hid hown2; clear hown2 hgrow2)
                  | (refine step_put (by rfl) _ _ _ (by rfl) wr.heap.size 3 i0 (.int .i64 0) Try.underlying29 hi0' hz0 hz1 hz2 rfl v2 (0 + c + 1) ([] ++ iv (l.take c) ++ [.int .i64 n]) (by rfl) OW2.out ⟨g, 0, none⟩ 0 0 (iv []) (by rfl) rfl (by intro j u h; simp [iv] at h) (iv_one _) (by omega) BW2.out.size ?_; intro v3 w3 hown3 hgrow3; have BW3 := Lib.hid (BW2.out.grown hgrow3 BW2.out.size (fun j hj => (OW2.out.lt j hj).1)); have OW3 := Lib.hid hown3; clear hown3 hgrow3)
                  | (refine step_put (by rfl) _ _ _ (by rfl) wr.heap.size 3 i0 (.int .i64 0) Try.underlying29 hi0' hz0 hz1 hz2 rfl (.slice (some ⟨wr.heap.size, 0, none⟩) 0 0) 0 [] (by rfl) OWb.out ⟨g, 0, none⟩ c c (iv (l.take c)) (by rfl) (by rw [iv_length, List.length_take]; omega) (put_take HL1.out hg BWb.out) (iv_one _) (by omega) BWb.out.size ?_; intro v1 w1 hown1 hgrow1; have BW1 := Lib.hid (BWb.out.grown hgrow1 BWb.out.size (fun j hj => (OWb.out.lt j hj).1)); have OW1 := Lib.hid hown1; have LT1 := Lib.hid (lit_grown (g := wr.heap.size) LTb.out hgrow1 HBb.out HNb.out); clear hown1 hgrow1)
                  | (refine step_put (by rfl) _ _ _ (by rfl) wr.heap.size 3 i0 (.int .i64 0) Try.underlying29 hi0' hz0 hz1 hz2 rfl (.slice (some ⟨wr.heap.size + 1, 0, none⟩) 0 0) 0 [] (by rfl) OWc.out ⟨g, 0, none⟩ c c (iv (l.take c)) (by rfl) (by rw [iv_length, List.length_take]; omega) (put_take HL1.out hg BWc.out) (iv_one _) (by omega) BWc.out.size ?_; intro v1 w1 hown1 hgrow1; have BW1 := Lib.hid (BWc.out.grown hgrow1 BWc.out.size (fun j hj => (OWc.out.lt j hj).1)); have OW1 := Lib.hid hown1; have LT1 := Lib.hid (lit_grown (g := wr.heap.size + 1) LTc.out hgrow1 HBc.out HNc.out); clear hown1 hgrow1)
                  | (refine step_put (by rfl) _ _ _ (by rfl) wr.heap.size 3 i0 (.int .i64 0) Try.underlying29 hi0' hz0 hz1 hz2 rfl v1 (0 + c) ([] ++ iv (l.take c)) (by rfl) OW1.out ⟨wr.heap.size + 1, 0, none⟩ 1 1 [.int .i64 n] (by rfl) (by rfl) LT1.out (by simp [Value.oneCell']) (by omega) BW1.out.size ?_; intro v2 w2 hown2 hgrow2; have BW2 := Lib.hid (BW1.out.grown hgrow2 BW1.out.size (fun j hj => (OW1.out.lt j hj).1)); have OW2 := Lib.hid hown2; clear hown2 hgrow2)
                  | (refine step_put (by rfl) _ _ _ (by rfl) wr.heap.size 3 i0 (.int .i64 0) Try.underlying29 hi0' hz0 hz1 hz2 rfl v1 (0 + c) ([] ++ iv (l.take c)) (by rfl) OW1.out ⟨wr.heap.size, 0, none⟩ 1 1 [.int .i64 n] (by rfl) (by rfl) LT1.out (by simp [Value.oneCell']) (by omega) BW1.out.size ?_; intro v2 w2 hown2 hgrow2; have BW2 := Lib.hid (BW1.out.grown hgrow2 BW1.out.size (fun j hj => (OW1.out.lt j hj).1)); have OW2 := Lib.hid hown2; clear hown2 hgrow2))
                all_goals
                  obtain ⟨g3, c3, rfl, hS3⟩ := HS.out.ins BW3.out (by rw [HDR.out]; exact OW3.out) HE.out (by omega)
                  have HS3 := Lib.hid hS3
                  clear hS3 OW3 BW3 OW2 BW2 OW1 BW1 BW OW BWb OWb LTb BWc OWc LTc
                  rw [← HIN.out] at HS3 ⊢
                  go_wp2
                  go_roundw
                  case rel => exact ⟨j + 1, by omega, by go_num, g3, c3, rfl, HS3.out⟩
                  case measure => simp [intOf]; omega
              · have hk1 : (k : Int) ≤ (c : Int) := by omega
                have hk2 : (k : Int) ≤ (l.length : Int) := by omega
                have hkz : (0 : Int) ≤ (k : Int) := by omega
                have hwz : wr.heap.size ≤ wr.heap.size := Nat.le_refl _
                have BW := Lib.hid (show Below wr.heap.size wr (wr.alloc (.cells #[] 3)).drew from ((Below.refl wr.heap.size wr).alloc hwz _).drew)
                have OW := Lib.hid (show (wr.alloc (.cells #[] 3)).drew.ownsRow wr.heap.size 3 1 (.slice (some ⟨wr.heap.size, 0, none⟩) 0 0) 0 [] from own_keeps (World.ownsRow_made (base := wr.heap.size) (e := 3) (size := 1) wr #[] 0 hwz (by simp) rfl) ((Drew.more (Drew.refl _) 1).below _))
                have BWb := Lib.hid (show Below wr.heap.size wr ((wr.alloc (.cells #[] 3)).alloc (.cells #[.int .i64 n] 3)).drew from (((Below.refl wr.heap.size wr).alloc hwz _).alloc (by simp <;> omega) _).drew)
                have OWb := Lib.hid (show ((wr.alloc (.cells #[] 3)).alloc (.cells #[.int .i64 n] 3)).drew.ownsRow wr.heap.size 3 1 (.slice (some ⟨wr.heap.size, 0, none⟩) 0 0) 0 [] from own_keeps ((World.ownsRow_made (base := wr.heap.size) (e := 3) (size := 1) wr #[] 0 hwz (by simp) rfl).alloc _) ((Drew.more (Drew.refl _) 1).below _))
                have LTb := Lib.hid (show ∀ (j : Nat) (u : Value), [Value.int .i64 n][j]? = some u → ((wr.alloc (.cells #[] 3)).alloc (.cells #[.int .i64 n] 3)).drew.cell? ((⟨wr.heap.size + 1, 0, none⟩ : Addr).add j) = some u from by
                  have h := cell_one_new (wr.alloc (.cells #[] 3)) (.int .i64 n) 3
                  rw [World.size_alloc] at h
                  exact lit_below h ((Drew.more (Drew.refl _) 1).below _) (by simp))
                have BWc := Lib.hid (show Below wr.heap.size wr ((wr.alloc (.cells #[.int .i64 n] 3)).alloc (.cells #[] 3)).drew from (((Below.refl wr.heap.size wr).alloc hwz _).alloc (by simp <;> omega) _).drew)
                have OWc := Lib.hid (show ((wr.alloc (.cells #[.int .i64 n] 3)).alloc (.cells #[] 3)).drew.ownsRow wr.heap.size 3 1 (.slice (some ⟨wr.heap.size + 1, 0, none⟩) 0 0) 0 [] from by
                  have h := World.ownsRow_made (base := wr.heap.size) (e := 3) (size := 1) (wr.alloc (.cells #[.int .i64 n] 3)) #[] 0 (by simp <;> omega) (by simp) rfl
                  rw [World.size_alloc] at h
                  exact own_keeps h ((Drew.more (Drew.refl _) 1).below _))
                have LTc := Lib.hid (show ∀ (j : Nat) (u : Value), [Value.int .i64 n][j]? = some u → ((wr.alloc (.cells #[.int .i64 n] 3)).alloc (.cells #[] 3)).drew.cell? ((⟨wr.heap.size, 0, none⟩ : Addr).add j) = some u from
                  lit_below (cell_one_new wr (.int .i64 n) 3) (((below_all _ _)).drew) (by simp))
                have HBb := Lib.hid (show wr.heap.size + 1 < ((wr.alloc (.cells #[] 3)).alloc (.cells #[.int .i64 n] 3)).drew.heap.size by
                  show wr.heap.size + 1 < ((wr.alloc (.cells #[] 3)).alloc (.cells #[.int .i64 n] 3)).heap.size
                  simp)
                have HBc := Lib.hid (show wr.heap.size < ((wr.alloc (.cells #[.int .i64 n] 3)).alloc (.cells #[] 3)).drew.heap.size by
                  show wr.heap.size < ((wr.alloc (.cells #[.int .i64 n] 3)).alloc (.cells #[] 3)).heap.size
                  simp <;> omega)
                have HNb := Lib.hid (show wr.heap.size + 1 ≠ wr.heap.size by omega)
                have HNc := Lib.hid (show wr.heap.size ≠ wr.heap.size + 1 by omega)
                go_wp2_with fail
                go_region_law (first
                  | (refine step_put (by rfl) _ _ _ (by rfl) wr.heap.size 3 i0 (.int .i64 0) Try.underlying29 hi0' hz0 hz1 hz2 rfl (.slice (some ⟨wr.heap.size, 0, none⟩) 0 0) 0 [] (by rfl) OW.out ⟨g, 0, none⟩ k c (iv (l.take k)) (by rfl) (by rw [iv_length, List.length_take]; omega) (put_take HL1.out hg BW.out) (iv_one _) (by omega) BW.out.size ?_; intro v1 w1 hown1 hgrow1; have BW1 := Lib.hid (BW.out.grown hgrow1 BW.out.size (fun j hj => (OW.out.lt j hj).1)); have OW1 := Lib.hid hown1; clear hown1 hgrow1)
                  | (refine step_put (by rfl) _ _ _ (by rfl) wr.heap.size 3 i0 (.int .i64 0) Try.underlying29 hi0' hz0 hz1 hz2 rfl v1 (0 + k) ([] ++ iv (l.take k)) (by rfl) (OW1.out.alloc _) ⟨w1.heap.size, 0, none⟩ 1 1 [.int .i64 n] (by rfl) (by rfl) (cell_one_new _ _ _) (by simp [Value.oneCell']) (by omega) ((BW1.out.alloc BW1.out.size _).size) ?_; intro v2 w2 hown2 hgrow2; have BW2 := Lib.hid ((BW1.out.alloc BW1.out.size (.cells #[.int .i64 n] 3)).grown hgrow2 (BW1.out.alloc BW1.out.size _).size (fun j hj => (OW1.out.lt j hj).1)); have OW2 := Lib.hid hown2; clear hown2 hgrow2)
                  | (refine step_put (by rfl) _ _ _ (by rfl) wr.heap.size 3 i0 (.int .i64 0) Try.underlying29 hi0' hz0 hz1 hz2 rfl v2 (0 + k + 1) ([] ++ iv (l.take k) ++ [.int .i64 n]) (by rfl) OW2.out ⟨g, k, none⟩ (l.length - k) (c - k) (iv (l.drop k)) (by rfl) (by rw [iv_length]; rw [List.length_drop]) (put_drop HL1.out hg BW2.out) (iv_one _) (by omega) BW2.out.size ?_; intro v3 w3 hown3 hgrow3; have BW3 := Lib.hid (BW2.out.grown hgrow3 BW2.out.size (fun j hj => (OW2.out.lt j hj).1)); have OW3 := Lib.hid hown3; clear hown3 hgrow3)
                  | (refine step_put (by rfl) _ _ _ (by rfl) wr.heap.size 3 i0 (.int .i64 0) Try.underlying29 hi0' hz0 hz1 hz2 rfl (.slice (some ⟨wr.heap.size, 0, none⟩) 0 0) 0 [] (by rfl) OWb.out ⟨g, 0, none⟩ k c (iv (l.take k)) (by rfl) (by rw [iv_length, List.length_take]; omega) (put_take HL1.out hg BWb.out) (iv_one _) (by omega) BWb.out.size ?_; intro v1 w1 hown1 hgrow1; have BW1 := Lib.hid (BWb.out.grown hgrow1 BWb.out.size (fun j hj => (OWb.out.lt j hj).1)); have OW1 := Lib.hid hown1; have LT1 := Lib.hid (lit_grown (g := wr.heap.size) LTb.out hgrow1 HBb.out HNb.out); clear hown1 hgrow1)
                  | (refine step_put (by rfl) _ _ _ (by rfl) wr.heap.size 3 i0 (.int .i64 0) Try.underlying29 hi0' hz0 hz1 hz2 rfl (.slice (some ⟨wr.heap.size + 1, 0, none⟩) 0 0) 0 [] (by rfl) OWc.out ⟨g, 0, none⟩ k c (iv (l.take k)) (by rfl) (by rw [iv_length, List.length_take]; omega) (put_take HL1.out hg BWc.out) (iv_one _) (by omega) BWc.out.size ?_; intro v1 w1 hown1 hgrow1; have BW1 := Lib.hid (BWc.out.grown hgrow1 BWc.out.size (fun j hj => (OWc.out.lt j hj).1)); have OW1 := Lib.hid hown1; have LT1 := Lib.hid (lit_grown (g := wr.heap.size + 1) LTc.out hgrow1 HBc.out HNc.out); clear hown1 hgrow1)
                  | (refine step_put (by rfl) _ _ _ (by rfl) wr.heap.size 3 i0 (.int .i64 0) Try.underlying29 hi0' hz0 hz1 hz2 rfl v1 (0 + k) ([] ++ iv (l.take k)) (by rfl) OW1.out ⟨wr.heap.size + 1, 0, none⟩ 1 1 [.int .i64 n] (by rfl) (by rfl) LT1.out (by simp [Value.oneCell']) (by omega) BW1.out.size ?_; intro v2 w2 hown2 hgrow2; have BW2 := Lib.hid (BW1.out.grown hgrow2 BW1.out.size (fun j hj => (OW1.out.lt j hj).1)); have OW2 := Lib.hid hown2; clear hown2 hgrow2)
                  | (refine step_put (by rfl) _ _ _ (by rfl) wr.heap.size 3 i0 (.int .i64 0) Try.underlying29 hi0' hz0 hz1 hz2 rfl v1 (0 + k) ([] ++ iv (l.take k)) (by rfl) OW1.out ⟨wr.heap.size, 0, none⟩ 1 1 [.int .i64 n] (by rfl) (by rfl) LT1.out (by simp [Value.oneCell']) (by omega) BW1.out.size ?_; intro v2 w2 hown2 hgrow2; have BW2 := Lib.hid (BW1.out.grown hgrow2 BW1.out.size (fun j hj => (OW1.out.lt j hj).1)); have OW2 := Lib.hid hown2; clear hown2 hgrow2))
                all_goals
                  obtain ⟨g3, c3, rfl, hS3⟩ := HS.out.ins BW3.out OW3.out HE.out (by omega)
                  have HS3 := Lib.hid hS3
                  clear hS3 OW3 BW3 OW2 BW2 OW1 BW1 BW OW BWb OWb LTb BWc OWc LTc
                  rw [← HIN.out] at HS3 ⊢
                  go_wp2
                  go_roundw
                  case rel => exact ⟨j + 1, by omega, by go_num, g3, c3, rfl, HS3.out⟩
                  case measure => simp [intOf]; omega
    · obtain rfl : j = es.length := by omega
      obtain ⟨a', c', hv, ho⟩ := ownI_of HS.out.o rfl
      have HO := Lib.hid ho
      have HB := Lib.hid HS.out.b
      have HC := Lib.hid (colK_all es i)
      clear ho HS
      rw [HC.out] at HO hv ⊢
      generalize insAll (colV (plains es) i) = l at *
      rw [hv]
      clear hv
      go_wp2
      go_ret
      exact ⟨a', c', rfl, HO.out, HB.out⟩
end Go.Proofs.Ytpmfgghiiocccaa
