/- The draws of FnMasks. -/
import Derived.Test.YtglpkfkbbjbjjaaAlgDraws
import Derived.Test.YtglpkfkbbjbjjaaAlgSpecOne
import Derived.Deep.DeepCutAuto
import Derived.Deep.RegionHeld3
import Derived.Deep.QuietTactic
import Derived.BigQuiet
import Derived.WalkKit
namespace Go.Proofs.Ytglpkfkbbjbjjaa
open Go.RowKit
set_option linter.unusedVariables false
set_option linter.unusedSimpArgs false
theorem box_set3 {w : World} {b : Nat} {t : TypeId} {v0 v1 v2 : Value} (h : Box w b t v0 v1 v2) (u0 u1 u2 : Value) : Box (((w.setCell ⟨b, 0, none⟩ u0).setCell ⟨b, 1, none⟩ u1).setCell ⟨b, 2, none⟩ u2) b t u0 u1 u2 := by
  unfold Box at *
  simp [World.setCell, Array.getElem?_modify, h]
theorem box_other3 {w : World} {b g : Nat} {t : TypeId} {v0 v1 v2 : Value} (h : Box w b t v0 v1 v2) (hne : b ≠ g) (u0 u1 u2 : Value) : Box (((w.setCell ⟨g, 0, none⟩ u0).setCell ⟨g, 1, none⟩ u1).setCell ⟨g, 2, none⟩ u2) b t v0 v1 v2 :=
  ((h.other (p := ⟨g, 0, none⟩) hne _).other (p := ⟨g, 1, none⟩) hne _).other (p := ⟨g, 2, none⟩) hne _
theorem below_set3 {w w1 : World} {g B : Nat} (h : Below B w w1) (hg : B ≤ g) (u0 u1 u2 : Value) : Below B w (((w1.setCell ⟨g, 0, none⟩ u0).setCell ⟨g, 1, none⟩ u1).setCell ⟨g, 2, none⟩ u2) :=
  ((h.setCell (p := ⟨g, 0, none⟩) hg _).setCell (p := ⟨g, 1, none⟩) hg _).setCell (p := ⟨g, 2, none⟩) hg _
theorem own2_set3 {w : World} {B g : Nat} {a : Option Addr} {L : List Int} (h : Own2 w B a L) (hg : g < B) (u0 u1 u2 : Value) : Own2 (((w.setCell ⟨g, 0, none⟩ u0).setCell ⟨g, 1, none⟩ u1).setCell ⟨g, 2, none⟩ u2) B a L :=
  ((h.set hg _).set hg _).set hg _
theorem own2_up {w : World} {B : Nat} {a : Option Addr} {L : List Int} (h : Own2 w B a L) : L = [] ∨ ∀ gr o, a = some ⟨gr, o, none⟩ → gr < w.heap.size := by
  rcases h with h | ⟨gr, o, h1, h2, h3, h4⟩
  · exact .inl h
  · refine .inr fun gr' o' e => ?_
    rw [h1] at e
    injection e with e
    injection e with e1 e2
    omega
theorem own2_set3_at {w : World} {B g U : Nat} {a : Option Addr} {L : List Int} (h : Own2 w B a L) (hu : L = [] ∨ ∀ gr o, a = some ⟨gr, o, none⟩ → gr < U) (hg : U ≤ g) (u0 u1 u2 : Value) : Own2 (((w.setCell ⟨g, 0, none⟩ u0).setCell ⟨g, 1, none⟩ u1).setCell ⟨g, 2, none⟩ u2) B a L := by
  rcases hu with hu | hu
  · exact .inl hu
  · rcases h with h | ⟨gr, o, h1, h2, h3, h4⟩
    · exact .inl h
    · have hne : gr ≠ g := by have := hu gr o h1; omega
      refine .inr ⟨gr, o, h1, h2, by simpa [World.setCell] using h3, fun j hj => ?_⟩
      have e := h4 j hj
      have k : ∀ (W : World) (i : Nat) (u : Value), (W.setCell ⟨g, i, none⟩ u).heap[gr]? = W.heap[gr]? := fun W i u => Below.heap_setCell W ⟨g, i, none⟩ u gr hne
      unfold World.cell? at e ⊢
      rw [k, k, k]
      exact e
theorem own2_drew {w : World} {B : Nat} {a : Option Addr} {L : List Int} (h : Own2 w B a L) : Own2 w.drew B a L := h.below ((Drew.more (Drew.refl w) 1).below _)
theorem Box.set_three {w : World} {b g : Nat} {t : TypeId} {v0 v1 v2 u0 u1 u2 : Value} (h : Box w b t v0 v1 v2) (hne : b ≠ g) : Box (((w.setCell ⟨g, 0, none⟩ u0).setCell ⟨g, 1, none⟩ u1).setCell ⟨g, 2, none⟩ u2) b t v0 v1 v2 := box_other3 h hne _ _ _
/-- a field and one like it, each in a box; n result boxes below, the cursor above them -/
structure Md (n : Nat) (w : World) (a : Option Addr) (l : List Int) (c K fb yb : Nat) (wd hg : Int) (a1 : Addr) (L : List Int) (c1 : Nat) (wd2 hg2 : Int) (a2 : Option Addr) (L2 : List Int) (c2 : Nat) (w1 : World) : Prop where
  rs : ∀ i, i < n → Box w1 (w.heap.size + i) 26 (.int .i64 0) (.int .i64 0) (.slice none 0 0)
  bx : Box w1 fb 26 (.int .i64 wd) (.int .i64 hg) (.slice (some a1) L.length c1)
  bz : Box w1 yb 26 (.int .i64 wd2) (.int .i64 hg2) (.slice a2 L2.length c2)
  bl : Below w.heap.size w w1
  cu : CurIs w1 (w.heap.size + n) a l c K
  o1 : Own2 w1 (w.heap.size + n + 1) (some a1) L
  o2 : Own2 w1 (w.heap.size + n + 1) a2 L2
  up : L = [] ∨ ∀ gr o, some a1 = some ⟨gr, o, none⟩ → gr < yb
  f0 : w.heap.size + n < fb
  f1 : fb < yb
section
variable {n : Nat} {w : World} {a : Option Addr} {l : List Int} {c K K' fb yb : Nat} {wd hg : Int} {a1 : Addr} {L : List Int} {c1 : Nat} {wd2 hg2 : Int} {a2 : Option Addr} {L2 : List Int} {c2 : Nat} {w1 w2 : World}
theorem Md.step (h : Md n w a l c K fb yb wd hg a1 L c1 wd2 hg2 a2 L2 c2 w1) (b : Below w1.heap.size w1 w2) : Md n w a l c K fb yb wd hg a1 L c1 wd2 hg2 a2 L2 c2 w2 :=
  ⟨fun i hi => (h.rs i hi).below b, h.bx.below b, h.bz.below b, below_then h.bl b, h.cu.below b, h.o1.below b, h.o2.below b, h.up, h.f0, h.f1⟩
theorem Md.turn (h : Md n w a l c K fb yb wd hg a1 L c1 wd2 hg2 a2 L2 c2 w1) (hc : CurIs w2 (w.heap.size + n) a l c K') (t : w1.grownBy w2 (some (w.heap.size + n))) : Md n w a l c K' fb yb wd hg a1 L c1 wd2 hg2 a2 L2 c2 w2 :=
  have f0 := h.f0
  have f1 := h.f1
  ⟨fun i hi => (h.rs i hi).turn t (by omega), h.bx.turn t (by omega), h.bz.turn t (by omega), below_grown h.bl t (by omega), hc, h.o1.turn t (by omega), h.o2.turn t (by omega), h.up, f0, f1⟩
theorem Md.more (h : Md n w a l c K fb yb wd hg a1 L c1 wd2 hg2 a2 L2 c2 w1) (hk : K ≤ K') : Md n w a l c K' fb yb wd hg a1 L c1 wd2 hg2 a2 L2 c2 w1 :=
  ⟨h.rs, h.bx, h.bz, h.bl, h.cu.more hk, h.o1, h.o2, h.up, h.f0, h.f1⟩
/-- the second field is put in anew -/
theorem Md.put (h : Md n w a l c K fb yb wd hg a1 L c1 wd2 hg2 a2 L2 c2 w1) {B : Nat} {wd3 hg3 : Int} {a3 : Option Addr} {L3 : List Int} {c3 m : Nat} (o : OwnI w1 B a3 L3) (hB : yb < B) (hm : m = L3.length) :
    Md n w a l c K fb yb wd hg a1 L c1 wd3 hg3 a3 L3 c3 (((w1.setCell ⟨yb, 0, none⟩ (.int .i64 wd3)).setCell ⟨yb, 1, none⟩ (.int .i64 hg3)).setCell ⟨yb, 2, none⟩ (.slice a3 m c3)) := by
  have f0 := h.f0
  have f1 := h.f1
  subst hm
  exact ⟨fun i hi => box_other3 (h.rs i hi) (by omega) _ _ _, box_other3 h.bx (by omega) _ _ _, box_set3 h.bz _ _ _, below_set3 h.bl (by omega) _ _ _, ((h.cu.setOther (by omega) _ _).setOther (by omega) _ _).setOther (by omega) _ _,
    own2_set3_at h.o1 h.up (Nat.le_refl _) _ _ _, (own2_set3 (Own2.of_own o) hB _ _ _).more (by omega), h.up, f0, f1⟩
end
set_option maxRecDepth 100000 in
set_option maxHeartbeats 8000000 in
theorem drawMask_any (w : World) (a : Option Addr) (l : List Int) (c : Nat) (hi : Ints .u8 w w.heap.size a l) (hb : ∀ z ∈ l, 0 ≤ z ∧ z ≤ 255) (hl : l.length ≤ 1048576) :
    Calls Try.prog 24 #[.slice a l.length c] w fun e w' => ∃ (wd hg : Int) (L : List Int) (a1 : Addr) (c1 : Nat) (wd2 hg2 : Int) (L2 : List Int) (a2 : Option Addr) (c2 : Nat), L.length ≤ 64 ∧ L2.length ≤ 64 ∧
      e = .returned (.tuple #[.agg #[.int .i64 wd, .int .i64 hg, .slice (some a1) L.length c1], .agg #[.int .i64 wd2, .int .i64 hg2, .slice a2 L2.length c2]]) ∧ Own2 w' w.heap.size (some a1) L ∧ Own2 w' w.heap.size a2 L2 ∧ Below w.heap.size w w' := by
  have hcn := cur_new ((w.alloc (.cells #[.int .i64 0, .int .i64 0, .slice none 0 0] 26)).alloc (.cells #[.int .i64 0, .int .i64 0, .slice none 0 0] 26)) a l c (ints_alloc (ints_alloc hi (.cells #[.int .i64 0, .int .i64 0, .slice none 0 0] 26)) (.cells #[.int .i64 0, .int .i64 0, .slice none 0 0] 26)) hb hl
  simp only [World.size_alloc] at hcn
  obtain ⟨W0, hW0⟩ : ∃ W, ((w.alloc (.cells #[.int .i64 0, .int .i64 0, .slice none 0 0] 26)).alloc (.cells #[.int .i64 0, .int .i64 0, .slice none 0 0] 26)).alloc (.cells #[.slice a l.length c, .int .i64 0, .int .u64 0] 56) = W := ⟨_, rfl⟩
  rw [hW0] at hcn
  have C0 := Lib.hid hcn
  have RS := Lib.hid (show ∀ i, i < 2 → Box W0 (w.heap.size + i) 26 (.int .i64 0) (.int .i64 0) (.slice none 0 0) from by
    intro i hi
    rw [← hW0]
    have h0 := Box.new w 26 (.int .i64 0) (.int .i64 0) (.slice none 0 0)
    try simp only [World.size_alloc] at h0
    have h1 := Box.new (w.alloc (.cells #[.int .i64 0, .int .i64 0, .slice none 0 0] 26)) 26 (.int .i64 0) (.int .i64 0) (.slice none 0 0)
    try simp only [World.size_alloc] at h1
    have hcs : i = 0 ∨ i = 1 := by omega
    rcases hcs with rfl | rfl
    · exact (h0.alloc _).alloc _
    · exact (h1.alloc _)
    )
  have B0 := Lib.hid (show Below w.heap.size w W0 by rw [← hW0]; exact (((below_all w _).alloc (by simp <;> omega) _).alloc (by simp; omega) _))
  clear hi hb hcn
  have hz0 := C0.out.lt
  go_enter Try.func24, Try.ntmps24
  go_wp2_with fail
  refine (anyField_any W0 (w.heap.size + 1 + 1) a l c 0 (by omega) C0.out).mono ?_
  rintro e w1 ⟨wd, hg, L, a1, c1, ⟨m1, m2, m3, m4, m5, m6⟩, rfl, o1, hc, ho⟩
  have hs1 := ho.size
  have X1 := Box.new w1 26 (.int .i64 wd) (.int .i64 hg) (.slice (some a1) L.length c1)
  have R1 := fun i (hi : i < 2) => ((RS.out i hi).turn ho (by omega)).alloc (.cells #[.int .i64 wd, .int .i64 hg, .slice (some a1) L.length c1] 26)
  have B1 := below_then (below_grown B0.out ho (by omega)) (below_all w1 (.cells #[.int .i64 wd, .int .i64 hg, .slice (some a1) L.length c1] 26))
  have C1 := hc.alloc (.cells #[.int .i64 wd, .int .i64 hg, .slice (some a1) L.length c1] 26)
  have O1 := (o1.more (show w.heap.size + 2 + 1 ≤ W0.heap.size by omega)).below (below_all w1 (.cells #[.int .i64 wd, .int .i64 hg, .slice (some a1) L.length c1] 26))
  obtain ⟨fb, hfb⟩ : ∃ q, w1.heap.size = q := ⟨_, rfl⟩
  obtain ⟨W1, hW1⟩ : ∃ W, w1.alloc (.cells #[.int .i64 wd, .int .i64 hg, .slice (some a1) L.length c1] 26) = W := ⟨_, rfl⟩
  have hs2 : W1.heap.size = fb + 1 := by rw [← hW1, World.size_alloc, hfb]
  rw [hW1] at X1 R1 B1 C1 O1
  rw [hfb] at X1
  have HX1 := Lib.hid X1
  have HR1 := Lib.hid R1
  have HB1 := Lib.hid B1
  have HC1 := Lib.hid C1
  have HO1 := Lib.hid O1
  clear X1 R1 B1 C1 O1 RS B0 C0 hc ho o1
  obtain ⟨k0, k1, k2⟩ := HX1.out.cells
  have hfl := HX1.out.lt
  go_wp2_with fail
  refine (like_any W1 (w.heap.size + 1 + 1) a l c (0 + 400) wd hg a1 L c1 (by omega) HC1.out HO1.out.ints m1).mono ?_
  rintro e w2 ⟨wd2, hg2, L2, a2, c2, n1, rfl, o2, hc, ho⟩
  have hs3 := ho.size
  have MD := (show Md 2 w a l c (0 + 400 + 700) fb w2.heap.size wd hg a1 L c1 wd2 hg2 a2 L2 c2 (w2.alloc (.cells #[.int .i64 wd2, .int .i64 hg2, .slice a2 L2.length c2] 26)) from by
    have hu := own2_up HO1.out
    have hu2 : L = [] ∨ ∀ gr o, some a1 = some ⟨gr, o, none⟩ → gr < w2.heap.size := by
      rcases hu with hu | hu
      · exact .inl hu
      · exact .inr fun gr o e => by have := hu gr o e; omega
    exact ⟨fun i hi => ((HR1.out i hi).turn ho (by omega)).alloc _, (HX1.out.turn ho (by omega)).alloc _, Box.new _ _ _ _ _, below_then (below_grown HB1.out ho (by omega)) (below_all w2 _), hc.alloc _, ((HO1.out.turn ho (by omega)).below (below_all w2 _)), ((o2.more (by omega)).below (below_all w2 _)), hu2, by omega, by omega⟩)
  obtain ⟨yb, hyb⟩ : ∃ q, w2.heap.size = q := ⟨_, rfl⟩
  obtain ⟨W2, hW2⟩ : ∃ W, w2.alloc (.cells #[.int .i64 wd2, .int .i64 hg2, .slice a2 L2.length c2] 26) = W := ⟨_, rfl⟩
  rw [hW2, hyb] at MD
  have M2 := Lib.hid MD
  clear MD HX1 HR1 HB1 HC1 HO1 hc ho o2 k0 k1 k2 hs1 hs2 hs3 hfl hz0
  go_upto_region 4 with fail
  go_cut [20] (fun s wx => ∃ v : Bool, s = .bool v ∧ (v = true → goodB wd2 hg2 L2 = true) ∧ Md 2 w a l c 2000 fb yb wd hg a1 L c1 wd2 hg2 a2 L2 c2 wx)
  case first =>
    obtain ⟨y0, y1, y2⟩ := M2.out.bz.cells
    have hzy := M2.out.bz.lt
    cases hgd : goodB wd2 hg2 L2 with
    | false =>
      have HG := Lib.hid (specGood_is wd2 hg2 a2 L2 c2 _ false W2 M2.out.o2.ints (Nat.le_refl _) (by omega) hgd)
      have HGD0 := Lib.hid hgd
      clear hgd
      go_wp2_with fail
      refine HG.out.mono ?_
      rintro e w3 ⟨rfl, b3⟩
      have M3 := Lib.hid (M2.out.step b3)
      clear b3 HG M2 y0 y1 y2
      go_wp2_with fail
      go_meet
      exact ⟨false, rfl, by simp, M3.out.more (by omega)⟩
    | true =>
      have HG := Lib.hid (specGood_is wd2 hg2 a2 L2 c2 _ true W2 M2.out.o2.ints (Nat.le_refl _) (by omega) hgd)
      have HGD0 := Lib.hid hgd
      clear hgd
      go_wp2_with fail
      refine HG.out.mono ?_
      rintro e w3 ⟨rfl, b3⟩
      have M3 := Lib.hid (M2.out.step b3)
      clear b3 HG M2 y0 y1 y2
      go_wp2_with fail
      refine (one_any w3 (w.heap.size + 1 + 1) a l c _ 2 (by omega) (by omega) (by omega) M3.out.cu).mono ?_
      rintro e w4 ⟨v, ⟨b, rfl⟩, rfl, hc, ho⟩
      have M4 := Lib.hid (M3.out.turn hc ho.1)
      clear hc ho M3
      go_wp2_with fail
      go_meet
      exact ⟨b, rfl, fun _ => HGD0.out, M4.out.more (by omega)⟩
  case rest =>
  obtain ⟨v, rfl, hv, cu⟩ := hcut
  have M5 := Lib.hid cu
  have HGD := Lib.hid hv
  clear cu hv M2
  go_upto_if 20 with fail
  go_cut [] (fun wx => ∃ (wd2 hg2 : Int) (L2 : List Int) (a2 : Option Addr) (c2 : Nat), L2.length ≤ 64 ∧ Md 2 w a l c 2000 fb yb wd hg a1 L c1 wd2 hg2 a2 L2 c2 wx)
  case first =>
    cases v with
    | false =>
      go_wp2_with fail
      go_meet
      exact ⟨wd2, hg2, L2, a2, c2, n1, M5.out⟩
    | true =>
      obtain ⟨y0, y1, y2⟩ := M5.out.bz.cells
      have hzy := M5.out.bz.lt
      have HE := l4Exceeds_any wd2 hg2 a2 L2 c2 15 wc M5.out.o2.ints (by omega) (HGD.out rfl)
      have hzl := zipR_len (ofV fun a _ => exF 15 a) (a := L2) (b := L2) rfl
      generalize zipR (ofV fun a _ => exF 15 a) L2 L2 = LZ at *
      have HE := Lib.hid HE
      have HZL := Lib.hid hzl
      clear hzl
      go_wp2_with fail
      refine HE.out.mono ?_
      rintro e w6 ⟨aE, cE, rfl, oE, bE⟩
      have hsz := bE.size
      have M6 := Lib.hid (M5.out.step bE)
      have OE := Lib.hid oE
      clear bE oE HE y0 y1 y2 M5
      obtain ⟨y0, y1, y2⟩ := M6.out.bz.cells
      have q0 := M6.out.bz.frozen 0
      have q1 := M6.out.bz.frozen 1
      have q2 := M6.out.bz.frozen 2
      have hzy6 := M6.out.bz.lt
      go_wp2_with fail
      go_meet
      exact ⟨wd2, hg2, LZ, aE, cE, by have := HZL.out; omega, M6.out.put OE.out hzy rfl⟩
  case rest =>
  obtain ⟨wd4, hg4, L4, a4, c4, n4, cu⟩ := hcut
  have M9 := Lib.hid cu
  clear cu M5 HGD
  obtain ⟨t00, t01, t02⟩ := (show Box wc (w.heap.size) _ _ _ _ from M9.out.rs 0 (by omega)).cells
  have f00 := (show Box wc (w.heap.size) _ _ _ _ from M9.out.rs 0 (by omega)).frozen 0
  have f01 := (show Box wc (w.heap.size) _ _ _ _ from M9.out.rs 0 (by omega)).frozen 1
  have f02 := (show Box wc (w.heap.size) _ _ _ _ from M9.out.rs 0 (by omega)).frozen 2
  have ef0 : fb ≠ w.heap.size := by have := M9.out.f0; omega
  have ey0 : yb ≠ w.heap.size := by have := M9.out.f0; have := M9.out.f1; omega
  obtain ⟨t10, t11, t12⟩ := (show Box wc (w.heap.size + 1) _ _ _ _ from M9.out.rs 1 (by omega)).cells
  have f10 := (show Box wc (w.heap.size + 1) _ _ _ _ from M9.out.rs 1 (by omega)).frozen 0
  have f11 := (show Box wc (w.heap.size + 1) _ _ _ _ from M9.out.rs 1 (by omega)).frozen 1
  have f12 := (show Box wc (w.heap.size + 1) _ _ _ _ from M9.out.rs 1 (by omega)).frozen 2
  have ef1 : fb ≠ w.heap.size + 1 := by have := M9.out.f0; omega
  have ey1 : yb ≠ w.heap.size + 1 := by have := M9.out.f0; have := M9.out.f1; omega
  obtain ⟨p0, p1, p2⟩ := M9.out.bx.cells
  obtain ⟨y0, y1, y2⟩ := M9.out.bz.cells
  have hzx := M9.out.bx.lt
  have hzy9 := M9.out.bz.lt
  have hzb := M9.out.bl.size
  have hzc := M9.out.cu.lt
  go_wp2_with fail
  go_region
  go_wp2
  have K1 := own2_drew (own2_set3 (own2_set3 M9.out.o1 (show w.heap.size < _ by omega) (.int .i64 wd) (.int .i64 hg) (.slice (some a1) L.length c1)) (show w.heap.size + 1 < _ by omega) (.int .i64 wd4) (.int .i64 hg4) (.slice a4 L4.length c4))
  have K2 := own2_drew (own2_set3 (own2_set3 M9.out.o2 (show w.heap.size < _ by omega) (.int .i64 wd) (.int .i64 hg) (.slice (some a1) L.length c1)) (show w.heap.size + 1 < _ by omega) (.int .i64 wd4) (.int .i64 hg4) (.slice a4 L4.length c4))
  have K3 := (below_set3 (below_set3 M9.out.bl (Nat.le_refl w.heap.size) (.int .i64 wd) (.int .i64 hg) (.slice (some a1) L.length c1)) (show w.heap.size ≤ w.heap.size + 1 by omega) (.int .i64 wd4) (.int .i64 hg4) (.slice a4 L4.length c4)).drew
  refine bodyPost_ret (v := .tuple #[.agg #[.int .i64 wd, .int .i64 hg, .slice (some a1) L.length c1], .agg #[.int .i64 wd4, .int .i64 hg4, .slice a4 L4.length c4]]) (by simp [results, Try.results24, go_sem, t00, t01, t02, t10, t11, t12]) rfl ⟨wd, hg, L, a1, c1, wd4, hg4, L4, a4, c4, m1, n4, rfl, K1.more (by omega), K2.more (by omega), K3⟩

set_option maxRecDepth 100000 in
set_option maxHeartbeats 8000000 in
theorem drawChoose_any (w : World) (a : Option Addr) (l : List Int) (c : Nat) (hi : Ints .u8 w w.heap.size a l) (hb : ∀ z ∈ l, 0 ≤ z ∧ z ≤ 255) (hl : l.length ≤ 1048576) :
    Calls Try.prog 29 #[.slice a l.length c] w fun e w' => ∃ (wd hg : Int) (L : List Int) (a1 : Addr) (c1 : Nat) (wd2 hg2 : Int) (L2 : List Int) (a2 : Option Addr) (c2 : Nat) (wd3 hg3 : Int) (L3 : List Int) (a3 : Option Addr) (c3 : Nat), L.length ≤ 64 ∧ L2.length ≤ 64 ∧ L3.length ≤ 64 ∧
      e = .returned (.tuple #[.agg #[.int .i64 wd2, .int .i64 hg2, .slice a2 L2.length c2], .agg #[.int .i64 wd, .int .i64 hg, .slice (some a1) L.length c1], .agg #[.int .i64 wd3, .int .i64 hg3, .slice a3 L3.length c3]]) ∧ Own2 w' w.heap.size (some a1) L ∧ Own2 w' w.heap.size a2 L2 ∧ Own2 w' w.heap.size a3 L3 ∧ Below w.heap.size w w' := by
  have hcn := cur_new (((w.alloc (.cells #[.int .i64 0, .int .i64 0, .slice none 0 0] 26)).alloc (.cells #[.int .i64 0, .int .i64 0, .slice none 0 0] 26)).alloc (.cells #[.int .i64 0, .int .i64 0, .slice none 0 0] 26)) a l c (ints_alloc (ints_alloc (ints_alloc hi (.cells #[.int .i64 0, .int .i64 0, .slice none 0 0] 26)) (.cells #[.int .i64 0, .int .i64 0, .slice none 0 0] 26)) (.cells #[.int .i64 0, .int .i64 0, .slice none 0 0] 26)) hb hl
  simp only [World.size_alloc] at hcn
  obtain ⟨W0, hW0⟩ : ∃ W, (((w.alloc (.cells #[.int .i64 0, .int .i64 0, .slice none 0 0] 26)).alloc (.cells #[.int .i64 0, .int .i64 0, .slice none 0 0] 26)).alloc (.cells #[.int .i64 0, .int .i64 0, .slice none 0 0] 26)).alloc (.cells #[.slice a l.length c, .int .i64 0, .int .u64 0] 56) = W := ⟨_, rfl⟩
  rw [hW0] at hcn
  have C0 := Lib.hid hcn
  have RS := Lib.hid (show ∀ i, i < 3 → Box W0 (w.heap.size + i) 26 (.int .i64 0) (.int .i64 0) (.slice none 0 0) from by
    intro i hi
    rw [← hW0]
    have h0 := Box.new w 26 (.int .i64 0) (.int .i64 0) (.slice none 0 0)
    try simp only [World.size_alloc] at h0
    have h1 := Box.new (w.alloc (.cells #[.int .i64 0, .int .i64 0, .slice none 0 0] 26)) 26 (.int .i64 0) (.int .i64 0) (.slice none 0 0)
    try simp only [World.size_alloc] at h1
    have h2 := Box.new ((w.alloc (.cells #[.int .i64 0, .int .i64 0, .slice none 0 0] 26)).alloc (.cells #[.int .i64 0, .int .i64 0, .slice none 0 0] 26)) 26 (.int .i64 0) (.int .i64 0) (.slice none 0 0)
    try simp only [World.size_alloc] at h2
    have hcs : i = 0 ∨ i = 1 ∨ i = 2 := by omega
    rcases hcs with rfl | rfl | rfl
    · exact ((h0.alloc _).alloc _).alloc _
    · exact (h1.alloc _).alloc _
    · exact (h2.alloc _)
    )
  have B0 := Lib.hid (show Below w.heap.size w W0 by rw [← hW0]; exact ((((below_all w _).alloc (by simp <;> omega) _).alloc (by simp <;> omega) _).alloc (by simp; omega) _))
  clear hi hb hcn
  have hz0 := C0.out.lt
  go_enter Try.func29, Try.ntmps29
  go_wp2_with fail
  refine (anyField_any W0 (w.heap.size + 1 + 1 + 1) a l c 0 (by omega) C0.out).mono ?_
  rintro e w1 ⟨wd, hg, L, a1, c1, ⟨m1, m2, m3, m4, m5, m6⟩, rfl, o1, hc, ho⟩
  have hs1 := ho.size
  have X1 := Box.new w1 26 (.int .i64 wd) (.int .i64 hg) (.slice (some a1) L.length c1)
  have R1 := fun i (hi : i < 3) => ((RS.out i hi).turn ho (by omega)).alloc (.cells #[.int .i64 wd, .int .i64 hg, .slice (some a1) L.length c1] 26)
  have B1 := below_then (below_grown B0.out ho (by omega)) (below_all w1 (.cells #[.int .i64 wd, .int .i64 hg, .slice (some a1) L.length c1] 26))
  have C1 := hc.alloc (.cells #[.int .i64 wd, .int .i64 hg, .slice (some a1) L.length c1] 26)
  have O1 := (o1.more (show w.heap.size + 3 + 1 ≤ W0.heap.size by omega)).below (below_all w1 (.cells #[.int .i64 wd, .int .i64 hg, .slice (some a1) L.length c1] 26))
  obtain ⟨fb, hfb⟩ : ∃ q, w1.heap.size = q := ⟨_, rfl⟩
  obtain ⟨W1, hW1⟩ : ∃ W, w1.alloc (.cells #[.int .i64 wd, .int .i64 hg, .slice (some a1) L.length c1] 26) = W := ⟨_, rfl⟩
  have hs2 : W1.heap.size = fb + 1 := by rw [← hW1, World.size_alloc, hfb]
  rw [hW1] at X1 R1 B1 C1 O1
  rw [hfb] at X1
  have HX1 := Lib.hid X1
  have HR1 := Lib.hid R1
  have HB1 := Lib.hid B1
  have HC1 := Lib.hid C1
  have HO1 := Lib.hid O1
  clear X1 R1 B1 C1 O1 RS B0 C0 hc ho o1
  obtain ⟨k0, k1, k2⟩ := HX1.out.cells
  have hfl := HX1.out.lt
  go_wp2_with fail
  refine (like_any W1 (w.heap.size + 1 + 1 + 1) a l c (0 + 400) wd hg a1 L c1 (by omega) HC1.out HO1.out.ints m1).mono ?_
  rintro e w2 ⟨wd2, hg2, L2, a2, c2, n1, rfl, o2, hc, ho⟩
  have hs3 := ho.size
  have MD := (show Md 3 w a l c (0 + 400 + 700) fb w2.heap.size wd hg a1 L c1 wd2 hg2 a2 L2 c2 (w2.alloc (.cells #[.int .i64 wd2, .int .i64 hg2, .slice a2 L2.length c2] 26)) from by
    have hu := own2_up HO1.out
    have hu2 : L = [] ∨ ∀ gr o, some a1 = some ⟨gr, o, none⟩ → gr < w2.heap.size := by
      rcases hu with hu | hu
      · exact .inl hu
      · exact .inr fun gr o e => by have := hu gr o e; omega
    exact ⟨fun i hi => ((HR1.out i hi).turn ho (by omega)).alloc _, (HX1.out.turn ho (by omega)).alloc _, Box.new _ _ _ _ _, below_then (below_grown HB1.out ho (by omega)) (below_all w2 _), hc.alloc _, ((HO1.out.turn ho (by omega)).below (below_all w2 _)), ((o2.more (by omega)).below (below_all w2 _)), hu2, by omega, by omega⟩)
  obtain ⟨yb, hyb⟩ : ∃ q, w2.heap.size = q := ⟨_, rfl⟩
  obtain ⟨W2, hW2⟩ : ∃ W, w2.alloc (.cells #[.int .i64 wd2, .int .i64 hg2, .slice a2 L2.length c2] 26) = W := ⟨_, rfl⟩
  rw [hW2, hyb] at MD
  have M2 := Lib.hid MD
  clear MD HX1 HR1 HB1 HC1 HO1 hc ho o2 k0 k1 k2 hs1 hs2 hs3 hfl hz0
  obtain ⟨y0, y1, y2⟩ := M2.out.bz.cells
  have hzy := M2.out.bz.lt
  obtain ⟨v, hv⟩ : ∃ v, goodB wd2 hg2 L2 = v := ⟨_, rfl⟩
  have HG := Lib.hid (specGood_is wd2 hg2 a2 L2 c2 _ v W2 M2.out.o2.ints (Nat.le_refl _) (by omega) hv)
  have HGD := Lib.hid (show v = true → goodB wd2 hg2 L2 = true from fun e => hv.trans e)
  clear hv
  go_wp2_with fail
  refine HG.out.mono ?_
  rintro e w3 ⟨rfl, b3⟩
  have M5 := Lib.hid ((M2.out.step b3).more (show 0 + 400 + 700 ≤ 2000 by omega))
  clear b3 HG M2 y0 y1 y2 hzy
  obtain ⟨wc, hwc⟩ : ∃ q, w3 = q := ⟨_, rfl⟩
  subst hwc
  go_upto_if 17 with fail
  go_cut [] (fun wx => ∃ (wd2 hg2 : Int) (L2 : List Int) (a2 : Option Addr) (c2 : Nat), L2.length ≤ 64 ∧ Md 3 w a l c 2000 fb yb wd hg a1 L c1 wd2 hg2 a2 L2 c2 wx)
  case first =>
    cases v with
    | false =>
      go_wp2_with fail
      go_meet
      exact ⟨wd2, hg2, L2, a2, c2, n1, M5.out⟩
    | true =>
      obtain ⟨y0, y1, y2⟩ := M5.out.bz.cells
      have hzy := M5.out.bz.lt
      have HE := l4Exceeds_any wd2 hg2 a2 L2 c2 15 w3 M5.out.o2.ints (by omega) (HGD.out rfl)
      have hzl := zipR_len (ofV fun a _ => exF 15 a) (a := L2) (b := L2) rfl
      generalize zipR (ofV fun a _ => exF 15 a) L2 L2 = LZ at *
      have HE := Lib.hid HE
      have HZL := Lib.hid hzl
      clear hzl
      go_wp2_with fail
      refine HE.out.mono ?_
      rintro e w6 ⟨aE, cE, rfl, oE, bE⟩
      have hsz := bE.size
      have M6 := Lib.hid (M5.out.step bE)
      have OE := Lib.hid oE
      clear bE oE HE y0 y1 y2 M5
      obtain ⟨y0, y1, y2⟩ := M6.out.bz.cells
      have q0 := M6.out.bz.frozen 0
      have q1 := M6.out.bz.frozen 1
      have q2 := M6.out.bz.frozen 2
      have hzy6 := M6.out.bz.lt
      go_wp2_with fail
      go_meet
      exact ⟨wd2, hg2, LZ, aE, cE, by have := HZL.out; omega, M6.out.put OE.out hzy rfl⟩
  case rest =>
  obtain ⟨wd4, hg4, L4, a4, c4, n4, cu⟩ := hcut
  have M9 := Lib.hid cu
  clear cu M5 HGD
  obtain ⟨t00, t01, t02⟩ := (show Box wc (w.heap.size) _ _ _ _ from M9.out.rs 0 (by omega)).cells
  have f00 := (show Box wc (w.heap.size) _ _ _ _ from M9.out.rs 0 (by omega)).frozen 0
  have f01 := (show Box wc (w.heap.size) _ _ _ _ from M9.out.rs 0 (by omega)).frozen 1
  have f02 := (show Box wc (w.heap.size) _ _ _ _ from M9.out.rs 0 (by omega)).frozen 2
  have ef0 : fb ≠ w.heap.size := by have := M9.out.f0; omega
  have ey0 : yb ≠ w.heap.size := by have := M9.out.f0; have := M9.out.f1; omega
  obtain ⟨t10, t11, t12⟩ := (show Box wc (w.heap.size + 1) _ _ _ _ from M9.out.rs 1 (by omega)).cells
  have f10 := (show Box wc (w.heap.size + 1) _ _ _ _ from M9.out.rs 1 (by omega)).frozen 0
  have f11 := (show Box wc (w.heap.size + 1) _ _ _ _ from M9.out.rs 1 (by omega)).frozen 1
  have f12 := (show Box wc (w.heap.size + 1) _ _ _ _ from M9.out.rs 1 (by omega)).frozen 2
  have ef1 : fb ≠ w.heap.size + 1 := by have := M9.out.f0; omega
  have ey1 : yb ≠ w.heap.size + 1 := by have := M9.out.f0; have := M9.out.f1; omega
  obtain ⟨t20, t21, t22⟩ := (show Box wc (w.heap.size + 1 + 1) _ _ _ _ from M9.out.rs 2 (by omega)).cells
  have f20 := (show Box wc (w.heap.size + 1 + 1) _ _ _ _ from M9.out.rs 2 (by omega)).frozen 0
  have f21 := (show Box wc (w.heap.size + 1 + 1) _ _ _ _ from M9.out.rs 2 (by omega)).frozen 1
  have f22 := (show Box wc (w.heap.size + 1 + 1) _ _ _ _ from M9.out.rs 2 (by omega)).frozen 2
  have ef2 : fb ≠ w.heap.size + 1 + 1 := by have := M9.out.f0; omega
  have ey2 : yb ≠ w.heap.size + 1 + 1 := by have := M9.out.f0; have := M9.out.f1; omega
  obtain ⟨p0, p1, p2⟩ := M9.out.bx.cells
  obtain ⟨y0, y1, y2⟩ := M9.out.bz.cells
  have hzx := M9.out.bx.lt
  have hzy9 := M9.out.bz.lt
  have hzb := M9.out.bl.size
  have hzc := M9.out.cu.lt
  have HLK := Lib.hid (fun (W : World) (h : CurIs W (w.heap.size + 1 + 1 + 1) a l c 2000) (hL : Ints .i64 W W.heap.size (some a1) L) => like_any W (w.heap.size + 1 + 1 + 1) a l c 2000 wd hg a1 L c1 (by omega) h hL m1)
  have hz9 : w.heap.size + 4 ≤ wc.heap.size := by have := M9.out.f0; have := M9.out.f1; omega
  have hgb : w.heap.size + 1 + 1 + 1 = w.heap.size + 3 := rfl
  have BX := Lib.hid (show Box wc fb 26 (.int .i64 wd) (.int .i64 hg) (.slice (some a1) L.length c1) ∧ Box wc yb 26 (.int .i64 wd4) (.int .i64 hg4) (.slice a4 L4.length c4) from ⟨M9.out.bx, M9.out.bz⟩)
  clear hgb
  go_wp2_with fail
  go_region_held3 (fun w' => (w'.cell? ⟨fb, 0, none⟩ = some (.int .i64 wd) ∧ w'.cell? ⟨fb, 1, none⟩ = some (.int .i64 hg) ∧ w'.cell? ⟨fb, 2, none⟩ = some (.slice (some a1) L.length c1)) ∧ (w'.cell? ⟨yb, 0, none⟩ = some (.int .i64 wd4) ∧ w'.cell? ⟨yb, 1, none⟩ = some (.int .i64 hg4) ∧ w'.cell? ⟨yb, 2, none⟩ = some (.slice a4 L4.length c4)))
    (first | (with_reducible exact ⟨⟨x0, x1, x2⟩, ⟨z0, z1, z2⟩⟩) | (with_reducible exact ⟨⟨p0, p1, p2⟩, ⟨y0, y1, y2⟩⟩) | (with_reducible exact ⟨(BX.out.1.below ((Drew.more (Drew.refl wc) 1).below _)).cells, (BX.out.2.below ((Drew.more (Drew.refl wc) 1).below _)).cells⟩) | (with_reducible exact ⟨(hX.out.1.set_three ef0).cells, (hX.out.2.set_three ey0).cells⟩) | (with_reducible exact ⟨((hX.out.1.set_three ef0).set_three ef1).cells, ((hX.out.2.set_three ey0).set_three ey1).cells⟩) | (with_reducible exact ⟨(((hX.out.1.set_three ef0).set_three ef1).set_three ef2).cells, (((hX.out.2.set_three ey0).set_three ey1).set_three ey2).cells⟩) | go_keep)
    (first | (go_at_call 54; (with_reducible refine (HLK.out _ ?_ ?_).mono ?_); (exact M9.out.cu.below ((Drew.more (Drew.refl wc) 1).below _)); (exact M9.out.o1.ints.below ((Drew.more (Drew.refl wc) 1).below _) (Nat.le_refl _)); rintro e w6 ⟨wd3, hg3, L3, a3, c3, n3, rfl, o3, hc6, ho6⟩; have MM := (M9.out.step ((Drew.more (Drew.refl wc) 1).below _)).turn hc6 ho6; have hX := Lib.hid (show Box w6 fb 26 (.int .i64 wd) (.int .i64 hg) (.slice (some a1) L.length c1) ∧ Box w6 yb 26 (.int .i64 wd4) (.int .i64 hg4) (.slice a4 L4.length c4) from ⟨MM.bx, MM.bz⟩); have hO3 := Lib.hid (o3.more (show w.heap.size + 3 + 1 ≤ wc.drew.heap.size from hz9)); obtain ⟨x0, x1, x2⟩ := MM.bx.cells; obtain ⟨z0, z1, z2⟩ := MM.bz.cells; have r0 := (show Box w6 (w.heap.size) _ _ _ _ from MM.rs 0 (by omega)); have r1 := (show Box w6 (w.heap.size + 1) _ _ _ _ from MM.rs 1 (by omega)); have r2 := (show Box w6 (w.heap.size + 1 + 1) _ _ _ _ from MM.rs 2 (by omega)); obtain ⟨s00, s01, s02⟩ := r0.cells; obtain ⟨s10, s11, s12⟩ := r1.cells; obtain ⟨s20, s21, s22⟩ := r2.cells; have g00 := r0.frozen 0; have g01 := r0.frozen 1; have g02 := r0.frozen 2; have g10 := r1.frozen 0; have g11 := r1.frozen 1; have g12 := r1.frozen 2; have g20 := r2.frozen 0; have g21 := r2.frozen 1; have g22 := r2.frozen 2; have hzr := r0.lt; have hzq := r1.lt; have hzs := r2.lt; have hMM := Lib.hid MM; clear hc6 ho6 o3 MM r0 r1 r2))
  go_wp2
  have K1 := (own2_set3 (own2_set3 (own2_set3 hMM.out.o1 (show w.heap.size < _ by omega) (.int .i64 wd4) (.int .i64 hg4) (.slice a4 L4.length c4)) (show w.heap.size + 1 < _ by omega) (.int .i64 wd) (.int .i64 hg) (.slice (some a1) L.length c1)) (show w.heap.size + 1 + 1 < _ by omega) (.int .i64 wd3) (.int .i64 hg3) (.slice a3 L3.length c3))
  have K2 := (own2_set3 (own2_set3 (own2_set3 hMM.out.o2 (show w.heap.size < _ by omega) (.int .i64 wd4) (.int .i64 hg4) (.slice a4 L4.length c4)) (show w.heap.size + 1 < _ by omega) (.int .i64 wd) (.int .i64 hg) (.slice (some a1) L.length c1)) (show w.heap.size + 1 + 1 < _ by omega) (.int .i64 wd3) (.int .i64 hg3) (.slice a3 L3.length c3))
  have K3 := (own2_set3 (own2_set3 (own2_set3 hO3.out (show w.heap.size < _ by omega) (.int .i64 wd4) (.int .i64 hg4) (.slice a4 L4.length c4)) (show w.heap.size + 1 < _ by omega) (.int .i64 wd) (.int .i64 hg) (.slice (some a1) L.length c1)) (show w.heap.size + 1 + 1 < _ by omega) (.int .i64 wd3) (.int .i64 hg3) (.slice a3 L3.length c3))
  have K4 := (below_set3 (below_set3 (below_set3 hMM.out.bl (show w.heap.size ≤ w.heap.size by omega) (.int .i64 wd4) (.int .i64 hg4) (.slice a4 L4.length c4)) (show w.heap.size ≤ w.heap.size + 1 by omega) (.int .i64 wd) (.int .i64 hg) (.slice (some a1) L.length c1)) (show w.heap.size ≤ w.heap.size + 1 + 1 by omega) (.int .i64 wd3) (.int .i64 hg3) (.slice a3 L3.length c3))
  refine bodyPost_ret (v := .tuple #[.agg #[.int .i64 wd4, .int .i64 hg4, .slice a4 L4.length c4], .agg #[.int .i64 wd, .int .i64 hg, .slice (some a1) L.length c1], .agg #[.int .i64 wd3, .int .i64 hg3, .slice a3 L3.length c3]]) (by simp [results, Try.results29, go_sem, s00, s01, s02, s10, s11, s12, s20, s21, s22]) rfl ⟨wd, hg, L, a1, c1, wd4, hg4, L4, a4, c4, wd3, hg3, L3, a3, c3, m1, n4, n3, rfl, K1.more (by omega), K2.more (by omega), K3.more (by omega), K4⟩

theorem own2_box {w : World} {B b : Nat} {a : Option Addr} {L : List Int} (h : Own2 w B a L) (hb : b < B) (u0 u1 u2 : Value) : Own2 (((w.setCell ⟨b, 0, none⟩ u0).setCell ⟨b, 1, none⟩ u1).setCell ⟨b, 2, none⟩ u2) b a L := (own2_set3 h hb u0 u1 u2).more (by omega)
set_option maxRecDepth 100000 in
set_option maxHeartbeats 4000000 in
theorem drawClip_any (w : World) (a : Option Addr) (l : List Int) (c : Nat) (hi : Ints .u8 w w.heap.size a l) (hb : ∀ z ∈ l, 0 ≤ z ∧ z ≤ 255) (hl : l.length ≤ 1048576) :
    Calls Try.prog 32 #[.slice a l.length c] w fun e w' => ∃ (wd hg : Int) (L : List Int) (a1 : Addr) (c1 : Nat) (x y : Int), L.length ≤ 64 ∧ e = .returned (.tuple #[.agg #[.int .i64 wd, .int .i64 hg, .slice (some a1) L.length c1], .int .i64 x, .int .i64 y]) ∧ Own2 w' w.heap.size (some a1) L ∧ Below w.heap.size w w' := by
  have i1 := ints_alloc hi (.cells #[.int .i64 0, .int .i64 0, .slice none 0 0] 26)
  have hcn := cur_new (w.alloc (.cells #[.int .i64 0, .int .i64 0, .slice none 0 0] 26)) a l c i1 hb hl
  rw [World.size_alloc] at hcn
  obtain ⟨W0, hW0⟩ : ∃ W, (w.alloc (.cells #[.int .i64 0, .int .i64 0, .slice none 0 0] 26)).alloc (.cells #[.slice a l.length c, .int .i64 0, .int .u64 0] 56) = W := ⟨_, rfl⟩
  rw [hW0] at hcn
  have C0 := Lib.hid hcn
  have R0 := Lib.hid (show Box W0 w.heap.size 26 (.int .i64 0) (.int .i64 0) (.slice none 0 0) by rw [← hW0]; exact (Box.new w _ _ _ _).alloc _)
  have B0 := Lib.hid (show Below w.heap.size w W0 by rw [← hW0]; exact ((below_all w _).alloc (by simp) _))
  clear hi hb hcn i1
  have hz0 := C0.out.lt
  go_enter Try.func32, Try.ntmps32
  go_wp2_with fail
  refine (among_any _ (w.heap.size + 1) a l c 0 W0.heap.size 6 [0, 10, 20, -40, -9000, -9001] (by omega) rfl (by omega) (by omega) (C0.out.alloc _) (by omega) (by rw [World.size_alloc]; omega) (lit_at _ rfl) 6).mono ?_
  rintro e w1 ⟨v, ⟨x, hx, rfl⟩, rfl, hc, ho⟩
  have hxb : -9001 ≤ x ∧ x ≤ 20 := by
    simp only [List.mem_cons, List.not_mem_nil, or_false] at hx
    omega
  have R1 := Lib.hid ((R0.out.alloc (.cells ([0, 10, 20, -40, -9000, -9001].map (Value.int .i64)).toArray 3)).turn ho.1 (by omega))
  have B1 := Lib.hid (below_grown (below_then B0.out (below_all W0 (.cells ([0, 10, 20, -40, -9000, -9001].map (Value.int .i64)).toArray 3))) ho.1 (by omega))
  have C1 := Lib.hid hc
  clear hc ho R0 B0 C0 hx
  have hz1 := C1.out.lt
  go_wp2_with fail
  refine (anyField_any w1 (w.heap.size + 1) a l c _ (by omega) C1.out).mono ?_
  rintro e w2 ⟨wd, hg, L, a1, c1, ⟨m1, m2, m3, m4, m5, m6⟩, rfl, o1, hc, ho⟩
  have R2 := Lib.hid (R1.out.turn ho (by omega))
  have B2 := Lib.hid (below_grown B1.out ho (by omega))
  have C2 := Lib.hid hc
  have O2 := Lib.hid (o1.more (show w.heap.size + 2 ≤ w1.heap.size by omega))
  clear hc ho o1 R1 B1 C1
  go_wp2_with fail
  refine (among_any _ (w.heap.size + 1) a l c _ w2.heap.size 6 [0, 5, 15, 100, -1, 18000] (by omega) rfl (by omega) (by omega) (C2.out.alloc _) (by have := C2.out.lt; omega) (by rw [World.size_alloc]; omega) (lit_at _ rfl) 6).mono ?_
  rintro e w3 ⟨v, ⟨y, hy, rfl⟩, rfl, hc, ho⟩
  have hyb : -1 ≤ y ∧ y ≤ 18000 := by
    simp only [List.mem_cons, List.not_mem_nil, or_false] at hy
    omega
  have R3 := Lib.hid ((R2.out.alloc (.cells ([0, 5, 15, 100, -1, 18000].map (Value.int .i64)).toArray 3)).turn ho.1 (by omega))
  have B3 := Lib.hid (below_grown (below_then B2.out (below_all w2 (.cells ([0, 5, 15, 100, -1, 18000].map (Value.int .i64)).toArray 3))) ho.1 (by omega))
  have O3 := Lib.hid ((O2.out.below (below_all w2 (.cells ([0, 5, 15, 100, -1, 18000].map (Value.int .i64)).toArray 3))).turn ho.1 (by omega))
  clear hc ho R2 B2 C2 O2 hy
  obtain ⟨t0, t1, t2⟩ := R3.out.cells
  have g0 := R3.out.frozen 0
  have g1 := R3.out.frozen 1
  have g2 := R3.out.frozen 2
  obtain ⟨sm, hsm⟩ : ∃ q, x + y = q := ⟨_, rfl⟩
  have hs : wrap64 (x + y) = sm := by rw [← hsm]; exact IntWalk.wrap64_in _ (by omega)
  rw [hsm] at hs
  go_wp2
  have K1 := own2_box O3.out (show w.heap.size < _ by omega) (.int .i64 wd) (.int .i64 hg) (.slice (some a1) L.length c1)
  have K3 := below_set3 B3.out (Nat.le_refl w.heap.size) (.int .i64 wd) (.int .i64 hg) (.slice (some a1) L.length c1)
  refine bodyPost_ret (v := .tuple #[.agg #[.int .i64 wd, .int .i64 hg, .slice (some a1) L.length c1], .int .i64 x, .int .i64 _]) (by simp [results, Try.results32, go_sem, t0, t1, t2] <;> rfl) rfl ⟨wd, hg, L, a1, c1, x, _, m1, rfl, K1, K3⟩

set_option maxRecDepth 100000 in
set_option maxHeartbeats 4000000 in
theorem drawValid_any (w : World) (a : Option Addr) (l : List Int) (c : Nat) (hi : Ints .u8 w w.heap.size a l) (hb : ∀ z ∈ l, 0 ≤ z ∧ z ≤ 255) (hl : l.length ≤ 1048576) :
    Calls Try.prog 81 #[.slice a l.length c] w fun e w' => ∃ (wd hg : Int) (L : List Int) (a1 : Addr) (c1 : Nat), L.length ≤ 64 ∧ e = .returned (.agg #[.int .i64 wd, .int .i64 hg, .slice (some a1) L.length c1]) ∧ Own2 w' w.heap.size (some a1) L ∧ Below w.heap.size w w' := by
  have i1 := ints_alloc hi (.cells #[.int .i64 0, .int .i64 0, .slice none 0 0] 26)
  have hcn := cur_new (w.alloc (.cells #[.int .i64 0, .int .i64 0, .slice none 0 0] 26)) a l c i1 hb hl
  rw [World.size_alloc] at hcn
  obtain ⟨W0, hW0⟩ : ∃ W, (w.alloc (.cells #[.int .i64 0, .int .i64 0, .slice none 0 0] 26)).alloc (.cells #[.slice a l.length c, .int .i64 0, .int .u64 0] 56) = W := ⟨_, rfl⟩
  rw [hW0] at hcn
  have C0 := Lib.hid hcn
  have R0 := Lib.hid (show Box W0 w.heap.size 26 (.int .i64 0) (.int .i64 0) (.slice none 0 0) by rw [← hW0]; exact (Box.new w _ _ _ _).alloc _)
  have B0 := Lib.hid (show Below w.heap.size w W0 by rw [← hW0]; exact ((below_all w _).alloc (by simp) _))
  clear hi hb hcn i1
  have hz0 := C0.out.lt
  go_enter Try.func81, Try.ntmps81
  go_wp2_with fail
  refine (anyField_any W0 (w.heap.size + 1) a l c 0 (by omega) C0.out).mono ?_
  rintro e w2 ⟨wd, hg, L, a1, c1, ⟨m1, m2, m3, m4, m5, m6⟩, rfl, o1, hc, ho⟩
  have R2 := Lib.hid (R0.out.turn ho (by omega))
  have B2 := Lib.hid (below_grown B0.out ho (by omega))
  have O2 := Lib.hid (o1.more (show w.heap.size + 2 ≤ W0.heap.size by omega))
  clear hc ho o1 R0 B0 C0
  obtain ⟨t0, t1, t2⟩ := R2.out.cells
  have g0 := R2.out.frozen 0
  have g1 := R2.out.frozen 1
  have g2 := R2.out.frozen 2
  go_wp2
  have K1 := own2_box O2.out (show w.heap.size < _ by omega) (.int .i64 wd) (.int .i64 hg) (.slice (some a1) L.length c1)
  have K3 := below_set3 B2.out (Nat.le_refl w.heap.size) (.int .i64 wd) (.int .i64 hg) (.slice (some a1) L.length c1)
  refine bodyPost_ret (v := .agg #[.int .i64 wd, .int .i64 hg, .slice (some a1) L.length c1]) (by simp [results, Try.results81, go_sem, t0, t1, t2]) rfl ⟨wd, hg, L, a1, c1, m1, rfl, K1, K3⟩

set_option maxRecDepth 100000 in
set_option maxHeartbeats 4000000 in
theorem drawAbs_any (w : World) (a : Option Addr) (l : List Int) (c : Nat) (hi : Ints .u8 w w.heap.size a l) (hb : ∀ z ∈ l, 0 ≤ z ∧ z ≤ 255) (hl : l.length ≤ 1048576) :
    Calls Try.prog 35 #[.slice a l.length c] w fun e w' => ∃ (wd hg : Int) (L : List Int) (a1 : Addr) (c1 : Nat), L.length ≤ 64 ∧ e = .returned (.agg #[.int .i64 wd, .int .i64 hg, .slice (some a1) L.length c1]) ∧ Own2 w' w.heap.size (some a1) L ∧ Below w.heap.size w w' := by
  have HD := Lib.hid (drawValid_any (w.alloc (.cells #[.int .i64 0, .int .i64 0, .slice none 0 0] 26)) a l c (ints_alloc hi _) hb hl)
  have R0 := Lib.hid (Box.new w 26 (.int .i64 0) (.int .i64 0) (.slice none 0 0))
  clear hi hb
  go_enter Try.func35, Try.ntmps35
  go_wp2_with fail
  refine HD.out.mono ?_
  rintro e w2 ⟨wd, hg, L, a1, c1, m1, rfl, o1, b1⟩
  rw [World.size_alloc] at o1
  have R2 := Lib.hid (R0.out.below b1)
  have B2 := Lib.hid (below_then (below_all w (.cells #[.int .i64 0, .int .i64 0, .slice none 0 0] 26)) b1)
  have O2 := Lib.hid o1
  clear o1 b1 R0 HD
  obtain ⟨t0, t1, t2⟩ := R2.out.cells
  have g0 := R2.out.frozen 0
  have g1 := R2.out.frozen 1
  have g2 := R2.out.frozen 2
  go_wp2
  have K1 := own2_box O2.out (show w.heap.size < _ by omega) (.int .i64 wd) (.int .i64 hg) (.slice (some a1) L.length c1)
  have K3 := below_set3 B2.out (Nat.le_refl w.heap.size) (.int .i64 wd) (.int .i64 hg) (.slice (some a1) L.length c1)
  refine bodyPost_ret (v := .agg #[.int .i64 wd, .int .i64 hg, .slice (some a1) L.length c1]) (by simp [results, Try.results35, go_sem, t0, t1, t2]) rfl ⟨wd, hg, L, a1, c1, m1, rfl, K1, K3⟩

end Go.Proofs.Ytglpkfkbbjbjjaa
