/- The model's cursor over bytes: what next, pick, one, of and among give. -/
import Derived.Test.YtgfgimpglaepaaaChecked
import Derived.Test.YtgfgimpglaepaaaInts
import Derived.Test.YtgfgimpglaepaaaOnly
import Derived.WalkKit
import Derived.WalkLawsBesides
import Derived.WalkSpells
import Derived.Lib.Hide
import Derived.Deep.QuietTactic
import Derived.BigQuiet
import Derived.IntWalk
import Derived.Laws.AppendOwn
namespace Go.Proofs.Ytgfgimpglaepaaa
open Go.RowKit
set_option linter.unusedVariables false
/-- block g is a cursor over the slice (a, n, c), read at p, its sequence at s -/
def CurAt (w : World) (g : Nat) (a : Option Addr) (n c : Nat) (p s : Int) : Prop := w.heap[g]? = some (.cells #[.slice a n c, .int .i64 p, .int .u64 s] 70 (0, 0))
theorem CurAt.cells {w : World} {g : Nat} {a : Option Addr} {n c : Nat} {p s : Int} (h : CurAt w g a n c p s) :
    w.cell? ⟨g, 0, none⟩ = some (.slice a n c) ∧ w.cell? ⟨g, 1, none⟩ = some (.int .i64 p) ∧ w.cell? ⟨g, 2, none⟩ = some (.int .u64 s) ∧ w.frozen? ⟨g, 1, none⟩ = false ∧ w.frozen? ⟨g, 2, none⟩ = false := by
  unfold CurAt at h
  refine ⟨?_, ?_, ?_, ?_, ?_⟩ <;> simp [World.cell?, World.frozen?, h]

theorem cur_step {w : World} {g : Nat} {a : Option Addr} {n c : Nat} {p s : Int} (h : CurAt w g a n c p s) (q : Nat) (p' s' : Int) :
    CurAt (((w.drewN q).setCell ⟨g, 1, none⟩ (.int .i64 p')).setCell ⟨g, 2, none⟩ (.int .u64 s')) g a n c p' s' ∧ Only g w (((w.drewN q).setCell ⟨g, 1, none⟩ (.int .i64 p')).setCell ⟨g, 2, none⟩ (.int .u64 s')) := by
  refine ⟨?_, (((Only.refl g w).drewN q).setCell 1 _).setCell 2 _⟩
  have h1 : w.heap[g]? = some (.cells #[.slice a n c, .int .i64 p, .int .u64 s] 70 (0, 0)) := h
  unfold CurAt
  simp [World.setCell, Array.getElem?_modify, h1]
/-- what a reading step leaves: a byte's number, the cursor one further -/
def NextPost (g : Nat) (a : Option Addr) (n c p : Nat) (w : World) (e : Ending) (w' : World) : Prop :=
  ∃ r s' : Int, e = .returned (.int .i64 r) ∧ 0 ≤ r ∧ r ≤ 255 ∧ CurAt w' g a n c ((p + 1 : Nat) : Int) s' ∧ Only g w w'

theorem and_byte (a : Int) : 0 ≤ bits BinOp.and IntKind.u64 a 255 ∧ bits BinOp.and IntKind.u64 a 255 ≤ 255 := by
  have h : (BitVec.ofInt 64 a &&& BitVec.ofInt 64 255).toNat ≤ 255 := by rw [BitVec.toNat_and]; exact Nat.le_trans Nat.and_le_right (by decide)
  have e : bits BinOp.and IntKind.u64 a 255 = ((BitVec.ofInt 64 a &&& BitVec.ofInt 64 255).toNat : Int) := by
    show IntKind.u64.wrap ((BitVec.ofInt 64 a &&& BitVec.ofInt 64 255).toNat : Int) = _
    generalize (BitVec.ofInt 64 a &&& BitVec.ofInt 64 255).toNat = m at *
    rw [IntKind.wrap_u64]; omega
  rw [e]; omega

set_option maxHeartbeats 1000000 in
theorem next_in (w : World) (g : Nat) (a : Option Addr) (l : List Int) (c : Nat) (p : Nat) (s : Int) (hp : p < l.length) (hl : l.length ≤ 1048576) (h : CurAt w g a l.length c p s) (hi : Ints .u8 w g a l) (hb : ∀ z ∈ l, 0 ≤ z ∧ z ≤ 255) :
    Calls Try.prog 98 #[.pointer (some ⟨g, 0, none⟩)] w (NextPost g a l.length c p w) := by
  obtain ⟨h0, h1, h2, f1, f2⟩ := h.cells
  obtain ⟨b, o, rfl, hbg, hc⟩ := hi.at_ hp
  have hz := hb l[p] (List.getElem_mem hp)
  generalize l[p] = z at *
  have e1 : (p : Int) < (l.length : Int) := by omega
  have e0 : (0 : Int) ≤ (p : Int) := by omega
  have d1 : decide ((p : Int) < (l.length : Int)) = true := decide_eq_true e1
  have HC := Lib.hid h
  clear h hi hb
  go_enter Try.func98, Try.ntmps98
  go_wp2
  go_quiet (fail)
  rename Nat => q1
  go_wp2
  go_quiet (fail)
  rename Nat => q2
  go_wp2
  have hst := cur_step HC.out (q1 + q2) ((p : Int) + 1) (IntKind.u64.wrap (IntKind.u64.wrap (IntKind.u64.wrap (s * 6364136223846793005) + z) + 889889))
  obtain ⟨w3, hw3⟩ : ∃ w3, w3 = ((w.drewN (q1 + q2)).setCell ⟨g, 1, none⟩ (.int .i64 ((p : Int) + 1))).setCell ⟨g, 2, none⟩ (.int .u64 (IntKind.u64.wrap (IntKind.u64.wrap (IntKind.u64.wrap (s * 6364136223846793005) + z) + 889889))) := ⟨_, rfl⟩
  rw [← hw3] at hst ⊢
  clear hw3 h0 h1 h2 f1 f2 hc
  obtain ⟨k1, k2⟩ := hst
  obtain ⟨h0, h1, h2, f1, f2⟩ := k1.cells
  have K1 := Lib.hid k1
  have K2 := Lib.hid k2
  clear k1 k2
  have d2 : decide ((p : Int) + 1 ≤ (l.length : Int)) = true := decide_eq_true (by omega)
  go_quiet (fail)
  go_wp2
  go_ret
  exact ⟨z, _, rfl, hz.1, hz.2, K1.out, K2.out.drewN _⟩

set_option maxHeartbeats 1000000 in
theorem next_out (w : World) (g : Nat) (a : Option Addr) (l : List Int) (c : Nat) (p : Nat) (s : Int) (hp : l.length ≤ p) (hl : l.length ≤ 1048576) (hp2 : p ≤ 1073741824) (h : CurAt w g a l.length c p s) :
    Calls Try.prog 98 #[.pointer (some ⟨g, 0, none⟩)] w (NextPost g a l.length c p w) := by
  obtain ⟨h0, h1, h2, f1, f2⟩ := h.cells
  have e0 : (0 : Int) ≤ (p : Int) := by omega
  have d1 : decide ((p : Int) < (l.length : Int)) = false := decide_eq_false (by omega)
  have HC := Lib.hid h
  clear h
  go_enter Try.func98, Try.ntmps98
  go_wp2
  go_quiet (fail)
  rename Nat => q1
  go_wp2
  have hst := cur_step HC.out q1 ((p : Int) + 1) (IntKind.u64.wrap (IntKind.u64.wrap (IntKind.u64.wrap (s * 6364136223846793005)) + 889889))
  obtain ⟨w3, hw3⟩ : ∃ w3, w3 = ((w.drewN q1).setCell ⟨g, 1, none⟩ (.int .i64 ((p : Int) + 1))).setCell ⟨g, 2, none⟩ (.int .u64 (IntKind.u64.wrap (IntKind.u64.wrap (IntKind.u64.wrap (s * 6364136223846793005)) + 889889))) := ⟨_, rfl⟩
  rw [← hw3] at hst ⊢
  clear hw3 h0 h1 h2 f1 f2
  generalize IntKind.u64.wrap (IntKind.u64.wrap (IntKind.u64.wrap (s * 6364136223846793005)) + 889889) = s' at *
  obtain ⟨k1, k2⟩ := hst
  obtain ⟨h0, h1, h2, f1, f2⟩ := k1.cells
  have K1 := Lib.hid k1
  have K2 := Lib.hid k2
  clear k1 k2
  have d2 : decide ((p : Int) + 1 ≤ (l.length : Int)) = false := decide_eq_false (by omega)
  go_quiet (fail)
  go_wp2
  go_ret
  have hbt := and_byte (s' / 1099511627776)
  have hwr : wrap64 (bits BinOp.and IntKind.u64 (s' / 1099511627776) 255) = bits BinOp.and IntKind.u64 (s' / 1099511627776) 255 := IntWalk.wrap64_in _ (by omega)
  exact ⟨wrap64 (bits BinOp.and IntKind.u64 (s' / 1099511627776) 255), s', rfl, by rw [hwr]; exact hbt.1, by rw [hwr]; exact hbt.2, K1.out, K2.out.drewN _⟩

/-- the bytes that the cursor goes over, below its block -/
def Code (w : World) (g : Nat) (a : Option Addr) (l : List Int) : Prop := Ints .u8 w g a l ∧ (∀ z ∈ l, 0 ≤ z ∧ z ≤ 255) ∧ l.length ≤ 1048576
/-- a cursor that has made at most K steps -/
def CurIs (w : World) (g : Nat) (a : Option Addr) (l : List Int) (c K : Nat) : Prop := Code w g a l ∧ ∃ (p : Nat) (s : Int), p ≤ K ∧ CurAt w g a l.length c p s
theorem Code.only {w w' : World} {g : Nat} {a : Option Addr} {l : List Int} (h : Code w g a l) (ho : Only g w w') : Code w' g a l :=
  ⟨h.1.keep fun p hp => (ho.below (B := g) (Nat.le_refl _)).cell hp, h.2⟩
theorem CurIs.more {w : World} {g : Nat} {a : Option Addr} {l : List Int} {c K K' : Nat} (h : CurIs w g a l c K) (hk : K ≤ K') : CurIs w g a l c K' := by
  obtain ⟨h1, p, s, h2, h3⟩ := h
  exact ⟨h1, p, s, by omega, h3⟩
/-- what a draw leaves: a value with P, the cursor at most at K, no other block turned -/
def Drawn (g : Nat) (a : Option Addr) (l : List Int) (c K : Nat) (P : Value → Prop) (w : World) (e : Ending) (w' : World) : Prop :=
  ∃ v, P v ∧ e = .returned v ∧ CurIs w' g a l c K ∧ Only g w w'
def IsNum (n : Nat) (v : Value) : Prop := ∃ r : Nat, r < n ∧ v = .int .i64 r

theorem next_any (w : World) (g : Nat) (a : Option Addr) (l : List Int) (c K : Nat) (hK : K ≤ 1048576) (h : CurIs w g a l c K) :
    Calls Try.prog 98 #[.pointer (some ⟨g, 0, none⟩)] w (Drawn g a l c (K + 1) (IsNum 256) w) := by
  obtain ⟨h1, p, s, h2, h3⟩ := h
  have key : ∀ e w', NextPost g a l.length c p w e w' → Drawn g a l c (K + 1) (IsNum 256) w e w' := by
    rintro e w' ⟨r, s', he, hr0, hr1, hc, ho⟩
    obtain ⟨r, rfl⟩ : ∃ m : Nat, r = m := ⟨r.toNat, by omega⟩
    exact ⟨_, ⟨r, by omega, rfl⟩, he, ⟨h1.only ho, p + 1, s', by omega, hc⟩, ho⟩
  by_cases hp : p < l.length
  · exact (next_in w g a l c p s hp h1.2.2 h3 h1.1 h1.2.1).mono key
  · exact (next_out w g a l c p s (by omega) h1.2.2 (by omega) h3).mono key

theorem mod_num (x n : Nat) (h : 0 < n) : (x : Int).tmod (n : Int) = ((x % n : Nat) : Int) := by
  rw [Int.tmod_eq_emod_of_nonneg (by omega)]; omega

set_option maxHeartbeats 1000000 in
theorem pick_any (w : World) (g : Nat) (a : Option Addr) (l : List Int) (c K n : Nat) (hK : K ≤ 1000000) (hn : 1 ≤ n) (hn2 : n ≤ 1048576) (h : CurIs w g a l c K) :
    Calls Try.prog 75 #[.pointer (some ⟨g, 0, none⟩), .int .i64 (n : Int)] w (Drawn g a l c (K + 2) (IsNum n) w) := by
  have H := Lib.hid h
  clear h
  by_cases h1 : n ≤ 1
  · obtain rfl : n = 1 := by omega
    go_enter Try.func75, Try.ntmps75
    go_wp2
    go_ret
    exact ⟨_, ⟨0, by omega, rfl⟩, rfl, H.out.more (by omega), Only.refl g w⟩
  · by_cases h2 : n ≤ 200
    · go_enter Try.func75, Try.ntmps75
      go_wp2_with fail
      refine (next_any w g a l c K (by omega) H.out).mono ?_
      rintro e w1 ⟨v, ⟨r, hr, rfl⟩, rfl, hc, ho⟩
      have HC := Lib.hid hc
      have HO := Lib.hid ho
      clear hc ho
      go_wp2
      go_ret
      exact ⟨_, ⟨r % n, Nat.mod_lt _ (by omega), rfl⟩, rfl, HC.out.more (by omega), HO.out⟩
    · go_enter Try.func75, Try.ntmps75
      go_wp2_with fail
      refine (next_any w g a l c K (by omega) H.out).mono ?_
      rintro e w1 ⟨v, ⟨r, hr, rfl⟩, rfl, hc, ho⟩
      have HC := Lib.hid hc
      have HO := Lib.hid ho
      clear hc ho
      go_wp2_with fail
      refine (next_any w1 g a l c (K + 1) (by omega) HC.out).mono ?_
      rintro e w2 ⟨v, ⟨r2, hr2, rfl⟩, rfl, hc, ho⟩
      have HC2 := Lib.hid hc
      have HO2 := Lib.hid ho
      clear hc ho
      go_wp2
      go_ret
      exact ⟨_, ⟨(r * 256 + r2) % n, Nat.mod_lt _ (by omega), rfl⟩, rfl, HC2.out.more (by omega), HO.out.trans HO2.out⟩

set_option maxHeartbeats 400000 in
theorem one_any (w : World) (g : Nat) (a : Option Addr) (l : List Int) (c K n : Nat) (hK : K ≤ 1000000) (hn : 1 ≤ n) (hn2 : n ≤ 1048576) (h : CurIs w g a l c K) :
    Calls Try.prog 67 #[.pointer (some ⟨g, 0, none⟩), .int .i64 (n : Int)] w (Drawn g a l c (K + 2) (fun v => ∃ b : Bool, v = .bool b) w) := by
  have H := Lib.hid h
  clear h
  go_enter Try.func67, Try.ntmps67
  go_wp2_with fail
  refine (pick_any w g a l c K n hK hn hn2 H.out).mono ?_
  rintro e w1 ⟨v, ⟨r, hr, rfl⟩, rfl, hc, ho⟩
  have HC := Lib.hid hc
  have HO := Lib.hid ho
  clear hc ho
  go_wp2
  go_ret
  exact ⟨_, ⟨_, rfl⟩, rfl, HC.out, HO.out⟩
theorem cur_new (w : World) (a : Option Addr) (l : List Int) (c : Nat) (hi : Ints .u8 w w.heap.size a l) (hb : ∀ z ∈ l, 0 ≤ z ∧ z ≤ 255) (hl : l.length ≤ 1048576) :
    CurIs (w.alloc (.cells #[.slice a l.length c, .int .i64 0, .int .u64 0] 70)) w.heap.size a l c 0 :=
  ⟨⟨hi.below ((Below.refl _ _).alloc (Nat.le_refl _) _) (Nat.le_refl _), hb, hl⟩, 0, 0, Nat.le_refl _, heap_alloc_new w _⟩
theorem CurIs.lt {w : World} {g : Nat} {a : Option Addr} {l : List Int} {c K : Nat} (h : CurIs w g a l c K) : g < w.heap.size := by
  obtain ⟨_, p, s, _, h3⟩ := h
  exact (Array.getElem?_eq_some_iff.1 h3).1
theorem CurIs.alloc {w : World} {g : Nat} {a : Option Addr} {l : List Int} {c K : Nat} (h : CurIs w g a l c K) (o : Obj) : CurIs (w.alloc o) g a l c K := by
  have hlt := h.lt
  obtain ⟨h1, p, s, h2, h3⟩ := h
  exact ⟨⟨h1.1.keep fun q hq => World.cell?_alloc_lt w o q (by omega), h1.2⟩, p, s, h2, (Below.heap_alloc w o g hlt).trans h3⟩
theorem lit_ints (w : World) (L : List Int) (t : TypeId) (k : Nat) (h : k < L.length) : (w.alloc (.cells (L.map (Value.int .i64)).toArray t)).cell? ⟨w.heap.size, k, none⟩ = some (.int .i64 L[k]) := by
  have := heap_alloc_new w (.cells (L.map (Value.int .i64)).toArray t)
  unfold World.cell?
  simp only []
  rw [this]
  simp [h]
theorem lit_strs (w : World) (L : List ByteArray) (t : TypeId) (k : Nat) (h : k < L.length) : (w.alloc (.cells (L.map Value.string).toArray t)).cell? ⟨w.heap.size, k, none⟩ = some (.string L[k]) := by
  have := heap_alloc_new w (.cells (L.map Value.string).toArray t)
  unfold World.cell?
  simp only []
  rw [this]
  simp [h]
end Go.Proofs.Ytgfgimpglaepaaa
