/- PeakCells, the program's and the model's. -/
import Derived.Test.YtecjkammoakakaaNbFive
import Derived.Test.YtecjkammoakakaaNbSpec5
import Derived.Test.YtecjkammoakakaaTabl
namespace Go.Proofs.Ytecjkammoakakaa
open Go.RowKit
set_option linter.unusedVariables false
set_option linter.unusedSimpArgs false
/-- a cell is a peak among the values of its neighborhood -/
def peakP (z : Int) (vs : List Int) : Bool := !decide (z = -9999) && decide (cntN z vs = 1)
/-- the places of the first k cells that are peaks -/
def pks (W : Nat) (Bs : List Bool) : Nat → List (List Int)
  | 0 => []
  | k + 1 => if Bs.getD k false = true then pks W Bs k ++ [[((k % W : Nat) : Int), ((k / W : Nat) : Int)]] else pks W Bs k
theorem pks_yes {W : Nat} {Bs : List Bool} {k : Nat} (h : k < Bs.length) (e : Bs[k] = true) : pks W Bs (k + 1) = pks W Bs k ++ [[((k % W : Nat) : Int), ((k / W : Nat) : Int)]] := by
  rw [pks, if_pos]; rw [List.getD_eq_getElem?_getD, List.getElem?_eq_getElem h]; exact e
theorem pks_not {W : Nat} {Bs : List Bool} {k : Nat} (h : k < Bs.length) (e : Bs[k] = false) : pks W Bs (k + 1) = pks W Bs k := by
  rw [pks, if_neg]; rw [List.getD_eq_getElem?_getD, List.getElem?_eq_getElem h]; simp [e]
theorem pks_len (W : Nat) (Bs : List Bool) : ∀ k, (pks W Bs k).length ≤ k
  | 0 => Nat.le_refl _
  | k + 1 => by
    have := pks_len W Bs k
    rw [pks]; split
    · rw [List.length_append, List.length_singleton]; omega
    · omega
theorem pks_two (W : Nat) (Bs : List Bool) : ∀ k, ∀ r ∈ pks W Bs k, r.length = 2
  | 0 => fun r h => by simp [pks] at h
  | k + 1 => fun r h => by
    rw [pks] at h
    split at h
    · rcases List.mem_append.1 h with h | h
      · exact pks_two W Bs k r h
      · rw [List.mem_singleton.1 h]; rfl
    · exact pks_two W Bs k r h
/-- what PeakCells answers -/
def pkT (wd hg : Int) (l : List Int) (r : Int) : List (List Int) := if nbB wd hg l r = true then pks wd.toNat (filtL peakP wd.toNat hg.toNat r.toNat l) l.length else []
theorem pkT_yes {wd hg : Int} {l : List Int} {r : Int} (h : nbB wd hg l r = true) : pkT wd hg l r = pks wd.toNat (filtL peakP wd.toNat hg.toNat r.toNat l) l.length := if_pos h
theorem pkT_no {wd hg : Int} {l : List Int} {r : Int} (h : nbB wd hg l r = false) : pkT wd hg l r = [] := if_neg (by rw [h]; simp)
theorem pkT_len (wd hg : Int) (l : List Int) (r : Int) : (pkT wd hg l r).length ≤ 64 := by
  cases h : nbB wd hg l r with
  | false => rw [pkT_no h]; simp
  | true => rw [pkT_yes h]; have := pks_len wd.toNat (filtL peakP wd.toNat hg.toNat r.toNat l) l.length; have := good_le (nbB_iff.1 h).1; omega
theorem pkT_two (wd hg : Int) (l : List Int) (r : Int) : ∀ s ∈ pkT wd hg l r, s.length = 2 := by
  cases h : nbB wd hg l r with
  | false => rw [pkT_no h]; simp
  | true => rw [pkT_yes h]; exact pks_two _ _ _
/-- a table in memory of the call's own, and a bool -/
def TabPost (R : List (List Int)) (b : Bool) (w : World) (e : Ending) (w' : World) : Prop :=
  ∃ a c E, e = .returned (.tuple #[.slice a R.length c, .bool b]) ∧ Tabl w' w.heap.size w'.heap.size a E R ∧ Below w.heap.size w w'
theorem own_ne_row {w : World} {g base e n : Nat} {t : TypeId} {vs xs : List Value} {v : Value} (h : w.ownsRow base e 1 v n xs) (hr : Row w g t vs) (hne : e ≠ t) : v.ownBlock ≠ some g := by
  obtain ⟨c, h1, _⟩ := hr
  rcases h.2 with ⟨rfl, _⟩ | ⟨g', cap, cur, rfl, _, hh, _⟩
  · simp [Value.ownBlock]
  · intro he
    have : g' = g := by simpa [Value.ownBlock] using he
    subst this
    rw [h1] at hh
    injection hh with hh
    injection hh with _ ht
    exact hne ht.symm
theorem below_drewn {B : Nat} {w W : World} (h : Below B w W) : Below B w W.drew := h.trans ⟨rfl, rfl, rfl, Nat.le_refl _, fun _ _ => rfl⟩
/-- two blocks laid for a row of two and its slice -/
theorem two_laid (w : World) (x y : Int) (p : Obj) : Below w.heap.size w ((w.alloc (.cells #[.int .i64 x, .int .i64 y] 3)).alloc p) ∧ ((w.alloc (.cells #[.int .i64 x, .int .i64 y] 3)).alloc p).heap[w.heap.size]? = some (.cells #[.int .i64 x, .int .i64 y] 3 (0, 0)) :=
  ⟨(below_all _ _).alloc (by simp) _, (Below.heap_alloc _ _ _ (by simp)).trans (heap_alloc_new w _)⟩
/-- what the loops that gather rows know of a world -/
structure PkAt (w : World) (wd hg : Int) (a : Option Addr) (l : List Int) (c : Nat) (E : List (Nat × Nat)) (R : List (List Int)) (out : Value) (wr : World) : Prop where
  x : Box wr w.heap.size 26 (.int .i64 wd) (.int .i64 hg) (.slice a l.length c)
  o : wr.ownsRow w.heap.size 24 1 out R.length (tabV E R)
  t : Tb wr w.heap.size wr.heap.size E R
  b : Below w.heap.size w wr
section
variable {w wr w1 : World} {wd hg : Int} {a : Option Addr} {l : List Int} {c : Nat} {E : List (Nat × Nat)} {R : List (List Int)} {out out' : Value}
theorem PkAt.step (h : PkAt w wd hg a l c E R out wr) (hb : Below wr.heap.size wr w1) : PkAt w wd hg a l c E R out w1 :=
  ⟨h.x.below hb, own_keeps h.o hb, (h.t.below hb (Nat.le_refl _)).more (Nat.le_refl _) hb.size, below_then h.b hb⟩
theorem PkAt.put {H : Nat} {x y : Int} {w2 : World} (h : PkAt w wd hg a l c E R out wr) (b2 : Below wr.heap.size wr w2) (hz : H = wr.heap.size) (hc : w2.heap[H]? = some (.cells #[.int .i64 x, .int .i64 y] 3 (0, 0))) (hg1 : w2.grownBy w1 out.ownBlock)
    (ho : w1.ownsRow w.heap.size 24 1 out' (R.length + 1) (tabV E R ++ [.slice (some ⟨H, 0, none⟩) 2 2])) : PkAt w wd hg a l c (E ++ [(H, 2)]) (R ++ [[x, y]]) out' w1 := by
  subst hz
  have h2 := h.step b2
  have hr : Row w2 wr.heap.size 3 (iv [x, y]) := by
    refine ⟨_, hc, fun k hk => ?_⟩
    match k, hk with
    | 0, _ => rfl
    | 1, _ => rfl
  have hl2 := hr.lt
  have t3 := (h.t.below b2 (Nat.le_refl _)).snoc (c := 2) h.b.size (Nat.le_refl _) hr
  have t4 : Tb w1 w.heap.size (wr.heap.size + 1) (E ++ [(wr.heap.size, 2)]) (R ++ [[x, y]]) := t3.keep fun g _ _ h3 ⟨vs, h4⟩ => hg1.block g h3 (Ne.symm (own_ne_row h2.o h4 (by decide)))
  refine ⟨h2.x.grown hg1 (Ne.symm (own_ne_box h2.o h2.x (by decide))), ?_, t4.more (Nat.le_refl _) ?_, h2.b.grown hg1 h2.b.size (fun k hk => (h2.o.lt k hk).1)⟩
  · rw [tabV_snoc h.t.len, List.length_append]; exact ho
  · have := hg1.size; omega
theorem PkAt.post {a' : Option Addr} {b : Bool} (h : PkAt w wd hg a l c E R out wr) : TabPost R b w (.returned (.tuple #[out, .bool b])) wr := by
  obtain ⟨a1, c1, rfl, ht⟩ := tabl_of h.o h.t (Nat.le_refl _)
  exact ⟨a1, c1, E, rfl, ht, h.b⟩
end
theorem ent_peak : Entered 69 := enters_of Try.func69 (by kernel_rfl) rfl
theorem peak_rule (w : World) : NbRule (fun x => Value.bool x) 69 #[] peakP w := by
  intro W z vs a c h1 h2 h3 hb
  show Calls Try.prog 69 #[.int .i64 z, .slice a vs.length c] W fun e w' => e = .returned (.bool (peakP z vs)) ∧ Below W.heap.size W w'
  exact (isPeak_is z a vs c W.heap.size W h3 h1).mono fun e w' ⟨h4, h5⟩ => ⟨h4, by subst h5; exact Below.refl _ _⟩
set_option maxRecDepth 100000 in
set_option maxHeartbeats 4000000 in
theorem implPeak_any (wd hg : Int) (a : Option Addr) (l : List Int) (c : Nat) (r : Int) (w : World) (hl : Ints .i64 w w.heap.size a l) (hn : l.length ≤ 1048576) (hcap : l.length ≤ c) :
    Calls Try.prog 29 #[.agg #[.int .i64 wd, .int .i64 hg, .slice a l.length c], .int .i64 r] w (TabPost (pkT wd hg l r) (nbB wd hg l r) w) := by
  have I0 := ints_alloc hl (.cells #[.int .i64 wd, .int .i64 hg, .slice a l.length c] 26)
  have K0 := Lib.hid (Box.new w 26 (.int .i64 wd) (.int .i64 hg) (.slice a l.length c))
  cases hb : nbB wd hg l r with
  | false =>
    rw [pkT_no hb]
    have HE := Lib.hid (eachB_no wd hg a l c r (.func (.func 69) #[] #[]) _ I0 hn hb)
    clear hl hb I0
    go_enter Try.func29, Try.ntmps29
    go_wp2_with fail
    refine HE.out.mono ?_
    rintro e w1 ⟨rfl, b1⟩
    have B1 := Lib.hid (below_then (below_all _ _) b1)
    clear b1 HE
    go_wp2
    go_ret2
    exact ⟨_, _, [], rfl, ⟨Tb.nil, .inl rfl⟩, B1.out.alloc B1.out.size _⟩
  | true =>
    rw [pkT_yes hb]
    obtain ⟨hgd, hrd⟩ := nbB_iff.1 hb
    have hrb := radB_iff.1 hrd
    obtain ⟨W, H, rfl, rfl, n1, n2, n3, n4, hLL⟩ := good_nat hgd
    obtain ⟨rn, hrn⟩ : ∃ q : Nat, (q : Int) = r := ⟨r.toNat, by omega⟩
    have hrt : r.toNat = rn := by omega
    have hpos := (good_le hgd).1
    have hn64 := (good_le hgd).2
    obtain ⟨b, o, rfl⟩ : ∃ b o, a = some ⟨b, o, none⟩ := by
      obtain ⟨b, o, h, _⟩ := hl.at_ hpos
      exact ⟨b, o, h⟩
    have hFL := filtL_len peakP W H rn l
    have HE := Lib.hid (eachB_yes W H b o c rn 69 l r #[] peakP _ hrn hgd (by omega) hcap I0 ent_peak (peak_rule _))
    simp only [Int.toNat_natCast]
    rw [hrt]
    have HFL := Lib.hid hFL
    have HMA := Lib.hid (fun k h => madeB_all (filtL peakP W H rn l) l.length (by rw [hFL]; exact Nat.le_refl _) k h)
    obtain ⟨i0, hi0', hz0, hz1, hz2⟩ := info_parts infoRow
    clear hl hb hgd hrd hrb hrn hrt hLL hpos hFL I0
    generalize filtL peakP W H rn l = L at *
    go_enter Try.func29, Try.ntmps29
    go_wp2_with fail
    refine HE.out.mono ?_
    rintro e w1 ⟨g', hg', rfl, hrow, b1⟩
    have K1 := K0.out.below b1
    have B1 := below_then (below_all _ _) b1
    have hlt1 := hrow.lt
    have O0 := World.ownsRow_made (base := w.heap.size) (e := 24) (size := 1) w1 #[] 0 B1.size (by simp) rfl
    have P0 : PkAt w W H (some ⟨b, o, none⟩) l c [] (pks W L 0) (.slice (some ⟨w1.heap.size, 0, none⟩) 0 0) (w1.alloc (.cells #[] 24)) :=
      ⟨K1.alloc _, O0, Tb.nil, B1.alloc B1.size _⟩
    have HP0 := Lib.hid P0
    have HROW := Lib.hid (hrow.of_block (Below.heap_alloc w1 (.cells #[] 24) g' hrow.lt))
    clear hrow b1 K1 K0 B1 O0 P0 HE
    go_wp2
    generalize w1.alloc (.cells #[] 24) = W1 at *
    go_loopw [8, 23] (fun out i wr => ∃ k E, k ≤ l.length ∧ i = .int .i64 (k : Nat) ∧ PkAt w W H (some ⟨b, o, none⟩) l c E (pks W L k) out wr ∧ wr.rowIs g' 4 l.length (madeB L l.length)) (fun _ i _ => l.length - (intOf i).toNat)
    case atStart => exact ⟨0, [], Nat.zero_le _, rfl, HP0.out, HROW.out⟩
    case round =>
      obtain ⟨k, E, hk, rfl, hP, hrow⟩ := hrel
      clear HP0 HROW
      have HP := Lib.hid hP
      have HROW := Lib.hid hrow
      by_cases hlt : k < l.length
      · have hi : (k : Int) < (l.length : Int) := by omega
        have hi0 : (0 : Int) ≤ (k : Int) := by omega
        have hkL : k < L.length := by rw [HFL.out]; exact hlt
        have hc := hrow.cell hlt
        rw [HMA.out k hkL] at hc
        obtain ⟨k0, k1, k2⟩ := hP.x.cells
        cases hbk : L[k] with
        | false =>
          rw [hbk] at hc
          have HV := Lib.hid (pks_not (W := W) hkL hbk)
          clear hP hrow hbk
          go_wp2
          go_roundw
          case rel => exact ⟨k + 1, E, by omega, by go_num, by rw [HV.out]; exact HP.out, HROW.out⟩
          case measure => simp [intOf]; omega
        | true =>
          rw [hbk] at hc
          have HV := Lib.hid (pks_yes (W := W) hkL hbk)
          have hpl := pks_len W L k
          have hx64 : k % W ≤ 64 := by have := Nat.mod_le k W; omega
          have hy64 : k / W ≤ 64 := by have := Nat.div_le_self k W; omega
          obtain ⟨xi, hxi⟩ : ∃ q : Int, ((k % W : Nat) : Int) = q := ⟨_, rfl⟩
          obtain ⟨yi, hyi⟩ : ∃ q : Int, ((k / W : Nat) : Int) = q := ⟨_, rfl⟩
          have m1 : Int.tmod (k : Int) (W : Int) = xi := by rw [← hxi]; exact (Int.ofNat_tmod k W).symm
          have m2 : Int.tdiv (k : Int) (W : Int) = yi := by rw [← hyi]; exact (Int.ofNat_tdiv k W).symm
          have m3 : IntKind.i64.wrap xi = xi := IntWalk.i64_in _ (by rw [← hxi]; generalize k % W = q at *; omega)
          have m4 : IntKind.i64.wrap yi = yi := IntWalk.i64_in _ (by rw [← hyi]; generalize k / W = q at *; omega)
          have m5 : ¬ (W : Int) = 0 := by omega
          have m6 : ¬ W = 0 := by omega
          rw [hxi, hyi] at HV
          obtain ⟨b2, hc2⟩ := two_laid wr xi yi (.cells #[.slice (some ⟨wr.heap.size, 0, none⟩) 2 2] 24)
          have HB2 := Lib.hid (below_drewn b2)
          have HC2 := Lib.hid hc2
          have HON := Lib.hid (own_ne_rows hP.o hrow (by decide))
          have hgl := hrow.lt
          have hbs := hP.b.size
          clear hP hrow hbk hxi hyi hx64 hy64 b2 hc2
          generalize pks W L k = R at *
          go_wp2_with fail
          go_region_law (first
            | (refine step_append_lies _ (by rfl) _ _ _ (by rfl) w.heap.size 24 i0 _ 1 24 Try.underlying35 hi0' hz0 hz1 hz2 rfl (by omega) u8 R.length (tabV E R) (by rfl) (own_keeps HP.out.o HB2.out) ⟨wr.heap.size + 1, 0, none⟩ 1 1 [.slice (some ⟨wr.heap.size, 0, none⟩) 2 2] (by rfl) (by rfl) (World.news_of_block (by first | exact heap_alloc_new _ _ | (have := heap_alloc_new (wr.alloc (.cells #[.int .i64 xi, .int .i64 yi] 3)) (.cells #[.slice (some ⟨wr.heap.size, 0, none⟩) 2 2] 24); rw [World.size_alloc] at this; exact this))) (by simp [Value.oneCell']) (by omega) (by unfold maxLen; omega) (by omega) (Nat.le_trans hbs HB2.out.size) (wr.heap.size + 1 + 1) (by simp [World.drew]) ?_; intro gg cap w8 hown8 hgrow8 hat8 hlt8; have HP8 := Lib.hid (HP.out.put HB2.out rfl HC2.out hgrow8 hown8); have HR8 := Lib.hid (HROW.out.of_block ((hgrow8.block g' (Nat.lt_of_lt_of_le hgl HB2.out.size) (Ne.symm HON.out)).trans (HB2.out.block g' hgl))); clear hown8 hgrow8 hat8 hlt8))
          all_goals
            go_wp2
            go_roundw
            case rel => exact ⟨k + 1, _, by omega, by go_num, by rw [HV.out]; exact HP8.out, HR8.out⟩
            case measure => simp [intOf]; omega
      · obtain rfl : k = l.length := by omega
        clear hP hrow
        generalize pks W L l.length = R at *
        go_wp2
        go_ret2
        exact HP.out.post (a' := none)
end Go.Proofs.Ytecjkammoakakaa
