/- Plain mathematics of chapter 3: units, their kinds, words and conversions. -/
import Derived.WalkKit
import Derived.Below
namespace Go.Proofs.Ythceffkkokgpnaa
def unitB (u : Int) : Bool := decide (1 ≤ u ∧ u ≤ 8)
def tenB (x : Int) : Bool := decide (-99999 ≤ x ∧ x ≤ 99999)
def kindZ (u : Int) : Int := if u ≤ 3 then 1 else if u ≤ 6 then 2 else 3
def wordS (u : Int) : ByteArray :=
  if u = 1 then ⟨#[67]⟩ else if u = 2 then ⟨#[70]⟩ else if u = 3 then ⟨#[75]⟩ else if u = 4 then ⟨#[109, 47, 115]⟩
  else if u = 5 then ⟨#[107, 116]⟩ else if u = 6 then ⟨#[107, 109, 47, 104]⟩ else if u = 7 then ⟨#[109, 109]⟩ else ⟨#[105, 110]⟩
/-- the parts of a tenth of a unit, and its zero in parts -/
def partZ (u : Int) : Int := if u = 1 then 18 else if u = 2 then 10 else if u = 3 then 18 else if u = 4 then 900 else if u = 5 then 463 else if u = 6 then 250 else if u = 7 then 5 else 127
def zeroZ (u : Int) : Int := if u = 2 then -3200 else if u = 3 then -49167 else 0
/-- what the table's loop answers: each field of the row, and whether there is one -/
def rowK (u : Int) : Int := if unitB u = true then kindZ u else 0
def rowW (u : Int) : ByteArray := if unitB u = true then wordS u else ⟨#[]⟩
def rowP (u : Int) : Int := if unitB u = true then partZ u else 0
def rowZ (u : Int) : Int := if unitB u = true then zeroZ u else 0
def rowU (u : Int) : Int := if unitB u = true then u else 0
theorem unit_cases {u : Int} (h : unitB u = true) : u = 1 ∨ u = 2 ∨ u = 3 ∨ u = 4 ∨ u = 5 ∨ u = 6 ∨ u = 7 ∨ u = 8 := by
  have := of_decide_eq_true h; omega
theorem unit_not {u : Int} (h : unitB u = false) : ¬ (1 ≤ u ∧ u ≤ 8) := of_decide_eq_false h
theorem ten_iff {x : Int} : tenB x = true ↔ -99999 ≤ x ∧ x ≤ 99999 := decide_eq_true_iff
/-- rounded to the nearest number, away from 0 in the middle -/
def rdiv (n d : Int) : Int := if n < 0 then -((-2 * n + d) / (2 * d)) else (2 * n + d) / (2 * d)
theorem rdiv_pos {n d : Int} (h : ¬ n < 0) : rdiv n d = (2 * n + d) / (2 * d) := if_neg h
theorem rdiv_neg {n d : Int} (h : n < 0) : rdiv n d = -((-2 * n + d) / (2 * d)) := if_pos h
def convZ (x f t : Int) : Int := rdiv (x * partZ f + zeroZ f - zeroZ t) (partZ t)
def convOk (x f t : Int) : Bool := tenB x && unitB f && unitB t && (kindZ f == kindZ t) && tenB (convZ x f t)
def convN (x f t : Int) : Int := if convOk x f t = true then convZ x f t else 0
end Go.Proofs.Ythceffkkokgpnaa
