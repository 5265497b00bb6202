/- A rule at every cell of an ensemble, cell by cell. -/
import Derived.Test.YtpmfgghiiocccaaEnMath
namespace Go.Proofs.Ytpmfgghiiocccaa
set_option linter.unusedVariables false
set_option linter.unusedSimpArgs false
/-- .. the first k of them done, the others as in d -/
def mixK (F : List Int → Int) (P : List Fv) (d : List Int) (k : Nat) : List Int := (List.range d.length).map fun i => if i < k then gapC F 0 (colV P i) else d.getD i 0
theorem mixK_len (F : List Int → Int) (P : List Fv) (d : List Int) (k : Nat) : (mixK F P d k).length = d.length := by simp [mixK]
theorem mixK_get (F : List Int → Int) (P : List Fv) (d : List Int) (k i : Nat) (h : i < (mixK F P d k).length) : (mixK F P d k)[i] = if i < k then gapC F 0 (colV P i) else d.getD i 0 := by simp [mixK]
theorem mixK_zero (F : List Int → Int) (P : List Fv) (d : List Int) : mixK F P d 0 = d := by
  apply List.ext_getElem
  · exact mixK_len F P d 0
  · intro i h1 h2
    rw [mixK_get, if_neg (by omega), getD_at h2]
theorem mixK_all (F : List Int → Int) (P : List Fv) (d : List Int) : mixK F P d d.length = mixL F P d.length := by
  apply List.ext_getElem
  · rw [mixK_len, mixL_len]
  · intro i h1 h2
    rw [mixK_len] at h1
    rw [mixK_get, mixL_get, if_pos h1]
theorem mixK_step (F : List Int → Int) (P : List Fv) (d : List Int) (k : Nat) (hk : k < d.length) : (mixK F P d k).set k (gapC F 0 (colV P k)) = mixK F P d (k + 1) := by
  apply List.ext_getElem
  · rw [List.length_set, mixK_len, mixK_len]
  · intro i h1 h2
    rw [List.getElem_set, mixK_get F P d (k + 1) i h2]
    by_cases e : k = i
    · subst e; rw [if_pos rfl, if_pos (by omega)]
    · rw [if_neg e, mixK_get]
      by_cases h3 : i < k
      · rw [if_pos h3, if_pos (by omega)]
      · rw [if_neg h3, if_neg (by omega)]
theorem mixK_same (F : List Int → Int) (P : List Fv) (d : List Int) (k : Nat) (hk : k < d.length) (h : d[k] = gapC F 0 (colV P k)) : mixK F P d (k + 1) = mixK F P d k := by
  apply List.ext_getElem
  · rw [mixK_len, mixK_len]
  · intro i h1 h2
    rw [mixK_get, mixK_get]
    by_cases e : k = i
    · subst e; rw [if_pos (by omega), if_neg (by omega), getD_at hk, h]
    · by_cases h3 : i < k
      · rw [if_pos h3, if_pos (by omega)]
      · rw [if_neg h3, if_neg (by omega)]
end Go.Proofs.Ytpmfgghiiocccaa
