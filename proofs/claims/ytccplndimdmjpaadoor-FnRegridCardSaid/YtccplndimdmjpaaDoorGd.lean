/- The number at a place of a list, or 0. -/
namespace Go.Proofs.YtccplndimdmjpaaDoor
theorem gd_at {l : List Int} {k : Nat} (h : k < l.length) : l.getD k 0 = l[k] := by simp [List.getD, h]
theorem gd_out {l : List Int} {k : Nat} (h : l.length ≤ k) : l.getD k 0 = 0 := by simp [List.getD, h]
end Go.Proofs.YtccplndimdmjpaaDoor
