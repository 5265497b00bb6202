/- What the program's iterator over pieces hands back stops. -/
import Derived.Test.YtgfgimpglaepaabDoorPieces
namespace Go.Proofs.YtgfgimpglaepaabDoor
open Go.RowKit Go.Shelf
set_option linter.unusedVariables false
attribute [local go_sem] Oper.semAt_some
/-- a text of no more than 4000 bytes -/
abbrev Short := { x : ByteArray // x.size ≤ 4000 }
def longs (l : List Short) : List ByteArray := l.map Subtype.val
theorem longs_snoc (l : List Short) (x : Short) : longs (l ++ [x]) = longs l ++ [x.1] := by simp [longs]
theorem longs_len (l : List Short) : (longs l).length = l.length := by simp [longs]
/-- what piecesOf hands back stops, where each round keeps the two boxes -/
theorem pieces_stops (F : Fence) (n : Nat) (hf : F.fn 85) (hro : F.round = none) (hn : 1 ≤ n) (Bs Bc : Nat) (s : ByteArray) (c : Int) (w : World) (hBs : Bs < w.heap.size) (hBc : Bc < w.heap.size) (hs : s.size ≤ 4000)
    (h1 : w.cell? ⟨Bs, 0, none⟩ = some (.string s)) (h2 : w.cell? ⟨Bc, 0, none⟩ = some (.int .u8 c)) :
    SeqStopsK F n Tryd.prog 85 #[.pointer (some ⟨Bs, 0, none⟩), .pointer (some ⟨Bc, 0, none⟩)] (fun x : Short => #[Value.string x.1]) (KpB Bs Bc) (fun ys => longs ys = pieces s c) (fun pre => longs pre <+: pieces s c) (pieces s c).length w := fun l J Jx W hW hJ _ hY h0 => by
  refine (pieces1_in F n hf hro hn l Bs Bc s c (fun pre W => ∃ p : List Short, longs p = pre ∧ J p W) (fun pre W => ∃ p : List Short, longs p = pre ∧ Jx p W) hs ?_ ?_ W
    ((hW.cell (p := ⟨Bs, 0, none⟩) hBs).trans h1) ((hW.cell (p := ⟨Bc, 0, none⟩) hBc).trans h2) ⟨[], rfl, h0⟩).mono ?_
  · rintro p W' ⟨q, rfl, hq⟩
    exact ⟨q, rfl, hJ q W' W'.drew none hq ⟨rfl, rfl, rfl, Nat.le_refl _, fun _ _ _ => rfl⟩ (fun r e => by cases e)⟩
  · rintro pre x W' ⟨q, rfl, hq⟩ hx hlen
    rw [longs_len] at hlen
    obtain ⟨fn, tmps, assign, body, hy, hR⟩ := hY q ⟨x, hx⟩ W' hq hlen
    refine ⟨fn, tmps, assign, body, hy, hR.mono ?_⟩
    rintro e W2 (⟨rfl, h, k⟩ | ⟨rfl, h⟩)
    · exact .inl ⟨rfl, ⟨q ++ [⟨x, hx⟩], longs_snoc _ _, h⟩, k⟩
    · exact .inr ⟨rfl, ⟨q ++ [⟨x, hx⟩], longs_snoc _ _, h⟩⟩
  · rintro e W2 ⟨hv, (⟨ys, rfl, q, hq, h⟩ | ⟨pre, hp, q, hq, h⟩)⟩
    · exact ⟨hv, .inl ⟨q, hq, h⟩⟩
    · exact ⟨hv, .inr ⟨q, by show longs q <+: pieces s c; rw [hq]; exact hp, h⟩⟩
end Go.Proofs.YtgfgimpglaepaabDoor
