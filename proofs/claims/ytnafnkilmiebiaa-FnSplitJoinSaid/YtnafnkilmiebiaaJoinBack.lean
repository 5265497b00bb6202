/- Plain mathematics: the pieces of a text, joined, are the text. -/
import Derived.Test.YtnafnkilmiebiaaJoinLaw
import Derived.Test.YtnafnkilmiebiaaSplitLaw
namespace Go.Proofs.Ytnafnkilmiebiaa
/-- what is known of the closed and the open piece of a list of bytes -/
theorem sp_back (x : UInt8) (l : List UInt8) : joinL [x] ((spSt l x.toNat).1 ++ [(spSt l x.toNat).2]) = l ∧ freeL ((spSt l x.toNat).1 ++ [(spSt l x.toNat).2]) x.toNat = true := by
  suffices h : ∀ n, n ≤ l.length → joinL [x] ((spSt (l.take n) x.toNat).1 ++ [(spSt (l.take n) x.toNat).2]) = l.take n ∧ freeL ((spSt (l.take n) x.toNat).1 ++ [(spSt (l.take n) x.toNat).2]) x.toNat = true by
    have := h l.length (Nat.le_refl _)
    rwa [List.take_of_length_le (Nat.le_refl _)] at this
  intro n
  induction n with
  | zero => intro _; simp [spSt, joinL_one, freeL, hasB_nil]
  | succ n ih =>
    intro hn
    obtain ⟨h1, h2⟩ := ih (by omega)
    rw [snoc_take l n (by omega)]
    by_cases e : (l[n].toNat : Int) = (x.toNat : Int)
    · rw [spSt_hit e]
      have ex : l[n] = x := by
        apply UInt8.toNat_inj.1; omega
      refine ⟨?_, ?_⟩
      · show joinL [x] (((spSt (l.take n) x.toNat).1 ++ [(spSt (l.take n) x.toNat).2]) ++ [[]]) = _
        rw [joinL_snoc _ _ _ (by simp), h1, ex]; simp
      · show freeL (((spSt (l.take n) x.toNat).1 ++ [(spSt (l.take n) x.toNat).2]) ++ [[]]) _ = true
        rw [freeL_snoc, h2]; rfl
    · rw [spSt_miss e]
      generalize spSt (l.take n) (x.toNat : Int) = st at *
      refine ⟨?_, ?_⟩
      · show joinL [x] (st.1 ++ [st.2 ++ [l[n]]]) = _
        by_cases h0 : st.1 = []
        · rw [h0] at h1 ⊢
          simp only [List.nil_append, joinL_one] at h1 ⊢
          rw [h1]
        · rw [joinL_snoc _ _ _ h0] at h1 ⊢
          rw [← h1]
          simp
      · show freeL (st.1 ++ [st.2 ++ [l[n]]]) _ = true
        rw [freeL_snoc] at h2 ⊢
        simp only [Bool.and_eq_true] at h2 ⊢
        refine ⟨h2.1, ?_⟩
        rw [hasB_snoc]
        have h3 : hasB st.2 x.toNat = false := by simpa using h2.2
        rw [h3]
        simpa using e

theorem bs_pieces (s : ByteArray) (c : Int) : bs (pieces s c) = splitL s.data.toList c := by
  unfold bs pieces
  rw [List.map_map]
  have : ((fun s : ByteArray => s.data.toList) ∘ mkB) = id := by funext l; simp [mkB]
  rw [this, List.map_id]
theorem join_back {s sep : ByteArray} (h : spOk s sep = true) : joinB (spL s sep) sep = true ∧ joinS (spL s sep) sep = s := by
  have hh := of_decide_eq_true h
  have hc := sepC_is hh.2
  have hl : sep.data.toList = [sep[0]] := one_byte sep (by omega) (by omega)
  obtain ⟨h1, h2⟩ := sp_back sep[0] s.data.toList
  have hb : bs (spL s sep) = splitL s.data.toList (sep[0].toNat : Int) := by rw [spL_yes h, hc, bs_pieces]
  have hne : splitL s.data.toList (sep[0].toNat : Int) ≠ [] := by simp [splitL]
  have hlen := joinL_len [sep[0]] rfl (splitL s.data.toList (sep[0].toNat : Int)) hne
  have h3 : joinL [sep[0]] (splitL s.data.toList (sep[0].toNat : Int)) = s.data.toList := h1
  rw [h3, Array.length_toList] at hlen
  have hsz : s.data.size = s.size := rfl
  have hok : joinB (spL s sep) sep = true := by
    rw [joinB_one _ _ (by omega) (by omega), hb]
    exact okJoin_of hne h2 (by omega)
  refine ⟨hok, ?_⟩
  unfold joinS
  rw [if_pos hok, hl, hb, h3]
end Go.Proofs.Ytnafnkilmiebiaa
