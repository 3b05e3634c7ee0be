import Derived.Test.YtbblckaplddggaaTa
import Derived.Test.YtbblckaplddggaaWy
import Derived.Test.YtbblckaplddggaaRd
namespace Go.Proofs.Ytbblckaplddggaa
open Go.RowKit

/-- the quotient and the rest of words -/
theorem divide_c (A B : Option Addr) (n c m d : Nat) (xs ys : List Nat) (w : World) (ha : Rd w A n xs) (hb : Rd w B m ys) (cx : canon xs) (cy : canon ys) (hn : n ≤ 17592186044416) (hm : m ≤ 17592186044416) (h0 : 0 < m) :
    Calls Try.prog 79 #[.slice A n c, .slice B m d] w (Out2 w (val xs / val ys) (val xs % val ys)) := by
  by_cases hlt : val xs < val ys
  · exact divide_less A B n c m d xs ys w ha hb cx cy (by omega) (by omega) hlt
  · by_cases h1 : m = 1
    · subst h1
      obtain ⟨v, rfl⟩ : ∃ v, ys = [v] := by
        have := hb.len
        match ys, this with
        | [v], _ => exact ⟨v, rfl⟩
      have hv := canon_pos cy (by simp)
      rw [val_one] at hv hlt ⊢
      exact divide_word A B n c d v xs w ha hb cx hv (by omega) (by omega)
    · obtain ⟨k, rfl⟩ : ∃ k, m = k + 2 := ⟨m - 2, by omega⟩
      exact divide_long A B n c k d xs ys w ha hb cx cy hn (by omega) (by omega)

theorem Div_is {w : World} {z z' : Int} {t t' : Bool} {A A' : Option Addr} {n c n' c' k : Nat} (h : Is w z t A n c) (h' : Is w z' t' A' n' c') (hz : Sz z k) (hz' : Sz z' k) (hk : k ≤ 4096) (h0 : z' ≠ 0) :
    Calls Try.prog 45 #[.agg #[.bool t, .slice A n c], .agg #[.bool t', .slice A' n' c']] w (DivPost w (z / z') (z % z')) := by
  obtain ⟨r, v, s, _, _⟩ := h.raw hz hk
  obtain ⟨r', v', s', _, _⟩ := h'.raw hz' hk
  have hn := h.len hz
  have hn' := h'.len hz'
  have hpos : 0 < n' := by
    rcases Nat.eq_zero_or_pos n' with e | e
    · exfalso
      have := h'.2.1
      rw [e] at this
      exact h0 (by have := words_nil.1 (List.eq_nil_of_length_eq_zero this.symm); omega)
    · exact e
  have := Div_ok t t' A A' n c n' c' _ _ w r r' v v' hpos (Lib.hid (fun w' h1 h2 => divide_c A A' n c n' c' _ _ w' h1 h2 (words_canon _) (words_canon _) (by omega) (by omega) hpos))
  rwa [s, s'] at this
end Go.Proofs.Ytbblckaplddggaa
