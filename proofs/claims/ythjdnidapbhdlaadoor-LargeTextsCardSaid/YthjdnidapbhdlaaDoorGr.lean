import Derived.Test.YthjdnidapbhdlaaDoorGo
set_option maxRecDepth 100000
namespace Go.Proofs.YthjdnidapbhdlaaDoor
open Go.RowKit
theorem int_lo {z : Int} (h : (Lit.int .i64 z).wf = true) : -9223372036854775808 ≤ z := by
  simp only [Lit.wf, Bool.and_eq_true, decide_eq_true_eq] at h
  have h1 : IntKind.i64.min = -9223372036854775808 := rfl
  omega
theorem int_hi {z : Int} (h : (Lit.int .i64 z).wf = true) : z < 9223372036854775808 := by
  simp only [Lit.wf, Bool.and_eq_true, decide_eq_true_eq] at h
  have h1 : IntKind.i64.max = 9223372036854775807 := rfl
  omega
theorem LargeTexts_c (s : Bool) (A : Option Addr) (n c : Nat) (xs : List Nat) (str : ByteArray) (k : Int) (w : World) (h : Rd w A n xs) (hn : n ≤ c) (hc : c ≤ 9223372036854775807) (hstr : str.size ≤ 9223372036854775807) (k1 : -9223372036854775808 ≤ k) (k2 : k < 9223372036854775808) (ht : Tb w) :
    Calls Tryd.prog 3 #[.agg #[.bool s, .slice A n c], .string str, .int .i64 k] w (IsB true w) := by
  by_cases hno : 4200 < n ∨ 61000 < str.size
  · exact LT_long s A n c xs str k w h hn hc hstr k1 k2 ht hno
  · have hs : n ≤ 4200 ∧ str.size ≤ 61000 := by omega
    cases hv : validB s xs with
    | false =>
      exact LT_main s A n c xs str k w h hn hc hstr k1 k2 ht ⟨#[]⟩ 1 0 false hs (fun W r _ => Text_bad s A n c xs W r hv) (fun W r => Small_bad s A n c xs W r hv) (.inl ⟨hv, rfl, rfl, rfl, rfl⟩)
    | true =>
      obtain ⟨hcan, _, _⟩ := valid_canon h.sm hv
      have e := words_val hcan
      refine LT_main s A n c xs str k w h hn hc hstr k1 k2 ht _ 0 _ _ hs (fun W r t => ?_) (fun W r => ?_) (.inr ⟨hv, rfl, rfl, rfl, rfl⟩)
      · exact Text_ok s A n c (val xs) W (by rw [e]; exact r) (by rw [e]; exact hv) t
      · exact Small_c s A n c (val xs) W (by rw [e]; exact r) (by rw [e]; exact hv)
end Go.Proofs.YthjdnidapbhdlaaDoor
