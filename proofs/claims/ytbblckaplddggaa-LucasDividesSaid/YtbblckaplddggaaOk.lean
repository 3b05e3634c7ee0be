import Derived.Test.YtbblckaplddggaaOj
import Derived.Test.YtbblckaplddggaaOc
set_option maxRecDepth 100000
namespace Go.Proofs.Ytbblckaplddggaa
open Go.RowKit Go.Shelf
set_option maxHeartbeats 4000000 in
theorem Index_neg {w : World} {a : Int} {t : Bool} {A : Option Addr} {n c : Nat} {y : Int} {t' : Bool} {A' : Option Addr} {n' c' : Nat} (h : Iv w a t A n c) (h' : Iv w y t' A' n' c') (ha : 2 ≤ a) (hy : y < 0) :
    Calls Try.prog 30 #[.agg #[.bool t, .slice A n c], .agg #[.bool t', .slice A' n' c']] w (IdxPost a y w) := by
  have ht' : t' = true := by rw [h'.is.1]; exact decide_eq_true hy
  subst ht'
  have E := Lib.hid (B2.start h.is h'.is)
  have HS := Lib.hid (And.intro h.sz h'.sz)
  have HA := Lib.hid (And.intro ha hy)
  clear h h' ha hy
  go_enter Try.func30, Try.ntmps30
  go_upto_region 1 with (fail)
  generalize (w.alloc (.cells #[.bool t, .slice A n c] 24)).alloc (.cells #[.bool true, .slice A' n' c'] 24) = W0 at E ⊢
  have a0 := E.out.ba.c0
  have a1 := E.out.ba.c1
  have b0 := E.out.by_.c0
  have b1 := E.out.by_.c1
  go_wp2_with fail
  have hb := below_alloc W0 (.cells #[.bool true, .slice A' n' c'] 24)
  have O1 := Lib.hid (oth1 (W := W0.alloc (.cells #[.bool true, .slice A' n' c'] 24)) (g := W0.heap.size) ((Is.iv_of E.out.by_.is HS.out.2).below hb) (by simp) (by go_simp) (by go_simp))
  replace E := Lib.hid (E.out.next hb)
  clear hb a0 a1 b0 b1
  generalize W0.alloc (.cells #[.bool true, .slice A' n' c'] 24) = W1 at E O1 ⊢
  refine (check_ok (Is.iv_of E.out.ba.is HS.out.1) _ O1.out 0 (.inl ⟨HA.out.1, rfl⟩)).mono ?_
  rintro e w1 ⟨rfl, hb⟩
  replace E := Lib.hid (E.out.next hb)
  clear hb O1
  have b0 := E.out.by_.c0
  go_wp2
  go_ret2
  exact ⟨_, _, rfl, E.out.below, .inr ⟨rfl, rfl, fun n hn => by
    have h5 := psi_nn HA.out.1 n
    have := HA.out.2
    omega⟩⟩
theorem Index_c {w : World} {a : Int} {t : Bool} {A : Option Addr} {n c : Nat} {y : Int} {t' : Bool} {A' : Option Addr} {n' c' : Nat} (h : Iv w a t A n c) (h' : Iv w y t' A' n' c') (ha : 2 ≤ a) :
    Calls Try.prog 30 #[.agg #[.bool t, .slice A n c], .agg #[.bool t', .slice A' n' c']] w (IdxPost a y w) := by
  rcases (show y < 0 ∨ 0 ≤ y by omega) with hy | hy
  · exact Index_neg h h' ha hy
  · exact Index_pos h h' ha hy
end Go.Proofs.Ytbblckaplddggaa
