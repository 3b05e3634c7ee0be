import Derived.Test.YthjdnidapbhdlaaDoorRi
import Derived.Test.YthjdnidapbhdlaaDoorVd
namespace Go.Proofs.YthjdnidapbhdlaaDoor
open Go.RowKit

set_option maxHeartbeats 400000 in
theorem fits_c (s : Bool) (A : Option Addr) (n c : Nat) (w : World) : Calls Tryd.prog 17 #[.agg #[.bool s, .slice A n c]] w fun e w' => e = .returned (.bool (decide (n ≤ 4096))) ∧ Below w.heap.size w w' := by
  by_cases h : n ≤ 4096
  · have H := Lib.hid (show decide (n ≤ 4096) = true from decide_eq_true h)
    go_enter Tryd.func17, Tryd.ntmps17
    go_wp2
    go_ret
    exact ⟨by rw [H.out]; simp; omega, below_alloc _ _⟩
  · have H := Lib.hid (show decide (n ≤ 4096) = false from decide_eq_false h)
    go_enter Tryd.func17, Tryd.ntmps17
    go_wp2
    go_ret
    exact ⟨by rw [H.out]; simp; omega, below_alloc _ _⟩
theorem same_zero (w : World) : Calls Tryd.prog 12 #[.agg #[.bool false, .slice none 0 0], .agg #[.bool false, .slice none 0 0]] w fun e w' => e = .returned (.bool true) ∧ Below w.heap.size w w' :=
  (Same_c false false none none 0 0 0 0 [] [] w (Rd.nil _) (Rd.nil _) (by omega)).mono fun _ _ ⟨he, hb⟩ => ⟨by rw [he]; rfl, hb⟩

set_option maxHeartbeats 400000 in
theorem no_c (k : Int) (w : World) : Calls Tryd.prog 16 #[.agg #[.bool false, .slice none 0 0], .int .i64 k, .int .i64 k] w fun e w' => e = .returned (.bool true) ∧ Below w.heap.size w w' := by
  have t : (k == k) = true := by simp
  have hb := below_alloc w (.cells #[.bool false, .slice none 0 0] 24)
  have HB := Lib.hid hb
  clear hb
  go_enter Tryd.func16, Tryd.ntmps16
  go_wp2_with fail
  refine (same_zero _).mono ?_
  rintro e w1 ⟨rfl, hb⟩
  have H := Lib.hid (HB.out.trans (hb.mono HB.out.size))
  clear hb
  go_wp2
  go_ret
  exact ⟨rfl, H.out⟩

theorem is_zero (w : World) : Is w 0 false none 0 0 := by
  have e : words (0 : Int).natAbs = [] := words_zero
  exact ⟨rfl, by rw [e]; rfl, by rw [e]; exact Rd.nil _, Nat.le_refl _, by omega⟩
/-- block b is a box that holds a number or, where it is too long, 0 -/
structure NBox (W : World) (b : Nat) (z : Int) (t : Bool) (A : Option Addr) (n c : Nat) (k : Int) : Prop where
  lt : b < W.heap.size
  c0 : W.cell? ⟨b, 0, none⟩ = some (.bool t)
  c1 : W.cell? ⟨b, 1, none⟩ = some (.slice A n c)
  num : NumIs W z t A n c k
theorem NBox.next {W w1 : World} {b : Nat} {z k : Int} {t : Bool} {A : Option Addr} {n c : Nat} (h : NBox W b z t A n c k) (hb : Below W.heap.size W w1) : NBox w1 b z t A n c k :=
  ⟨Nat.lt_of_lt_of_le h.lt hb.size, (hb.cell (p := ⟨b, 0, none⟩) h.lt).trans h.c0, (hb.cell (p := ⟨b, 1, none⟩) h.lt).trans h.c1, h.num.below hb⟩
theorem NBox.new {W : World} {z k : Int} {t : Bool} {A : Option Addr} {n c : Nat} (h : NumIs W z t A n c k) : NBox (W.alloc (.cells #[.bool t, .slice A n c] 24)) W.heap.size z t A n c k :=
  ⟨by simp, by go_simp, by go_simp, h.below (below_alloc _ _)⟩
theorem NBox.alloc {W : World} {b : Nat} {z k : Int} {t : Bool} {A : Option Addr} {n c : Nat} (h : NBox W b z t A n c k) (o : Obj) : NBox (W.alloc o) b z t A n c k := h.next (below_alloc _ _)

end Go.Proofs.YthjdnidapbhdlaaDoor
