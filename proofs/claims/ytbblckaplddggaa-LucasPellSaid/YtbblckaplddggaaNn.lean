import Derived.Test.YtbblckaplddggaaNl
import Derived.Test.YtbblckaplddggaaNm
import Derived.LoopN
set_option maxRecDepth 100000
namespace Go.Proofs.Ytbblckaplddggaa
open Go.RowKit Go.Shelf

theorem Valid_i {w : World} {z : Int} {t : Bool} {A : Option Addr} {n c : Nat} (h : Iv w z t A n c) : Calls Try.prog 87 #[.agg #[.bool t, .slice A n c]] w fun e w' => e = .returned (.bool true) ∧ Below w.heap.size w w' := by
  obtain ⟨r, v, _, _, _⟩ := h.is.raw h.sz (Nat.le_refl _)
  have := valid_c t A n c _ w r
  rwa [v] at this
def IsB (x : Bool) (w : World) (e : Ending) (w' : World) : Prop := e = .returned (.bool x) ∧ Below w.heap.size w w'
theorem ord_cases (z z' : Int) : (ord z z' = -1 ∧ z < z') ∨ (ord z z' = 0 ∧ z = z') ∨ (ord z z' = 1 ∧ z' < z) := by
  rcases Int.lt_trichotomy z z' with h | h | h
  · exact .inl ⟨ord_lt h, h⟩
  · exact .inr (.inl ⟨ord_eq h, h⟩)
  · exact .inr (.inr ⟨ord_gt h, h⟩)
set_option maxHeartbeats 1000000 in
theorem Less_c {w : World} {z z' : Int} {t t' : Bool} {A A' : Option Addr} {n c n' c' : Nat} (h : Iv w z t A n c) (h' : Iv w z' t' A' n' c') :
    Calls Try.prog 69 #[.agg #[.bool t, .slice A n c], .agg #[.bool t', .slice A' n' c']] w (IsB (decide (z < z')) w) := by
  have E := Env2.start w t t' A A' n c n' c'
  have HC := Lib.hid (Cmp_is (k := 4096) (h.is.below E.below) (h'.is.below E.below) h.sz h'.sz (Nat.le_refl _))
  have HB := Lib.hid E.below
  rcases ord_cases z z' with ⟨o, hz⟩ | ⟨o, hz⟩ | ⟨o, hz⟩
  all_goals
    rw [o] at HC
    have HD := Lib.hid (show decide (z < z') = _ from by first | exact decide_eq_true hz | exact decide_eq_false (by omega))
    clear h h' E o hz
    go_enter Try.func69, Try.ntmps69
    go_wp2_with (refine HC.out.mono ?_; rintro e w1 ⟨rfl, hb⟩; have HB1 := Lib.hid (HB.out.trans (hb.mono HB.out.size)); clear hb)
    go_ret
    exact ⟨by rw [HD.out]; rfl, HB1.out⟩
set_option maxHeartbeats 1000000 in
theorem Equal_c {w : World} {z z' : Int} {t t' : Bool} {A A' : Option Addr} {n c n' c' : Nat} (h : Iv w z t A n c) (h' : Iv w z' t' A' n' c') :
    Calls Try.prog 70 #[.agg #[.bool t, .slice A n c], .agg #[.bool t', .slice A' n' c']] w (IsB (decide (z = z')) w) := by
  have E := Env2.start w t t' A A' n c n' c'
  have HC := Lib.hid (Cmp_is (k := 4096) (h.is.below E.below) (h'.is.below E.below) h.sz h'.sz (Nat.le_refl _))
  have HB := Lib.hid E.below
  rcases ord_cases z z' with ⟨o, hz⟩ | ⟨o, hz⟩ | ⟨o, hz⟩
  all_goals
    rw [o] at HC
    have HD := Lib.hid (show decide (z = z') = _ from by first | exact decide_eq_true hz | exact decide_eq_false (by omega))
    clear h h' E o hz
    go_enter Try.func70, Try.ntmps70
    go_wp2_with (refine HC.out.mono ?_; rintro e w1 ⟨rfl, hb⟩; have HB1 := Lib.hid (HB.out.trans (hb.mono HB.out.size)); clear hb)
    go_ret
    exact ⟨by rw [HD.out]; rfl, HB1.out⟩
set_option maxHeartbeats 1000000 in
theorem Valid0_c (w : World) : Calls Try.prog 88 #[.slice none 0 0] w (IsB true w) := by
  go_enter Try.func88, Try.ntmps88
  go_wp2
  refine wp_loop_rounds 1 ?_
  rw [rounds_succ]
  go_wp2
  go_ret
  exact ⟨rfl, Below.refl _ _⟩
/-- whether the other numbers are valid -/
def Oth (w : World) (o : Value) (v : Bool) : Prop := ∀ W, Below w.heap.size w W → Calls Try.prog 88 #[o] W (IsB v W)
theorem oth_nil (w : World) : Oth w (.slice none 0 0) true := fun W _ => Valid0_c W
set_option maxHeartbeats 2000000 in
theorem check_ok {w : World} {z : Int} {t : Bool} {A : Option Addr} {n c : Nat} (h : Iv w z t A n c) (o : Value) (ho : Oth w o true) (v : Int) (hv : (2 ≤ z ∧ v = 0) ∨ (z < 2 ∧ v = 2)) :
    Calls Try.prog 52 #[.agg #[.bool t, .slice A n c], o] w fun e w' => e = .returned (.int .i64 v) ∧ Below w.heap.size w w' := by
  have b0 := below_alloc w (ob2 t A n c)
  have B0 := Lib.hid (Box.new h.is)
  have HV := Lib.hid (h.below b0)
  have HB := Lib.hid b0
  have HO := Lib.hid ho
  clear h b0 ho
  go_enter Try.func52, Try.ntmps52
  go_wp2_with fail
  generalize w.alloc (.cells #[.bool t, .slice A n c] 24) = W0 at B0 HV HB ⊢
  refine (Valid_i HV.out).mono ?_
  rintro e w1 ⟨rfl, hb⟩
  replace B0 := Lib.hid (B0.out.next hb)
  replace HV := Lib.hid (HV.out.below hb)
  replace HB := Lib.hid (HB.out.trans (hb.mono HB.out.size))
  clear hb
  go_wp2_with fail
  refine (HO.out _ HB.out).mono ?_
  rintro e w2 ⟨rfl, hb⟩
  replace B0 := Lib.hid (B0.out.next hb)
  replace HV := Lib.hid (HV.out.below hb)
  replace HB := Lib.hid (HB.out.trans (hb.mono HB.out.size))
  clear hb
  have a0 := B0.out.c0
  have a1 := B0.out.c1
  go_upto_region 3 with (fail)
  go_region_held3 (fun w' => w'.cell? ⟨w.heap.size, 0, none⟩ = some (.bool t) ∧ w'.cell? ⟨w.heap.size, 1, none⟩ = some (.slice A n c)) (first | (with_reducible exact ⟨a0, a1⟩) | (with_reducible exact ⟨cell_dr a0, cell_dr a1⟩) | fail)
    (first
      | (go_at_call 53; (with_reducible refine (OfV 2 _ (by omega) (by omega)).mono ?_); rintro e w3 ⟨t2, A2, n2, c2, rfl, i2, hb⟩; have hb' := (Below.refl w2.heap.size w2).drew.trans hb; replace B0 := Lib.hid (B0.out.next hb'); replace HV := Lib.hid (HV.out.below hb'); replace HB := Lib.hid (HB.out.trans (hb'.mono HB.out.size)); have I2 := Lib.hid i2; clear a0 a1 hb hb' i2; have a0 := B0.out.c0; have a1 := B0.out.c1)
      | (go_at_call 69; (with_reducible refine (Less_c HV.out I2.out).mono ?_); rintro e w4 ⟨rfl, hb⟩; replace B0 := Lib.hid (B0.out.next hb); replace HB := Lib.hid (HB.out.trans (hb.mono HB.out.size)); clear a0 a1 hb; have a0 := B0.out.c0; have a1 := B0.out.c1)
      | fail "no arm")
  rcases hv with ⟨hz, rfl⟩ | ⟨hz, rfl⟩
  · have hd : decide (z < 2) = false := decide_eq_false (by omega)
    go_wp2
    go_ret
    exact ⟨rfl, HB.out⟩
  · have hd : decide (z < 2) = true := decide_eq_true hz
    go_wp2
    go_ret
    exact ⟨rfl, HB.out⟩
end Go.Proofs.Ytbblckaplddggaa
