import Derived.Test.YtbblckaplddggaaWq
import Derived.Test.YtbblckaplddggaaWj
namespace Go.Proofs.Ytbblckaplddggaa
open Go.RowKit

theorem sgn_mul (s s' : Bool) (X Y : Nat) : sgn (s != s') (X * Y) = sgn s X * sgn s' Y := by
  cases s <;> cases s' <;> simp [sgn, Int.neg_mul, Int.mul_neg, Int.neg_neg]

theorem mul_long {xs ys : List Nat} (cx : canon xs) (cy : canon ys) (hx : 0 < xs.length) (hy : 0 < ys.length) (h : 4096 < xs.length + ys.length - 1) : ¬ (words (val xs * val ys)).length ≤ 4096 := by
  intro h1
  have a : pw (xs.length - 1) ≤ val xs := by
    have := @words_len_lt (val xs) (xs.length - 1)
    rw [words_val cx] at this
    exact this.1 (by omega)
  have b : pw (ys.length - 1) ≤ val ys := by
    have := @words_len_lt (val ys) (ys.length - 1)
    rw [words_val cy] at this
    exact this.1 (by omega)
  have c : pw (xs.length - 1 + (ys.length - 1)) ≤ val xs * val ys := by rw [pw_add]; exact Nat.mul_le_mul a b
  have d := words_len_le.1 h1
  have e := pw_le (show 4096 ≤ xs.length - 1 + (ys.length - 1) by omega)
  omega

set_option maxHeartbeats 800000 in
set_option maxRecDepth 100000 in
theorem Mul_big (s s' : Bool) (A A' : Option Addr) (n c n' c' : Nat) (xs ys : List Nat) (w : World) (h : Rd w A n xs) (h' : Rd w A' n' ys) (vx : validB s xs = true) (vy : validB s' ys = true) (h0 : 0 < n) (h0' : 0 < n') (hbig : 4096 < n + n' - 1) :
    Calls Try.prog 120 #[.agg #[.bool s, .slice A n c], .agg #[.bool s', .slice A' n' c']] w (Num w (sgn s (val xs) * sgn s' (val ys))) := by
  have VX := Lib.hid (valid_canon h.sm vx)
  have VY := Lib.hid (valid_canon h'.sm vy)
  have HV := Lib.hid (show (validB s xs && validB s' ys) = true by rw [vx, vy]; rfl)
  have HX := h.len
  have HY := h'.len
  have hn := VX.out.2.1
  have hn' := VY.out.2.1
  have HN := Lib.hid (show ∀ w', NumIs w' (sgn s (val xs) * sgn s' (val ys)) false none 0 0 4 from fun w' => by
    rw [← sgn_mul]
    exact ⟨fun hl => absurd (by rw [sgn_abs] at hl; exact hl) (mul_long VX.out.1 VY.out.1 (by omega) (by omega) (by omega)), fun _ => ⟨rfl, rfl, rfl, rfl, rfl⟩⟩)
  clear vx vy
  rw [HX] at hn
  rw [HY] at hn'
  clear HX HY
  go_enter Try.func120, Try.ntmps120
  go_wp2_with fail
  have E := (Env.start w s s' A A' n c n' c').alloc (.cells #[.bool s, .slice A n c, .bool s', .slice A' n' c'] 24)
  refine (allValid_c (w.heap.size + 1 + 1 + 1) s s' A A' n c n' c' xs ys _ (h.below E.below) (h'.below E.below) (by simp) (by go_simp) (by go_simp) (by go_simp) (by go_simp)).mono ?_
  rintro e w1 ⟨rfl, hb⟩
  rw [HV.out]
  have E1 := Lib.hid (E.next hb)
  clear E hb
  have a1 := E1.out.a1
  have b1 := E1.out.b1
  have r0 := E1.out.r0
  have r1 := E1.out.r1
  have f0 := E1.out.f0
  have f1 := E1.out.f1
  go_wp2
  refine bodyPost_ret (v := .tuple #[.agg #[.bool false, .slice none 0 0], .int .i64 4]) (by simp [results, Try.results120, go_sem, r0, r1]) rfl ?_
  exact ⟨false, none, 0, 0, 4, rfl, HN.out _, below_store E1.out.below (by omega) _ _⟩

set_option maxHeartbeats 2000000 in
set_option maxRecDepth 100000 in
theorem Mul_fits (s s' : Bool) (A A' : Option Addr) (n c n' c' : Nat) (xs ys : List Nat) (w : World) (h : Rd w A n xs) (h' : Rd w A' n' ys) (vx : validB s xs = true) (vy : validB s' ys = true) (hc : n ≤ c) (hc' : n' ≤ c') (hcc : c ≤ 9223372036854775807) (hcc' : c' ≤ 9223372036854775807)
    (hsm : ¬ (0 < n ∧ 0 < n' ∧ 4096 < n + n' - 1)) :
    Calls Try.prog 120 #[.agg #[.bool s, .slice A n c], .agg #[.bool s', .slice A' n' c']] w (Num w (sgn s (val xs) * sgn s' (val ys))) := by
  have VX := Lib.hid (valid_canon h.sm vx)
  have VY := Lib.hid (valid_canon h'.sm vy)
  have HV := Lib.hid (show (validB s xs && validB s' ys) = true by rw [vx, vy]; rfl)
  have HX := h.len
  have HY := h'.len
  have hn := VX.out.2.1
  have hn' := VY.out.2.1
  clear vx vy
  rw [HX] at hn
  rw [HY] at hn'
  clear HX HY
  have MU := Lib.hid (fun w' hx hy => multiply_c A A' n c n' c' xs ys w' hx hy VX.out.1 VY.out.1 (by omega) (by omega) hc hc' hcc hcc')
  have hcase : n = 0 ∨ (0 < n ∧ n' = 0) ∨ (0 < n ∧ 0 < n' ∧ n + n' - 1 ≤ 4096) := by omega
  clear hsm hc hc' hcc hcc'
  rcases hcase with hz | ⟨hp, hz⟩ | ⟨hp, hp', hle⟩
  · subst hz
    go_enter Try.func120, Try.ntmps120
    go_wp2_with fail
    have E := (Env.start w s s' A A' 0 c n' c').alloc (.cells #[.bool s, .slice A 0 c, .bool s', .slice A' n' c'] 24)
    refine (allValid_c (w.heap.size + 1 + 1 + 1) s s' A A' 0 c n' c' xs ys _ (h.below E.below) (h'.below E.below) (by simp) (by go_simp) (by go_simp) (by go_simp) (by go_simp)).mono ?_
    rintro e w1 ⟨rfl, hb⟩
    rw [HV.out]
    have E1 := Lib.hid (E.next hb)
    clear E hb
    have a0 := E1.out.a0
    have a1 := E1.out.a1
    have b0 := E1.out.b0
    have b1 := E1.out.b1
    go_wp2_with fail
    have hx := (h.below E1.out.below).drew
    have hy := (h'.below E1.out.below).drew
    go_region_held3 (fun w' => w'.cell? ⟨w.heap.size, 0, none⟩ = some (.bool s) ∧ w'.cell? ⟨w.heap.size, 1, none⟩ = some (.slice A 0 c) ∧ w'.cell? ⟨w.heap.size + 1, 0, none⟩ = some (.bool s') ∧ w'.cell? ⟨w.heap.size + 1, 1, none⟩ = some (.slice A' n' c')) (first | (go_keep; done) | (refine ⟨cell_two (by omega) l0, cell_two (by omega) l1, cell_two (by omega) l2, cell_two (by omega) l3⟩))
      (first
        | (go_at_call 105
           refine (MU.out _ hx hy).mono ?_
           rintro e w2 ⟨B, d, rfl, q1, q2, q3, q4, -⟩
           have E2 := Lib.hid ((E1.out.drewN 1).next q4)
           have k0 := E2.out.a0
           have k1 := E2.out.a1
           have k2 := E2.out.b0
           have k3 := E2.out.b1)
        | (go_at_call 82
           refine (number_c (s != s') B _ d _ w2 q1 q2 q3).mono ?_
           rintro e w3 ⟨t, B2, m2, d2, k, rfl, p1, p2⟩
           have E3 := Lib.hid (E2.out.next p2)
           have l0 := E3.out.a0
           have l1 := E3.out.a1
           have l2 := E3.out.b0
           have l3 := E3.out.b1
           have r0 := E3.out.r0
           have r1 := E3.out.r1
           have f0 := E3.out.f0
           have f1 := E3.out.f1))
    go_wp2
    rw [val_words, sgn_mul] at p1
    refine bodyPost_ret (v := .tuple #[.agg #[.bool t, .slice B2 m2 d2], .int .i64 k]) (by simp [results, Try.results120, go_sem, r0, r1]) rfl ?_
    exact ⟨t, B2, m2, d2, k, rfl, p1.store r0 r1 _ _, below_store E3.out.below (by omega) _ _⟩
  · subst hz
    go_enter Try.func120, Try.ntmps120
    go_wp2_with fail
    have E := (Env.start w s s' A A' n c 0 c').alloc (.cells #[.bool s, .slice A n c, .bool s', .slice A' 0 c'] 24)
    refine (allValid_c (w.heap.size + 1 + 1 + 1) s s' A A' n c 0 c' xs ys _ (h.below E.below) (h'.below E.below) (by simp) (by go_simp) (by go_simp) (by go_simp) (by go_simp)).mono ?_
    rintro e w1 ⟨rfl, hb⟩
    rw [HV.out]
    have E1 := Lib.hid (E.next hb)
    clear E hb
    have a0 := E1.out.a0
    have a1 := E1.out.a1
    have b0 := E1.out.b0
    have b1 := E1.out.b1
    go_wp2_with fail
    have hx := (h.below E1.out.below).drew
    have hy := (h'.below E1.out.below).drew
    go_region_held3 (fun w' => w'.cell? ⟨w.heap.size, 0, none⟩ = some (.bool s) ∧ w'.cell? ⟨w.heap.size, 1, none⟩ = some (.slice A n c) ∧ w'.cell? ⟨w.heap.size + 1, 0, none⟩ = some (.bool s') ∧ w'.cell? ⟨w.heap.size + 1, 1, none⟩ = some (.slice A' 0 c')) (first | (go_keep; done) | (refine ⟨cell_two (by omega) l0, cell_two (by omega) l1, cell_two (by omega) l2, cell_two (by omega) l3⟩))
      (first
        | (go_at_call 105
           refine (MU.out _ hx hy).mono ?_
           rintro e w2 ⟨B, d, rfl, q1, q2, q3, q4, -⟩
           have E2 := Lib.hid ((E1.out.drewN 1).next q4)
           have k0 := E2.out.a0
           have k1 := E2.out.a1
           have k2 := E2.out.b0
           have k3 := E2.out.b1)
        | (go_at_call 82
           refine (number_c (s != s') B _ d _ w2 q1 q2 q3).mono ?_
           rintro e w3 ⟨t, B2, m2, d2, k, rfl, p1, p2⟩
           have E3 := Lib.hid (E2.out.next p2)
           have l0 := E3.out.a0
           have l1 := E3.out.a1
           have l2 := E3.out.b0
           have l3 := E3.out.b1
           have r0 := E3.out.r0
           have r1 := E3.out.r1
           have f0 := E3.out.f0
           have f1 := E3.out.f1))
    go_wp2
    rw [val_words, sgn_mul] at p1
    refine bodyPost_ret (v := .tuple #[.agg #[.bool t, .slice B2 m2 d2], .int .i64 k]) (by simp [results, Try.results120, go_sem, r0, r1]) rfl ?_
    exact ⟨t, B2, m2, d2, k, rfl, p1.store r0 r1 _ _, below_store E3.out.below (by omega) _ _⟩
  · go_enter Try.func120, Try.ntmps120
    go_wp2_with fail
    have E := (Env.start w s s' A A' n c n' c').alloc (.cells #[.bool s, .slice A n c, .bool s', .slice A' n' c'] 24)
    refine (allValid_c (w.heap.size + 1 + 1 + 1) s s' A A' n c n' c' xs ys _ (h.below E.below) (h'.below E.below) (by simp) (by go_simp) (by go_simp) (by go_simp) (by go_simp)).mono ?_
    rintro e w1 ⟨rfl, hb⟩
    rw [HV.out]
    have E1 := Lib.hid (E.next hb)
    clear E hb
    have a0 := E1.out.a0
    have a1 := E1.out.a1
    have b0 := E1.out.b0
    have b1 := E1.out.b1
    go_wp2_with fail
    have hx := (h.below E1.out.below).drew
    have hy := (h'.below E1.out.below).drew
    go_region_held3 (fun w' => w'.cell? ⟨w.heap.size, 0, none⟩ = some (.bool s) ∧ w'.cell? ⟨w.heap.size, 1, none⟩ = some (.slice A n c) ∧ w'.cell? ⟨w.heap.size + 1, 0, none⟩ = some (.bool s') ∧ w'.cell? ⟨w.heap.size + 1, 1, none⟩ = some (.slice A' n' c')) (first | (go_keep; done) | (refine ⟨cell_two (by omega) l0, cell_two (by omega) l1, cell_two (by omega) l2, cell_two (by omega) l3⟩))
      (first
        | (go_at_call 105
           refine (MU.out _ hx hy).mono ?_
           rintro e w2 ⟨B, d, rfl, q1, q2, q3, q4, -⟩
           have E2 := Lib.hid ((E1.out.drewN 1).next q4)
           have k0 := E2.out.a0
           have k1 := E2.out.a1
           have k2 := E2.out.b0
           have k3 := E2.out.b1)
        | (go_at_call 82
           refine (number_c (s != s') B _ d _ w2 q1 q2 q3).mono ?_
           rintro e w3 ⟨t, B2, m2, d2, k, rfl, p1, p2⟩
           have E3 := Lib.hid (E2.out.next p2)
           have l0 := E3.out.a0
           have l1 := E3.out.a1
           have l2 := E3.out.b0
           have l3 := E3.out.b1
           have r0 := E3.out.r0
           have r1 := E3.out.r1
           have f0 := E3.out.f0
           have f1 := E3.out.f1))
    go_wp2
    rw [val_words, sgn_mul] at p1
    refine bodyPost_ret (v := .tuple #[.agg #[.bool t, .slice B2 m2 d2], .int .i64 k]) (by simp [results, Try.results120, go_sem, r0, r1]) rfl ?_
    exact ⟨t, B2, m2, d2, k, rfl, p1.store r0 r1 _ _, below_store E3.out.below (by omega) _ _⟩

theorem Mul_ok (s s' : Bool) (A A' : Option Addr) (n c n' c' : Nat) (xs ys : List Nat) (w : World) (h : Rd w A n xs) (h' : Rd w A' n' ys) (vx : validB s xs = true) (vy : validB s' ys = true) (hc : n ≤ c) (hc' : n' ≤ c') (hcc : c ≤ 9223372036854775807) (hcc' : c' ≤ 9223372036854775807) :
    Calls Try.prog 120 #[.agg #[.bool s, .slice A n c], .agg #[.bool s', .slice A' n' c']] w (Num w (sgn s (val xs) * sgn s' (val ys))) := by
  by_cases hb : 0 < n ∧ 0 < n' ∧ 4096 < n + n' - 1
  · exact Mul_big s s' A A' n c n' c' xs ys w h h' vx vy hb.1 hb.2.1 hb.2.2
  · exact Mul_fits s s' A A' n c n' c' xs ys w h h' vx vy hc hc' hcc hcc' hb
set_option maxHeartbeats 400000 in
theorem Mul_bad (s s' : Bool) (A A' : Option Addr) (n c n' c' : Nat) (xs ys : List Nat) (w : World) (h : Rd w A n xs) (h' : Rd w A' n' ys) (hv : (validB s xs && validB s' ys) = false) :
    Calls Try.prog 120 #[.agg #[.bool s, .slice A n c], .agg #[.bool s', .slice A' n' c']] w (Bad w 1) := by
  have HV := Lib.hid hv
  clear hv
  go_enter Try.func120, Try.ntmps120
  go_wp2_with fail
  have E := (Env.start w s s' A A' n c n' c').alloc (.cells #[.bool s, .slice A n c, .bool s', .slice A' n' c'] 24)
  refine (allValid_c (w.heap.size + 1 + 1 + 1) s s' A A' n c n' c' xs ys _ (h.below E.below) (h'.below E.below) (by simp) (by go_simp) (by go_simp) (by go_simp) (by go_simp)).mono ?_
  rintro e w1 ⟨rfl, hb⟩
  rw [HV.out]
  have E1 := Lib.hid (E.next hb)
  clear E hb
  have r0 := E1.out.r0
  have r1 := E1.out.r1
  have f0 := E1.out.f0
  have f1 := E1.out.f1
  go_wp2
  refine bodyPost_ret (v := .tuple #[.agg #[.bool false, .slice none 0 0], .int .i64 1]) (by simp [results, Try.results120, go_sem, r0, r1]) rfl ?_
  exact ⟨rfl, below_store E1.out.below (by omega) _ _⟩
end Go.Proofs.Ytbblckaplddggaa
