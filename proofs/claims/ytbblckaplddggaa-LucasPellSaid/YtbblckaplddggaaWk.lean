import Derived.Test.YtbblckaplddggaaWj
namespace Go.Proofs.Ytbblckaplddggaa
open Go.RowKit

theorem sum_c (s s' : Bool) (A A' : Option Addr) (n c n' c' : Nat) (xs ys : List Nat) (w : World) (h : Rd w A n xs) (h' : Rd w A' n' ys) (hn : n < 35184372088832) (hn' : n' < 35184372088832) (cx : canon xs) (cy : canon ys) :
    Calls Try.prog 135 #[.agg #[.bool s, .slice A n c], .agg #[.bool s', .slice A' n' c']] w (Num w (sgn s (val xs) + sgn s' (val ys))) := by
  by_cases hs : s = s'
  · subst hs
    have e : sgn s (val xs) + sgn s (val ys) = sgn s (val xs + val ys) := by cases s <;> simp [sgn] <;> omega
    rw [e]
    exact sum_same s A A' n c n' c' xs ys w h h' hn hn'
  · rcases Nat.lt_or_ge (val xs) (val ys) with hv | hv
    · have e : sgn s (val xs) + sgn s' (val ys) = sgn s' (val ys - val xs) := by
        cases s <;> cases s' <;> simp [sgn] at hs ⊢ <;> omega
      rw [e]
      exact sum_lt s s' hs A A' n c n' c' xs ys w h h' hn hn' cx cy hv
    · have e : sgn s (val xs) + sgn s' (val ys) = sgn s (val xs - val ys) := by
        cases s <;> cases s' <;> simp [sgn] at hs ⊢ <;> omega
      rw [e]
      exact sum_ge s s' hs A A' n c n' c' xs ys w h h' hn hn' cx cy hv

/-- two numbers in boxes, and a result's cells, behind the world w -/
structure Env (w W : World) (s s' : Bool) (A A' : Option Addr) (n c n' c' : Nat) : Prop where
  size : w.heap.size + 3 ≤ W.heap.size
  a0 : W.cell? ⟨w.heap.size, 0, none⟩ = some (.bool s)
  a1 : W.cell? ⟨w.heap.size, 1, none⟩ = some (.slice A n c)
  b0 : W.cell? ⟨w.heap.size + 1, 0, none⟩ = some (.bool s')
  b1 : W.cell? ⟨w.heap.size + 1, 1, none⟩ = some (.slice A' n' c')
  r0 : W.cell? ⟨w.heap.size + 1 + 1, 0, none⟩ = some (.bool false)
  r1 : W.cell? ⟨w.heap.size + 1 + 1, 1, none⟩ = some (.slice none 0 0)
  f0 : W.frozen? ⟨w.heap.size + 1 + 1, 0, none⟩ = false
  f1 : W.frozen? ⟨w.heap.size + 1 + 1, 1, none⟩ = false
  below : Below w.heap.size w W
theorem Env.start (w : World) (s s' : Bool) (A A' : Option Addr) (n c n' c' : Nat) :
    Env w (((w.alloc (.cells #[.bool s, .slice A n c] 24)).alloc (.cells #[.bool s', .slice A' n' c'] 24)).alloc (.cells #[.bool false, .slice none 0 0] 24)) s s' A A' n c n' c' :=
  ⟨by simp, by go_simp, by go_simp, by go_simp, by go_simp, by go_simp, by go_simp, by go_simp, by go_simp, ((((Below.refl _ _).alloc (Nat.le_refl _) _).alloc (by simp) _).alloc (by simp; omega) _)⟩
theorem Env.next {w W w1 : World} {s s' : Bool} {A A' : Option Addr} {n c n' c' : Nat} (h : Env w W s s' A A' n c n' c') (hb : Below W.heap.size W w1) : Env w w1 s s' A A' n c n' c' := by
  have hz := h.size
  have hz1 := hb.size
  exact ⟨by omega, (hb.cell (p := ⟨w.heap.size, 0, none⟩) (by simp; omega)).trans h.a0, (hb.cell (p := ⟨w.heap.size, 1, none⟩) (by simp; omega)).trans h.a1,
    (hb.cell (p := ⟨w.heap.size + 1, 0, none⟩) (by simp; omega)).trans h.b0, (hb.cell (p := ⟨w.heap.size + 1, 1, none⟩) (by simp; omega)).trans h.b1,
    (hb.cell (p := ⟨w.heap.size + 1 + 1, 0, none⟩) (by simp; omega)).trans h.r0, (hb.cell (p := ⟨w.heap.size + 1 + 1, 1, none⟩) (by simp; omega)).trans h.r1,
    (hb.frozen (p := ⟨w.heap.size + 1 + 1, 0, none⟩) (by simp; omega)).trans h.f0, (hb.frozen (p := ⟨w.heap.size + 1 + 1, 1, none⟩) (by simp; omega)).trans h.f1,
    h.below.trans (hb.mono (by omega))⟩
theorem Env.alloc {w W : World} {s s' : Bool} {A A' : Option Addr} {n c n' c' : Nat} (h : Env w W s s' A A' n c n' c') (o : Obj) : Env w (W.alloc o) s s' A A' n c n' c' :=
  h.next ((Below.refl _ _).alloc (Nat.le_refl _) o)
theorem Env.drewN {w W : World} {s s' : Bool} {A A' : Option Addr} {n c n' c' : Nat} (h : Env w W s s' A A' n c n' c') (k : Nat) : Env w (W.drewN k) s s' A A' n c n' c' :=
  h.next (below_drewN (Below.refl _ _) k)

theorem sgn_not (b : Bool) (v : Nat) : sgn (!b) v = -sgn b v := by cases b <;> simp [sgn]

set_option maxHeartbeats 400000 in
theorem Add_ok (s s' : Bool) (A A' : Option Addr) (n c n' c' : Nat) (xs ys : List Nat) (w : World) (h : Rd w A n xs) (h' : Rd w A' n' ys) (vx : validB s xs = true) (vy : validB s' ys = true) :
    Calls Try.prog 118 #[.agg #[.bool s, .slice A n c], .agg #[.bool s', .slice A' n' c']] w (Num w (sgn s (val xs) + sgn s' (val ys))) := by
  have VX := Lib.hid (valid_canon h.sm vx)
  have VY := Lib.hid (valid_canon h'.sm vy)
  have HV := Lib.hid (show (validB s xs && validB s' ys) = true by rw [vx, vy]; rfl)
  clear vx vy
  go_enter Try.func118, Try.ntmps118
  go_wp2_with fail
  have E := (Env.start w s s' A A' n c n' c').alloc (.cells #[.bool s, .slice A n c, .bool s', .slice A' n' c'] 24)
  refine (allValid_c (w.heap.size + 1 + 1 + 1) s s' A A' n c n' c' xs ys _ (h.below E.below) (h'.below E.below) (by simp) (by go_simp) (by go_simp) (by go_simp) (by go_simp)).mono ?_
  rintro e w1 ⟨rfl, hb⟩
  rw [HV.out]
  have E1 := Lib.hid (E.next hb)
  clear E hb
  have a0 := E1.out.a0
  have a1 := E1.out.a1
  have b0 := E1.out.b0
  have b1 := E1.out.b1
  go_wp2_with fail
  have hz := E1.out.below.size
  refine (sum_c s s' A A' n c n' c' xs ys w1 (h.below E1.out.below) (h'.below E1.out.below) (by have := VX.out.2.1; have := h.len; omega) (by have := VY.out.2.1; have := h'.len; omega) VX.out.1 VY.out.1).mono ?_
  rintro e w2 ⟨t, B, m, d, k, rfl, q1, q2⟩
  have E2 := Lib.hid (E1.out.next q2)
  clear a0 a1 b0 b1
  have r0 := E2.out.r0
  have r1 := E2.out.r1
  have f0 := E2.out.f0
  have f1 := E2.out.f1
  go_wp2
  refine bodyPost_ret (v := .tuple #[.agg #[.bool t, .slice B m d], .int .i64 k]) (by simp [results, Try.results118, go_sem, r0, r1]) rfl ?_
  exact ⟨t, B, m, d, k, rfl, q1.store r0 r1 _ _, below_store E2.out.below (by omega) _ _⟩
set_option maxHeartbeats 400000 in
theorem Sub_ok (s s' : Bool) (A A' : Option Addr) (n c n' c' : Nat) (xs ys : List Nat) (w : World) (h : Rd w A n xs) (h' : Rd w A' n' ys) (vx : validB s xs = true) (vy : validB s' ys = true) :
    Calls Try.prog 119 #[.agg #[.bool s, .slice A n c], .agg #[.bool s', .slice A' n' c']] w (Num w (sgn s (val xs) - sgn s' (val ys))) := by
  have VX := Lib.hid (valid_canon h.sm vx)
  have VY := Lib.hid (valid_canon h'.sm vy)
  have HV := Lib.hid (show (validB s xs && validB s' ys) = true by rw [vx, vy]; rfl)
  clear vx vy
  go_enter Try.func119, Try.ntmps119
  go_wp2_with fail
  have E := (Env.start w s s' A A' n c n' c').alloc (.cells #[.bool s, .slice A n c, .bool s', .slice A' n' c'] 24)
  refine (allValid_c (w.heap.size + 1 + 1 + 1) s s' A A' n c n' c' xs ys _ (h.below E.below) (h'.below E.below) (by simp) (by go_simp) (by go_simp) (by go_simp) (by go_simp)).mono ?_
  rintro e w1 ⟨rfl, hb⟩
  rw [HV.out]
  have E1 := Lib.hid (E.next hb)
  clear E hb
  have a0 := E1.out.a0
  have a1 := E1.out.a1
  have b0 := E1.out.b0
  have b1 := E1.out.b1
  go_wp2_with fail
  have hz := E1.out.below.size
  refine (sum_c s (!s') A A' n c n' c' xs ys w1 (h.below E1.out.below) (h'.below E1.out.below) (by have := VX.out.2.1; have := h.len; omega) (by have := VY.out.2.1; have := h'.len; omega) VX.out.1 VY.out.1).mono ?_
  rintro e w2 ⟨t, B, m, d, k, rfl, q1, q2⟩
  rw [sgn_not, ← Int.sub_eq_add_neg] at q1
  have E2 := Lib.hid (E1.out.next q2)
  clear a0 a1 b0 b1
  have r0 := E2.out.r0
  have r1 := E2.out.r1
  have f0 := E2.out.f0
  have f1 := E2.out.f1
  go_wp2
  refine bodyPost_ret (v := .tuple #[.agg #[.bool t, .slice B m d], .int .i64 k]) (by simp [results, Try.results119, go_sem, r0, r1]) rfl ?_
  exact ⟨t, B, m, d, k, rfl, q1.store r0 r1 _ _, below_store E2.out.below (by omega) _ _⟩

/-- 0 and an error -/
def Bad (w : World) (k : Int) (e : Ending) (w' : World) : Prop := e = .returned (.tuple #[.agg #[.bool false, .slice none 0 0], .int .i64 k]) ∧ Below w.heap.size w w'
set_option maxHeartbeats 400000 in
theorem Add_bad (s s' : Bool) (A A' : Option Addr) (n c n' c' : Nat) (xs ys : List Nat) (w : World) (h : Rd w A n xs) (h' : Rd w A' n' ys) (hv : (validB s xs && validB s' ys) = false) :
    Calls Try.prog 118 #[.agg #[.bool s, .slice A n c], .agg #[.bool s', .slice A' n' c']] w (Bad w 1) := by
  have HV := Lib.hid hv
  clear hv
  go_enter Try.func118, Try.ntmps118
  go_wp2_with fail
  have E := (Env.start w s s' A A' n c n' c').alloc (.cells #[.bool s, .slice A n c, .bool s', .slice A' n' c'] 24)
  refine (allValid_c (w.heap.size + 1 + 1 + 1) s s' A A' n c n' c' xs ys _ (h.below E.below) (h'.below E.below) (by simp) (by go_simp) (by go_simp) (by go_simp) (by go_simp)).mono ?_
  rintro e w1 ⟨rfl, hb⟩
  rw [HV.out]
  have E1 := Lib.hid (E.next hb)
  clear E hb
  have r0 := E1.out.r0
  have r1 := E1.out.r1
  have f0 := E1.out.f0
  have f1 := E1.out.f1
  go_wp2
  refine bodyPost_ret (v := .tuple #[.agg #[.bool false, .slice none 0 0], .int .i64 1]) (by simp [results, Try.results118, go_sem, r0, r1]) rfl ?_
  exact ⟨rfl, below_store E1.out.below (by omega) _ _⟩
set_option maxHeartbeats 400000 in
theorem Sub_bad (s s' : Bool) (A A' : Option Addr) (n c n' c' : Nat) (xs ys : List Nat) (w : World) (h : Rd w A n xs) (h' : Rd w A' n' ys) (hv : (validB s xs && validB s' ys) = false) :
    Calls Try.prog 119 #[.agg #[.bool s, .slice A n c], .agg #[.bool s', .slice A' n' c']] w (Bad w 1) := by
  have HV := Lib.hid hv
  clear hv
  go_enter Try.func119, Try.ntmps119
  go_wp2_with fail
  have E := (Env.start w s s' A A' n c n' c').alloc (.cells #[.bool s, .slice A n c, .bool s', .slice A' n' c'] 24)
  refine (allValid_c (w.heap.size + 1 + 1 + 1) s s' A A' n c n' c' xs ys _ (h.below E.below) (h'.below E.below) (by simp) (by go_simp) (by go_simp) (by go_simp) (by go_simp)).mono ?_
  rintro e w1 ⟨rfl, hb⟩
  rw [HV.out]
  have E1 := Lib.hid (E.next hb)
  clear E hb
  have r0 := E1.out.r0
  have r1 := E1.out.r1
  have f0 := E1.out.f0
  have f1 := E1.out.f1
  go_wp2
  refine bodyPost_ret (v := .tuple #[.agg #[.bool false, .slice none 0 0], .int .i64 1]) (by simp [results, Try.results119, go_sem, r0, r1]) rfl ?_
  exact ⟨rfl, below_store E1.out.below (by omega) _ _⟩
/-- two numbers in boxes -/
structure Env2 (w W : World) (s s' : Bool) (A A' : Option Addr) (n c n' c' : Nat) : Prop where
  size : w.heap.size + 2 ≤ W.heap.size
  a0 : W.cell? ⟨w.heap.size, 0, none⟩ = some (.bool s)
  a1 : W.cell? ⟨w.heap.size, 1, none⟩ = some (.slice A n c)
  b0 : W.cell? ⟨w.heap.size + 1, 0, none⟩ = some (.bool s')
  b1 : W.cell? ⟨w.heap.size + 1, 1, none⟩ = some (.slice A' n' c')
  below : Below w.heap.size w W
theorem Env2.start (w : World) (s s' : Bool) (A A' : Option Addr) (n c n' c' : Nat) :
    Env2 w ((w.alloc (.cells #[.bool s, .slice A n c] 24)).alloc (.cells #[.bool s', .slice A' n' c'] 24)) s s' A A' n c n' c' :=
  ⟨by simp, by go_simp, by go_simp, by go_simp, by go_simp, (((Below.refl _ _).alloc (Nat.le_refl _) _).alloc (by simp) _)⟩
theorem Env2.next {w W w1 : World} {s s' : Bool} {A A' : Option Addr} {n c n' c' : Nat} (h : Env2 w W s s' A A' n c n' c') (hb : Below W.heap.size W w1) : Env2 w w1 s s' A A' n c n' c' := by
  have hz := h.size
  have hz1 := hb.size
  exact ⟨by omega, (hb.cell (p := ⟨w.heap.size, 0, none⟩) (by simp; omega)).trans h.a0, (hb.cell (p := ⟨w.heap.size, 1, none⟩) (by simp; omega)).trans h.a1,
    (hb.cell (p := ⟨w.heap.size + 1, 0, none⟩) (by simp; omega)).trans h.b0, (hb.cell (p := ⟨w.heap.size + 1, 1, none⟩) (by simp; omega)).trans h.b1,
    h.below.trans (hb.mono (by omega))⟩
theorem Env2.alloc {w W : World} {s s' : Bool} {A A' : Option Addr} {n c n' c' : Nat} (h : Env2 w W s s' A A' n c n' c') (o : Obj) : Env2 w (W.alloc o) s s' A A' n c n' c' :=
  h.next ((Below.refl _ _).alloc (Nat.le_refl _) o)

theorem ord_sgn (s s' : Bool) (X Y : Nat) (h : X = 0 → s = false) (h' : Y = 0 → s' = false) :
    ord (sgn s X) (sgn s' Y) = if s && !s' then -1 else if s' && !s then 1 else if s then ord (Y : Int) (X : Int) else ord (X : Int) (Y : Int) := by
  cases s <;> cases s' <;> simp [sgn]
  · have : Y ≠ 0 := fun e => by simp [e] at h'
    exact ord_gt (by omega)
  · have : X ≠ 0 := fun e => by simp [e] at h
    exact ord_lt (by omega)
  · rcases Nat.lt_trichotomy X Y with h1 | h1 | h1
    · rw [ord_gt (by omega), ord_gt (by omega)]
    · rw [ord_eq (by omega), ord_eq (by omega)]
    · rw [ord_lt (by omega), ord_lt (by omega)]

set_option maxHeartbeats 400000 in
theorem Cmp_ok (s s' : Bool) (A A' : Option Addr) (n c n' c' : Nat) (xs ys : List Nat) (w : World) (h : Rd w A n xs) (h' : Rd w A' n' ys) (vx : validB s xs = true) (vy : validB s' ys = true) :
    Calls Try.prog 101 #[.agg #[.bool s, .slice A n c], .agg #[.bool s', .slice A' n' c']] w (fun e w' => e = .returned (.tuple #[.int .i64 (ord (sgn s (val xs)) (sgn s' (val ys))), .int .i64 0]) ∧ Below w.heap.size w w') := by
  have VX := Lib.hid (valid_canon h.sm vx)
  have VY := Lib.hid (valid_canon h'.sm vy)
  have HV := Lib.hid (show (validB s xs && validB s' ys) = true by rw [vx, vy]; rfl)
  clear vx vy
  go_enter Try.func101, Try.ntmps101
  have HO := Lib.hid (ord_sgn s s' (val xs) (val ys) VX.out.2.2 VY.out.2.2)
  have CA := Lib.hid (fun w' hx hy => compare_c A A' n c n' c' xs ys w' hx hy VX.out.1 VY.out.1 (by have := VX.out.2.1; have := h.len; omega) (by have := VY.out.2.1; have := h'.len; omega))
  have CB := Lib.hid (fun w' hx hy => compare_c A' A n' c' n c ys xs w' hx hy VY.out.1 VX.out.1 (by have := VY.out.2.1; have := h'.len; omega) (by have := VX.out.2.1; have := h.len; omega))
  go_wp2_with fail
  have E := (Env2.start w s s' A A' n c n' c').alloc (.cells #[.bool s, .slice A n c, .bool s', .slice A' n' c'] 24)
  refine (allValid_c (w.heap.size + 1 + 1) s s' A A' n c n' c' xs ys _ (h.below E.below) (h'.below E.below) (by simp) (by go_simp) (by go_simp) (by go_simp) (by go_simp)).mono ?_
  rintro e w1 ⟨rfl, hb⟩
  rw [HV.out]
  have E1 := Lib.hid (E.next hb)
  clear E hb
  have a0 := E1.out.a0
  have a1 := E1.out.a1
  have b0 := E1.out.b0
  have b1 := E1.out.b1
  cases s <;> cases s'
  · go_wp2_with fail
    refine (CA.out w1 (h.below E1.out.below) (h'.below E1.out.below)).mono ?_
    rintro e w2 ⟨rfl, k, rfl⟩
    go_wp2
    go_ret2
    exact ⟨by rw [HO.out]; rfl, below_drewN E1.out.below k⟩
  · go_wp2
    go_ret2
    exact ⟨by rw [HO.out]; rfl, E1.out.below⟩
  · go_wp2
    go_ret2
    exact ⟨by rw [HO.out]; rfl, E1.out.below⟩
  · go_wp2_with fail
    refine (CB.out w1 (h'.below E1.out.below) (h.below E1.out.below)).mono ?_
    rintro e w2 ⟨rfl, k, rfl⟩
    go_wp2
    go_ret2
    exact ⟨by rw [HO.out]; rfl, below_drewN E1.out.below k⟩
set_option maxHeartbeats 400000 in
theorem Cmp_bad (s s' : Bool) (A A' : Option Addr) (n c n' c' : Nat) (xs ys : List Nat) (w : World) (h : Rd w A n xs) (h' : Rd w A' n' ys) (hv : (validB s xs && validB s' ys) = false) :
    Calls Try.prog 101 #[.agg #[.bool s, .slice A n c], .agg #[.bool s', .slice A' n' c']] w fun e w' => e = .returned (.tuple #[.int .i64 0, .int .i64 1]) ∧ Below w.heap.size w w' := by
  have HV := Lib.hid hv
  clear hv
  go_enter Try.func101, Try.ntmps101
  go_wp2_with fail
  have E := (Env2.start w s s' A A' n c n' c').alloc (.cells #[.bool s, .slice A n c, .bool s', .slice A' n' c'] 24)
  refine (allValid_c (w.heap.size + 1 + 1) s s' A A' n c n' c' xs ys _ (h.below E.below) (h'.below E.below) (by simp) (by go_simp) (by go_simp) (by go_simp) (by go_simp)).mono ?_
  rintro e w1 ⟨rfl, hb⟩
  rw [HV.out]
  have E1 := Lib.hid (E.next hb)
  clear E hb
  go_wp2
  go_ret2
  exact ⟨rfl, E1.out.below⟩
end Go.Proofs.Ytbblckaplddggaa
