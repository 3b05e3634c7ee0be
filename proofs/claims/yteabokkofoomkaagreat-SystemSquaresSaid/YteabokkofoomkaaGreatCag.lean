import Derived.Test.YteabokkofoomkaaGreatCaf
import Derived.Test.YteabokkofoomkaaGreatCae
namespace Go.Proofs.YteabokkofoomkaaGreat
open Go.RowKit
theorem sgn_mul (s s' : Bool) (X Y : Nat) : sgn (s != s') (X * Y) = sgn s X * sgn s' Y := by
  cases s <;> cases s' <;> simp [sgn, Int.neg_mul, Int.mul_neg, Int.neg_neg]
theorem mul_long {xs ys : List Nat} (cx : canon xs) (cy : canon ys) (hx : 0 < xs.length) (hy : 0 < ys.length) (h : 4096 < xs.length + ys.length - 1) : ¬ (words (val xs * val ys)).length ≤ 4096 := by
  intro h1
  have a : pw (xs.length - 1) ≤ val xs := by
    have := @words_len_lt (val xs) (xs.length - 1)
    rw [words_val cx] at this
    exact this.1 (by omega)
  have b : pw (ys.length - 1) ≤ val ys := by
    have := @words_len_lt (val ys) (ys.length - 1)
    rw [words_val cy] at this
    exact this.1 (by omega)
  have c : pw (xs.length - 1 + (ys.length - 1)) ≤ val xs * val ys := by rw [pw_add]; exact Nat.mul_le_mul a b
  have d := words_len_le.1 h1
  have e := pw_le (show 4096 ≤ xs.length - 1 + (ys.length - 1) by omega)
  omega
set_option maxHeartbeats 800000 in
set_option maxRecDepth 100000 in
theorem Mul_big (s s' : Bool) (A A' : Option Addr) (n c n' c' : Nat) (xs ys : List Nat) (w : World) (h : Rd w A n xs) (h' : Rd w A' n' ys) (vx : validB s xs = true) (vy : validB s' ys = true) (h0 : 0 < n) (h0' : 0 < n') (hbig : 4096 < n + n' - 1) :
    Calls Tryz.prog 110 #[.agg #[.bool s, .slice A n c], .agg #[.bool s', .slice A' n' c']] w (Num w (sgn s (val xs) * sgn s' (val ys))) := by
  have VX := Lib.hid (valid_canon h.sm vx)
  have VY := Lib.hid (valid_canon h'.sm vy)
  have HV := Lib.hid (show (validB s xs && validB s' ys) = true by rw [vx, vy]; rfl)
  have HX := h.len
  have HY := h'.len
  have hn := VX.out.2.1
  have hn' := VY.out.2.1
  have HN := Lib.hid (show ∀ w', NumIs w' (sgn s (val xs) * sgn s' (val ys)) false none 0 0 4 from fun w' => by
    rw [← sgn_mul]
    exact ⟨fun hl => absurd (by rw [sgn_abs] at hl; exact hl) (mul_long VX.out.1 VY.out.1 (by omega) (by omega) (by omega)), fun _ => ⟨rfl, rfl, rfl, rfl, rfl⟩⟩)
  clear vx vy
  rw [HX] at hn
  rw [HY] at hn'
  clear HX HY
  go_enter Tryz.func110, Tryz.ntmps110
  go_wp2_with fail
  have E := (Env.start w s s' A A' n c n' c').alloc (.cells #[.bool s, .slice A n c, .bool s', .slice A' n' c'] 58)
  refine (allValid_c (w.heap.size + 1 + 1 + 1) s s' A A' n c n' c' xs ys _ (h.below E.below) (h'.below E.below) (by simp) (by go_simp) (by go_simp) (by go_simp) (by go_simp)).mono ?_
  rintro e w1 ⟨rfl, hb⟩
  rw [HV.out]
  have E1 := Lib.hid (E.next hb)
  clear E hb
  have a1 := E1.out.a1
  have b1 := E1.out.b1
  have r0 := E1.out.r0
  have r1 := E1.out.r1
  have f0 := E1.out.f0
  have f1 := E1.out.f1
  go_wp2
  refine bodyPost_ret (v := .tuple #[.agg #[.bool false, .slice none 0 0], .int .i64 4]) (by simp [results, Tryz.results110, go_sem, r0, r1]) rfl ?_
  exact ⟨false, none, 0, 0, 4, rfl, HN.out _, below_store E1.out.below (by omega) _ _⟩
set_option maxHeartbeats 2000000 in
set_option maxRecDepth 100000 in
theorem Mul_fits (s s' : Bool) (A A' : Option Addr) (n c n' c' : Nat) (xs ys : List Nat) (w : World) (h : Rd w A n xs) (h' : Rd w A' n' ys) (vx : validB s xs = true) (vy : validB s' ys = true) (hc : n ≤ c) (hc' : n' ≤ c') (hcc : c ≤ 9223372036854775807) (hcc' : c' ≤ 9223372036854775807)
    (hsm : ¬ (0 < n ∧ 0 < n' ∧ 4096 < n + n' - 1)) :
    Calls Tryz.prog 110 #[.agg #[.bool s, .slice A n c], .agg #[.bool s', .slice A' n' c']] w (Num w (sgn s (val xs) * sgn s' (val ys))) := by
  have VX := Lib.hid (valid_canon h.sm vx)
  have VY := Lib.hid (valid_canon h'.sm vy)
  have HV := Lib.hid (show (validB s xs && validB s' ys) = true by rw [vx, vy]; rfl)
  have HX := h.len
  have HY := h'.len
  have hn := VX.out.2.1
  have hn' := VY.out.2.1
  clear vx vy
  rw [HX] at hn
  rw [HY] at hn'
  clear HX HY
  have MU := Lib.hid (fun w' hx hy => multiply_c A A' n c n' c' xs ys w' hx hy VX.out.1 VY.out.1 (by omega) (by omega) hc hc' hcc hcc')
  have hcase : n = 0 ∨ (0 < n ∧ n' = 0) ∨ (0 < n ∧ 0 < n' ∧ n + n' - 1 ≤ 4096) := by omega
  clear hsm hc hc' hcc hcc'
  rcases hcase with hz | ⟨hp, hz⟩ | ⟨hp, hp', hle⟩
  · subst hz
    go_enter Tryz.func110, Tryz.ntmps110
    go_wp2_with fail
    have E := (Env.start w s s' A A' 0 c n' c').alloc (.cells #[.bool s, .slice A 0 c, .bool s', .slice A' n' c'] 58)
    refine (allValid_c (w.heap.size + 1 + 1 + 1) s s' A A' 0 c n' c' xs ys _ (h.below E.below) (h'.below E.below) (by simp) (by go_simp) (by go_simp) (by go_simp) (by go_simp)).mono ?_
    rintro e w1 ⟨rfl, hb⟩
    rw [HV.out]
    have E1 := Lib.hid (E.next hb)
    clear E hb
    have a0 := E1.out.a0
    have a1 := E1.out.a1
    have b0 := E1.out.b0
    have b1 := E1.out.b1
    go_wp2_with fail
    have hx := (h.below E1.out.below).drew
    have hy := (h'.below E1.out.below).drew
    go_region_held3 (fun w' => w'.cell? ⟨w.heap.size, 0, none⟩ = some (.bool s) ∧ w'.cell? ⟨w.heap.size, 1, none⟩ = some (.slice A 0 c) ∧ w'.cell? ⟨w.heap.size + 1, 0, none⟩ = some (.bool s') ∧ w'.cell? ⟨w.heap.size + 1, 1, none⟩ = some (.slice A' n' c')) (first | (go_keep; done) | (refine ⟨cell_two (by omega) l0, cell_two (by omega) l1, cell_two (by omega) l2, cell_two (by omega) l3⟩))
      (first
        | (go_at_call 131
           refine (MU.out _ hx hy).mono ?_
           rintro e w2 ⟨B, d, rfl, q1, q2, q3, q4, -⟩
           have E2 := Lib.hid ((E1.out.drewN 1).next q4)
           have k0 := E2.out.a0
           have k1 := E2.out.a1
           have k2 := E2.out.b0
           have k3 := E2.out.b1)
        | (go_at_call 130
           refine (number_c (s != s') B _ d _ w2 q1 q2 q3).mono ?_
           rintro e w3 ⟨t, B2, m2, d2, k, rfl, p1, p2⟩
           have E3 := Lib.hid (E2.out.next p2)
           have l0 := E3.out.a0
           have l1 := E3.out.a1
           have l2 := E3.out.b0
           have l3 := E3.out.b1
           have r0 := E3.out.r0
           have r1 := E3.out.r1
           have f0 := E3.out.f0
           have f1 := E3.out.f1))
    go_wp2
    rw [val_words, sgn_mul] at p1
    refine bodyPost_ret (v := .tuple #[.agg #[.bool t, .slice B2 m2 d2], .int .i64 k]) (by simp [results, Tryz.results110, go_sem, r0, r1]) rfl ?_
    exact ⟨t, B2, m2, d2, k, rfl, p1.store r0 r1 _ _, below_store E3.out.below (by omega) _ _⟩
  · subst hz
    go_enter Tryz.func110, Tryz.ntmps110
    go_wp2_with fail
    have E := (Env.start w s s' A A' n c 0 c').alloc (.cells #[.bool s, .slice A n c, .bool s', .slice A' 0 c'] 58)
    refine (allValid_c (w.heap.size + 1 + 1 + 1) s s' A A' n c 0 c' xs ys _ (h.below E.below) (h'.below E.below) (by simp) (by go_simp) (by go_simp) (by go_simp) (by go_simp)).mono ?_
    rintro e w1 ⟨rfl, hb⟩
    rw [HV.out]
    have E1 := Lib.hid (E.next hb)
    clear E hb
    have a0 := E1.out.a0
    have a1 := E1.out.a1
    have b0 := E1.out.b0
    have b1 := E1.out.b1
    go_wp2_with fail
    have hx := (h.below E1.out.below).drew
    have hy := (h'.below E1.out.below).drew
    go_region_held3 (fun w' => w'.cell? ⟨w.heap.size, 0, none⟩ = some (.bool s) ∧ w'.cell? ⟨w.heap.size, 1, none⟩ = some (.slice A n c) ∧ w'.cell? ⟨w.heap.size + 1, 0, none⟩ = some (.bool s') ∧ w'.cell? ⟨w.heap.size + 1, 1, none⟩ = some (.slice A' 0 c')) (first | (go_keep; done) | (refine ⟨cell_two (by omega) l0, cell_two (by omega) l1, cell_two (by omega) l2, cell_two (by omega) l3⟩))
      (first
        | (go_at_call 131
           refine (MU.out _ hx hy).mono ?_
           rintro e w2 ⟨B, d, rfl, q1, q2, q3, q4, -⟩
           have E2 := Lib.hid ((E1.out.drewN 1).next q4)
           have k0 := E2.out.a0
           have k1 := E2.out.a1
           have k2 := E2.out.b0
           have k3 := E2.out.b1)
        | (go_at_call 130
           refine (number_c (s != s') B _ d _ w2 q1 q2 q3).mono ?_
           rintro e w3 ⟨t, B2, m2, d2, k, rfl, p1, p2⟩
           have E3 := Lib.hid (E2.out.next p2)
           have l0 := E3.out.a0
           have l1 := E3.out.a1
           have l2 := E3.out.b0
           have l3 := E3.out.b1
           have r0 := E3.out.r0
           have r1 := E3.out.r1
           have f0 := E3.out.f0
           have f1 := E3.out.f1))
    go_wp2
    rw [val_words, sgn_mul] at p1
    refine bodyPost_ret (v := .tuple #[.agg #[.bool t, .slice B2 m2 d2], .int .i64 k]) (by simp [results, Tryz.results110, go_sem, r0, r1]) rfl ?_
    exact ⟨t, B2, m2, d2, k, rfl, p1.store r0 r1 _ _, below_store E3.out.below (by omega) _ _⟩
  · go_enter Tryz.func110, Tryz.ntmps110
    go_wp2_with fail
    have E := (Env.start w s s' A A' n c n' c').alloc (.cells #[.bool s, .slice A n c, .bool s', .slice A' n' c'] 58)
    refine (allValid_c (w.heap.size + 1 + 1 + 1) s s' A A' n c n' c' xs ys _ (h.below E.below) (h'.below E.below) (by simp) (by go_simp) (by go_simp) (by go_simp) (by go_simp)).mono ?_
    rintro e w1 ⟨rfl, hb⟩
    rw [HV.out]
    have E1 := Lib.hid (E.next hb)
    clear E hb
    have a0 := E1.out.a0
    have a1 := E1.out.a1
    have b0 := E1.out.b0
    have b1 := E1.out.b1
    go_wp2_with fail
    have hx := (h.below E1.out.below).drew
    have hy := (h'.below E1.out.below).drew
    go_region_held3 (fun w' => w'.cell? ⟨w.heap.size, 0, none⟩ = some (.bool s) ∧ w'.cell? ⟨w.heap.size, 1, none⟩ = some (.slice A n c) ∧ w'.cell? ⟨w.heap.size + 1, 0, none⟩ = some (.bool s') ∧ w'.cell? ⟨w.heap.size + 1, 1, none⟩ = some (.slice A' n' c')) (first | (go_keep; done) | (refine ⟨cell_two (by omega) l0, cell_two (by omega) l1, cell_two (by omega) l2, cell_two (by omega) l3⟩))
      (first
        | (go_at_call 131
           refine (MU.out _ hx hy).mono ?_
           rintro e w2 ⟨B, d, rfl, q1, q2, q3, q4, -⟩
           have E2 := Lib.hid ((E1.out.drewN 1).next q4)
           have k0 := E2.out.a0
           have k1 := E2.out.a1
           have k2 := E2.out.b0
           have k3 := E2.out.b1)
        | (go_at_call 130
           refine (number_c (s != s') B _ d _ w2 q1 q2 q3).mono ?_
           rintro e w3 ⟨t, B2, m2, d2, k, rfl, p1, p2⟩
           have E3 := Lib.hid (E2.out.next p2)
           have l0 := E3.out.a0
           have l1 := E3.out.a1
           have l2 := E3.out.b0
           have l3 := E3.out.b1
           have r0 := E3.out.r0
           have r1 := E3.out.r1
           have f0 := E3.out.f0
           have f1 := E3.out.f1))
    go_wp2
    rw [val_words, sgn_mul] at p1
    refine bodyPost_ret (v := .tuple #[.agg #[.bool t, .slice B2 m2 d2], .int .i64 k]) (by simp [results, Tryz.results110, go_sem, r0, r1]) rfl ?_
    exact ⟨t, B2, m2, d2, k, rfl, p1.store r0 r1 _ _, below_store E3.out.below (by omega) _ _⟩
theorem Mul_ok (s s' : Bool) (A A' : Option Addr) (n c n' c' : Nat) (xs ys : List Nat) (w : World) (h : Rd w A n xs) (h' : Rd w A' n' ys) (vx : validB s xs = true) (vy : validB s' ys = true) (hc : n ≤ c) (hc' : n' ≤ c') (hcc : c ≤ 9223372036854775807) (hcc' : c' ≤ 9223372036854775807) :
    Calls Tryz.prog 110 #[.agg #[.bool s, .slice A n c], .agg #[.bool s', .slice A' n' c']] w (Num w (sgn s (val xs) * sgn s' (val ys))) := by
  by_cases hb : 0 < n ∧ 0 < n' ∧ 4096 < n + n' - 1
  · exact Mul_big s s' A A' n c n' c' xs ys w h h' vx vy hb.1 hb.2.1 hb.2.2
  · exact Mul_fits s s' A A' n c n' c' xs ys w h h' vx vy hc hc' hcc hcc' hb
set_option maxHeartbeats 400000 in
theorem Mul_bad (s s' : Bool) (A A' : Option Addr) (n c n' c' : Nat) (xs ys : List Nat) (w : World) (h : Rd w A n xs) (h' : Rd w A' n' ys) (hv : (validB s xs && validB s' ys) = false) :
    Calls Tryz.prog 110 #[.agg #[.bool s, .slice A n c], .agg #[.bool s', .slice A' n' c']] w (Bad w 1) := by
  have HV := Lib.hid hv
  clear hv
  go_enter Tryz.func110, Tryz.ntmps110
  go_wp2_with fail
  have E := (Env.start w s s' A A' n c n' c').alloc (.cells #[.bool s, .slice A n c, .bool s', .slice A' n' c'] 58)
  refine (allValid_c (w.heap.size + 1 + 1 + 1) s s' A A' n c n' c' xs ys _ (h.below E.below) (h'.below E.below) (by simp) (by go_simp) (by go_simp) (by go_simp) (by go_simp)).mono ?_
  rintro e w1 ⟨rfl, hb⟩
  rw [HV.out]
  have E1 := Lib.hid (E.next hb)
  clear E hb
  have r0 := E1.out.r0
  have r1 := E1.out.r1
  have f0 := E1.out.f0
  have f1 := E1.out.f1
  go_wp2
  refine bodyPost_ret (v := .tuple #[.agg #[.bool false, .slice none 0 0], .int .i64 1]) (by simp [results, Tryz.results110, go_sem, r0, r1]) rfl ?_
  exact ⟨rfl, below_store E1.out.below (by omega) _ _⟩
end Go.Proofs.YteabokkofoomkaaGreat
namespace Go.Proofs.YteabokkofoomkaaGreat
open Go.RowKit
/-- dividing by a word, from the highest word on: k words are left -/
structure DivAt (xs : List Nat) (v k : Nat) (L : List Nat) (r : Nat) : Prop where
  len : L.length = xs.length
  sm : small L
  low : L.take k = xs.take k
  eq : val (xs.drop k) = val (L.drop k) * v + r
  lt : r < v
theorem DivAt.start {xs : List Nat} (hs : small xs) {v : Nat} (hv : 0 < v) : DivAt xs v xs.length xs 0 :=
  ⟨rfl, hs, rfl, by rw [List.drop_length]; simp [val], hv⟩
theorem getD_take_eq {L xs : List Nat} {k : Nat} (h : L.take (k + 1) = xs.take (k + 1)) : L.getD k 0 = xs.getD k 0 := by
  have := congrArg (fun l : List Nat => l.getD k 0) h
  simpa [List.getD_eq_getElem?_getD, List.getElem?_take] using this
theorem div_word_lt {r v x : Nat} (hr : r < v) (hx : x < 4294967296) : (r * 4294967296 + x) / v < 4294967296 := by
  rw [Nat.div_lt_iff_lt_mul (by omega)]
  have : (r + 1) * 4294967296 ≤ v * 4294967296 := Nat.mul_le_mul_right _ hr
  rw [Nat.add_mul] at this
  rw [Nat.mul_comm 4294967296 v]
  omega
theorem DivAt.done {xs L : List Nat} {v r : Nat} (h : DivAt xs v 0 L r) : val L = val xs / v ∧ r = val xs % v := by
  have he := h.eq
  have hlt := h.lt
  simp only [List.drop_zero] at he
  rw [he]
  constructor
  · rw [Nat.mul_comm, Nat.mul_add_div (by omega), Nat.div_eq_of_lt hlt, Nat.add_zero]
  · rw [Nat.mul_comm, Nat.mul_add_mod, Nat.mod_eq_of_lt hlt]
theorem shl_or2 (r x : Nat) (hr : r < 4294967296) (hx : x < 4294967296) : bits BinOp.or IntKind.u64 ((r : Int) * 4294967296) (x : Int) = ((r * 4294967296 + x : Nat) : Int) := by
  rw [show (r : Int) * 4294967296 = ((r * 2 ^ 32 : Nat) : Int) by omega, u64_or_nat _ _ (by omega) (by omega), or_low _ _ _ (by omega)]
end Go.Proofs.YteabokkofoomkaaGreat
namespace Go.Proofs.YteabokkofoomkaaGreat
open Go.RowKit
/-- quotient and rest, as two slices of words -/
def Out2 (w : World) (q r : Nat) (e : Ending) (w' : World) : Prop :=
  ∃ A c B d, e = .returned (.tuple #[.slice A (words q).length c, .slice B (words r).length d]) ∧ Rd w' A (words q).length (words q) ∧ (words q).length ≤ c ∧ c ≤ 9223372036854775807 ∧ Rd w' B (words r).length (words r) ∧ (words r).length ≤ d ∧ d ≤ 9223372036854775807 ∧ Below w.heap.size w w'
theorem words_one {x : Nat} (h : x < 4294967296) (h0 : x ≠ 0) : words x = [x] := by
  rw [words_pos h0, Nat.mod_eq_of_lt h, Nat.div_eq_of_lt h, words_zero]
theorem val_one (x : Nat) : val [x] = x := by simp [val]
theorem small_one {x : Nat} (h : x < 4294967296) : small [x] := small_cons.2 ⟨h, small_nil⟩
end Go.Proofs.YteabokkofoomkaaGreat
namespace Go.Proofs.YteabokkofoomkaaGreat
open Go.RowKit
/-- a struct's cells read as the integer z -/
def Is (w : World) (z : Int) (t : Bool) (B : Option Addr) (m d : Nat) : Prop :=
  t = decide (z < 0) ∧ m = (words z.natAbs).length ∧ Rd w B m (words z.natAbs) ∧ m ≤ d ∧ d ≤ 9223372036854775807
theorem Is.below {w w' : World} {z : Int} {t : Bool} {B : Option Addr} {m d : Nat} (h : Is w z t B m d) (hb : Below w.heap.size w w') : Is w' z t B m d :=
  ⟨h.1, h.2.1, h.2.2.1.below hb, h.2.2.2⟩
theorem Is.set_other {w : World} {z : Int} {t : Bool} {B : Option Addr} {m d : Nat} (h : Is w z t B m d) {p : Addr} {v : Value} (hp : w.cell? p = some v) (hv : ∀ z, v ≠ .int .u32 z) (u : Value) : Is (w.setCell p u) z t B m d :=
  ⟨h.1, h.2.1, h.2.2.1.set_other hp hv u, h.2.2.2⟩
theorem Is.store {w : World} {z : Int} {t : Bool} {B : Option Addr} {m d : Nat} (h : Is w z t B m d) {g : Nat} {x : Bool} {a : Option Addr} {i j : Nat} (h0 : w.cell? ⟨g, 0, none⟩ = some (.bool x)) (h1 : w.cell? ⟨g, 1, none⟩ = some (.slice a i j)) (u v : Value) :
    Is ((w.setCell ⟨g, 0, none⟩ u).setCell ⟨g, 1, none⟩ v) z t B m d :=
  ⟨h.1, h.2.1, h.2.2.1.store h0 h1 u v, h.2.2.2⟩
theorem NumIs.is_ {w : World} {z k : Int} {t : Bool} {B : Option Addr} {m d : Nat} (h : NumIs w z t B m d k) (hl : (words z.natAbs).length ≤ 4096) : k = 0 ∧ Is w z t B m d := by
  obtain ⟨a, b⟩ := h.1 hl
  exact ⟨a, b⟩
def DivPost (w : World) (zq zr : Int) (e : Ending) (w' : World) : Prop :=
  ∃ t B m d t' B' m' d', e = .returned (.tuple #[.agg #[.bool t, .slice B m d], .agg #[.bool t', .slice B' m' d'], .int .i64 0]) ∧ Is w' zq t B m d ∧ Is w' zr t' B' m' d' ∧ Below w.heap.size w w'
theorem div_pos (s' : Bool) (X Y : Nat) : (X : Int) / sgn s' Y = sgn (false != s') (X / Y) ∧ (X : Int) % sgn s' Y = ((X % Y : Nat) : Int) := by
  cases s'
  · simp [sgn]
  · simp [sgn]
theorem div_neg0 (s' : Bool) (X Y : Nat) (hY : 0 < Y) (hr : X % Y = 0) : (-(X : Int)) / sgn s' Y = sgn (true != s') (X / Y) ∧ (-(X : Int)) % sgn s' Y = 0 := by
  have e : (X : Int) = (Y : Int) * ((X / Y : Nat) : Int) := by
    have := Nat.div_add_mod X Y
    rw [hr, Nat.add_zero] at this
    rw [← Int.natCast_mul, this]
  have e2 : -(X : Int) = (Y : Int) * -((X / Y : Nat) : Int) := by rw [Int.mul_neg, ← e]
  obtain ⟨Q, hQ⟩ : ∃ Q, Q = X / Y := ⟨_, rfl⟩
  rw [← hQ] at e2 ⊢
  rw [e2]
  have hY0 : (Y : Int) ≠ 0 := by omega
  cases s'
  · show (Y : Int) * -(Q : Int) / (Y : Int) = -(Q : Int) ∧ (Y : Int) * -(Q : Int) % (Y : Int) = 0
    exact ⟨Int.mul_ediv_cancel_left _ hY0, Int.mul_emod_right _ _⟩
  · show (Y : Int) * -(Q : Int) / -(Y : Int) = (Q : Int) ∧ (Y : Int) * -(Q : Int) % -(Y : Int) = 0
    rw [Int.ediv_neg, Int.mul_ediv_cancel_left _ hY0, Int.neg_neg, Int.emod_neg]
    exact ⟨rfl, Int.mul_emod_right _ _⟩
theorem div_neg1 (s' : Bool) (X Y : Nat) (hY : 0 < Y) (hr : 0 < X % Y) : (-(X : Int)) / sgn s' Y = sgn (true != s') (X / Y + 1) ∧ (-(X : Int)) % sgn s' Y = ((Y - X % Y : Nat) : Int) := by
  have hl := Nat.mod_lt X hY
  have hd := Nat.div_add_mod X Y
  obtain ⟨Q, hQ⟩ : ∃ Q, Q = X / Y := ⟨_, rfl⟩
  obtain ⟨R, hR⟩ : ∃ R, R = X % Y := ⟨_, rfl⟩
  rw [← hQ, ← hR] at hd
  rw [← hR] at hl hr
  rw [← hQ, ← hR]
  have hc : (Y : Int) * (Q : Int) + (R : Int) = (X : Int) := by rw [← hd]; simp
  have hu := (Int.ediv_emod_unique (a := -(X : Int)) (b := (Y : Int)) (q := -((Q + 1 : Nat) : Int)) (r := ((Y - R : Nat) : Int)) (by omega)).2 ⟨by
    rw [Int.mul_neg, Int.natCast_add, Int.mul_add]
    simp only [Int.natCast_one, Int.mul_one]
    omega, by omega, by omega⟩
  cases s'
  · exact hu
  · show -(X : Int) / -(Y : Int) = ((Q + 1 : Nat) : Int) ∧ -(X : Int) % -(Y : Int) = ((Y - R : Nat) : Int)
    rw [Int.ediv_neg, Int.emod_neg, hu.1, hu.2, Int.neg_neg]
    exact ⟨rfl, rfl⟩
/-- two numbers in boxes, and the cells of two results -/
structure Env4 (w W : World) (s s' : Bool) (A A' : Option Addr) (n c n' c' : Nat) : Prop where
  env : Env w W s s' A A' n c n' c'
  size : w.heap.size + 4 ≤ W.heap.size
  r0 : W.cell? ⟨w.heap.size + 1 + 1 + 1, 0, none⟩ = some (.bool false)
  r1 : W.cell? ⟨w.heap.size + 1 + 1 + 1, 1, none⟩ = some (.slice none 0 0)
  f0 : W.frozen? ⟨w.heap.size + 1 + 1 + 1, 0, none⟩ = false
  f1 : W.frozen? ⟨w.heap.size + 1 + 1 + 1, 1, none⟩ = false
theorem Env4.start (w : World) (s s' : Bool) (A A' : Option Addr) (n c n' c' : Nat) :
    Env4 w ((((w.alloc (.cells #[.bool s, .slice A n c] 58)).alloc (.cells #[.bool s', .slice A' n' c'] 58)).alloc (.cells #[.bool false, .slice none 0 0] 58)).alloc (.cells #[.bool false, .slice none 0 0] 58)) s s' A A' n c n' c' :=
  ⟨(Env.start w s s' A A' n c n' c').alloc _, by simp, by go_simp, by go_simp, by go_simp, by go_simp⟩
theorem Is.drew {w : World} {z : Int} {t : Bool} {B : Option Addr} {m d : Nat} (h : Is w z t B m d) : Is w.drew z t B m d := h.below (Below.refl _ _).drew
theorem div_done {w W W6 : World} {s s' : Bool} {A A' : Option Addr} {n c n' c' : Nat} {zq zr : Int} {t t' : Bool} {B B' : Option Addr} {m d m' d' : Nat} (E : Env4 w W s s' A A' n c n' c') (J1 : Is W zq t B m d) (J2 : Is W zr t' B' m' d')
    (hW : (((W.setCell ⟨w.heap.size + 1 + 1, 0, none⟩ (.bool t)).setCell ⟨w.heap.size + 1 + 1, 1, none⟩ (.slice B m d)).setCell ⟨w.heap.size + 1 + 1 + 1, 0, none⟩ (.bool t')).setCell ⟨w.heap.size + 1 + 1 + 1, 1, none⟩ (.slice B' m' d') = W6) :
    DivPost w zq zr (.returned (.tuple #[.agg #[.bool t, .slice B m d], .agg #[.bool t', .slice B' m' d'], .int .i64 0])) W6.drew := by
  subst hW
  have k0 := cell_two (u := .bool t) (v := .slice B m d) (show w.heap.size + 1 + 1 ≠ w.heap.size + 1 + 1 + 1 by omega) E.r0
  have k1 := cell_two (u := .bool t) (v := .slice B m d) (show w.heap.size + 1 + 1 ≠ w.heap.size + 1 + 1 + 1 by omega) E.r1
  refine ⟨t, B, m, d, t', B', m', d', rfl, ((J1.store E.env.r0 E.env.r1 _ _).store k0 k1 _ _).drew, ((J2.store E.env.r0 E.env.r1 _ _).store k0 k1 _ _).drew, ?_⟩
  exact (below_store (below_store E.env.below (by omega) _ _) (by omega) _ _).drew
end Go.Proofs.YteabokkofoomkaaGreat
namespace Go.Proofs.YteabokkofoomkaaGreat
open Go.RowKit
end Go.Proofs.YteabokkofoomkaaGreat
