import Derived.Test.YteabokkofoomkaaGreatCaf
import Derived.Test.YteabokkofoomkaaGreatCae
import Derived.Test.YteabokkofoomkaaGreatCad
import Derived.Test.YteabokkofoomkaaGreatCaa
import Derived.Test.YteabokkofoomkaaGreatCab
import Derived.Test.YteabokkofoomkaaGreatCac
import Derived.IntWalk
import Derived.Outline
namespace Go.Proofs.YteabokkofoomkaaGreat
open Go.RowKit
theorem sgn_mul (s s' : Bool) (X Y : Nat) : sgn (s != s') (X * Y) = sgn s X * sgn s' Y := by
 cases s <;> cases s' <;> simp [sgn, Int.neg_mul, Int.mul_neg, Int.neg_neg]
theorem mul_long {xs ys : List Nat} (cx : canon xs) (cy : canon ys) (hx : 0 < xs.length) (hy : 0 < ys.length) (h : 4096 < xs.length + ys.length - 1) : ¬ (words (val xs * val ys)).length ≤ 4096 := by
 intro h1
 have a : pw (xs.length - 1) ≤ val xs := by
  have := @words_len_lt (val xs) (xs.length - 1)
  rw [words_val cx] at this
  exact this.1 (by omega)
 have b : pw (ys.length - 1) ≤ val ys := by
  have := @words_len_lt (val ys) (ys.length - 1)
  rw [words_val cy] at this
  exact this.1 (by omega)
 have c : pw (xs.length - 1 + (ys.length - 1)) ≤ val xs * val ys := by rw [pw_add]; exact Nat.mul_le_mul a b
 have d := words_len_le.1 h1
 have e := pw_le (show 4096 ≤ xs.length - 1 + (ys.length - 1) by omega)
 omega
set_option maxHeartbeats 800000 in
set_option maxRecDepth 100000 in
theorem Mul_big (s s' : Bool) (A A' : Option Addr) (n c n' c' : Nat) (xs ys : List Nat) (w : World) (h : Rd w A n xs) (h' : Rd w A' n' ys) (vx : validB s xs = true) (vy : validB s' ys = true) (h0 : 0 < n) (h0' : 0 < n') (hbig : 4096 < n + n' - 1) :
 Calls Tryz.prog 110 #[.agg #[.bool s, .slice A n c], .agg #[.bool s', .slice A' n' c']] w (Num w (sgn s (val xs) * sgn s' (val ys))) := by
 have VX := Lib.hid (valid_canon h.sm vx)
 have VY := Lib.hid (valid_canon h'.sm vy)
 have HV := Lib.hid (show (validB s xs && validB s' ys) = true by rw [vx, vy]; rfl)
 have HX := h.len
 have HY := h'.len
 have hn := VX.out.2.1
 have hn' := VY.out.2.1
 have HN := Lib.hid (show ∀ w', NumIs w' (sgn s (val xs) * sgn s' (val ys)) false none 0 0 4 from fun w' => by
  rw [← sgn_mul]
  exact ⟨fun hl => absurd (by rw [sgn_abs] at hl; exact hl) (mul_long VX.out.1 VY.out.1 (by omega) (by omega) (by omega)), fun _ => ⟨rfl, rfl, rfl, rfl, rfl⟩⟩)
 clear vx vy
 rw [HX] at hn
 rw [HY] at hn'
 clear HX HY
 go_enter Tryz.func110, Tryz.ntmps110
 go_wp2_with fail
 have E := (Env.start w s s' A A' n c n' c').alloc (.cells #[.bool s, .slice A n c, .bool s', .slice A' n' c'] 58)
 refine (allValid_c (w.heap.size + 1 + 1 + 1) s s' A A' n c n' c' xs ys _ (h.below E.below) (h'.below E.below) (by simp) (by go_simp) (by go_simp) (by go_simp) (by go_simp)).mono ?_
 rintro e w1 ⟨rfl, hb⟩
 rw [HV.out]
 have E1 := Lib.hid (E.next hb)
 clear E hb
 have a1 := E1.out.a1
 have b1 := E1.out.b1
 have r0 := E1.out.r0
 have r1 := E1.out.r1
 have f0 := E1.out.f0
 have f1 := E1.out.f1
 go_wp2
 refine bodyPost_ret (v := .tuple #[.agg #[.bool false, .slice none 0 0], .int .i64 4]) (by simp [results, Tryz.results110, go_sem, r0, r1]) rfl ?_
 exact ⟨false, none, 0, 0, 4, rfl, HN.out _, below_store E1.out.below (by omega) _ _⟩
set_option maxHeartbeats 2000000 in
set_option maxRecDepth 100000 in
theorem Mul_fits (s s' : Bool) (A A' : Option Addr) (n c n' c' : Nat) (xs ys : List Nat) (w : World) (h : Rd w A n xs) (h' : Rd w A' n' ys) (vx : validB s xs = true) (vy : validB s' ys = true) (hc : n ≤ c) (hc' : n' ≤ c') (hcc : c ≤ 9223372036854775807) (hcc' : c' ≤ 9223372036854775807)
 (hsm : ¬ (0 < n ∧ 0 < n' ∧ 4096 < n + n' - 1)) :
 Calls Tryz.prog 110 #[.agg #[.bool s, .slice A n c], .agg #[.bool s', .slice A' n' c']] w (Num w (sgn s (val xs) * sgn s' (val ys))) := by
 have VX := Lib.hid (valid_canon h.sm vx)
 have VY := Lib.hid (valid_canon h'.sm vy)
 have HV := Lib.hid (show (validB s xs && validB s' ys) = true by rw [vx, vy]; rfl)
 have HX := h.len
 have HY := h'.len
 have hn := VX.out.2.1
 have hn' := VY.out.2.1
 clear vx vy
 rw [HX] at hn
 rw [HY] at hn'
 clear HX HY
 have MU := Lib.hid (fun w' hx hy => multiply_c A A' n c n' c' xs ys w' hx hy VX.out.1 VY.out.1 (by omega) (by omega) hc hc' hcc hcc')
 have hcase : n = 0 ∨ (0 < n ∧ n' = 0) ∨ (0 < n ∧ 0 < n' ∧ n + n' - 1 ≤ 4096) := by omega
 clear hsm hc hc' hcc hcc'
 rcases hcase with hz | ⟨hp, hz⟩ | ⟨hp, hp', hle⟩
 · subst hz
   go_enter Tryz.func110, Tryz.ntmps110
   go_wp2_with fail
   have E := (Env.start w s s' A A' 0 c n' c').alloc (.cells #[.bool s, .slice A 0 c, .bool s', .slice A' n' c'] 58)
   refine (allValid_c (w.heap.size + 1 + 1 + 1) s s' A A' 0 c n' c' xs ys _ (h.below E.below) (h'.below E.below) (by simp) (by go_simp) (by go_simp) (by go_simp) (by go_simp)).mono ?_
   rintro e w1 ⟨rfl, hb⟩
   rw [HV.out]
   have E1 := Lib.hid (E.next hb)
   clear E hb
   have a0 := E1.out.a0
   have a1 := E1.out.a1
   have b0 := E1.out.b0
   have b1 := E1.out.b1
   go_wp2_with fail
   have hx := (h.below E1.out.below).drew
   have hy := (h'.below E1.out.below).drew
   go_region_held3 (fun w' => w'.cell? ⟨w.heap.size, 0, none⟩ = some (.bool s) ∧ w'.cell? ⟨w.heap.size, 1, none⟩ = some (.slice A 0 c) ∧ w'.cell? ⟨w.heap.size + 1, 0, none⟩ = some (.bool s') ∧ w'.cell? ⟨w.heap.size + 1, 1, none⟩ = some (.slice A' n' c')) (first | (go_keep; done) | (refine ⟨cell_two (by omega) l0, cell_two (by omega) l1, cell_two (by omega) l2, cell_two (by omega) l3⟩))
    (first
     | (go_at_call 131
        refine (MU.out _ hx hy).mono ?_
        rintro e w2 ⟨B, d, rfl, q1, q2, q3, q4, -⟩
        have E2 := Lib.hid ((E1.out.drewN 1).next q4)
        have k0 := E2.out.a0
        have k1 := E2.out.a1
        have k2 := E2.out.b0
        have k3 := E2.out.b1)
     | (go_at_call 130
        refine (number_c (s != s') B _ d _ w2 q1 q2 q3).mono ?_
        rintro e w3 ⟨t, B2, m2, d2, k, rfl, p1, p2⟩
        have E3 := Lib.hid (E2.out.next p2)
        have l0 := E3.out.a0
        have l1 := E3.out.a1
        have l2 := E3.out.b0
        have l3 := E3.out.b1
        have r0 := E3.out.r0
        have r1 := E3.out.r1
        have f0 := E3.out.f0
        have f1 := E3.out.f1))
   go_wp2
   rw [val_words, sgn_mul] at p1
   refine bodyPost_ret (v := .tuple #[.agg #[.bool t, .slice B2 m2 d2], .int .i64 k]) (by simp [results, Tryz.results110, go_sem, r0, r1]) rfl ?_
   exact ⟨t, B2, m2, d2, k, rfl, p1.store r0 r1 _ _, below_store E3.out.below (by omega) _ _⟩
 · subst hz
   go_enter Tryz.func110, Tryz.ntmps110
   go_wp2_with fail
   have E := (Env.start w s s' A A' n c 0 c').alloc (.cells #[.bool s, .slice A n c, .bool s', .slice A' 0 c'] 58)
   refine (allValid_c (w.heap.size + 1 + 1 + 1) s s' A A' n c 0 c' xs ys _ (h.below E.below) (h'.below E.below) (by simp) (by go_simp) (by go_simp) (by go_simp) (by go_simp)).mono ?_
   rintro e w1 ⟨rfl, hb⟩
   rw [HV.out]
   have E1 := Lib.hid (E.next hb)
   clear E hb
   have a0 := E1.out.a0
   have a1 := E1.out.a1
   have b0 := E1.out.b0
   have b1 := E1.out.b1
   go_wp2_with fail
   have hx := (h.below E1.out.below).drew
   have hy := (h'.below E1.out.below).drew
   go_region_held3 (fun w' => w'.cell? ⟨w.heap.size, 0, none⟩ = some (.bool s) ∧ w'.cell? ⟨w.heap.size, 1, none⟩ = some (.slice A n c) ∧ w'.cell? ⟨w.heap.size + 1, 0, none⟩ = some (.bool s') ∧ w'.cell? ⟨w.heap.size + 1, 1, none⟩ = some (.slice A' 0 c')) (first | (go_keep; done) | (refine ⟨cell_two (by omega) l0, cell_two (by omega) l1, cell_two (by omega) l2, cell_two (by omega) l3⟩))
    (first
     | (go_at_call 131
        refine (MU.out _ hx hy).mono ?_
        rintro e w2 ⟨B, d, rfl, q1, q2, q3, q4, -⟩
        have E2 := Lib.hid ((E1.out.drewN 1).next q4)
        have k0 := E2.out.a0
        have k1 := E2.out.a1
        have k2 := E2.out.b0
        have k3 := E2.out.b1)
     | (go_at_call 130
        refine (number_c (s != s') B _ d _ w2 q1 q2 q3).mono ?_
        rintro e w3 ⟨t, B2, m2, d2, k, rfl, p1, p2⟩
        have E3 := Lib.hid (E2.out.next p2)
        have l0 := E3.out.a0
        have l1 := E3.out.a1
        have l2 := E3.out.b0
        have l3 := E3.out.b1
        have r0 := E3.out.r0
        have r1 := E3.out.r1
        have f0 := E3.out.f0
        have f1 := E3.out.f1))
   go_wp2
   rw [val_words, sgn_mul] at p1
   refine bodyPost_ret (v := .tuple #[.agg #[.bool t, .slice B2 m2 d2], .int .i64 k]) (by simp [results, Tryz.results110, go_sem, r0, r1]) rfl ?_
   exact ⟨t, B2, m2, d2, k, rfl, p1.store r0 r1 _ _, below_store E3.out.below (by omega) _ _⟩
 · go_enter Tryz.func110, Tryz.ntmps110
   go_wp2_with fail
   have E := (Env.start w s s' A A' n c n' c').alloc (.cells #[.bool s, .slice A n c, .bool s', .slice A' n' c'] 58)
   refine (allValid_c (w.heap.size + 1 + 1 + 1) s s' A A' n c n' c' xs ys _ (h.below E.below) (h'.below E.below) (by simp) (by go_simp) (by go_simp) (by go_simp) (by go_simp)).mono ?_
   rintro e w1 ⟨rfl, hb⟩
   rw [HV.out]
   have E1 := Lib.hid (E.next hb)
   clear E hb
   have a0 := E1.out.a0
   have a1 := E1.out.a1
   have b0 := E1.out.b0
   have b1 := E1.out.b1
   go_wp2_with fail
   have hx := (h.below E1.out.below).drew
   have hy := (h'.below E1.out.below).drew
   go_region_held3 (fun w' => w'.cell? ⟨w.heap.size, 0, none⟩ = some (.bool s) ∧ w'.cell? ⟨w.heap.size, 1, none⟩ = some (.slice A n c) ∧ w'.cell? ⟨w.heap.size + 1, 0, none⟩ = some (.bool s') ∧ w'.cell? ⟨w.heap.size + 1, 1, none⟩ = some (.slice A' n' c')) (first | (go_keep; done) | (refine ⟨cell_two (by omega) l0, cell_two (by omega) l1, cell_two (by omega) l2, cell_two (by omega) l3⟩))
    (first
     | (go_at_call 131
        refine (MU.out _ hx hy).mono ?_
        rintro e w2 ⟨B, d, rfl, q1, q2, q3, q4, -⟩
        have E2 := Lib.hid ((E1.out.drewN 1).next q4)
        have k0 := E2.out.a0
        have k1 := E2.out.a1
        have k2 := E2.out.b0
        have k3 := E2.out.b1)
     | (go_at_call 130
        refine (number_c (s != s') B _ d _ w2 q1 q2 q3).mono ?_
        rintro e w3 ⟨t, B2, m2, d2, k, rfl, p1, p2⟩
        have E3 := Lib.hid (E2.out.next p2)
        have l0 := E3.out.a0
        have l1 := E3.out.a1
        have l2 := E3.out.b0
        have l3 := E3.out.b1
        have r0 := E3.out.r0
        have r1 := E3.out.r1
        have f0 := E3.out.f0
        have f1 := E3.out.f1))
   go_wp2
   rw [val_words, sgn_mul] at p1
   refine bodyPost_ret (v := .tuple #[.agg #[.bool t, .slice B2 m2 d2], .int .i64 k]) (by simp [results, Tryz.results110, go_sem, r0, r1]) rfl ?_
   exact ⟨t, B2, m2, d2, k, rfl, p1.store r0 r1 _ _, below_store E3.out.below (by omega) _ _⟩
theorem Mul_ok (s s' : Bool) (A A' : Option Addr) (n c n' c' : Nat) (xs ys : List Nat) (w : World) (h : Rd w A n xs) (h' : Rd w A' n' ys) (vx : validB s xs = true) (vy : validB s' ys = true) (hc : n ≤ c) (hc' : n' ≤ c') (hcc : c ≤ 9223372036854775807) (hcc' : c' ≤ 9223372036854775807) :
 Calls Tryz.prog 110 #[.agg #[.bool s, .slice A n c], .agg #[.bool s', .slice A' n' c']] w (Num w (sgn s (val xs) * sgn s' (val ys))) := by
 by_cases hb : 0 < n ∧ 0 < n' ∧ 4096 < n + n' - 1
 · exact Mul_big s s' A A' n c n' c' xs ys w h h' vx vy hb.1 hb.2.1 hb.2.2
 · exact Mul_fits s s' A A' n c n' c' xs ys w h h' vx vy hc hc' hcc hcc' hb
structure DivAt (xs : List Nat) (v k : Nat) (L : List Nat) (r : Nat) : Prop where
 len : L.length = xs.length
 sm : small L
 low : L.take k = xs.take k
 eq : val (xs.drop k) = val (L.drop k) * v + r
 lt : r < v
theorem DivAt.start {xs : List Nat} (hs : small xs) {v : Nat} (hv : 0 < v) : DivAt xs v xs.length xs 0 :=
 ⟨rfl, hs, rfl, by rw [List.drop_length]; simp [val], hv⟩
theorem drop_get (xs : List Nat) (k : Nat) (h : k < xs.length) : val (xs.drop k) = xs.getD k 0 + 4294967296 * val (xs.drop (k + 1)) := by
 rw [List.drop_eq_getElem_cons h, val_cons]
 simp [List.getD_eq_getElem?_getD, List.getElem?_eq_getElem h]
theorem div_word_lt {r v x : Nat} (hr : r < v) (hx : x < 4294967296) : (r * 4294967296 + x) / v < 4294967296 := by
 rw [Nat.div_lt_iff_lt_mul (by omega)]
 have : (r + 1) * 4294967296 ≤ v * 4294967296 := Nat.mul_le_mul_right _ hr
 rw [Nat.add_mul] at this
 rw [Nat.mul_comm 4294967296 v]
 omega
theorem DivAt.next {xs L : List Nat} {v k r : Nat} (h : DivAt xs v (k + 1) L r) (hs : small xs) (hk : k < xs.length) :
 DivAt xs v k (L.set k ((r * 4294967296 + xs.getD k 0) / v)) ((r * 4294967296 + xs.getD k 0) % v) := by
 have hx := small_get hs k
 have hlt := h.lt
 have hq := div_word_lt hlt hx
 refine ⟨by rw [List.length_set]; exact h.len, small_set h.sm _ _ hq, ?_, ?_, Nat.mod_lt _ (by omega)⟩
 · have h1 := congrArg (fun l : List Nat => l.take k) h.low
   simp only [List.take_take, Nat.min_eq_left (Nat.le_succ k)] at h1
   rw [List.take_set_of_le (Nat.le_refl k)]
   exact h1
 · have e1 := drop_get xs k hk
   have e2 := drop_get (L.set k ((r * 4294967296 + xs.getD k 0) / v)) k (by rw [List.length_set, h.len]; exact hk)
   have e4 : (L.set k ((r * 4294967296 + xs.getD k 0) / v)).drop (k + 1) = L.drop (k + 1) := List.drop_set_of_lt (by omega)
   rw [e4] at e2
   have e3 : (L.set k ((r * 4294967296 + xs.getD k 0) / v)).getD k 0 = (r * 4294967296 + xs.getD k 0) / v := by
    rw [List.getD_eq_getElem?_getD, List.getElem?_set_self (by rw [h.len]; exact hk)]; rfl
   rw [e3] at e2
   rw [e1, e2, h.eq]
   have hd := Nat.div_add_mod (r * 4294967296 + xs.getD k 0) v
   generalize xs.getD k 0 = x at *
   generalize (r * 4294967296 + x) / v = q at *
   generalize (r * 4294967296 + x) % v = m at *
   generalize val (L.drop (k + 1)) = Q at *
   rw [Nat.add_mul, Nat.mul_comm q v, Nat.mul_assoc]
   omega
theorem DivAt.done {xs L : List Nat} {v r : Nat} (h : DivAt xs v 0 L r) : val L = val xs / v ∧ r = val xs % v := by
 have he := h.eq
 have hlt := h.lt
 simp only [List.drop_zero] at he
 rw [he]
 constructor
 · rw [Nat.mul_comm, Nat.mul_add_div (by omega), Nat.div_eq_of_lt hlt, Nat.add_zero]
 · rw [Nat.mul_comm, Nat.mul_add_mod, Nat.mod_eq_of_lt hlt]
theorem words_one {x : Nat} (h : x < 4294967296) (h0 : x ≠ 0) : words x = [x] := by
 rw [words_pos h0, Nat.mod_eq_of_lt h, Nat.div_eq_of_lt h, words_zero]
def Is (w : World) (z : Int) (t : Bool) (B : Option Addr) (m d : Nat) : Prop :=
 t = decide (z < 0) ∧ m = (words z.natAbs).length ∧ Rd w B m (words z.natAbs) ∧ m ≤ d ∧ d ≤ 9223372036854775807
theorem Is.below {w w' : World} {z : Int} {t : Bool} {B : Option Addr} {m d : Nat} (h : Is w z t B m d) (hb : Below w.heap.size w w') : Is w' z t B m d :=
 ⟨h.1, h.2.1, h.2.2.1.below hb, h.2.2.2⟩
theorem Is.set_other {w : World} {z : Int} {t : Bool} {B : Option Addr} {m d : Nat} (h : Is w z t B m d) {p : Addr} {v : Value} (hp : w.cell? p = some v) (hv : ∀ z, v ≠ .int .u32 z) (u : Value) : Is (w.setCell p u) z t B m d :=
 ⟨h.1, h.2.1, h.2.2.1.set_other hp hv u, h.2.2.2⟩
theorem Is.store {w : World} {z : Int} {t : Bool} {B : Option Addr} {m d : Nat} (h : Is w z t B m d) {g : Nat} {x : Bool} {a : Option Addr} {i j : Nat} (h0 : w.cell? ⟨g, 0, none⟩ = some (.bool x)) (h1 : w.cell? ⟨g, 1, none⟩ = some (.slice a i j)) (u v : Value) :
 Is ((w.setCell ⟨g, 0, none⟩ u).setCell ⟨g, 1, none⟩ v) z t B m d :=
 ⟨h.1, h.2.1, h.2.2.1.store h0 h1 u v, h.2.2.2⟩
theorem NumIs.is_ {w : World} {z k : Int} {t : Bool} {B : Option Addr} {m d : Nat} (h : NumIs w z t B m d k) (hl : (words z.natAbs).length ≤ 4096) : k = 0 ∧ Is w z t B m d := by
 obtain ⟨a, b⟩ := h.1 hl
 exact ⟨a, b⟩
theorem Is.drew {w : World} {z : Int} {t : Bool} {B : Option Addr} {m d : Nat} (h : Is w z t B m d) : Is w.drew z t B m d := h.below (Below.refl _ _).drew
theorem valid_words {s : Bool} {m : Nat} (h : (words m).length ≤ 4096) (hs : m = 0 → s = false) : validB s (words m) = true := by
 unfold validB
 by_cases h0 : (words m).length = 0
 · rw [if_pos h0, hs (words_nil.1 (List.eq_nil_of_length_eq_zero h0))]; rfl
 · rw [if_neg h0]
   simp only [Bool.and_eq_true, decide_eq_true_eq]
   exact ⟨h, canon_last (words_canon m) (by omega)⟩
def OneN (w : World) (n : Nat) (e : Ending) (w' : World) : Prop :=
 ∃ A c, e = .returned (.agg #[.bool false, .slice A (words n).length c]) ∧ Rd w' A (words n).length (words n) ∧ (words n).length ≤ c ∧ c ≤ 9223372036854775807 ∧ Below w.heap.size w w'
theorem of_nat (n : Nat) (w : World) (h : n < 9223372036854775808) : Calls Tryz.prog 97 #[.int .i64 (n : Int)] w (OneN w n) :=
 (Of_c (n : Int) w (by omega) (by omega)).mono fun e w' h => by
  obtain ⟨A, c, he, h1, h2, h3, h4⟩ := h
  rw [decide_eq_false (by omega)] at he
  exact ⟨A, c, he, h1, h2, h3, h4⟩
def Sz (z : Int) (k : Nat) : Prop := z.natAbs < pw k
theorem Sz.le {z : Int} {k k' : Nat} (h : Sz z k) (hk : k ≤ k') : Sz z k' := Nat.lt_of_lt_of_le h (pw_le hk)
theorem Sz.add {z z' : Int} {k : Nat} (h : Sz z k) (h' : Sz z' k) : Sz (z + z') (k + 1) := by
 have h1 : z.natAbs < pw k := h
 have h2 : z'.natAbs < pw k := h'
 show (z + z').natAbs < pw (k + 1)
 have h3 := pw_succ k
 omega
theorem Sz.sub {z z' : Int} {k : Nat} (h : Sz z k) (h' : Sz z' k) : Sz (z - z') (k + 1) := by
 have h1 : z.natAbs < pw k := h
 have h2 : z'.natAbs < pw k := h'
 show (z - z').natAbs < pw (k + 1)
 have h3 := pw_succ k
 omega
theorem Sz.mul {z z' : Int} {k k' : Nat} (h : Sz z k) (h' : Sz z' k') : Sz (z * z') (k + k') := by
 show (z * z').natAbs < pw (k + k')
 rw [Int.natAbs_mul]
 exact mul_lt_pw h h'
theorem Sz.len {z : Int} {k : Nat} (h : Sz z k) : (words z.natAbs).length ≤ k := words_len_le.2 h
theorem Is.len {w : World} {z : Int} {t : Bool} {A : Option Addr} {n c : Nat} (h : Is w z t A n c) {k : Nat} (hk : Sz z k) : n ≤ k := by
 rw [h.2.1]; exact hk.len
theorem sgn_self (z : Int) : sgn (decide (z < 0)) z.natAbs = z := by
 unfold sgn
 by_cases h : z < 0
 · rw [decide_eq_true h, if_pos rfl]; omega
 · rw [decide_eq_false h]; simp; omega
theorem Is.raw {w : World} {z : Int} {t : Bool} {A : Option Addr} {n c : Nat} (h : Is w z t A n c) {k : Nat} (hz : Sz z k) (hk : k ≤ 4096) :
 Rd w A n (words z.natAbs) ∧ validB t (words z.natAbs) = true ∧ sgn t (val (words z.natAbs)) = z ∧ n ≤ c ∧ c ≤ 9223372036854775807 := by
 have hl := hz.len
 obtain ⟨rfl, _, r, h1, h2⟩ := h
 exact ⟨r, valid_words (by omega) (fun h => by rw [decide_eq_false (by omega)]), by rw [val_words]; exact sgn_self z, h1, h2⟩
theorem Is.of_valid {w : World} {s : Bool} {A : Option Addr} {n c : Nat} {xs : List Nat} (h : Rd w A n xs) (hv : validB s xs = true) (hn : n ≤ c) (hc : c ≤ 9223372036854775807) : Is w (sgn s (val xs)) s A n c := by
 obtain ⟨hcan, h4, h0⟩ := valid_canon h.sm hv
 have e := words_val hcan
 refine ⟨?_, ?_, ?_, hn, hc⟩
 · by_cases hz : val xs = 0
   · rw [h0 hz, hz, sgn_zero]; rfl
   · exact (sgn_lt s _ hz).symm
 · rw [sgn_abs, e, h.len]
 · rw [sgn_abs, e]; exact h
section
variable {w : World} {z z' : Int} {t t' : Bool} {A A' : Option Addr} {n c n' c' : Nat}
theorem Add_is {k : Nat} (h : Is w z t A n c) (h' : Is w z' t' A' n' c') (hz : Sz z k) (hz' : Sz z' k) (hk : k ≤ 4096) :
 Calls Tryz.prog 109 #[.agg #[.bool t, .slice A n c], .agg #[.bool t', .slice A' n' c']] w (Num w (z + z')) := by
 obtain ⟨r, v, s, _, _⟩ := h.raw hz hk
 obtain ⟨r', v', s', _, _⟩ := h'.raw hz' hk
 have := Add_ok t t' A A' n c n' c' _ _ w r r' v v'
 rwa [s, s'] at this
theorem Sub_is {k : Nat} (h : Is w z t A n c) (h' : Is w z' t' A' n' c') (hz : Sz z k) (hz' : Sz z' k) (hk : k ≤ 4096) :
 Calls Tryz.prog 167 #[.agg #[.bool t, .slice A n c], .agg #[.bool t', .slice A' n' c']] w (Num w (z - z')) := by
 obtain ⟨r, v, s, _, _⟩ := h.raw hz hk
 obtain ⟨r', v', s', _, _⟩ := h'.raw hz' hk
 have := Sub_ok t t' A A' n c n' c' _ _ w r r' v v'
 rwa [s, s'] at this
theorem Mul_is {k : Nat} (h : Is w z t A n c) (h' : Is w z' t' A' n' c') (hz : Sz z k) (hz' : Sz z' k) (hk : k ≤ 4096) :
 Calls Tryz.prog 110 #[.agg #[.bool t, .slice A n c], .agg #[.bool t', .slice A' n' c']] w (Num w (z * z')) := by
 obtain ⟨r, v, s, x, y⟩ := h.raw hz hk
 obtain ⟨r', v', s', x', y'⟩ := h'.raw hz' hk
 have := Mul_ok t t' A A' n c n' c' _ _ w r r' v v' x x' y y'
 rwa [s, s'] at this
theorem Cmp_is {k : Nat} (h : Is w z t A n c) (h' : Is w z' t' A' n' c') (hz : Sz z k) (hz' : Sz z' k) (hk : k ≤ 4096) :
 Calls Tryz.prog 139 #[.agg #[.bool t, .slice A n c], .agg #[.bool t', .slice A' n' c']] w (fun e w' => e = .returned (.tuple #[.int .i64 (ord z z'), .int .i64 0]) ∧ Below w.heap.size w w') := by
 obtain ⟨r, v, s, _, _⟩ := h.raw hz hk
 obtain ⟨r', v', s', _, _⟩ := h'.raw hz' hk
 have := Cmp_ok t t' A A' n c n' c' _ _ w r r' v v'
 rwa [s, s'] at this
theorem same_is {k : Nat} (h : Is w z t A n c) (h' : Is w z' t' A' n' c') (hz : Sz z k) (hk : k ≤ 4096) :
 Calls Tryz.prog 29 #[.agg #[.bool t, .slice A n c], .agg #[.bool t', .slice A' n' c']] w (fun e w' => e = .returned (.bool (decide (z = z'))) ∧ Below w.heap.size w w') := by
 have hn := h.len hz
 obtain ⟨rfl, _, r, _, _⟩ := h
 obtain ⟨rfl, _, r', _, _⟩ := h'
 have := Same_c (decide (z < 0)) (decide (z' < 0)) A A' n c n' c' _ _ w r r' (by omega)
 rwa [same_iff] at this
theorem same_eq {k : Nat} (h : Is w z t A n c) (h' : Is w z' t' A' n' c') (hz : Sz z k) (hk : k ≤ 4096) (e : z = z') :
 Calls Tryz.prog 29 #[.agg #[.bool t, .slice A n c], .agg #[.bool t', .slice A' n' c']] w (fun e w' => e = .returned (.bool true) ∧ Below w.heap.size w w') := by
 have := same_is h h' hz hk
 rwa [decide_eq_true e] at this
end
structure Box (W : World) (b : Nat) (z : Int) (t : Bool) (A : Option Addr) (n c : Nat) : Prop where
 lt : b < W.heap.size
 c0 : W.cell? ⟨b, 0, none⟩ = some (.bool t)
 c1 : W.cell? ⟨b, 1, none⟩ = some (.slice A n c)
 is : Is W z t A n c
theorem below_alloc (W : World) (o : Obj) : Below W.heap.size W (W.alloc o) := (Below.refl _ _).alloc (Nat.le_refl _) o
theorem Box.next {W w1 : World} {b : Nat} {z : Int} {t : Bool} {A : Option Addr} {n c : Nat} (h : Box W b z t A n c) (hb : Below W.heap.size W w1) : Box w1 b z t A n c :=
 ⟨Nat.lt_of_lt_of_le h.lt hb.size, (hb.cell (p := ⟨b, 0, none⟩) h.lt).trans h.c0, (hb.cell (p := ⟨b, 1, none⟩) h.lt).trans h.c1, h.is.below hb⟩
theorem Box.new {W : World} {z : Int} {t : Bool} {A : Option Addr} {n c : Nat} (h : Is W z t A n c) : Box (W.alloc (.cells #[.bool t, .slice A n c] 58)) W.heap.size z t A n c :=
 ⟨by simp, by go_simp, by go_simp, h.below (below_alloc _ _)⟩
theorem Box.alloc {W : World} {b : Nat} {z : Int} {t : Bool} {A : Option Addr} {n c : Nat} (h : Box W b z t A n c) (o : Obj) : Box (W.alloc o) b z t A n c := h.next (below_alloc _ _)
theorem sz_valid {s : Bool} {n k : Nat} {xs : List Nat} {w : World} {A : Option Addr} (h : Rd w A n xs) (hn : n ≤ k) : Sz (sgn s (val xs)) k := by
 show (sgn s (val xs)).natAbs < pw k
 rw [sgn_abs]
 have h1 := val_lt h.sm
 rw [h.len] at h1
 exact Nat.lt_of_lt_of_le h1 (pw_le hn)
theorem sz_zero {k : Nat} : Sz 0 k := by
 show (0 : Int).natAbs < pw k
 unfold pw; exact Nat.pow_pos (by omega)
set_option maxHeartbeats 400000 in
theorem zero_c (s : Bool) (A : Option Addr) (n c : Nat) (w : World) : Calls Tryz.prog 26 #[.agg #[.bool s, .slice A n c]] w fun e w' => e = .returned (.bool (decide (n = 0))) ∧ Below w.heap.size w w' := by
 by_cases h : n = 0
 · subst h
   go_enter Tryz.func26, Tryz.ntmps26
   go_wp2
   go_ret
   exact ⟨rfl, below_alloc _ _⟩
 · have H := Lib.hid (show decide (n = 0) = false from decide_eq_false h)
   have t0 : ((n : Int) == 0) = false := by rw [beq_eq_false_iff_ne]; omega
   clear h
   go_enter Tryz.func26, Tryz.ntmps26
   go_wp2
   go_ret
   exact ⟨by rw [H.out]; rfl, below_alloc _ _⟩
end Go.Proofs.YteabokkofoomkaaGreat
namespace Go.Proofs.YteabokkofoomkaaGreat
structure ShAt (xs : List Nat) (s k : Nat) (L : List Nat) : Prop where
 len : L.length = xs.length + 1
 sm : small L
 rest : ∀ j, k < j → L.getD j 0 = 0
 top : L.getD k 0 < 2 ^ s
 eq : val L = val (xs.take k) * 2 ^ s
theorem ShAt.start (xs : List Nat) (s : Nat) : ShAt xs s 0 (List.replicate (xs.length + 1) 0) :=
 ⟨by simp, fun x hx => by have := List.eq_of_mem_replicate hx; omega, fun j _ => getD_replicate _ _, by rw [getD_replicate]; exact two_pos s, by rw [val_replicate]; simp [val]⟩
theorem two_split (s : Nat) (h : s < 32) : 4294967296 = 2 ^ (32 - s) * 2 ^ s := by
 rw [← Nat.pow_add, show 32 - s + s = 32 by omega]
theorem getD_set_eq {L : List Nat} {i v : Nat} (h : i < L.length) : (L.set i v).getD i 0 = v := by
 simp [List.getD_eq_getElem?_getD, h]
theorem ShAt.or_eq {xs L : List Nat} {s k : Nat} (h : ShAt xs s k L) (hs : s < 32) : L.getD k 0 ||| (xs.getD k 0 * 2 ^ s % 4294967296) = L.getD k 0 + xs.getD k 0 * 2 ^ s % 4294967296 := by
 rw [two_split s hs, Nat.mul_mod_mul_right, Nat.or_comm, or_low _ _ _ h.top, Nat.add_comm]
theorem ShAt.low_lt {xs L : List Nat} {s k : Nat} (h : ShAt xs s k L) (hs : s < 32) : L.getD k 0 + xs.getD k 0 * 2 ^ s % 4294967296 < 4294967296 := by
 have h1 := h.top
 have h2 : xs.getD k 0 * 2 ^ s % 4294967296 = (xs.getD k 0 % 2 ^ (32 - s)) * 2 ^ s := by rw [two_split s hs, Nat.mul_mod_mul_right]
 have h3 := Nat.mod_lt (xs.getD k 0) (two_pos (32 - s))
 have h4 : (xs.getD k 0 % 2 ^ (32 - s) + 1) * 2 ^ s ≤ 2 ^ (32 - s) * 2 ^ s := Nat.mul_le_mul_right _ h3
 rw [← two_split s hs, Nat.add_mul, Nat.one_mul] at h4
 omega
theorem ShAt.next {xs L : List Nat} {s k : Nat} (h : ShAt xs s k L) (hx : small xs) (hs : s < 32) (hk : k < xs.length) :
 ShAt xs s (k + 1) ((L.set k (L.getD k 0 + xs.getD k 0 * 2 ^ s % 4294967296)).set (k + 1) (xs.getD k 0 * 2 ^ s / 4294967296)) := by
 have hl := h.len
 have hlow := h.low_lt hs
 have hx1 := small_get hx k
 have h2s := two_pos s
 have hhi : xs.getD k 0 * 2 ^ s / 4294967296 < 2 ^ s := by
  rw [Nat.div_lt_iff_lt_mul (by omega), Nat.mul_comm (2 ^ s)]
  exact Nat.mul_lt_mul_of_pos_right hx1 h2s
 have h231 := two_le hs
 refine ⟨by simp [hl], small_set (small_set h.sm _ _ hlow) _ _ (by omega), fun j hj => ?_, ?_, ?_⟩
 · rw [getD_set_ne (by omega), getD_set_ne (by omega)]; exact h.rest j (by omega)
 · rw [getD_set_eq (by simp; omega)]; exact hhi
 · have e1 := val_set L k (L.getD k 0 + xs.getD k 0 * 2 ^ s % 4294967296) (by omega)
   have e2 := val_set (L.set k (L.getD k 0 + xs.getD k 0 * 2 ^ s % 4294967296)) (k + 1) (xs.getD k 0 * 2 ^ s / 4294967296) (by simp; omega)
   rw [getD_set_ne (by omega), h.rest (k + 1) (by omega), Nat.mul_zero, Nat.add_zero] at e2
   rw [e2]
   have e3 := val_take_step xs k
   rw [e3, Nat.add_mul, ← h.eq]
   have e4 := Nat.div_add_mod (xs.getD k 0 * 2 ^ s) 4294967296
   have e5 : pw k * xs.getD k 0 * 2 ^ s = pw k * (4294967296 * (xs.getD k 0 * 2 ^ s / 4294967296) + xs.getD k 0 * 2 ^ s % 4294967296) := by rw [e4, Nat.mul_assoc]
   rw [e5, Nat.mul_add, pw_succ]
   rw [Nat.mul_add] at e1
   have e6 : pw k * (4294967296 * (xs.getD k 0 * 2 ^ s / 4294967296)) = 4294967296 * pw k * (xs.getD k 0 * 2 ^ s / 4294967296) := by rw [← Nat.mul_assoc, Nat.mul_comm (pw k)]
   omega
theorem ShAt.done {xs L : List Nat} {s : Nat} (h : ShAt xs s xs.length L) : val L = val xs * 2 ^ s := by
 rw [h.eq, List.take_length]
end Go.Proofs.YteabokkofoomkaaGreat
namespace Go.Proofs.YteabokkofoomkaaGreat
structure MulSub (xs ys : List Nat) (F j : Nat) (cs : List Nat) (carry borrow : Nat) : Prop where
 len : cs.length = xs.length
 sm : small cs
 rest : cs.drop j = xs.drop j
 eq : val (cs.take j) + F * val (ys.take j) = val (xs.take j) + pw j * (borrow + carry)
 lt : carry < 4294967296
 bo : borrow ≤ 1
theorem MulSub.start {xs : List Nat} (ys : List Nat) (F : Nat) (h : small xs) : MulSub xs ys F 0 xs 0 0 :=
 ⟨rfl, h, rfl, by simp [val], by omega, by omega⟩
theorem mul_word {F w c : Nat} (hF : F < 4294967296) (hw : w < 4294967296) (hc : c < 4294967296) : F * w + c < 18446744073709551616 := by
 have := mul_word_le hF hw
 omega
theorem MulSub.next {xs ys cs : List Nat} {F j carry borrow : Nat} (h : MulSub xs ys F j cs carry borrow) (hF : F < 4294967296) (hx : small xs) (hy : small ys) (hj : j < ys.length) (hl : ys.length < xs.length) :
 MulSub xs ys F (j + 1) (cs.set j ((xs.getD j 0 + 4294967296 - (F * ys.getD j 0 + carry) % 4294967296 - borrow) % 4294967296)) ((F * ys.getD j 0 + carry) / 4294967296) (if xs.getD j 0 < (F * ys.getD j 0 + carry) % 4294967296 + borrow then 1 else 0) := by
 have hw := small_get hy j
 have hxx := small_get hx j
 have ht := mul_word hF hw h.lt
 have hlen := h.len
 obtain ⟨x, hxd⟩ : ∃ x, x = xs.getD j 0 := ⟨_, rfl⟩
 obtain ⟨w, hwd⟩ : ∃ w, w = ys.getD j 0 := ⟨_, rfl⟩
 rw [← hxd, ← hwd]
 rw [← hxd] at hxx
 rw [← hwd] at hw ht
 obtain ⟨t, htd⟩ : ∃ t, t = F * w + carry := ⟨_, rfl⟩
 rw [← htd]
 rw [← htd] at ht
 obtain ⟨d, hd⟩ : ∃ d, d = (x + 4294967296 - t % 4294967296 - borrow) % 4294967296 := ⟨_, rfl⟩
 obtain ⟨b', hb'⟩ : ∃ b', b' = if x < t % 4294967296 + borrow then 1 else 0 := ⟨_, rfl⟩
 rw [← hd, ← hb']
 have hbo := h.bo
 have key : d + t % 4294967296 + borrow = x + 4294967296 * b' := by
  rw [hd, hb']; split <;> omega
 have hb1 : b' ≤ 1 := by rw [hb']; split <;> omega
 have hd1 : d < 4294967296 := by omega
 refine ⟨by rw [List.length_set]; exact hlen, small_set h.sm _ _ hd1, drop_set_eq h.rest, ?_, by omega, hb1⟩
 have e1 : val ((cs.set j d).take (j + 1)) = val (cs.take j) + pw j * d := by
  rw [val_take_step, getD_set_eq (by omega), List.take_set_of_le (Nat.le_refl _)]
 rw [e1, val_take_step ys, val_take_step xs, ← hwd, ← hxd, Nat.mul_add]
 have e2 := h.eq
 have e3 : F * (pw j * w) + pw j * d + pw j * (borrow + carry) = pw j * x + pw (j + 1) * (b' + t / 4294967296) := by
  have e4 : F * (pw j * w) = pw j * (F * w) := Nat.mul_left_comm F (pw j) w
  rw [e4, pw_succ, Nat.mul_comm 4294967296 (pw j), Nat.mul_assoc (pw j), ← Nat.mul_add, ← Nat.mul_add, ← Nat.mul_add]
  congr 1
  omega
 omega
theorem MulSub.top {xs ys cs : List Nat} {F carry borrow : Nat} (h : MulSub xs ys F ys.length cs carry borrow) (hx : small xs) (hl : xs.length = ys.length + 1) :
 val (cs.set ys.length ((xs.getD ys.length 0 + 4294967296 - carry - borrow) % 4294967296)) + F * val ys = val xs + pw xs.length * (if xs.getD ys.length 0 < carry + borrow then 1 else 0) := by
 have hxx := small_get hx ys.length
 have hlen := h.len
 have hbo := h.bo
 have hlt := h.lt
 obtain ⟨x, hxd⟩ : ∃ x, x = xs.getD ys.length 0 := ⟨_, rfl⟩
 rw [← hxd]
 rw [← hxd] at hxx
 obtain ⟨d, hd⟩ : ∃ d, d = (x + 4294967296 - carry - borrow) % 4294967296 := ⟨_, rfl⟩
 obtain ⟨b', hb'⟩ : ∃ b', b' = if x < carry + borrow then 1 else 0 := ⟨_, rfl⟩
 rw [← hd, ← hb']
 have key : d + carry + borrow = x + 4294967296 * b' := by
  rw [hd, hb']; split <;> omega
 have e1 : val (cs.set ys.length d) = val (cs.take ys.length) + pw ys.length * d := by
  have := val_take_step (cs.set ys.length d) ys.length
  rw [getD_set_eq (by omega), List.take_set_of_le (Nat.le_refl _), List.take_of_length_le (by rw [List.length_set]; omega)] at this
  exact this
 have e2 := h.eq
 rw [List.take_length] at e2
 have e3 := val_take_step xs ys.length
 rw [List.take_of_length_le (by omega), ← hxd] at e3
 rw [e1, hl, pw_succ]
 have e4 : pw ys.length * d + pw ys.length * (borrow + carry) = pw ys.length * x + 4294967296 * pw ys.length * b' := by
  rw [Nat.mul_comm 4294967296, Nat.mul_assoc, ← Nat.mul_add, ← Nat.mul_add]
  congr 1
  omega
 omega
end Go.Proofs.YteabokkofoomkaaGreat
namespace Go.Proofs.YteabokkofoomkaaGreat
open Go.RowKit
theorem shl_or (x y : Nat) (hx : x < 4294967296) (hy : y < 4294967296) : bits BinOp.or IntKind.u64 (x : Int) ((y : Int) * 4294967296) = ((x + 4294967296 * y : Nat) : Int) := by
 rw [show (y : Int) * 4294967296 = ((y * 2 ^ 32 : Nat) : Int) by omega, u64_or_nat _ _ (by omega) (by omega), Nat.or_comm, or_low _ _ _ (by omega)]
 omega
theorem AddAt.over {c b cs : List Nat} {n y : Nat} (h : AddAt c b n cs y) (hn : b.length = n) (hc : c.length = n + 1) (sc : small c) (hge : pw (n + 1) ≤ val c + val b) :
 val (cs.set n ((c.getD n 0 + y) % 4294967296)) = val c + val b - pw (n + 1) := by
 have he := h.eq
 rw [take_of_len (by omega)] at he
 have hle := h.le
 have h1 := val_lt h.sm
 rw [h.len, hc] at h1
 have hx := small_get sc n
 have hg := getD_drop_eq h.rest
 have h2 := val_take_step cs n
 rw [take_of_len (by rw [h.len, hc]; exact Nat.le_refl _), hg] at h2
 have h3 := val_lt (small_take h.sm n)
 rw [List.length_take, h.len, hc, Nat.min_eq_left (by omega)] at h3
 have h4 := val_set cs n ((c.getD n 0 + y) % 4294967296) (by rw [h.len, hc]; omega)
 rw [hg] at h4
 have h5 := pw_succ n
 generalize c.getD n 0 = x at *
 generalize pw n = P at *
 have hy : y = 1 := by
  rcases Nat.eq_zero_or_pos y with h0 | h0
  · rw [h0, Nat.mul_zero] at he; omega
  · omega
 subst hy
 have hx2 : x = 4294967295 := by
  rcases Nat.lt_or_ge x 4294967295 with h0 | h0
  · exfalso
    have : P * (x + 2) ≤ P * 4294967296 := Nat.mul_le_mul_left P (by omega)
    rw [Nat.mul_add] at this
    omega
  · omega
 subst hx2
 rw [show (4294967295 + 1) % 4294967296 = 0 from rfl] at h4 ⊢
 rw [Nat.mul_zero] at h4
 omega
structure QuoAt (X V N i : Nat) (R Q : List Nat) : Prop where
 rl : R.length = N
 rs : small R
 qs : small Q
 lt : val R < pw i * V
 eq : val R + V * val Q = X
 zero : ∀ j, j < i → Q.getD j 0 = 0
theorem QuoAt.digit {X V N i m : Nat} {R Q : List Nat} (h : QuoAt X V N (i + 1) R Q) (hi : i + (m + 3) ≤ N) (hV : V < pw (m + 2)) :
 val ((R.drop i).take (m + 3)) < 4294967296 * V ∧ val R = val (R.take i) + pw i * val ((R.drop i).take (m + 3)) := by
 have h1 := val_take_drop R i (by rw [h.rl]; omega)
 have h2 : val ((R.drop i).drop (m + 3)) = 0 := by
  rw [List.drop_drop, val_drop h.rs]
  refine Nat.div_eq_of_lt (Nat.lt_of_lt_of_le h.lt ?_)
  rw [show i + (m + 3) = i + 1 + (m + 2) by omega, pw_add (i + 1)]
  exact Nat.mul_le_mul_left _ (Nat.le_of_lt hV)
 have h3 := val_take_drop (R.drop i) (m + 3) (by rw [List.length_drop, h.rl]; omega)
 rw [h2, Nat.mul_zero, Nat.add_zero] at h3
 rw [h3] at h1
 refine ⟨?_, h1⟩
 have h4 := h.lt
 rw [pw_succ, Nat.mul_comm 4294967296, Nat.mul_assoc] at h4
 exact Nat.lt_of_mul_lt_mul_left (Nat.lt_of_le_of_lt (by omega : pw i * val ((R.drop i).take (m + 3)) ≤ val R) h4)
theorem QuoAt.next {X V N i m : Nat} {R Q cs : List Nat} (h : QuoAt X V N (i + 1) R Q) (hi : i + (m + 3) ≤ N) (hV : V < pw (m + 2)) (hV0 : 0 < V) (hq : i < Q.length) (hc : cs.length = m + 3) (hcs : small cs) (hv : val cs = val ((R.drop i).take (m + 3)) % V)
 (hd : val ((R.drop i).take (m + 3)) / V < 4294967296) : QuoAt X V N i (splice R i cs) (Q.set i (val ((R.drop i).take (m + 3)) / V)) := by
 obtain ⟨h1, h2⟩ := h.digit hi hV
 have h3 := val_splice (L := R) (cs := cs) (o := i) (by rw [hc, h.rl]; exact hi)
 rw [hc, hv] at h3
 have h4 := val_set Q i (val ((R.drop i).take (m + 3)) / V) hq
 rw [h.zero i (by omega), Nat.mul_zero, Nat.add_zero] at h4
 have h5 := Nat.div_add_mod (val ((R.drop i).take (m + 3))) V
 have h6 := Nat.mod_lt (val ((R.drop i).take (m + 3))) hV0
 have h7 := val_lt (small_take h.rs i)
 rw [List.length_take, h.rl, Nat.min_eq_left (by omega)] at h7
 have hE := h.eq
 generalize val ((R.drop i).take (m + 3)) = x at *
 generalize x / V = q at *
 generalize x % V = r at *
 have e1 : pw i * x = V * (pw i * q) + pw i * r := by rw [← h5, Nat.mul_add, Nat.mul_left_comm]
 have e2 : pw i * (r + 1) ≤ pw i * V := Nat.mul_le_mul_left _ h6
 rw [Nat.mul_add, Nat.mul_one] at e2
 refine ⟨by rw [splice_len (by rw [hc, h.rl]; exact hi)]; exact h.rl, splice_small h.rs _ hcs, small_set h.qs _ _ hd, by omega, ?_, fun j hj => ?_⟩
 · rw [h4, Nat.mul_add]; omega
 · rw [getD_set_ne (by omega)]; exact h.zero j (by omega)
theorem QuoAt.done {X V N : Nat} {R Q : List Nat} (h : QuoAt X V N 0 R Q) (hV : 0 < V) : val Q = X / V ∧ val R = X % V := by
 have h1 := h.lt
 rw [pw_zero, Nat.one_mul] at h1
 have h2 := h.eq
 have e1 : X / V = val Q := by
  rw [← h2, Nat.add_comm, Nat.mul_add_div hV, Nat.div_eq_of_lt h1, Nat.add_zero]
 have e2 : X % V = val R := by
  rw [← h2, Nat.add_comm, Nat.mul_add_mod, Nat.mod_eq_of_lt h1]
 exact ⟨e1.symm, e2.symm⟩
end Go.Proofs.YteabokkofoomkaaGreat
