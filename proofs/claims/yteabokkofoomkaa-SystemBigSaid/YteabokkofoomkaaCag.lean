import Derived.Test.YteabokkofoomkaaCaf
import Derived.Test.YteabokkofoomkaaCae
import Derived.Test.YteabokkofoomkaaCad
import Derived.Test.YteabokkofoomkaaCab
import Derived.Test.YteabokkofoomkaaCac
import Derived.Test.YteabokkofoomkaaRows
import Derived.Deep.QuietTactic
import Derived.BigQuiet
import Derived.Lib.Hide
import Derived.WalkKit
import Derived.WalkLawsBesides
import Derived.WalkSpells
import Derived.Below
import Derived.Deep.DeepCutAuto
import Derived.Deep.CutBlock
import Derived.Deep.RegionHeld3
import Derived.Deep.RegionWith
import Derived.BigRegion
import Derived.RegionTactic
import Derived.Laws.EntriesVeiled
import Derived.Laws.AppendOwn
import Derived.Deep.OwnRows
import Derived.Maps.AppendAt
import Derived.Calls
namespace Go.Proofs.Yteabokkofoomkaa
open Go.RowKit
theorem sgn_mul (s s' : Bool) (X Y : Nat) : sgn (s != s') (X * Y) = sgn s X * sgn s' Y := by
 cases s <;> cases s' <;> simp [sgn, Int.neg_mul, Int.mul_neg, Int.neg_neg]
theorem mul_long {xs ys : List Nat} (cx : canon xs) (cy : canon ys) (hx : 0 < xs.length) (hy : 0 < ys.length) (h : 4096 < xs.length + ys.length - 1) : ¬ (words (val xs * val ys)).length ≤ 4096 := by
 intro h1
 have a : pw (xs.length - 1) ≤ val xs := by
  have := @words_len_lt (val xs) (xs.length - 1)
  rw [words_val cx] at this
  exact this.1 (by omega)
 have b : pw (ys.length - 1) ≤ val ys := by
  have := @words_len_lt (val ys) (ys.length - 1)
  rw [words_val cy] at this
  exact this.1 (by omega)
 have c : pw (xs.length - 1 + (ys.length - 1)) ≤ val xs * val ys := by rw [pw_add]; exact Nat.mul_le_mul a b
 have d := words_len_le.1 h1
 have e := pw_le (show 4096 ≤ xs.length - 1 + (ys.length - 1) by omega)
 omega
set_option maxHeartbeats 800000 in
set_option maxRecDepth 100000 in
theorem Mul_big (s s' : Bool) (A A' : Option Addr) (n c n' c' : Nat) (xs ys : List Nat) (w : World) (h : Rd w A n xs) (h' : Rd w A' n' ys) (vx : validB s xs = true) (vy : validB s' ys = true) (h0 : 0 < n) (h0' : 0 < n') (hbig : 4096 < n + n' - 1) :
 Calls Try.prog 85 #[.agg #[.bool s, .slice A n c], .agg #[.bool s', .slice A' n' c']] w (Num w (sgn s (val xs) * sgn s' (val ys))) := by
 have VX := Lib.hid (valid_canon h.sm vx)
 have VY := Lib.hid (valid_canon h'.sm vy)
 have HV := Lib.hid (show (validB s xs && validB s' ys) = true by rw [vx, vy]; rfl)
 have HX := h.len
 have HY := h'.len
 have hn := VX.out.2.1
 have hn' := VY.out.2.1
 have HN := Lib.hid (show ∀ w', NumIs w' (sgn s (val xs) * sgn s' (val ys)) false none 0 0 4 from fun w' => by
  rw [← sgn_mul]
  exact ⟨fun hl => absurd (by rw [sgn_abs] at hl; exact hl) (mul_long VX.out.1 VY.out.1 (by omega) (by omega) (by omega)), fun _ => ⟨rfl, rfl, rfl, rfl, rfl⟩⟩)
 clear vx vy
 rw [HX] at hn
 rw [HY] at hn'
 clear HX HY
 go_enter Try.func85, Try.ntmps85
 go_wp2_with fail
 have E := (Env.start w s s' A A' n c n' c').alloc (.cells #[.bool s, .slice A n c, .bool s', .slice A' n' c'] 24)
 refine (allValid_c (w.heap.size + 1 + 1 + 1) s s' A A' n c n' c' xs ys _ (h.below E.below) (h'.below E.below) (by simp) (by go_simp) (by go_simp) (by go_simp) (by go_simp)).mono ?_
 rintro e w1 ⟨rfl, hb⟩
 rw [HV.out]
 have E1 := Lib.hid (E.next hb)
 clear E hb
 have a1 := E1.out.a1
 have b1 := E1.out.b1
 have r0 := E1.out.r0
 have r1 := E1.out.r1
 have f0 := E1.out.f0
 have f1 := E1.out.f1
 go_wp2
 refine bodyPost_ret (v := .tuple #[.agg #[.bool false, .slice none 0 0], .int .i64 4]) (by simp [results, Try.results85, go_sem, r0, r1]) rfl ?_
 exact ⟨false, none, 0, 0, 4, rfl, HN.out _, below_store E1.out.below (by omega) _ _⟩
set_option maxHeartbeats 2000000 in
set_option maxRecDepth 100000 in
theorem Mul_fits (s s' : Bool) (A A' : Option Addr) (n c n' c' : Nat) (xs ys : List Nat) (w : World) (h : Rd w A n xs) (h' : Rd w A' n' ys) (vx : validB s xs = true) (vy : validB s' ys = true) (hc : n ≤ c) (hc' : n' ≤ c') (hcc : c ≤ 9223372036854775807) (hcc' : c' ≤ 9223372036854775807)
 (hsm : ¬ (0 < n ∧ 0 < n' ∧ 4096 < n + n' - 1)) :
 Calls Try.prog 85 #[.agg #[.bool s, .slice A n c], .agg #[.bool s', .slice A' n' c']] w (Num w (sgn s (val xs) * sgn s' (val ys))) := by
 have VX := Lib.hid (valid_canon h.sm vx)
 have VY := Lib.hid (valid_canon h'.sm vy)
 have HV := Lib.hid (show (validB s xs && validB s' ys) = true by rw [vx, vy]; rfl)
 have HX := h.len
 have HY := h'.len
 have hn := VX.out.2.1
 have hn' := VY.out.2.1
 clear vx vy
 rw [HX] at hn
 rw [HY] at hn'
 clear HX HY
 have MU := Lib.hid (fun w' hx hy => multiply_c A A' n c n' c' xs ys w' hx hy VX.out.1 VY.out.1 (by omega) (by omega) hc hc' hcc hcc')
 have hcase : n = 0 ∨ (0 < n ∧ n' = 0) ∨ (0 < n ∧ 0 < n' ∧ n + n' - 1 ≤ 4096) := by omega
 clear hsm hc hc' hcc hcc'
 rcases hcase with hz | ⟨hp, hz⟩ | ⟨hp, hp', hle⟩
 · subst hz
   go_enter Try.func85, Try.ntmps85
   go_wp2_with fail
   have E := (Env.start w s s' A A' 0 c n' c').alloc (.cells #[.bool s, .slice A 0 c, .bool s', .slice A' n' c'] 24)
   refine (allValid_c (w.heap.size + 1 + 1 + 1) s s' A A' 0 c n' c' xs ys _ (h.below E.below) (h'.below E.below) (by simp) (by go_simp) (by go_simp) (by go_simp) (by go_simp)).mono ?_
   rintro e w1 ⟨rfl, hb⟩
   rw [HV.out]
   have E1 := Lib.hid (E.next hb)
   clear E hb
   have a0 := E1.out.a0
   have a1 := E1.out.a1
   have b0 := E1.out.b0
   have b1 := E1.out.b1
   go_wp2_with fail
   have hx := (h.below E1.out.below).drew
   have hy := (h'.below E1.out.below).drew
   go_region_held3 (fun w' => w'.cell? ⟨w.heap.size, 0, none⟩ = some (.bool s) ∧ w'.cell? ⟨w.heap.size, 1, none⟩ = some (.slice A 0 c) ∧ w'.cell? ⟨w.heap.size + 1, 0, none⟩ = some (.bool s') ∧ w'.cell? ⟨w.heap.size + 1, 1, none⟩ = some (.slice A' n' c')) (first | (go_keep; done) | (refine ⟨cell_two (by omega) l0, cell_two (by omega) l1, cell_two (by omega) l2, cell_two (by omega) l3⟩))
    (first
     | (go_at_call 97
        refine (MU.out _ hx hy).mono ?_
        rintro e w2 ⟨B, d, rfl, q1, q2, q3, q4, -⟩
        have E2 := Lib.hid ((E1.out.drewN 1).next q4)
        have k0 := E2.out.a0
        have k1 := E2.out.a1
        have k2 := E2.out.b0
        have k3 := E2.out.b1)
     | (go_at_call 82
        refine (number_c (s != s') B _ d _ w2 q1 q2 q3).mono ?_
        rintro e w3 ⟨t, B2, m2, d2, k, rfl, p1, p2⟩
        have E3 := Lib.hid (E2.out.next p2)
        have l0 := E3.out.a0
        have l1 := E3.out.a1
        have l2 := E3.out.b0
        have l3 := E3.out.b1
        have r0 := E3.out.r0
        have r1 := E3.out.r1
        have f0 := E3.out.f0
        have f1 := E3.out.f1))
   go_wp2
   rw [val_words, sgn_mul] at p1
   refine bodyPost_ret (v := .tuple #[.agg #[.bool t, .slice B2 m2 d2], .int .i64 k]) (by simp [results, Try.results85, go_sem, r0, r1]) rfl ?_
   exact ⟨t, B2, m2, d2, k, rfl, p1.store r0 r1 _ _, below_store E3.out.below (by omega) _ _⟩
 · subst hz
   go_enter Try.func85, Try.ntmps85
   go_wp2_with fail
   have E := (Env.start w s s' A A' n c 0 c').alloc (.cells #[.bool s, .slice A n c, .bool s', .slice A' 0 c'] 24)
   refine (allValid_c (w.heap.size + 1 + 1 + 1) s s' A A' n c 0 c' xs ys _ (h.below E.below) (h'.below E.below) (by simp) (by go_simp) (by go_simp) (by go_simp) (by go_simp)).mono ?_
   rintro e w1 ⟨rfl, hb⟩
   rw [HV.out]
   have E1 := Lib.hid (E.next hb)
   clear E hb
   have a0 := E1.out.a0
   have a1 := E1.out.a1
   have b0 := E1.out.b0
   have b1 := E1.out.b1
   go_wp2_with fail
   have hx := (h.below E1.out.below).drew
   have hy := (h'.below E1.out.below).drew
   go_region_held3 (fun w' => w'.cell? ⟨w.heap.size, 0, none⟩ = some (.bool s) ∧ w'.cell? ⟨w.heap.size, 1, none⟩ = some (.slice A n c) ∧ w'.cell? ⟨w.heap.size + 1, 0, none⟩ = some (.bool s') ∧ w'.cell? ⟨w.heap.size + 1, 1, none⟩ = some (.slice A' 0 c')) (first | (go_keep; done) | (refine ⟨cell_two (by omega) l0, cell_two (by omega) l1, cell_two (by omega) l2, cell_two (by omega) l3⟩))
    (first
     | (go_at_call 97
        refine (MU.out _ hx hy).mono ?_
        rintro e w2 ⟨B, d, rfl, q1, q2, q3, q4, -⟩
        have E2 := Lib.hid ((E1.out.drewN 1).next q4)
        have k0 := E2.out.a0
        have k1 := E2.out.a1
        have k2 := E2.out.b0
        have k3 := E2.out.b1)
     | (go_at_call 82
        refine (number_c (s != s') B _ d _ w2 q1 q2 q3).mono ?_
        rintro e w3 ⟨t, B2, m2, d2, k, rfl, p1, p2⟩
        have E3 := Lib.hid (E2.out.next p2)
        have l0 := E3.out.a0
        have l1 := E3.out.a1
        have l2 := E3.out.b0
        have l3 := E3.out.b1
        have r0 := E3.out.r0
        have r1 := E3.out.r1
        have f0 := E3.out.f0
        have f1 := E3.out.f1))
   go_wp2
   rw [val_words, sgn_mul] at p1
   refine bodyPost_ret (v := .tuple #[.agg #[.bool t, .slice B2 m2 d2], .int .i64 k]) (by simp [results, Try.results85, go_sem, r0, r1]) rfl ?_
   exact ⟨t, B2, m2, d2, k, rfl, p1.store r0 r1 _ _, below_store E3.out.below (by omega) _ _⟩
 · go_enter Try.func85, Try.ntmps85
   go_wp2_with fail
   have E := (Env.start w s s' A A' n c n' c').alloc (.cells #[.bool s, .slice A n c, .bool s', .slice A' n' c'] 24)
   refine (allValid_c (w.heap.size + 1 + 1 + 1) s s' A A' n c n' c' xs ys _ (h.below E.below) (h'.below E.below) (by simp) (by go_simp) (by go_simp) (by go_simp) (by go_simp)).mono ?_
   rintro e w1 ⟨rfl, hb⟩
   rw [HV.out]
   have E1 := Lib.hid (E.next hb)
   clear E hb
   have a0 := E1.out.a0
   have a1 := E1.out.a1
   have b0 := E1.out.b0
   have b1 := E1.out.b1
   go_wp2_with fail
   have hx := (h.below E1.out.below).drew
   have hy := (h'.below E1.out.below).drew
   go_region_held3 (fun w' => w'.cell? ⟨w.heap.size, 0, none⟩ = some (.bool s) ∧ w'.cell? ⟨w.heap.size, 1, none⟩ = some (.slice A n c) ∧ w'.cell? ⟨w.heap.size + 1, 0, none⟩ = some (.bool s') ∧ w'.cell? ⟨w.heap.size + 1, 1, none⟩ = some (.slice A' n' c')) (first | (go_keep; done) | (refine ⟨cell_two (by omega) l0, cell_two (by omega) l1, cell_two (by omega) l2, cell_two (by omega) l3⟩))
    (first
     | (go_at_call 97
        refine (MU.out _ hx hy).mono ?_
        rintro e w2 ⟨B, d, rfl, q1, q2, q3, q4, -⟩
        have E2 := Lib.hid ((E1.out.drewN 1).next q4)
        have k0 := E2.out.a0
        have k1 := E2.out.a1
        have k2 := E2.out.b0
        have k3 := E2.out.b1)
     | (go_at_call 82
        refine (number_c (s != s') B _ d _ w2 q1 q2 q3).mono ?_
        rintro e w3 ⟨t, B2, m2, d2, k, rfl, p1, p2⟩
        have E3 := Lib.hid (E2.out.next p2)
        have l0 := E3.out.a0
        have l1 := E3.out.a1
        have l2 := E3.out.b0
        have l3 := E3.out.b1
        have r0 := E3.out.r0
        have r1 := E3.out.r1
        have f0 := E3.out.f0
        have f1 := E3.out.f1))
   go_wp2
   rw [val_words, sgn_mul] at p1
   refine bodyPost_ret (v := .tuple #[.agg #[.bool t, .slice B2 m2 d2], .int .i64 k]) (by simp [results, Try.results85, go_sem, r0, r1]) rfl ?_
   exact ⟨t, B2, m2, d2, k, rfl, p1.store r0 r1 _ _, below_store E3.out.below (by omega) _ _⟩
theorem Mul_ok (s s' : Bool) (A A' : Option Addr) (n c n' c' : Nat) (xs ys : List Nat) (w : World) (h : Rd w A n xs) (h' : Rd w A' n' ys) (vx : validB s xs = true) (vy : validB s' ys = true) (hc : n ≤ c) (hc' : n' ≤ c') (hcc : c ≤ 9223372036854775807) (hcc' : c' ≤ 9223372036854775807) :
 Calls Try.prog 85 #[.agg #[.bool s, .slice A n c], .agg #[.bool s', .slice A' n' c']] w (Num w (sgn s (val xs) * sgn s' (val ys))) := by
 by_cases hb : 0 < n ∧ 0 < n' ∧ 4096 < n + n' - 1
 · exact Mul_big s s' A A' n c n' c' xs ys w h h' vx vy hb.1 hb.2.1 hb.2.2
 · exact Mul_fits s s' A A' n c n' c' xs ys w h h' vx vy hc hc' hcc hcc' hb
structure DivAt (xs : List Nat) (v k : Nat) (L : List Nat) (r : Nat) : Prop where
 len : L.length = xs.length
 sm : small L
 low : L.take k = xs.take k
 eq : val (xs.drop k) = val (L.drop k) * v + r
 lt : r < v
theorem DivAt.start {xs : List Nat} (hs : small xs) {v : Nat} (hv : 0 < v) : DivAt xs v xs.length xs 0 :=
 ⟨rfl, hs, rfl, by rw [List.drop_length]; simp [val], hv⟩
theorem drop_get (xs : List Nat) (k : Nat) (h : k < xs.length) : val (xs.drop k) = xs.getD k 0 + 4294967296 * val (xs.drop (k + 1)) := by
 rw [List.drop_eq_getElem_cons h, val_cons]
 simp [List.getD_eq_getElem?_getD, List.getElem?_eq_getElem h]
theorem div_word_lt {r v x : Nat} (hr : r < v) (hx : x < 4294967296) : (r * 4294967296 + x) / v < 4294967296 := by
 rw [Nat.div_lt_iff_lt_mul (by omega)]
 have : (r + 1) * 4294967296 ≤ v * 4294967296 := Nat.mul_le_mul_right _ hr
 rw [Nat.add_mul] at this
 rw [Nat.mul_comm 4294967296 v]
 omega
theorem DivAt.next {xs L : List Nat} {v k r : Nat} (h : DivAt xs v (k + 1) L r) (hs : small xs) (hk : k < xs.length) :
 DivAt xs v k (L.set k ((r * 4294967296 + xs.getD k 0) / v)) ((r * 4294967296 + xs.getD k 0) % v) := by
 have hx := small_get hs k
 have hlt := h.lt
 have hq := div_word_lt hlt hx
 refine ⟨by rw [List.length_set]; exact h.len, small_set h.sm _ _ hq, ?_, ?_, Nat.mod_lt _ (by omega)⟩
 · have h1 := congrArg (fun l : List Nat => l.take k) h.low
   simp only [List.take_take, Nat.min_eq_left (Nat.le_succ k)] at h1
   rw [List.take_set_of_le (Nat.le_refl k)]
   exact h1
 · have e1 := drop_get xs k hk
   have e2 := drop_get (L.set k ((r * 4294967296 + xs.getD k 0) / v)) k (by rw [List.length_set, h.len]; exact hk)
   have e4 : (L.set k ((r * 4294967296 + xs.getD k 0) / v)).drop (k + 1) = L.drop (k + 1) := List.drop_set_of_lt (by omega)
   rw [e4] at e2
   have e3 : (L.set k ((r * 4294967296 + xs.getD k 0) / v)).getD k 0 = (r * 4294967296 + xs.getD k 0) / v := by
    rw [List.getD_eq_getElem?_getD, List.getElem?_set_self (by rw [h.len]; exact hk)]; rfl
   rw [e3] at e2
   rw [e1, e2, h.eq]
   have hd := Nat.div_add_mod (r * 4294967296 + xs.getD k 0) v
   generalize xs.getD k 0 = x at *
   generalize (r * 4294967296 + x) / v = q at *
   generalize (r * 4294967296 + x) % v = m at *
   generalize val (L.drop (k + 1)) = Q at *
   rw [Nat.add_mul, Nat.mul_comm q v, Nat.mul_assoc]
   omega
theorem DivAt.done {xs L : List Nat} {v r : Nat} (h : DivAt xs v 0 L r) : val L = val xs / v ∧ r = val xs % v := by
 have he := h.eq
 have hlt := h.lt
 simp only [List.drop_zero] at he
 rw [he]
 constructor
 · rw [Nat.mul_comm, Nat.mul_add_div (by omega), Nat.div_eq_of_lt hlt, Nat.add_zero]
 · rw [Nat.mul_comm, Nat.mul_add_mod, Nat.mod_eq_of_lt hlt]
theorem words_one {x : Nat} (h : x < 4294967296) (h0 : x ≠ 0) : words x = [x] := by
 rw [words_pos h0, Nat.mod_eq_of_lt h, Nat.div_eq_of_lt h, words_zero]
def Is (w : World) (z : Int) (t : Bool) (B : Option Addr) (m d : Nat) : Prop :=
 t = decide (z < 0) ∧ m = (words z.natAbs).length ∧ Rd w B m (words z.natAbs) ∧ m ≤ d ∧ d ≤ 9223372036854775807
theorem Is.below {w w' : World} {z : Int} {t : Bool} {B : Option Addr} {m d : Nat} (h : Is w z t B m d) (hb : Below w.heap.size w w') : Is w' z t B m d :=
 ⟨h.1, h.2.1, h.2.2.1.below hb, h.2.2.2⟩
theorem Is.set_other {w : World} {z : Int} {t : Bool} {B : Option Addr} {m d : Nat} (h : Is w z t B m d) {p : Addr} {v : Value} (hp : w.cell? p = some v) (hv : ∀ z, v ≠ .int .u32 z) (u : Value) : Is (w.setCell p u) z t B m d :=
 ⟨h.1, h.2.1, h.2.2.1.set_other hp hv u, h.2.2.2⟩
theorem Is.store {w : World} {z : Int} {t : Bool} {B : Option Addr} {m d : Nat} (h : Is w z t B m d) {g : Nat} {x : Bool} {a : Option Addr} {i j : Nat} (h0 : w.cell? ⟨g, 0, none⟩ = some (.bool x)) (h1 : w.cell? ⟨g, 1, none⟩ = some (.slice a i j)) (u v : Value) :
 Is ((w.setCell ⟨g, 0, none⟩ u).setCell ⟨g, 1, none⟩ v) z t B m d :=
 ⟨h.1, h.2.1, h.2.2.1.store h0 h1 u v, h.2.2.2⟩
theorem NumIs.is_ {w : World} {z k : Int} {t : Bool} {B : Option Addr} {m d : Nat} (h : NumIs w z t B m d k) (hl : (words z.natAbs).length ≤ 4096) : k = 0 ∧ Is w z t B m d := by
 obtain ⟨a, b⟩ := h.1 hl
 exact ⟨a, b⟩
theorem Is.drew {w : World} {z : Int} {t : Bool} {B : Option Addr} {m d : Nat} (h : Is w z t B m d) : Is w.drew z t B m d := h.below (Below.refl _ _).drew
theorem valid_words {s : Bool} {m : Nat} (h : (words m).length ≤ 4096) (hs : m = 0 → s = false) : validB s (words m) = true := by
 unfold validB
 by_cases h0 : (words m).length = 0
 · rw [if_pos h0, hs (words_nil.1 (List.eq_nil_of_length_eq_zero h0))]; rfl
 · rw [if_neg h0]
   simp only [Bool.and_eq_true, decide_eq_true_eq]
   exact ⟨h, canon_last (words_canon m) (by omega)⟩
def OneN (w : World) (n : Nat) (e : Ending) (w' : World) : Prop :=
 ∃ A c, e = .returned (.agg #[.bool false, .slice A (words n).length c]) ∧ Rd w' A (words n).length (words n) ∧ (words n).length ≤ c ∧ c ≤ 9223372036854775807 ∧ Below w.heap.size w w'
theorem of_nat (n : Nat) (w : World) (h : n < 9223372036854775808) : Calls Try.prog 60 #[.int .i64 (n : Int)] w (OneN w n) :=
 (Of_c (n : Int) w (by omega) (by omega)).mono fun e w' h => by
  obtain ⟨A, c, he, h1, h2, h3, h4⟩ := h
  rw [decide_eq_false (by omega)] at he
  exact ⟨A, c, he, h1, h2, h3, h4⟩
def Sz (z : Int) (k : Nat) : Prop := z.natAbs < pw k
theorem Sz.le {z : Int} {k k' : Nat} (h : Sz z k) (hk : k ≤ k') : Sz z k' := Nat.lt_of_lt_of_le h (pw_le hk)
theorem Sz.add {z z' : Int} {k : Nat} (h : Sz z k) (h' : Sz z' k) : Sz (z + z') (k + 1) := by
 have h1 : z.natAbs < pw k := h
 have h2 : z'.natAbs < pw k := h'
 show (z + z').natAbs < pw (k + 1)
 have h3 := pw_succ k
 omega
theorem Sz.sub {z z' : Int} {k : Nat} (h : Sz z k) (h' : Sz z' k) : Sz (z - z') (k + 1) := by
 have h1 : z.natAbs < pw k := h
 have h2 : z'.natAbs < pw k := h'
 show (z - z').natAbs < pw (k + 1)
 have h3 := pw_succ k
 omega
theorem Sz.mul {z z' : Int} {k k' : Nat} (h : Sz z k) (h' : Sz z' k') : Sz (z * z') (k + k') := by
 show (z * z').natAbs < pw (k + k')
 rw [Int.natAbs_mul]
 exact mul_lt_pw h h'
theorem Sz.len {z : Int} {k : Nat} (h : Sz z k) : (words z.natAbs).length ≤ k := words_len_le.2 h
theorem Is.len {w : World} {z : Int} {t : Bool} {A : Option Addr} {n c : Nat} (h : Is w z t A n c) {k : Nat} (hk : Sz z k) : n ≤ k := by
 rw [h.2.1]; exact hk.len
theorem sgn_self (z : Int) : sgn (decide (z < 0)) z.natAbs = z := by
 unfold sgn
 by_cases h : z < 0
 · rw [decide_eq_true h, if_pos rfl]; omega
 · rw [decide_eq_false h]; simp; omega
theorem Is.raw {w : World} {z : Int} {t : Bool} {A : Option Addr} {n c : Nat} (h : Is w z t A n c) {k : Nat} (hz : Sz z k) (hk : k ≤ 4096) :
 Rd w A n (words z.natAbs) ∧ validB t (words z.natAbs) = true ∧ sgn t (val (words z.natAbs)) = z ∧ n ≤ c ∧ c ≤ 9223372036854775807 := by
 have hl := hz.len
 obtain ⟨rfl, _, r, h1, h2⟩ := h
 exact ⟨r, valid_words (by omega) (fun h => by rw [decide_eq_false (by omega)]), by rw [val_words]; exact sgn_self z, h1, h2⟩
theorem Is.of_valid {w : World} {s : Bool} {A : Option Addr} {n c : Nat} {xs : List Nat} (h : Rd w A n xs) (hv : validB s xs = true) (hn : n ≤ c) (hc : c ≤ 9223372036854775807) : Is w (sgn s (val xs)) s A n c := by
 obtain ⟨hcan, h4, h0⟩ := valid_canon h.sm hv
 have e := words_val hcan
 refine ⟨?_, ?_, ?_, hn, hc⟩
 · by_cases hz : val xs = 0
   · rw [h0 hz, hz, sgn_zero]; rfl
   · exact (sgn_lt s _ hz).symm
 · rw [sgn_abs, e, h.len]
 · rw [sgn_abs, e]; exact h
def NumT (w : World) (z : Int) (e : Ending) (w' : World) : Prop :=
 ∃ t B m d, e = .returned (.tuple #[.agg #[.bool t, .slice B m d], .bool true]) ∧ Is w' z t B m d ∧ Below w.heap.size w w'
section
variable {w : World} {z z' : Int} {t t' : Bool} {A A' : Option Addr} {n c n' c' : Nat}
theorem Add_is {k : Nat} (h : Is w z t A n c) (h' : Is w z' t' A' n' c') (hz : Sz z k) (hz' : Sz z' k) (hk : k ≤ 4096) :
 Calls Try.prog 73 #[.agg #[.bool t, .slice A n c], .agg #[.bool t', .slice A' n' c']] w (Num w (z + z')) := by
 obtain ⟨r, v, s, _, _⟩ := h.raw hz hk
 obtain ⟨r', v', s', _, _⟩ := h'.raw hz' hk
 have := Add_ok t t' A A' n c n' c' _ _ w r r' v v'
 rwa [s, s'] at this
theorem Sub_is {k : Nat} (h : Is w z t A n c) (h' : Is w z' t' A' n' c') (hz : Sz z k) (hz' : Sz z' k) (hk : k ≤ 4096) :
 Calls Try.prog 108 #[.agg #[.bool t, .slice A n c], .agg #[.bool t', .slice A' n' c']] w (Num w (z - z')) := by
 obtain ⟨r, v, s, _, _⟩ := h.raw hz hk
 obtain ⟨r', v', s', _, _⟩ := h'.raw hz' hk
 have := Sub_ok t t' A A' n c n' c' _ _ w r r' v v'
 rwa [s, s'] at this
theorem Mul_is {k : Nat} (h : Is w z t A n c) (h' : Is w z' t' A' n' c') (hz : Sz z k) (hz' : Sz z' k) (hk : k ≤ 4096) :
 Calls Try.prog 85 #[.agg #[.bool t, .slice A n c], .agg #[.bool t', .slice A' n' c']] w (Num w (z * z')) := by
 obtain ⟨r, v, s, x, y⟩ := h.raw hz hk
 obtain ⟨r', v', s', x', y'⟩ := h'.raw hz' hk
 have := Mul_ok t t' A A' n c n' c' _ _ w r r' v v' x x' y y'
 rwa [s, s'] at this
theorem Cmp_is {k : Nat} (h : Is w z t A n c) (h' : Is w z' t' A' n' c') (hz : Sz z k) (hz' : Sz z' k) (hk : k ≤ 4096) :
 Calls Try.prog 80 #[.agg #[.bool t, .slice A n c], .agg #[.bool t', .slice A' n' c']] w (fun e w' => e = .returned (.tuple #[.int .i64 (ord z z'), .int .i64 0]) ∧ Below w.heap.size w w') := by
 obtain ⟨r, v, s, _, _⟩ := h.raw hz hk
 obtain ⟨r', v', s', _, _⟩ := h'.raw hz' hk
 have := Cmp_ok t t' A A' n c n' c' _ _ w r r' v v'
 rwa [s, s'] at this
theorem same_is {k : Nat} (h : Is w z t A n c) (h' : Is w z' t' A' n' c') (hz : Sz z k) (hk : k ≤ 4096) :
 Calls Try.prog 17 #[.agg #[.bool t, .slice A n c], .agg #[.bool t', .slice A' n' c']] w (fun e w' => e = .returned (.bool (decide (z = z'))) ∧ Below w.heap.size w w') := by
 have hn := h.len hz
 obtain ⟨rfl, _, r, _, _⟩ := h
 obtain ⟨rfl, _, r', _, _⟩ := h'
 have := Same_c (decide (z < 0)) (decide (z' < 0)) A A' n c n' c' _ _ w r r' (by omega)
 rwa [same_iff] at this
theorem same_eq {k : Nat} (h : Is w z t A n c) (h' : Is w z' t' A' n' c') (hz : Sz z k) (hk : k ≤ 4096) (e : z = z') :
 Calls Try.prog 17 #[.agg #[.bool t, .slice A n c], .agg #[.bool t', .slice A' n' c']] w (fun e w' => e = .returned (.bool true) ∧ Below w.heap.size w w') := by
 have := same_is h h' hz hk
 rwa [decide_eq_true e] at this
end
structure Box (W : World) (b : Nat) (z : Int) (t : Bool) (A : Option Addr) (n c : Nat) : Prop where
 lt : b < W.heap.size
 c0 : W.cell? ⟨b, 0, none⟩ = some (.bool t)
 c1 : W.cell? ⟨b, 1, none⟩ = some (.slice A n c)
 is : Is W z t A n c
theorem below_alloc (W : World) (o : Obj) : Below W.heap.size W (W.alloc o) := (Below.refl _ _).alloc (Nat.le_refl _) o
theorem Box.next {W w1 : World} {b : Nat} {z : Int} {t : Bool} {A : Option Addr} {n c : Nat} (h : Box W b z t A n c) (hb : Below W.heap.size W w1) : Box w1 b z t A n c :=
 ⟨Nat.lt_of_lt_of_le h.lt hb.size, (hb.cell (p := ⟨b, 0, none⟩) h.lt).trans h.c0, (hb.cell (p := ⟨b, 1, none⟩) h.lt).trans h.c1, h.is.below hb⟩
theorem Box.new {W : World} {z : Int} {t : Bool} {A : Option Addr} {n c : Nat} (h : Is W z t A n c) : Box (W.alloc (.cells #[.bool t, .slice A n c] 24)) W.heap.size z t A n c :=
 ⟨by simp, by go_simp, by go_simp, h.below (below_alloc _ _)⟩
theorem Box.alloc {W : World} {b : Nat} {z : Int} {t : Bool} {A : Option Addr} {n c : Nat} (h : Box W b z t A n c) (o : Obj) : Box (W.alloc o) b z t A n c := h.next (below_alloc _ _)
theorem sz_valid {s : Bool} {n k : Nat} {xs : List Nat} {w : World} {A : Option Addr} (h : Rd w A n xs) (hn : n ≤ k) : Sz (sgn s (val xs)) k := by
 show (sgn s (val xs)).natAbs < pw k
 rw [sgn_abs]
 have h1 := val_lt h.sm
 rw [h.len] at h1
 exact Nat.lt_of_lt_of_le h1 (pw_le hn)
set_option maxHeartbeats 400000 in
theorem zero_c (s : Bool) (A : Option Addr) (n c : Nat) (w : World) : Calls Try.prog 14 #[.agg #[.bool s, .slice A n c]] w fun e w' => e = .returned (.bool (decide (n = 0))) ∧ Below w.heap.size w w' := by
 by_cases h : n = 0
 · subst h
   go_enter Try.func14, Try.ntmps14
   go_wp2
   go_ret
   exact ⟨rfl, below_alloc _ _⟩
 · have H := Lib.hid (show decide (n = 0) = false from decide_eq_false h)
   have t0 : ((n : Int) == 0) = false := by rw [beq_eq_false_iff_ne]; omega
   clear h
   go_enter Try.func14, Try.ntmps14
   go_wp2
   go_ret
   exact ⟨by rw [H.out]; rfl, below_alloc _ _⟩
theorem shl_or (x y : Nat) (hx : x < 4294967296) (hy : y < 4294967296) : bits BinOp.or IntKind.u64 (x : Int) ((y : Int) * 4294967296) = ((x + 4294967296 * y : Nat) : Int) := by
 rw [show (y : Int) * 4294967296 = ((y * 2 ^ 32 : Nat) : Int) by omega, u64_or_nat _ _ (by omega) (by omega), Nat.or_comm, or_low _ _ _ (by omega)]
 omega
end Go.Proofs.Yteabokkofoomkaa
set_option maxRecDepth 100000
namespace Go.Proofs.Yteabokkofoomkaa
open Go.RowKit
theorem words_split2 {V : Nat} (h : V < 18446744073709551616) : (V = 0 ∧ words V = []) ∨ (∃ x, x ≠ 0 ∧ x < 4294967296 ∧ V = x ∧ words V = [x]) ∨ (∃ x y, x < 4294967296 ∧ y < 4294967296 ∧ y ≠ 0 ∧ V = x + 4294967296 * y ∧ words V = [x, y]) := by
 by_cases h0 : V = 0
 · exact .inl ⟨h0, by rw [h0, words_zero]⟩
 · by_cases h1 : V < 4294967296
   · refine .inr (.inl ⟨V, h0, h1, rfl, ?_⟩)
     rw [words_pos h0, Nat.mod_eq_of_lt h1, Nat.div_eq_of_lt h1, words_zero]
   · refine .inr (.inr ⟨V % 4294967296, V / 4294967296, by omega, by omega, by omega, by omega, ?_⟩)
     rw [words_pos h0, words_pos (show V / 4294967296 ≠ 0 by omega), Nat.mod_eq_of_lt (show V / 4294967296 < 4294967296 by omega), Nat.div_eq_of_lt (show V / 4294967296 < 4294967296 by omega), words_zero]
theorem words_more {V : Nat} (h : 18446744073709551616 ≤ V) : 2 < (words V).length := by
 rw [words_len_lt, pw_succ, pw_one]
 omega
def smallB (s : Bool) (V : Nat) : Bool := if s then decide (V ≤ 9223372036854775808) else decide (V < 9223372036854775808)
theorem smallB_iff {s : Bool} {V : Nat} : smallB s V = true ↔ -9223372036854775808 ≤ sgn s V ∧ sgn s V < 9223372036854775808 := by
 cases s <;> simp [smallB, sgn] <;> omega
def SmallRes (w : World) (s : Bool) (V : Nat) (e : Ending) (w' : World) : Prop :=
 e = .returned (.tuple #[.int .i64 (if smallB s V = true then sgn s V else 0), .bool (smallB s V)]) ∧ Below w.heap.size w w'
theorem small_yes {w w' : World} {s : Bool} {V : Nat} (h : smallB s V = true) {z : Int} (hz : z = sgn s V) (hb : Below w.heap.size w w') : SmallRes w s V (.returned (.tuple #[.int .i64 z, .bool true])) w' := by
 subst hz
 exact ⟨by rw [h, if_pos rfl], hb⟩
theorem small_no {w w' : World} {s : Bool} {V : Nat} (h : smallB s V = false) (hb : Below w.heap.size w w') : SmallRes w s V (.returned (.tuple #[.int .i64 0, .bool false])) w' :=
 ⟨by rw [h, if_neg (by simp)], hb⟩
theorem neg_wrap {X : Int} (h0 : 0 < X) (h1 : X ≤ 9223372036854775808) : wrap64 (IntKind.u64.wrap (-X)) = -X := by
 have e : IntKind.u64.wrap (-X) = 18446744073709551616 - X := by
  show (-X) % 18446744073709551616 = _
  omega
 rw [e]
 unfold wrap64
 omega
set_option maxHeartbeats 4000000 in
theorem Small_bad (s : Bool) (A : Option Addr) (n c : Nat) (xs : List Nat) (w : World) (h : Rd w A n xs) (hv : validB s xs = false) :
 Calls Try.prog 39 #[.agg #[.bool s, .slice A n c]] w fun e w' => e = .returned (.tuple #[.int .i64 0, .bool false]) ∧ Below w.heap.size w w' := by
 have P := Lib.hid (below_alloc w (.cells #[.bool s, .slice A n c] 24))
 have HR := Lib.hid (h.below P.out)
 have HV := Lib.hid hv
 clear h hv
 go_enter Try.func39, Try.ntmps39
 go_upto_region 1 with (fail)
 have a0 : (w.alloc (.cells #[.bool s, .slice A n c] 24)).cell? ⟨w.heap.size, 0, none⟩ = some (.bool s) := by go_simp
 have a1 : (w.alloc (.cells #[.bool s, .slice A n c] 24)).cell? ⟨w.heap.size, 1, none⟩ = some (.slice A n c) := by go_simp
 generalize w.alloc (.cells #[.bool s, .slice A n c] 24) = W0 at P HR a0 a1 ⊢
 go_wp2_with fail
 refine (valid_c s A n c xs W0 HR.out).mono ?_
 rintro e w1 ⟨rfl, hb⟩
 replace P := Lib.hid (P.out.trans (hb.mono P.out.size))
 clear hb a0 a1
 rw [HV.out]
 go_wp2
 go_ret2
 exact ⟨rfl, P.out⟩
set_option maxHeartbeats 4000000 in
theorem Small_c (s : Bool) (A : Option Addr) (n c V : Nat) (w : World) (h : Rd w A n (words V)) (hv : validB s (words V) = true) :
 Calls Try.prog 39 #[.agg #[.bool s, .slice A n c]] w (SmallRes w s V) := by
 have hl := h.len
 have P := Lib.hid (below_alloc w (.cells #[.bool s, .slice A n c] 24))
 have HR := Lib.hid (h.below P.out)
 have HV := Lib.hid hv
 have HLT := Lib.hid (show w.heap.size < (w.alloc (.cells #[.bool s, .slice A n c] 24)).heap.size by simp)
 have hsV : s = true → V ≠ 0 := by
  rintro rfl rfl
  simp [validB, words_zero] at hv
 clear h hv
 go_enter Try.func39, Try.ntmps39
 go_upto_region 1 with (fail)
 have a0 : (w.alloc (.cells #[.bool s, .slice A n c] 24)).cell? ⟨w.heap.size, 0, none⟩ = some (.bool s) := by go_simp
 have a1 : (w.alloc (.cells #[.bool s, .slice A n c] 24)).cell? ⟨w.heap.size, 1, none⟩ = some (.slice A n c) := by go_simp
 generalize w.alloc (.cells #[.bool s, .slice A n c] 24) = W0 at P HR HLT a0 a1 ⊢
 have HL := Lib.hid hl
 have HSV := Lib.hid hsV
 clear hl hsV
 go_wp2_with fail
 refine (valid_c s A n c (words V) W0 HR.out).mono ?_
 rintro e w1 ⟨rfl, hb⟩
 replace P := Lib.hid (P.out.trans (hb.mono P.out.size))
 replace HR := Lib.hid (HR.out.below hb)
 replace a0 := (hb.cell (p := ⟨w.heap.size, 0, none⟩) HLT.out).trans a0
 replace a1 := (hb.cell (p := ⟨w.heap.size, 1, none⟩) HLT.out).trans a1
 clear hb
 rw [HV.out]
 rcases Nat.lt_or_ge V 18446744073709551616 with hV | hV
 · rcases words_split2 hV with ⟨rfl, hw⟩ | ⟨x, hx0, hx, hVx, hw⟩ | ⟨x, y, hx, hy, hy0, hxV, hw⟩
   · have hn : n = 0 := by have := HL.out; rw [hw] at this; exact this.symm
     subst hn
     have hs : s = false := by
      cases s
      · rfl
      · exact absurd rfl (HSV.out rfl)
     subst hs
     have b1 : wrap64 0 = 0 := by unfold wrap64; rfl
     have hf := Lib.hid (show smallB false 0 = true from rfl)
     clear HR hV hw HSV HL
     go_wp2
     go_loop [4, 19] (fun u i => u = .int .u64 0 ∧ i = .int .i64 0) (fun _ i => (1 - intOf i).toNat)
     case atStart => exact ⟨rfl, rfl⟩
     case round =>
      obtain ⟨rfl, rfl⟩ := hrel
      go_wp2
      go_ret2
      exact small_yes hf.out (by simp [sgn]) P.out
   · have hn : n = 1 := by have := HL.out; rw [hw] at this; exact this.symm
     subst hn hVx
     obtain ⟨b, o, rfl, _, hc⟩ := HR.out.of (by omega)
     have hc0 := hc 0 (by omega)
     rw [hw, Nat.add_zero, show ([V].getD 0 0 : Nat) = V from rfl] at hc0
     obtain ⟨X, hX⟩ : ∃ X : Int, X = (V : Int) := ⟨_, rfl⟩
     rw [← hX] at hc0
     have x0 : 0 < X := by omega
     have x1 : X < 4294967296 := by omega
     have HX := Lib.hid hX
     have o1 : bits BinOp.or IntKind.u64 0 X = X := by
      rw [hX, show (0 : Int) = ((0 : Nat) : Int) from rfl, u64_or_nat _ _ (by omega) (by omega)]; simp
     have b1 : wrap64 X = X := by unfold wrap64; omega
     clear HR hc hV hw HSV HL hX hx hx0
     cases s
     · have hf := Lib.hid (show smallB false V = true by have := HX.out; simp [smallB]; omega)
       have q1 : decide (X < 9223372036854775808) = true := decide_eq_true (by omega)
       go_wp2
       go_loop [4, 19] (fun u i => (u = .int .u64 0 ∧ i = .int .i64 0) ∨ (u = .int .u64 X ∧ i = .int .i64 1)) (fun _ i => (2 - intOf i).toNat)
       case atStart => exact .inl ⟨rfl, rfl⟩
       case round =>
        rcases hrel with ⟨rfl, rfl⟩ | ⟨rfl, rfl⟩
        · go_wp2
          go_round
          case rel => exact .inr ⟨rfl, rfl⟩
          case measure => simp [intOf]
        · go_wp2
          go_ret2
          exact small_yes hf.out (by rw [HX.out]; rfl) P.out
     · have hf := Lib.hid (show smallB true V = true by have := HX.out; simp [smallB]; omega)
       have q1 : decide (X ≤ 9223372036854775808) = true := decide_eq_true (by omega)
       go_wp2
       go_loop [4, 19] (fun u i => (u = .int .u64 0 ∧ i = .int .i64 0) ∨ (u = .int .u64 X ∧ i = .int .i64 1)) (fun _ i => (2 - intOf i).toNat)
       case atStart => exact .inl ⟨rfl, rfl⟩
       case round =>
        rcases hrel with ⟨rfl, rfl⟩ | ⟨rfl, rfl⟩
        · go_wp2
          go_round
          case rel => exact .inr ⟨rfl, rfl⟩
          case measure => simp [intOf]
        · go_wp2
          go_ret2
          exact small_yes hf.out (by rw [neg_wrap (by omega) (by omega), HX.out]; rfl) P.out
   · have hn : n = 2 := by have := HL.out; rw [hw] at this; exact this.symm
     subst hn
     obtain ⟨b, o, rfl, _, hc⟩ := HR.out.of (by omega)
     have o2 := shl_or x y hx hy
     rw [← hxV] at o2
     have hc0 := hc 0 (by omega)
     rw [hw, Nat.add_zero, show ([x, y].getD 0 0 : Nat) = x from rfl] at hc0
     have hc1 := hc 1 (by omega)
     rw [hw, show ([x, y].getD 1 0 : Nat) = y from rfl] at hc1
     obtain ⟨X, hX⟩ : ∃ X : Int, X = (x : Int) := ⟨_, rfl⟩
     obtain ⟨Y, hY⟩ : ∃ Y : Int, Y = (y : Int) := ⟨_, rfl⟩
     obtain ⟨Vi, hVi⟩ : ∃ Y : Int, Y = (V : Int) := ⟨_, rfl⟩
     have x1 : 0 ≤ X := by omega
     have x2 : X < 4294967296 := by omega
     have y1 : 0 ≤ Y := by omega
     have y2 : Y < 4294967296 := by omega
     have v1 : 0 < Vi := by omega
     have v2 : Vi < 18446744073709551616 := by omega
     have o1 : bits BinOp.or IntKind.u64 0 X = X := by
      rw [hX, show (0 : Int) = ((0 : Nat) : Int) from rfl, u64_or_nat _ _ (by omega) (by omega)]; simp
     rw [← hX] at hc0
     rw [← hY] at hc1
     rw [← hX, ← hY, ← hVi] at o2
     have HX := Lib.hid hVi
     clear HR hc hV hw HSV HL hX hY hVi hx hy hy0 hxV
     cases s
     · rcases Int.lt_or_le Vi 9223372036854775808 with hq | hq
       · have hf := Lib.hid (show smallB false V = true by have := HX.out; simp [smallB]; omega)
         have q1 : decide (Vi < 9223372036854775808) = true := decide_eq_true hq
         have b1 : wrap64 Vi = Vi := by unfold wrap64; omega
         go_wp2
         go_loop [4, 19] (fun u i => (u = .int .u64 0 ∧ i = .int .i64 0) ∨ (u = .int .u64 X ∧ i = .int .i64 1) ∨ (u = .int .u64 Vi ∧ i = .int .i64 2)) (fun _ i => (3 - intOf i).toNat)
         case atStart => exact .inl ⟨rfl, rfl⟩
         case round =>
          rcases hrel with ⟨rfl, rfl⟩ | ⟨rfl, rfl⟩ | ⟨rfl, rfl⟩
          · go_wp2
            go_round
            case rel => exact (by simp)
            case measure => simp [intOf]
          · go_wp2
            go_round
            case rel => exact (by simp)
            case measure => simp [intOf]
          · go_wp2
            go_ret2
            exact small_yes hf.out (by rw [HX.out]; rfl) P.out
       · have hf := Lib.hid (show smallB false V = false by have := HX.out; simp [smallB]; omega)
         have q1 : decide (Vi < 9223372036854775808) = false := decide_eq_false (by omega)
         go_wp2
         go_loop [4, 19] (fun u i => (u = .int .u64 0 ∧ i = .int .i64 0) ∨ (u = .int .u64 X ∧ i = .int .i64 1) ∨ (u = .int .u64 Vi ∧ i = .int .i64 2)) (fun _ i => (3 - intOf i).toNat)
         case atStart => exact .inl ⟨rfl, rfl⟩
         case round =>
          rcases hrel with ⟨rfl, rfl⟩ | ⟨rfl, rfl⟩ | ⟨rfl, rfl⟩
          · go_wp2
            go_round
            case rel => exact (by simp)
            case measure => simp [intOf]
          · go_wp2
            go_round
            case rel => exact (by simp)
            case measure => simp [intOf]
          · go_wp2
            go_ret2
            exact small_no hf.out P.out
     · rcases Int.lt_or_le 9223372036854775808 Vi with hq | hq
       · have hf := Lib.hid (show smallB true V = false by have := HX.out; simp [smallB]; omega)
         have q1 : decide (Vi ≤ 9223372036854775808) = false := decide_eq_false (by omega)
         go_wp2
         go_loop [4, 19] (fun u i => (u = .int .u64 0 ∧ i = .int .i64 0) ∨ (u = .int .u64 X ∧ i = .int .i64 1) ∨ (u = .int .u64 Vi ∧ i = .int .i64 2)) (fun _ i => (3 - intOf i).toNat)
         case atStart => exact .inl ⟨rfl, rfl⟩
         case round =>
          rcases hrel with ⟨rfl, rfl⟩ | ⟨rfl, rfl⟩ | ⟨rfl, rfl⟩
          · go_wp2
            go_round
            case rel => exact (by simp)
            case measure => simp [intOf]
          · go_wp2
            go_round
            case rel => exact (by simp)
            case measure => simp [intOf]
          · go_wp2
            go_ret2
            exact small_no hf.out P.out
       · have hf := Lib.hid (show smallB true V = true by have := HX.out; simp [smallB]; omega)
         have q1 : decide (Vi ≤ 9223372036854775808) = true := decide_eq_true hq
         go_wp2
         go_loop [4, 19] (fun u i => (u = .int .u64 0 ∧ i = .int .i64 0) ∨ (u = .int .u64 X ∧ i = .int .i64 1) ∨ (u = .int .u64 Vi ∧ i = .int .i64 2)) (fun _ i => (3 - intOf i).toNat)
         case atStart => exact .inl ⟨rfl, rfl⟩
         case round =>
          rcases hrel with ⟨rfl, rfl⟩ | ⟨rfl, rfl⟩ | ⟨rfl, rfl⟩
          · go_wp2
            go_round
            case rel => exact (by simp)
            case measure => simp [intOf]
          · go_wp2
            go_round
            case rel => exact (by simp)
            case measure => simp [intOf]
          · go_wp2
            go_ret2
            exact small_yes hf.out (by rw [neg_wrap (by omega) (by omega), HX.out]; rfl) P.out
 · have hn : 2 < n := by have := HL.out; rw [← this]; exact words_more hV
   have hf := Lib.hid (show smallB s V = false by cases s <;> simp [smallB] <;> omega)
   clear HR HSV HL hV
   go_wp2
   go_ret2
   exact small_no hf.out P.out
structure RdI (w : World) (A : Option Addr) (n : Nat) (zs : List Int) : Prop where
 len : zs.length = n
 at_ : 0 < n → ∃ b o, A = some ⟨b, o, none⟩ ∧ b < w.heap.size ∧ ∀ k, k < n → w.cell? ⟨b, o + k, none⟩ = some (.int .i64 (zs.getD k 0))
theorem RdI.below {w w' : World} {A : Option Addr} {n : Nat} {zs : List Int} (h : RdI w A n zs) (hb : Below w.heap.size w w') : RdI w' A n zs := by
 refine ⟨h.len, fun h0 => ?_⟩
 obtain ⟨b, o, e, hlt, hc⟩ := h.at_ h0
 exact ⟨b, o, e, Nat.lt_of_lt_of_le hlt hb.size, fun k hk => (hb.cell (p := ⟨b, o + k, none⟩) hlt).trans (hc k hk)⟩
theorem RdI.nil (w : World) (A : Option Addr) : RdI w A 0 [] := ⟨rfl, fun h => absurd h (by omega)⟩
theorem bel_alloc (W : World) (o : Obj) : Below W.heap.size W (W.alloc o) := (Below.refl _ _).alloc (Nat.le_refl _) o
def RetB (b : Bool) (w : World) (e : Ending) (w' : World) : Prop := e = .returned (.bool b) ∧ Below w.heap.size w w'
end Go.Proofs.Yteabokkofoomkaa
