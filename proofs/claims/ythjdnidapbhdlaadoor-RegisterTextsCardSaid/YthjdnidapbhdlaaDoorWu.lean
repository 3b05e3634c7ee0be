import Derived.Test.YthjdnidapbhdlaaDoorWj
namespace Go.Proofs.YthjdnidapbhdlaaDoor
open Go.RowKit

/-- dividing by a word, from the highest word on: k words are left -/
structure DivAt (xs : List Nat) (v k : Nat) (L : List Nat) (r : Nat) : Prop where
  len : L.length = xs.length
  sm : small L
  low : L.take k = xs.take k
  eq : val (xs.drop k) = val (L.drop k) * v + r
  lt : r < v
theorem DivAt.start {xs : List Nat} (hs : small xs) {v : Nat} (hv : 0 < v) : DivAt xs v xs.length xs 0 :=
  ⟨rfl, hs, rfl, by rw [List.drop_length]; simp [val], hv⟩
theorem getD_take_eq {L xs : List Nat} {k : Nat} (h : L.take (k + 1) = xs.take (k + 1)) : L.getD k 0 = xs.getD k 0 := by
  have := congrArg (fun l : List Nat => l.getD k 0) h
  simpa [List.getD_eq_getElem?_getD, List.getElem?_take] using this
theorem drop_get (xs : List Nat) (k : Nat) (h : k < xs.length) : val (xs.drop k) = xs.getD k 0 + 4294967296 * val (xs.drop (k + 1)) := by
  rw [List.drop_eq_getElem_cons h, val_cons]
  simp [List.getD_eq_getElem?_getD, List.getElem?_eq_getElem h]
theorem div_word_lt {r v x : Nat} (hr : r < v) (hx : x < 4294967296) : (r * 4294967296 + x) / v < 4294967296 := by
  rw [Nat.div_lt_iff_lt_mul (by omega)]
  have : (r + 1) * 4294967296 ≤ v * 4294967296 := Nat.mul_le_mul_right _ hr
  rw [Nat.add_mul] at this
  rw [Nat.mul_comm 4294967296 v]
  omega
theorem DivAt.next {xs L : List Nat} {v k r : Nat} (h : DivAt xs v (k + 1) L r) (hs : small xs) (hk : k < xs.length) :
    DivAt xs v k (L.set k ((r * 4294967296 + xs.getD k 0) / v)) ((r * 4294967296 + xs.getD k 0) % v) := by
  have hx := small_get hs k
  have hlt := h.lt
  have hq := div_word_lt hlt hx
  refine ⟨by rw [List.length_set]; exact h.len, small_set h.sm _ _ hq, ?_, ?_, Nat.mod_lt _ (by omega)⟩
  · have h1 := congrArg (fun l : List Nat => l.take k) h.low
    simp only [List.take_take, Nat.min_eq_left (Nat.le_succ k)] at h1
    rw [List.take_set_of_le (Nat.le_refl k)]
    exact h1
  · have e1 := drop_get xs k hk
    have e2 := drop_get (L.set k ((r * 4294967296 + xs.getD k 0) / v)) k (by rw [List.length_set, h.len]; exact hk)
    have e4 : (L.set k ((r * 4294967296 + xs.getD k 0) / v)).drop (k + 1) = L.drop (k + 1) := List.drop_set_of_lt (by omega)
    rw [e4] at e2
    have e3 : (L.set k ((r * 4294967296 + xs.getD k 0) / v)).getD k 0 = (r * 4294967296 + xs.getD k 0) / v := by
      rw [List.getD_eq_getElem?_getD, List.getElem?_set_self (by rw [h.len]; exact hk)]; rfl
    rw [e3] at e2
    rw [e1, e2, h.eq]
    have hd := Nat.div_add_mod (r * 4294967296 + xs.getD k 0) v
    generalize xs.getD k 0 = x at *
    generalize (r * 4294967296 + x) / v = q at *
    generalize (r * 4294967296 + x) % v = m at *
    generalize val (L.drop (k + 1)) = Q at *
    rw [Nat.add_mul, Nat.mul_comm q v, Nat.mul_assoc]
    omega
theorem DivAt.done {xs L : List Nat} {v r : Nat} (h : DivAt xs v 0 L r) : val L = val xs / v ∧ r = val xs % v := by
  have he := h.eq
  have hlt := h.lt
  simp only [List.drop_zero] at he
  rw [he]
  constructor
  · rw [Nat.mul_comm, Nat.mul_add_div (by omega), Nat.div_eq_of_lt hlt, Nat.add_zero]
  · rw [Nat.mul_comm, Nat.mul_add_mod, Nat.mod_eq_of_lt hlt]

theorem shl_or2 (r x : Nat) (hr : r < 4294967296) (hx : x < 4294967296) : bits BinOp.or IntKind.u64 ((r : Int) * 4294967296) (x : Int) = ((r * 4294967296 + x : Nat) : Int) := by
  rw [show (r : Int) * 4294967296 = ((r * 2 ^ 32 : Nat) : Int) by omega, u64_or_nat _ _ (by omega) (by omega), or_low _ _ _ (by omega)]

set_option maxHeartbeats 800000 in
theorem divideByWord_c (g n c v : Nat) (xs : List Nat) (w : World) (hL : Bk w g xs) (hn : xs.length = n) (hn2 : n ≤ 9223372036854775800) (hv : 0 < v) (hv2 : v < 4294967296) :
    Calls Tryd.prog 87 #[.slice (some ⟨g, 0, none⟩) n c, .int .u32 (v : Int)] w fun e w' => e = .returned (.int .u32 ((val xs % v : Nat) : Int)) ∧ w.grownBy w' (some g) ∧ ∃ qs, qs.length = n ∧ val qs = val xs / v ∧ Bk w' g qs := by
  have hs := hL.1
  have HN := Lib.hid hn
  clear hn
  go_enter Tryd.func87, Tryd.ntmps87
  go_wp2
  go_loopw [5, 6] (fun rv iv wr => ∃ k r : Nat, ∃ L, rv = .int .u64 r ∧ iv = .int .i64 ((k : Int) - 1) ∧ k ≤ n ∧ DivAt xs v k L r ∧ Bk wr g L ∧ w.grownBy wr (some g)) (fun _ iv _ => (intOf iv + 1).toNat)
  case atStart => exact ⟨n, 0, xs, rfl, rfl, Nat.le_refl _, by rw [← HN.out]; exact DivAt.start hs hv, hL, ⟨rfl, rfl, rfl, Nat.le_refl _, fun _ _ _ => rfl⟩⟩
  case round =>
    obtain ⟨k, r, L, rfl, rfl, hk, hD, hB, hg⟩ := hrel
    have hlt := hD.lt
    rcases Nat.eq_zero_or_pos k with hk0 | hk0
    · subst hk0
      obtain ⟨d1, d2⟩ := hD.done
      have H := Lib.hid (show w.grownBy wr (some g) ∧ ∃ qs, qs.length = n ∧ val qs = val xs / v ∧ Bk wr g qs from ⟨hg, L, by rw [hD.len, HN.out], d1, hB⟩)
      have HR := Lib.hid d2
      clear d1 d2 hD hB hg
      go_wp2
      go_ret
      exact ⟨by rw [← HR.out]; rfl, H.out⟩
    · obtain ⟨i, rfl⟩ : ∃ i, k = i + 1 := ⟨k - 1, by omega⟩
      have ei : (((i + 1 : Nat) : Int) - 1) = (i : Int) := by omega
      rw [ei]
      have hl : L.length = n := by rw [hD.len, HN.out]
      have hcx := hB.cell i (by omega)
      rw [getD_take_eq hD.low] at hcx
      have hfx := hB.frozen i
      have hx1 := small_get hs i
      have hnx := hD.next hs (by rw [HN.out]; omega)
      obtain ⟨x, hx⟩ : ∃ x, x = xs.getD i 0 := ⟨_, rfl⟩
      rw [← hx] at hcx hx1 hnx
      have hor := shl_or2 r x (by omega) hx1
      have hq1 := div_word_lt hlt hx1
      have hr1 := Nat.mod_lt (r * 4294967296 + x) hv
      have hT1 : r * 4294967296 + x < 18446744073709551616 := by omega
      obtain ⟨T, hT⟩ : ∃ T, T = r * 4294967296 + x := ⟨_, rfl⟩
      rw [← hT] at hor hnx hq1 hr1 hT1
      have ed : (T : Int) / (v : Int) = ((T / v : Nat) : Int) := by simp
      have em : (T : Int) % (v : Int) = ((T % v : Nat) : Int) := by simp
      obtain ⟨q, hq⟩ : ∃ q, q = T / v := ⟨_, rfl⟩
      obtain ⟨r', hr'⟩ : ∃ r', r' = T % v := ⟨_, rfl⟩
      rw [← hq] at ed hnx hq1
      rw [← hr'] at em hnx hr1
      have hbn := hB.set_ i q hq1
      have hgn := grown_setCell hg (p := ⟨g, i, none⟩) (.inl rfl) (.int .u32 (q : Int))
      have H1 := Lib.hid hnx
      have H2 := Lib.hid hbn
      have H3 := Lib.hid hgn
      clear hq hr' hT hx hnx hbn hgn hD hB hg hl hs ei
      go_wp2
      go_roundw
      case measure => simp [intOf]
      case rel => exact ⟨i, r', _, by rw [em], rfl, by omega, H1.out, H2.out, H3.out⟩
end Go.Proofs.YthjdnidapbhdlaaDoor
namespace Go.Proofs.YthjdnidapbhdlaaDoor
open Go.RowKit

/-- quotient and rest, as two slices of words -/
def Out2 (w : World) (q r : Nat) (e : Ending) (w' : World) : Prop :=
  ∃ A c B d, e = .returned (.tuple #[.slice A (words q).length c, .slice B (words r).length d]) ∧ Rd w' A (words q).length (words q) ∧ (words q).length ≤ c ∧ c ≤ 9223372036854775807 ∧ Rd w' B (words r).length (words r) ∧ (words r).length ≤ d ∧ d ≤ 9223372036854775807 ∧ Below w.heap.size w w'

theorem words_one {x : Nat} (h : x < 4294967296) (h0 : x ≠ 0) : words x = [x] := by
  rw [words_pos h0, Nat.mod_eq_of_lt h, Nat.div_eq_of_lt h, words_zero]
theorem val_one (x : Nat) : val [x] = x := by simp [val]
theorem small_one {x : Nat} (h : x < 4294967296) : small [x] := small_cons.2 ⟨h, small_nil⟩

set_option maxHeartbeats 800000 in
theorem divide_less (A B : Option Addr) (n c m d : Nat) (xs ys : List Nat) (w : World) (ha : Rd w A n xs) (hb : Rd w B m ys) (cx : canon xs) (cy : canon ys) (hn : n ≤ 70368744177664) (hm : m ≤ 70368744177664) (hlt : val xs < val ys) :
    Calls Tryd.prog 80 #[.slice A n c, .slice B m d] w (Out2 w (val xs / val ys) (val xs % val ys)) := by
  have HX := Lib.hid ha.len
  have HC := Lib.hid cx
  have CM := Lib.hid (fun w' hx hy => compare_c A B n c m d xs ys w' hx hy cx cy (by omega) (by omega))
  have HO := Lib.hid (ord_lt (show (val xs : Int) < (val ys : Int) by omega))
  have HQ := Lib.hid (Nat.div_eq_of_lt hlt)
  have HR := Lib.hid (Nat.mod_eq_of_lt hlt)
  clear hlt
  go_enter Tryd.func80, Tryd.ntmps80
  go_wp2_with fail
  refine (CM.out w ha hb).mono ?_
  rintro e w1 ⟨rfl, k, rfl⟩
  rw [HO.out]
  go_wp2_with fail
  refine (clone_c A n c xs _ (ha.drewN k) hn).mono ?_
  rintro e w2 ⟨g, rfl, hg, hbk, hw⟩
  go_wp2
  go_ret2
  refine ⟨none, 0, some ⟨g, 0, none⟩, xs.length, ?_, ?_, ?_, by omega, ?_, ?_, by rw [HX.out]; omega, (below_drewN (Below.refl _ _) k).trans hw⟩
  · rw [HQ.out, HR.out, words_zero, words_val HC.out]; rfl
  · rw [HQ.out, words_zero]; exact Rd.nil _
  · rw [HQ.out, words_zero]; exact Nat.le_refl _
  · rw [HR.out, words_val HC.out]; exact hbk.rd
  · rw [HR.out, words_val HC.out]; exact Nat.le_refl _

set_option maxHeartbeats 1000000 in
set_option maxRecDepth 100000 in
theorem divide_word (A B : Option Addr) (n c d v : Nat) (xs : List Nat) (w : World) (ha : Rd w A n xs) (hb : Rd w B 1 [v]) (cx : canon xs) (hv0 : 0 < v) (hn : n ≤ 70368744177664) (hle : v ≤ val xs) :
    Calls Tryd.prog 80 #[.slice A n c, .slice B 1 d] w (Out2 w (val xs / v) (val xs % v)) := by
  have hv2 : v < 4294967296 := (small_cons.1 hb.sm).1
  have cv : canon [v] := ⟨small_one hv2, by simp; omega⟩
  have HX := Lib.hid ha.len
  have CM := Lib.hid (fun w' hx hy => compare_c A B n c 1 d xs [v] w' hx hy cx cv (by omega) (by omega))
  have ho : 0 ≤ ord (val xs) (val [v]) := by
    rw [val_one]
    rcases Nat.lt_or_ge v (val xs) with h1 | h1
    · rw [ord_gt (by omega)]; omega
    · rw [ord_eq (by omega)]; exact Int.le_refl _
  obtain ⟨od, hod⟩ : ∃ od, od = ord (val xs) (val [v]) := ⟨_, rfl⟩
  rw [← hod] at ho CM
  obtain ⟨b, o, rfl, hb1, hcell⟩ := hb.of (by omega)
  have hc0 := hcell 0 (by omega)
  have hc0' : w.cell? ⟨b, o, none⟩ = some (.int .u32 (v : Int)) := hc0
  have HC0 := Lib.hid hc0'
  have hrl := Nat.mod_lt (val xs) hv0
  obtain ⟨rv, hrv⟩ : ∃ rv, rv = val xs % v := ⟨_, rfl⟩
  have DW : Hid (∀ g w', Bk w' g xs → Calls Tryd.prog 87 #[.slice (some ⟨g, 0, none⟩) n n, .int .u32 (v : Int)] w' fun e w'' => e = .returned (.int .u32 (rv : Int)) ∧ w'.grownBy w'' (some g) ∧ ∃ qs, qs.length = n ∧ val qs = val xs / v ∧ Bk w'' g qs) := fun g w' hk => by
    rw [hrv]
    exact divideByWord_c g n n v xs w' hk HX.out (by omega) hv0 hv2
  rw [← hrv] at hrl
  have RV := Lib.hid hrv
  clear hod hle cv hcell hc0 hc0' hrv
  go_enter Tryd.func80, Tryd.ntmps80
  go_wp2_with fail
  refine (CM.out w ha hb).mono ?_
  rintro e w1 ⟨rfl, k, rfl⟩
  go_wp2_with fail
  refine (clone_c A n c xs _ (ha.drewN k) hn).mono ?_
  rintro e w2 ⟨g, rfl, hg, hbk, hw⟩
  rw [HX.out]
  have HB2 := Lib.hid ((below_drewN (Below.refl w.heap.size w) k).trans hw)
  have hc2 := (HB2.out.cell (p := ⟨b, o, none⟩) hb1).trans HC0.out
  go_wp2_with fail
  refine (DW.out g w2 hbk).mono ?_
  rintro e w3 ⟨rfl, hg3, qs, hql, hqv, hqb⟩
  have HB3 := Lib.hid (HB2.out.trans (below_of_grown hg3 HB2.out.size hg))
  have QL := Lib.hid hql
  have QV := Lib.hid hqv
  have hrd := hqb.rd
  rw [hql] at hrd
  clear hql hqv hg3
  go_wp2_with fail
  refine (trim_c _ _ _ qs w3 hrd (Nat.le_refl _) (by omega)).mono ?_
  intro e w4 h4
  obtain ⟨A', c', rfl, r1, r2, r3, r4, -⟩ := out_of_trim (w := w) (v := val xs / v) hqb hg QV.out HB3.out (by have := QL.out; omega) h4
  have R1 := Lib.hid r1
  clear h4 r1
  go_wp2_with fail
  rw [show Obj.cells #[.int .u32 (rv : Int)] 86 = row [rv] from rfl]
  have hb5 := Bk.new w4 (small_one (show rv < 4294967296 by omega))
  have hw5 := r4.alloc r4.size (row [rv])
  have R2 := Lib.hid (R1.out.alloc (row [rv]))
  refine (trim_c _ 1 1 [rv] _ hb5.rd (Nat.le_refl _) (by omega)).mono ?_
  intro e w5 h5
  obtain ⟨A5, c5, rfl, s1, s2, s3, s4, -⟩ := out_of_trim (w := w) (v := rv) hb5 r4.size (val_one rv) hw5 (by simp) h5
  obtain ⟨k5, hk5⟩ : ∃ k5, w5 = (w4.alloc (row [rv])).drewN k5 := by
    obtain ⟨_, _, _, k5, hk5⟩ := h5
    exact ⟨k5, hk5⟩
  have R3 := Lib.hid (show Rd w5 A' (words (val xs / v)).length (words (val xs / v)) by rw [hk5]; exact R2.out.drewN k5)
  have S1 := Lib.hid s1
  clear h5 s1 hk5
  go_wp2
  go_ret2
  exact ⟨A', c', A5, c5, by rw [← RV.out]; rfl, R3.out, r2, r3, by rw [← RV.out]; exact S1.out, by rw [← RV.out]; exact s2, s3, s4⟩
end Go.Proofs.YthjdnidapbhdlaaDoor
namespace Go.Proofs.YthjdnidapbhdlaaDoor
open Go.RowKit

/-- a struct's cells read as the integer z -/
def Is (w : World) (z : Int) (t : Bool) (B : Option Addr) (m d : Nat) : Prop :=
  t = decide (z < 0) ∧ m = (words z.natAbs).length ∧ Rd w B m (words z.natAbs) ∧ m ≤ d ∧ d ≤ 9223372036854775807
theorem Is.below {w w' : World} {z : Int} {t : Bool} {B : Option Addr} {m d : Nat} (h : Is w z t B m d) (hb : Below w.heap.size w w') : Is w' z t B m d :=
  ⟨h.1, h.2.1, h.2.2.1.below hb, h.2.2.2⟩
theorem Is.set_other {w : World} {z : Int} {t : Bool} {B : Option Addr} {m d : Nat} (h : Is w z t B m d) {p : Addr} {v : Value} (hp : w.cell? p = some v) (hv : ∀ z, v ≠ .int .u32 z) (u : Value) : Is (w.setCell p u) z t B m d :=
  ⟨h.1, h.2.1, h.2.2.1.set_other hp hv u, h.2.2.2⟩
theorem Is.store {w : World} {z : Int} {t : Bool} {B : Option Addr} {m d : Nat} (h : Is w z t B m d) {g : Nat} {x : Bool} {a : Option Addr} {i j : Nat} (h0 : w.cell? ⟨g, 0, none⟩ = some (.bool x)) (h1 : w.cell? ⟨g, 1, none⟩ = some (.slice a i j)) (u v : Value) :
    Is ((w.setCell ⟨g, 0, none⟩ u).setCell ⟨g, 1, none⟩ v) z t B m d :=
  ⟨h.1, h.2.1, h.2.2.1.store h0 h1 u v, h.2.2.2⟩
theorem NumIs.is_ {w : World} {z k : Int} {t : Bool} {B : Option Addr} {m d : Nat} (h : NumIs w z t B m d k) (hl : (words z.natAbs).length ≤ 4096) : k = 0 ∧ Is w z t B m d := by
  obtain ⟨a, b⟩ := h.1 hl
  exact ⟨a, b⟩
def DivPost (w : World) (zq zr : Int) (e : Ending) (w' : World) : Prop :=
  ∃ t B m d t' B' m' d', e = .returned (.tuple #[.agg #[.bool t, .slice B m d], .agg #[.bool t', .slice B' m' d'], .int .i64 0]) ∧ Is w' zq t B m d ∧ Is w' zr t' B' m' d' ∧ Below w.heap.size w w'

theorem div_pos (s' : Bool) (X Y : Nat) : (X : Int) / sgn s' Y = sgn (false != s') (X / Y) ∧ (X : Int) % sgn s' Y = ((X % Y : Nat) : Int) := by
  cases s'
  · simp [sgn]
  · simp [sgn]
theorem div_neg0 (s' : Bool) (X Y : Nat) (hY : 0 < Y) (hr : X % Y = 0) : (-(X : Int)) / sgn s' Y = sgn (true != s') (X / Y) ∧ (-(X : Int)) % sgn s' Y = 0 := by
  have e : (X : Int) = (Y : Int) * ((X / Y : Nat) : Int) := by
    have := Nat.div_add_mod X Y
    rw [hr, Nat.add_zero] at this
    rw [← Int.natCast_mul, this]
  have e2 : -(X : Int) = (Y : Int) * -((X / Y : Nat) : Int) := by rw [Int.mul_neg, ← e]
  obtain ⟨Q, hQ⟩ : ∃ Q, Q = X / Y := ⟨_, rfl⟩
  rw [← hQ] at e2 ⊢
  rw [e2]
  have hY0 : (Y : Int) ≠ 0 := by omega
  cases s'
  · show (Y : Int) * -(Q : Int) / (Y : Int) = -(Q : Int) ∧ (Y : Int) * -(Q : Int) % (Y : Int) = 0
    exact ⟨Int.mul_ediv_cancel_left _ hY0, Int.mul_emod_right _ _⟩
  · show (Y : Int) * -(Q : Int) / -(Y : Int) = (Q : Int) ∧ (Y : Int) * -(Q : Int) % -(Y : Int) = 0
    rw [Int.ediv_neg, Int.mul_ediv_cancel_left _ hY0, Int.neg_neg, Int.emod_neg]
    exact ⟨rfl, Int.mul_emod_right _ _⟩
theorem div_neg1 (s' : Bool) (X Y : Nat) (hY : 0 < Y) (hr : 0 < X % Y) : (-(X : Int)) / sgn s' Y = sgn (true != s') (X / Y + 1) ∧ (-(X : Int)) % sgn s' Y = ((Y - X % Y : Nat) : Int) := by
  have hl := Nat.mod_lt X hY
  have hd := Nat.div_add_mod X Y
  obtain ⟨Q, hQ⟩ : ∃ Q, Q = X / Y := ⟨_, rfl⟩
  obtain ⟨R, hR⟩ : ∃ R, R = X % Y := ⟨_, rfl⟩
  rw [← hQ, ← hR] at hd
  rw [← hR] at hl hr
  rw [← hQ, ← hR]
  have hc : (Y : Int) * (Q : Int) + (R : Int) = (X : Int) := by rw [← hd]; simp
  have hu := (Int.ediv_emod_unique (a := -(X : Int)) (b := (Y : Int)) (q := -((Q + 1 : Nat) : Int)) (r := ((Y - R : Nat) : Int)) (by omega)).2 ⟨by
    rw [Int.mul_neg, Int.natCast_add, Int.mul_add]
    simp only [Int.natCast_one, Int.mul_one]
    omega, by omega, by omega⟩
  cases s'
  · exact hu
  · show -(X : Int) / -(Y : Int) = ((Q + 1 : Nat) : Int) ∧ -(X : Int) % -(Y : Int) = ((Y - R : Nat) : Int)
    rw [Int.ediv_neg, Int.emod_neg, hu.1, hu.2, Int.neg_neg]
    exact ⟨rfl, rfl⟩

/-- two numbers in boxes, and the cells of two results -/
structure Env4 (w W : World) (s s' : Bool) (A A' : Option Addr) (n c n' c' : Nat) : Prop where
  env : Env w W s s' A A' n c n' c'
  size : w.heap.size + 4 ≤ W.heap.size
  r0 : W.cell? ⟨w.heap.size + 1 + 1 + 1, 0, none⟩ = some (.bool false)
  r1 : W.cell? ⟨w.heap.size + 1 + 1 + 1, 1, none⟩ = some (.slice none 0 0)
  f0 : W.frozen? ⟨w.heap.size + 1 + 1 + 1, 0, none⟩ = false
  f1 : W.frozen? ⟨w.heap.size + 1 + 1 + 1, 1, none⟩ = false
theorem Env4.start (w : World) (s s' : Bool) (A A' : Option Addr) (n c n' c' : Nat) :
    Env4 w ((((w.alloc (.cells #[.bool s, .slice A n c] 24)).alloc (.cells #[.bool s', .slice A' n' c'] 24)).alloc (.cells #[.bool false, .slice none 0 0] 24)).alloc (.cells #[.bool false, .slice none 0 0] 24)) s s' A A' n c n' c' :=
  ⟨(Env.start w s s' A A' n c n' c').alloc _, by simp, by go_simp, by go_simp, by go_simp, by go_simp⟩
theorem Env4.next {w W w1 : World} {s s' : Bool} {A A' : Option Addr} {n c n' c' : Nat} (h : Env4 w W s s' A A' n c n' c') (hb : Below W.heap.size W w1) : Env4 w w1 s s' A A' n c n' c' := by
  have hz := h.size
  have hz1 := hb.size
  exact ⟨h.env.next hb, by omega,
    (hb.cell (p := ⟨w.heap.size + 1 + 1 + 1, 0, none⟩) (by simp; omega)).trans h.r0, (hb.cell (p := ⟨w.heap.size + 1 + 1 + 1, 1, none⟩) (by simp; omega)).trans h.r1,
    (hb.frozen (p := ⟨w.heap.size + 1 + 1 + 1, 0, none⟩) (by simp; omega)).trans h.f0, (hb.frozen (p := ⟨w.heap.size + 1 + 1 + 1, 1, none⟩) (by simp; omega)).trans h.f1⟩
theorem Env4.alloc {w W : World} {s s' : Bool} {A A' : Option Addr} {n c n' c' : Nat} (h : Env4 w W s s' A A' n c n' c') (o : Obj) : Env4 w (W.alloc o) s s' A A' n c n' c' :=
  h.next ((Below.refl _ _).alloc (Nat.le_refl _) o)
theorem Is.drew {w : World} {z : Int} {t : Bool} {B : Option Addr} {m d : Nat} (h : Is w z t B m d) : Is w.drew z t B m d := h.below (Below.refl _ _).drew
theorem div_done {w W W6 : World} {s s' : Bool} {A A' : Option Addr} {n c n' c' : Nat} {zq zr : Int} {t t' : Bool} {B B' : Option Addr} {m d m' d' : Nat} (E : Env4 w W s s' A A' n c n' c') (J1 : Is W zq t B m d) (J2 : Is W zr t' B' m' d')
    (hW : (((W.setCell ⟨w.heap.size + 1 + 1, 0, none⟩ (.bool t)).setCell ⟨w.heap.size + 1 + 1, 1, none⟩ (.slice B m d)).setCell ⟨w.heap.size + 1 + 1 + 1, 0, none⟩ (.bool t')).setCell ⟨w.heap.size + 1 + 1 + 1, 1, none⟩ (.slice B' m' d') = W6) :
    DivPost w zq zr (.returned (.tuple #[.agg #[.bool t, .slice B m d], .agg #[.bool t', .slice B' m' d'], .int .i64 0])) W6.drew := by
  subst hW
  have k0 := cell_two (u := .bool t) (v := .slice B m d) (show w.heap.size + 1 + 1 ≠ w.heap.size + 1 + 1 + 1 by omega) E.r0
  have k1 := cell_two (u := .bool t) (v := .slice B m d) (show w.heap.size + 1 + 1 ≠ w.heap.size + 1 + 1 + 1 by omega) E.r1
  refine ⟨t, B, m, d, t', B', m', d', rfl, ((J1.store E.env.r0 E.env.r1 _ _).store k0 k1 _ _).drew, ((J2.store E.env.r0 E.env.r1 _ _).store k0 k1 _ _).drew, ?_⟩
  exact (below_store (below_store E.env.below (by omega) _ _) (by omega) _ _).drew
end Go.Proofs.YthjdnidapbhdlaaDoor
namespace Go.Proofs.YthjdnidapbhdlaaDoor
open Go.RowKit

set_option maxHeartbeats 400000 in
set_option maxRecDepth 100000 in
theorem Div_pos (s' : Bool) (A A' : Option Addr) (n c n' c' : Nat) (xs ys : List Nat) (w : World) (h : Rd w A n xs) (h' : Rd w A' n' ys) (vx : validB false xs = true) (vy : validB s' ys = true) (h0 : 0 < n')
    (DV : Hid (∀ w', Rd w' A n xs → Rd w' A' n' ys → Calls Tryd.prog 80 #[.slice A n c, .slice A' n' c'] w' (Out2 w' (val xs / val ys) (val xs % val ys)))) :
    Calls Tryd.prog 37 #[.agg #[.bool false, .slice A n c], .agg #[.bool s', .slice A' n' c']] w (DivPost w (sgn false (val xs) / sgn s' (val ys)) (sgn false (val xs) % sgn s' (val ys))) := by
  have VX := Lib.hid (valid_canon h.sm vx)
  have VY := Lib.hid (valid_canon h'.sm vy)
  have HV := Lib.hid (show (validB false xs && validB s' ys) = true by rw [vx, vy]; rfl)
  have t0 : ((n' : Int) == 0) = false := by rw [beq_eq_false_iff_ne]; omega
  have hYp := canon_pos VY.out.1 (by rw [h'.len]; omega)
  have hZ := Lib.hid (div_pos s' (val xs) (val ys))
  rw [show (false != s') = s' by cases s' <;> rfl] at hZ
  obtain ⟨Q, hQ⟩ : ∃ Q, Q = val xs / val ys := ⟨_, rfl⟩
  obtain ⟨R, hR⟩ : ∃ R, R = val xs % val ys := ⟨_, rfl⟩
  have hQl : (words Q).length ≤ 4096 := by
    have := words_mono (Nat.div_le_self (val xs) (val ys))
    rw [words_val VX.out.1, ← hQ] at this
    exact Nat.le_trans this VX.out.2.1
  have hRl : (words R).length ≤ 4096 := by
    have := words_mono (Nat.mod_le (val xs) (val ys))
    rw [words_val VX.out.1, ← hR] at this
    exact Nat.le_trans this VX.out.2.1
  rw [← hQ, ← hR] at DV hZ
  have HQ := Lib.hid (show (words (sgn s' (val (words Q))).natAbs).length ≤ 4096 by rw [sgn_abs, val_words]; exact hQl)
  have HR := Lib.hid (show (words (sgn false (val (words R))).natAbs).length ≤ 4096 by rw [sgn_abs, val_words]; exact hRl)
  clear vx vy hQ hR hYp
  go_enter Tryd.func37, Tryd.ntmps37
  go_wp2_with fail
  have E := (Env4.start w false s' A A' n c n' c').alloc (.cells #[.bool false, .slice A n c, .bool s', .slice A' n' c'] 24)
  refine (allValid_c (w.heap.size + 1 + 1 + 1 + 1) false s' A A' n c n' c' xs ys _ (h.below E.env.below) (h'.below E.env.below) (by simp) (by go_simp) (by go_simp) (by go_simp) (by go_simp)).mono ?_
  rintro e w1 ⟨rfl, hb⟩
  rw [HV.out]
  have E1 := Lib.hid (E.next hb)
  clear E hb
  have a0 := E1.out.env.a0
  have a1 := E1.out.env.a1
  have b1 := E1.out.env.b1
  go_wp2_with fail
  refine (DV.out w1 (h.below E1.out.env.below) (h'.below E1.out.env.below)).mono ?_
  rintro e w2 ⟨Aq, cq, Ar, cr, rfl, q1, q2, q3, r1, r2, r3, hb⟩
  have E2 := Lib.hid (E1.out.next hb)
  clear a0 a1 b1 hb
  have a0 := E2.out.env.a0
  have b0 := E2.out.env.b0
  go_wp2_with fail
  refine (number_c s' Aq _ cq (words Q) w2 q1 q2 q3).mono ?_
  rintro e w3 ⟨t, B, m, d, k, rfl, p1, p2⟩
  obtain ⟨hk, I1⟩ := p1.is_ HQ.out
  subst hk
  have E3 := Lib.hid (E2.out.next p2)
  have rr := r1.below p2
  clear a0 b0 p1 q1
  go_wp2_with fail
  refine (number_c false Ar _ cr (words R) _ (rr.alloc _) r2 r3).mono ?_
  rintro e w4 ⟨t', B', m', d', k, rfl, p3, p4⟩
  obtain ⟨hk, I2⟩ := p3.is_ HR.out
  subst hk
  have E4 := Lib.hid ((E3.out.alloc (.cells #[.bool t, .slice B m d] 24)).next p4)
  have hb34 : Below w3.heap.size w3 w4 := ((Below.refl _ _).alloc (Nat.le_refl _) (.cells #[.bool t, .slice B m d] 24)).trans (p4.mono (by simp))
  have v0 := (p4.cell (p := ⟨w3.heap.size, 0, none⟩) (by simp)).trans (show _ = some (.bool t) by go_simp)
  have v1 := (p4.cell (p := ⟨w3.heap.size, 1, none⟩) (by simp)).trans (show _ = some (.slice B m d) by go_simp)
  have hz34 : w3.heap.size < w4.heap.size := by have := p4.size; simp at this; omega
  have I1' := I1.below hb34
  clear p3 I1 rr r1
  go_wp2_with fail
  have hbn : Below w4.heap.size w4 (w4.alloc (.cells #[.bool t', .slice B' m' d'] 24)) := (Below.refl _ _).alloc (Nat.le_refl _) _
  have E5 := E4.out.next hbn
  have J1 := I1'.below hbn
  have J2 := I2.below hbn
  have x0 := (hbn.cell (p := ⟨w3.heap.size, 0, none⟩) hz34).trans v0
  have x1 := (hbn.cell (p := ⟨w3.heap.size, 1, none⟩) hz34).trans v1
  have y0 : (w4.alloc (.cells #[.bool t', .slice B' m' d'] 24)).cell? ⟨w4.heap.size, 0, none⟩ = some (.bool t') := by go_simp
  have y1 : (w4.alloc (.cells #[.bool t', .slice B' m' d'] 24)).cell? ⟨w4.heap.size, 1, none⟩ = some (.slice B' m' d') := by go_simp
  generalize w4.alloc (.cells #[.bool t', .slice B' m' d'] 24) = w5 at E5 J1 J2 x0 x1 y0 y1 ⊢
  have r0 := E5.env.r0
  have r1 := E5.env.r1
  have f0 := E5.env.f0
  have f1 := E5.env.f1
  have s0 := E5.r0
  have s1 := E5.r1
  have g0 := E5.f0
  have g1 := E5.f1
  have hz4 := E4.out.size
  have hz3 := E3.out.size
  clear hbn
  go_region
  go_wp2
  generalize hW : (((w5.setCell ⟨w.heap.size + 1 + 1, 0, none⟩ (.bool t)).setCell ⟨w.heap.size + 1 + 1, 1, none⟩ (.slice B m d)).setCell ⟨w.heap.size + 1 + 1 + 1, 0, none⟩ (.bool t')).setCell ⟨w.heap.size + 1 + 1 + 1, 1, none⟩ (.slice B' m' d') = w6
  obtain ⟨z0, z1, z2, z3, -, -⟩ := swap_cells (by omega) r0 r1 s0 s1 hW
  refine bodyPost_ret (v := .tuple #[.agg #[.bool t, .slice B m d], .agg #[.bool t', .slice B' m' d'], .int .i64 0]) (by simp [results, Tryd.results37, go_sem, z0, z1, z2, z3]) rfl ?_
  have hd := div_done E5 J1 J2 hW
  rw [val_words] at hd
  rw [val_words] at hd
  show DivPost w ((val xs : Nat) / sgn s' (val ys)) ((val xs : Nat) % sgn s' (val ys)) _ _
  rw [hZ.out.1, hZ.out.2]
  exact hd
end Go.Proofs.YthjdnidapbhdlaaDoor
