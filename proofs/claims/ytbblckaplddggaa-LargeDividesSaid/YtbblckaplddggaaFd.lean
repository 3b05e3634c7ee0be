import Derived.Test.YtbblckaplddggaaFc
import Derived.Test.YtbblckaplddggaaRd
import Derived.Deep.DeepCutAuto
set_option maxRecDepth 100000
namespace Go.Proofs.Ytbblckaplddggaa
open Go.RowKit
/-- a variable that holds steps -/
structure St5 (W : World) (g : Nat) (a b c d : Nat) (o : Bool) : Prop where
  lt : g < W.heap.size
  c0 : W.cell? ⟨g, 0, none⟩ = some (.int .u64 (a : Int))
  c1 : W.cell? ⟨g, 1, none⟩ = some (.int .u64 (b : Int))
  c2 : W.cell? ⟨g, 2, none⟩ = some (.int .u64 (c : Int))
  c3 : W.cell? ⟨g, 3, none⟩ = some (.int .u64 (d : Int))
  c4 : W.cell? ⟨g, 4, none⟩ = some (.bool o)
  f0 : W.frozen? ⟨g, 0, none⟩ = false
  f1 : W.frozen? ⟨g, 1, none⟩ = false
  f2 : W.frozen? ⟨g, 2, none⟩ = false
  f3 : W.frozen? ⟨g, 3, none⟩ = false
  f4 : W.frozen? ⟨g, 4, none⟩ = false
section
variable {W W' : World} {g : Nat} {a b c d : Nat} {o : Bool}
theorem St5.next (h : St5 W g a b c d o) (hb : Below W.heap.size W W') : St5 W' g a b c d o :=
  ⟨Nat.lt_of_lt_of_le h.lt hb.size, (hb.cell (p := ⟨g, 0, none⟩) h.lt).trans h.c0, (hb.cell (p := ⟨g, 1, none⟩) h.lt).trans h.c1, (hb.cell (p := ⟨g, 2, none⟩) h.lt).trans h.c2, (hb.cell (p := ⟨g, 3, none⟩) h.lt).trans h.c3, (hb.cell (p := ⟨g, 4, none⟩) h.lt).trans h.c4, (hb.frozen (p := ⟨g, 0, none⟩) h.lt).trans h.f0, (hb.frozen (p := ⟨g, 1, none⟩) h.lt).trans h.f1, (hb.frozen (p := ⟨g, 2, none⟩) h.lt).trans h.f2, (hb.frozen (p := ⟨g, 3, none⟩) h.lt).trans h.f3, (hb.frozen (p := ⟨g, 4, none⟩) h.lt).trans h.f4⟩
theorem St5.new (W : World) (a b c d : Nat) (o : Bool) : St5 (W.alloc (.cells #[.int .u64 (a : Int), .int .u64 (b : Int), .int .u64 (c : Int), .int .u64 (d : Int), .bool o] 127)) W.heap.size a b c d o :=
  ⟨by simp, by go_simp, by go_simp, by go_simp, by go_simp, by go_simp, by go_simp, by go_simp, by go_simp, by go_simp, by go_simp⟩
theorem St5.store (h : St5 W g a b c d o) {p : Addr} (hp : p.block ≠ g) (u : Value) : St5 (W.setCell p u) g a b c d o :=
  have e : ∀ i, (⟨g, i, none⟩ : Addr) ≠ p := fun i he => hp (by rw [← he])
  ⟨by rw [World.size_setCell]; exact h.lt, (World.cell?_setCell_other W p ⟨g, 0, none⟩ u (by first | exact e 0 | exact fun he => e 0 he.symm)).trans h.c0, (World.cell?_setCell_other W p ⟨g, 1, none⟩ u (by first | exact e 1 | exact fun he => e 1 he.symm)).trans h.c1, (World.cell?_setCell_other W p ⟨g, 2, none⟩ u (by first | exact e 2 | exact fun he => e 2 he.symm)).trans h.c2, (World.cell?_setCell_other W p ⟨g, 3, none⟩ u (by first | exact e 3 | exact fun he => e 3 he.symm)).trans h.c3, (World.cell?_setCell_other W p ⟨g, 4, none⟩ u (by first | exact e 4 | exact fun he => e 4 he.symm)).trans h.c4, by rw [World.frozen?_setCell]; exact h.f0, by rw [World.frozen?_setCell]; exact h.f1, by rw [World.frozen?_setCell]; exact h.f2, by rw [World.frozen?_setCell]; exact h.f3, by rw [World.frozen?_setCell]; exact h.f4⟩
theorem St5.put (h : St5 W g a b c d o) {a1 b1 c1 d1 : Nat} {o1 : Bool} {X : World} (hX : ((((W.setCell ⟨g, 0, none⟩ (.int .u64 (a1 : Int))).setCell ⟨g, 2, none⟩ (.int .u64 (c1 : Int))).setCell ⟨g, 1, none⟩ (.int .u64 (b1 : Int))).setCell ⟨g, 3, none⟩ (.int .u64 (d1 : Int))).setCell ⟨g, 4, none⟩ (.bool o1) = X) : St5 X g a1 b1 c1 d1 o1 := by
  subst hX
  have c0 := h.c0
  have c1' := h.c1
  have c2 := h.c2
  have c3 := h.c3
  have c4 := h.c4
  have f0 := h.f0
  have f1 := h.f1
  have f2 := h.f2
  have f3 := h.f3
  have f4 := h.f4
  exact ⟨by simp only [World.size_setCell]; exact h.lt, by go_simp, by go_simp, by go_simp, by go_simp, by go_simp, by go_simp, by go_simp, by go_simp, by go_simp, by go_simp⟩
theorem St5.put2 (h : St5 W g a b c d o) {a1 b1 c1 d1 : Nat} {o1 : Bool} {X : World} (hX : ((((W.setCell ⟨g, 0, none⟩ (.int .u64 (a1 : Int))).setCell ⟨g, 1, none⟩ (.int .u64 (b1 : Int))).setCell ⟨g, 2, none⟩ (.int .u64 (c1 : Int))).setCell ⟨g, 3, none⟩ (.int .u64 (d1 : Int))).setCell ⟨g, 4, none⟩ (.bool o1) = X) : St5 X g a1 b1 c1 d1 o1 := by
  subst hX
  have c0 := h.c0
  have c1' := h.c1
  have c2 := h.c2
  have c3 := h.c3
  have c4 := h.c4
  have f0 := h.f0
  have f1 := h.f1
  have f2 := h.f2
  have f3 := h.f3
  have f4 := h.f4
  exact ⟨by simp only [World.size_setCell]; exact h.lt, by go_simp, by go_simp, by go_simp, by go_simp, by go_simp, by go_simp, by go_simp, by go_simp, by go_simp, by go_simp⟩
end
theorem below_five {w W X : World} {g : Nat} (hb : Below w.heap.size w W) (hg : w.heap.size ≤ g) {i0 i1 i2 i3 i4 : Nat} {v0 v1 v2 v3 v4 : Value} (hX : ((((W.setCell ⟨g, i0, none⟩ v0).setCell ⟨g, i1, none⟩ v1).setCell ⟨g, i2, none⟩ v2).setCell ⟨g, i3, none⟩ v3).setCell ⟨g, i4, none⟩ v4 = X) : Below w.heap.size w X := by
  subst hX
  exact ((((hb.setCell (p := ⟨g, i0, none⟩) hg _).setCell (p := ⟨g, i1, none⟩) hg _).setCell (p := ⟨g, i2, none⟩) hg _).setCell (p := ⟨g, i3, none⟩) hg _).setCell (p := ⟨g, i4, none⟩) hg _
/-- steps, or none -/
def StepsPost (a b : Nat) (w : World) (e : Ending) (w' : World) : Prop :=
  ∃ (u0 v0 u1 v1 : Nat) (odd : Bool), e = .returned (.agg #[.int .u64 (u0 : Int), .int .u64 (v0 : Int), .int .u64 (u1 : Int), .int .u64 (v1 : Int), .bool odd]) ∧ Below w.heap.size w w' ∧ u0 < 18446744073709551616 ∧ v0 < 18446744073709551616 ∧ u1 < 18446744073709551616 ∧ v1 < 18446744073709551616 ∧ (v0 = 0 ∨ ∃ a' b', StepsOf a b u0 v0 u1 v1 odd a' b')
theorem first_lt {V K : Nat} (hK : blen V ≤ K + 64) : V / 2 ^ K < 18446744073709551616 := by
  have h1 := blen_le.1 hK
  rw [Nat.pow_add] at h1
  exact Nat.div_lt_of_lt_mul (by rw [Nat.mul_comm] at h1; rw [Nat.mul_comm]; exact h1)
theorem LI.good {a b K X Y x y u0 v0 u1 v1 u v : Nat} {odd : Bool} (h : LI X Y x y u0 v0 u1 v1 u v odd) (hX : X = a / 2 ^ K) (hY : Y = b / 2 ^ K) (hX64 : X < 18446744073709551616) : v0 = 0 ∨ ∃ a' b', StepsOf a b u0 v0 u1 v1 odd a' b' := by
  rcases h.hist with ⟨_, h2, _⟩ | ⟨_, h2, _⟩ | ⟨_, z, g⟩
  · exact .inl h2
  · exact .inl h2
  · subst hX hY
    exact .inr (good_real (Nat.pow_pos (by omega)) hX64 g)
theorem LI.top {X Y x y u0 v0 u1 v1 u v : Nat} {odd : Bool} (h : LI X Y x y u0 v0 u1 v1 u v odd) (hX : X < 18446744073709551616) : u0 < 18446744073709551616 ∧ v0 < 18446744073709551616 ∧ u1 < 18446744073709551616 ∧ v1 < 18446744073709551616 := by
  rcases h.hist with ⟨h1, h2, h3, h4, _, _⟩ | ⟨h1, h2, h3, h4, _⟩ | ⟨_, z, g⟩
  · omega
  · omega
  · have e1 := g.e1
    have a1 := g.a1
    have a2 := g.a2
    have a4 := g.a4
    have c2 := g.c2
    have a6 := g.a6
    have := Nat.le_mul_of_pos_right v1 (show 0 < z by omega)
    omega
set_option maxHeartbeats 8000000 in
theorem stepsAtOnce_c (A B : Option Addr) (n c m d : Nat) (xs ys : List Nat) (w : World) (ha : Rd w A n xs) (hb : Rd w B m ys) (cx : canon xs) (cy : canon ys) (hn : n ≤ 17592186044416) (hm : m ≤ 17592186044416) :
    Calls Try.prog 131 #[.slice A n c, .slice B m d] w (StepsPost (val xs) (val ys) w) := by
  have S4 := Lib.hid (St5.new w 0 0 0 0 false)
  have P := Lib.hid (below_alloc w (.cells #[.int .u64 ((0 : Nat) : Int), .int .u64 ((0 : Nat) : Int), .int .u64 ((0 : Nat) : Int), .int .u64 ((0 : Nat) : Int), .bool false] 127))
  have RA := Lib.hid (ha.below P.out)
  have RB := Lib.hid (hb.below P.out)
  have HC := Lib.hid (And.intro cx cy)
  have HN := Lib.hid (And.intro hn hm)
  clear ha hb cx cy hn hm
  obtain ⟨r, hr⟩ : ∃ r, r = ord (val xs : Int) (val ys : Int) := ⟨_, rfl⟩
  have HR := Lib.hid hr.symm
  go_enter Try.func131, Try.ntmps131
  go_upto_region 1 with (fail)
  have e0 : ((0 : Nat) : Int) = 0 := rfl
  rw [e0] at P RA RB S4
  generalize w.alloc (.cells #[.int .u64 0, .int .u64 0, .int .u64 0, .int .u64 0, .bool false] 127) = W0 at P RA RB S4 ⊢
  obtain ⟨g4, hg4⟩ : ∃ g, g = w.heap.size := ⟨_, rfl⟩
  rw [← hg4] at S4 ⊢
  have HG4 := Lib.hid (show w.heap.size ≤ g4 by omega)
  clear hg4 e0
  go_wp2_with fail
  refine (compare_c A B n c m d xs ys _ RA.out RB.out HC.out.1 HC.out.2 (by have := HN.out; omega) (by have := HN.out; omega)).mono ?_
  rw [HR.out]
  rintro e w1 ⟨rfl, k1, rfl⟩
  replace P := Lib.hid (below_drewN P.out k1)
  replace RA := Lib.hid (RA.out.drewN k1)
  replace RB := Lib.hid (RB.out.drewN k1)
  replace S4 := Lib.hid (S4.out.next (below_drewN (Below.refl _ _) k1))
  generalize W0.drewN k1 = W1 at P RA RB S4 ⊢
  by_cases hlt : r < 0
  · have t1 : decide (r < 0) = true := decide_eq_true hlt
    have y0 := S4.out.c0
    have y1 := S4.out.c1
    have y2 := S4.out.c2
    have y3 := S4.out.c3
    have y4 := S4.out.c4
    have z0 := S4.out.f0
    have z1 := S4.out.f1
    have z2 := S4.out.f2
    have z3 := S4.out.f3
    have z4 := S4.out.f4
    clear hr HR
    go_wp2
    generalize hX : ((((W1.setCell ⟨g4, 0, none⟩ (.int .u64 0)).setCell ⟨g4, 1, none⟩ (.int .u64 0)).setCell ⟨g4, 2, none⟩ (.int .u64 0)).setCell ⟨g4, 3, none⟩ (.int .u64 0)).setCell ⟨g4, 4, none⟩ (.bool false) = X
    have Q := S4.out.put2 (a1 := 0) (b1 := 0) (c1 := 0) (d1 := 0) hX
    have PB := below_five P.out HG4.out hX
    have q0 := Q.c0
    have q1 := Q.c1
    have q2 := Q.c2
    have q3 := Q.c3
    have q4 := Q.c4
    refine bodyPost_ret (v := .agg #[.int .u64 0, .int .u64 0, .int .u64 0, .int .u64 0, .bool false]) (by simp [results, Try.results131, go_sem, q0, q1, q2, q3, q4]) rfl ?_
    exact ⟨0, 0, 0, 0, false, rfl, PB, by omega, by omega, by omega, by omega, .inl rfl⟩
  · have t1 : decide (r < 0) = false := decide_eq_false hlt
    have HGE := Lib.hid (show val ys ≤ val xs by
      rcases Nat.lt_or_ge (val xs) (val ys) with h | h
      · exact absurd (by rw [hr, ord_lt (by omega)]; omega) hlt
      · exact h)
    clear hr HR hlt
    go_upto_region 3 with (fail)
    obtain ⟨K, hK⟩ : ∃ K, K = blen (val xs) - 64 := ⟨_, rfl⟩
    have HK := Lib.hid (show blen (val xs) ≤ K + 64 by omega)
    have HKb := Lib.hid (show K < 9223372036854775808 by
      have h1 := HC.out.1.1
      have h2 := val_lt h1
      rw [RA.out.len] at h2
      have h3 : blen (val xs) ≤ 32 * n := blen_le.2 (by rw [pw_two] at h2; exact h2)
      have := HN.out.1
      omega)
    go_cut [5] (fun v W => v = .int .i64 (K : Int) ∧ W = W1)
    case first =>
      have hd := digits_c A n c xs W1 RA.out HC.out.1 (by have := HN.out; omega)
      obtain ⟨bl, hbl⟩ : ∃ b, b = blen (val xs) := ⟨_, rfl⟩
      rw [← hbl] at hd hK
      have HD := Lib.hid hd
      have b1 : (bl : Int) ≤ 4503599627370496 := by have := HKb.out; have := HK.out; have h1 := HC.out.1.1; have h2 := val_lt h1; rw [RA.out.len] at h2; have h3 : blen (val xs) ≤ 32 * n := blen_le.2 (by rw [pw_two] at h2; exact h2); have := HN.out.1; omega
      clear hd hbl
      rcases Nat.lt_or_ge 64 bl with h | h
      · have k1 : (bl : Int) - 64 = (K : Int) := by omega
        have k2 : 0 < (K : Int) := by omega
        clear hK
        go_wp2_with fail
        refine HD.out.mono ?_
        rintro e w' ⟨rfl, rfl⟩
        go_wp2
        go_meet
        exact (by simp)
      · obtain rfl : K = 0 := by omega
        have k1 : (bl : Int) - 64 ≤ 0 := by omega
        clear hK
        go_wp2_with fail
        refine HD.out.mono ?_
        rintro e w' ⟨rfl, rfl⟩
        go_wp2
        all_goals (try go_meet)
        all_goals exact (by simp <;> omega)
    case rest =>
      obtain ⟨rfl, rfl⟩ := hcut
      clear hK
      obtain ⟨X, hX⟩ : ∃ X, X = val xs / 2 ^ K := ⟨_, rfl⟩
      obtain ⟨Y, hY⟩ : ∃ Y, Y = val ys / 2 ^ K := ⟨_, rfl⟩
      have hX64 : X < 18446744073709551616 := by rw [hX]; exact first_lt HK.out
      have hYX : Y ≤ X := by rw [hX, hY]; exact Nat.div_le_div_right HGE.out
      have FA := Lib.hid (fun (W : World) (h : Rd W A n xs) => firstDigits_c A n c K X xs W h (by have := HN.out; omega) HKb.out hX hX64)
      have FB := Lib.hid (fun (W : World) (h : Rd W B m ys) => firstDigits_c B m d K Y ys W h (by have := HN.out; omega) HKb.out hY (by omega))
      have HXY := Lib.hid (And.intro hX hY)
      have HX64 := Lib.hid hX64
      clear hX hY
      go_wp2_with fail
      refine (FA.out _ RA.out).mono ?_
      rintro e w2 ⟨rfl, hb⟩
      replace P := Lib.hid (P.out.trans (hb.mono P.out.size))
      replace RB := Lib.hid (RB.out.below hb)
      replace S4 := Lib.hid (S4.out.next hb)
      clear hb RA
      go_wp2_with fail
      refine (FB.out _ RB.out).mono ?_
      rintro e w3 ⟨rfl, hb⟩
      replace P := Lib.hid (P.out.trans (hb.mono P.out.size))
      replace S4 := Lib.hid (S4.out.next hb)
      clear hb RB FA FB
      have S8 := Lib.hid (St5.new w3 0 0 1 0 true)
      have e0 : ((0 : Nat) : Int) = 0 := rfl
      have e1 : ((1 : Nat) : Int) = 1 := rfl
      rw [e0, e1] at S8
      have hb := below_alloc w3 (.cells #[.int .u64 0, .int .u64 0, .int .u64 1, .int .u64 0, .bool true] 127)
      replace P := Lib.hid (P.out.trans (hb.mono P.out.size))
      have HNE := Lib.hid (show g4 < w3.heap.size from S4.out.lt)
      replace S4 := Lib.hid (S4.out.next hb)
      clear hb e0 e1
      go_upto_region 6 with (fail)
      generalize w3.alloc (.cells #[.int .u64 0, .int .u64 0, .int .u64 1, .int .u64 0, .bool true] 127) = W3 at P S4 S8 ⊢
      generalize w3.heap.size = g8 at S8 HNE ⊢
      go_wp2
      go_loopw [6, 7, 9, 10] (fun vx vy vu vv wr => ∃ (x y u0 v0 u1 v1 u v : Nat) (odd : Bool), vx = .int .u64 (x : Int) ∧ vy = .int .u64 (y : Int) ∧ vu = .int .u64 (u : Int) ∧ vv = .int .u64 (v : Int) ∧ LI X Y x y u0 v0 u1 v1 u v odd ∧ x ≤ X ∧ u1 ≤ X + 1 ∧ v ≤ X + 1 ∧ Below w.heap.size w wr ∧ St5 wr g4 0 0 0 0 false ∧ St5 wr g8 u0 v0 u1 v1 odd) (fun _ vy _ _ _ => (intOf vy).toNat)
      case atStart => exact ⟨X, Y, 0, 0, 1, 0, 0, 1, true, rfl, rfl, rfl, rfl, LI.start hYX, Nat.le_refl _, by omega, by omega, P.out, S4.out, S8.out⟩
      case round =>
        clear P S4 S8
        obtain ⟨x, y, u0, v0, u1, v1, u, v, odd, rfl, rfl, rfl, rfl, hL, hxX, hu1X, hvX, hp, h4, h8⟩ := hrel
        have P := Lib.hid hp
        have S4 := Lib.hid h4
        have S8 := Lib.hid h8
        have HL := Lib.hid hL
        have hyx := hL.yx
        have hv1 := hL.v1'
        have hvv := hL.vv
        have huv := hL.uv
        clear hp h4 h8 hL
        by_cases hc1 : v ≤ y
        · by_cases hc2 : v1 + v ≤ x - y
          · have hsm := HL.out.small hX64 hc1
            have hft := HL.out.fits hc1
            have HS := Lib.hid (HL.out.step hc1 hc2)
            have hqi : (x : Int) / (y : Int) = ((x / y : Nat) : Int) := by simp
            have hri : (x : Int) % (y : Int) = ((x % y : Nat) : Int) := by simp
            have hrl := Nat.mod_lt x (show y > 0 by omega)
            have hql : x / y ≤ X := Nat.le_trans (Nat.div_le_self _ _) hxX
            obtain ⟨q, hq⟩ : ∃ q, q = x / y := ⟨_, rfl⟩
            obtain ⟨rr, hrr⟩ : ∃ q, q = x % y := ⟨_, rfl⟩
            rw [← hq] at hqi HS hft hql
            rw [← hrr] at hri HS hrl
            have m1 : (q : Int) * (u : Int) = ((q * u : Nat) : Int) := by simp
            have m2 : (q : Int) * (v : Int) = ((q * v : Nat) : Int) := by simp
            obtain ⟨p1, hp1⟩ : ∃ p, p = q * u := ⟨_, rfl⟩
            obtain ⟨p2, hp2⟩ : ∃ p, p = q * v := ⟨_, rfl⟩
            rw [← hp1] at m1 HS hft
            rw [← hp2] at m2 HS hft
            have hy0 : ¬ (y : Int) = 0 := by omega
            have hqi2 : (x : Int).tdiv (y : Int) = (q : Int) := by rw [Int.tdiv_eq_ediv_of_nonneg (by omega)]; exact hqi
            have hri2 : (x : Int).tmod (y : Int) = (rr : Int) := by rw [Int.tmod_eq_emod_of_nonneg (by omega)]; exact hri
            have w1 : IntKind.u64.wrap (q : Int) = (q : Int) := by rw [IntKind.wrap_u64]; omega
            have w2 : IntKind.u64.wrap (rr : Int) = (rr : Int) := by rw [IntKind.wrap_u64]; omega
            obtain ⟨n1, hn1⟩ : ∃ n, n = u1 + p1 := ⟨_, rfl⟩
            obtain ⟨n2, hn2⟩ : ∃ n, n = v1 + p2 := ⟨_, rfl⟩
            rw [← hn1] at HS
            rw [← hn2] at HS
            have s1 : (u1 : Int) + (p1 : Int) = (n1 : Int) := by omega
            have s2 : (v1 : Int) + (p2 : Int) = (n2 : Int) := by omega
            have l1 : n1 ≤ X := by omega
            have l2 : n2 ≤ X := by omega
            have d1 : decide ((v : Int) ≤ (y : Int)) = true := decide_eq_true (by omega)
            have d2 : decide ((v1 : Int) + (v : Int) ≤ (x : Int) - (y : Int)) = true := decide_eq_true (by omega)
            have HYR := Lib.hid (show rr < y from hrl)
            have HXX := Lib.hid (And.intro hxX (And.intro l1 l2))
            have HUV := Lib.hid (show u ≤ X + 1 by omega)
            clear hq hrr hp1 hp2 hn1 hn2 HL hft
            have y0 := S8.out.c0
            have y1 := S8.out.c1
            have y2 := S8.out.c2
            have y3 := S8.out.c3
            have y4 := S8.out.c4
            have z0 := S8.out.f0
            have z1 := S8.out.f1
            have z2 := S8.out.f2
            have z3 := S8.out.f3
            have z4 := S8.out.f4
            go_wp2
            go_quiet (fail)
            go_wp2
            have hD := below_drewN (Below.refl wr.heap.size wr) nq
            replace P := Lib.hid (P.out.trans (hD.mono P.out.size))
            replace S4 := Lib.hid (S4.out.next hD)
            replace S8 := Lib.hid (S8.out.next hD)
            clear hD y0 y1 y2 y3 y4 z0 z1 z2 z3 z4
            generalize wr.drewN nq = D at P S4 S8 ⊢
            go_roundw
            case measure => simp [intOf]; have := HYR.out; omega
            case rel =>
              have hne : g8 ≠ g4 := by have := HNE.out; omega
              have hge : w.heap.size ≤ g8 := by have := HNE.out; have := HG4.out; omega
              exact ⟨y, rr, u1, v1, u, v, n1, n2, !odd, rfl, rfl, rfl, rfl, HS.out, by have := HXX.out.1; omega, HUV.out, by have := HXX.out.2.2; omega, below_five P.out hge rfl, ((((S4.out.store (p := ⟨g8, 0, none⟩) hne _).store (p := ⟨g8, 2, none⟩) hne _).store (p := ⟨g8, 1, none⟩) hne _).store (p := ⟨g8, 3, none⟩) hne _).store (p := ⟨g8, 4, none⟩) hne _, S8.out.put rfl⟩
          · have d1 : decide ((v : Int) ≤ (y : Int)) = true := decide_eq_true (by omega)
            have hsm := HL.out.small hX64 hc1
            have d2 : decide ((v1 : Int) + (v : Int) ≤ (x : Int) - (y : Int)) = false := decide_eq_false (by omega)
            have d3 : ¬ (v1 : Int) + (v : Int) ≤ (x : Int) - (y : Int) := by omega
            have y0 := S8.out.c0
            have y1 := S8.out.c1
            have y2 := S8.out.c2
            have y3 := S8.out.c3
            have y4 := S8.out.c4
            have q0 := S4.out.c0
            have q1 := S4.out.c1
            have q2 := S4.out.c2
            have q3 := S4.out.c3
            have q4 := S4.out.c4
            have z0 := S4.out.f0
            have z1 := S4.out.f1
            have z2 := S4.out.f2
            have z3 := S4.out.f3
            have z4 := S4.out.f4
            have HQ := Lib.hid (show v0 = 0 ∨ ∃ a' b', StepsOf (val xs) (val ys) u0 v0 u1 v1 odd a' b' from HL.out.good HXY.out.1 HXY.out.2 HX64.out)
            have HB1 := Lib.hid (HL.out.top HX64.out)
            clear HL
            go_wp2
            generalize hX : ((((wr.setCell ⟨g4, 0, none⟩ (.int .u64 (u0 : Int))).setCell ⟨g4, 1, none⟩ (.int .u64 (v0 : Int))).setCell ⟨g4, 2, none⟩ (.int .u64 (u1 : Int))).setCell ⟨g4, 3, none⟩ (.int .u64 (v1 : Int))).setCell ⟨g4, 4, none⟩ (.bool odd) = X1
            have Q := S4.out.put2 hX
            have PB := below_five P.out HG4.out hX
            have k0 := Q.c0
            have k1 := Q.c1
            have k2 := Q.c2
            have k3 := Q.c3
            have k4 := Q.c4
            refine bodyPost_ret (v := .agg #[.int .u64 (u0 : Int), .int .u64 (v0 : Int), .int .u64 (u1 : Int), .int .u64 (v1 : Int), .bool odd]) (by simp [results, Try.results131, go_sem, k0, k1, k2, k3, k4]) rfl ?_
            exact ⟨u0, v0, u1, v1, odd, rfl, PB, HB1.out.1, HB1.out.2.1, HB1.out.2.2.1, HB1.out.2.2.2, HQ.out⟩
        · have d1 : decide ((v : Int) ≤ (y : Int)) = false := decide_eq_false (by omega)
          have y0 := S8.out.c0
          have y1 := S8.out.c1
          have y2 := S8.out.c2
          have y3 := S8.out.c3
          have y4 := S8.out.c4
          have q0 := S4.out.c0
          have q1 := S4.out.c1
          have q2 := S4.out.c2
          have q3 := S4.out.c3
          have q4 := S4.out.c4
          have z0 := S4.out.f0
          have z1 := S4.out.f1
          have z2 := S4.out.f2
          have z3 := S4.out.f3
          have z4 := S4.out.f4
          have HQ := Lib.hid (show v0 = 0 ∨ ∃ a' b', StepsOf (val xs) (val ys) u0 v0 u1 v1 odd a' b' from HL.out.good HXY.out.1 HXY.out.2 HX64.out)
          have HB1 := Lib.hid (HL.out.top HX64.out)
          clear HL
          go_wp2
          generalize hX : ((((wr.setCell ⟨g4, 0, none⟩ (.int .u64 (u0 : Int))).setCell ⟨g4, 1, none⟩ (.int .u64 (v0 : Int))).setCell ⟨g4, 2, none⟩ (.int .u64 (u1 : Int))).setCell ⟨g4, 3, none⟩ (.int .u64 (v1 : Int))).setCell ⟨g4, 4, none⟩ (.bool odd) = X1
          have Q := S4.out.put2 hX
          have PB := below_five P.out HG4.out hX
          have k0 := Q.c0
          have k1 := Q.c1
          have k2 := Q.c2
          have k3 := Q.c3
          have k4 := Q.c4
          refine bodyPost_ret (v := .agg #[.int .u64 (u0 : Int), .int .u64 (v0 : Int), .int .u64 (u1 : Int), .int .u64 (v1 : Int), .bool odd]) (by simp [results, Try.results131, go_sem, k0, k1, k2, k3, k4]) rfl ?_
          exact ⟨u0, v0, u1, v1, odd, rfl, PB, HB1.out.1, HB1.out.2.1, HB1.out.2.2.1, HB1.out.2.2.2, HQ.out⟩
end Go.Proofs.Ytbblckaplddggaa
