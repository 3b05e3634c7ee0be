import Derived.Test.YtbblckaplddggaaMa
/-
  Euclid's algorithm with many steps at once (Lehmer, Collins): plain mathematics. Nothing here is a claim.
-/
set_option maxRecDepth 100000
namespace Go.Proofs.Ytbblckaplddggaa
/-- the sign of steps -/
def tau (odd : Bool) : Int := if odd then -1 else 1
theorem tau_sq (o : Bool) : tau o * tau o = 1 := by cases o <;> rfl
theorem tau_not (o : Bool) : tau (!o) = - tau o := by cases o <;> rfl
theorem tau_ne (m o : Bool) : tau (m != o) = tau m * tau o := by cases m <;> cases o <;> rfl
structure GoodP (X Y z x u0 v0 u1 v1 : Nat) (odd : Bool) : Prop where
  sz : (z : Int) = tau odd * (u0 * X - v0 * Y)
  sx : (x : Int) = tau odd * (v1 * Y - u1 * X)
  c1 : v1 ≤ x
  c2 : x + v0 + v1 ≤ z
  a1 : u0 ≤ v0
  a2 : u1 ≤ v1
  a3 : u0 ≤ u1
  a4 : v0 ≤ v1
  a5 : 1 ≤ u1
  a6 : 1 ≤ v0
  e1 : v1 * z + v0 * x = X
  e2 : u1 * z + u0 * x = Y
  det : (u0 : Int) * v1 - v0 * u1 = tau odd
structure LI (X Y x y u0 v0 u1 v1 u v : Nat) (odd : Bool) : Prop where
  e1 : v * x + v1 * y = X
  e2 : u * x + u1 * y = Y
  s1 : (x : Int) = tau odd * (v1 * Y - u1 * X)
  s2 : (y : Int) = tau odd * (u * X - v * Y)
  det : (u1 : Int) * v - v1 * u = - tau odd
  yx : y ≤ x
  vv : v1 ≤ v
  v1' : 1 ≤ v
  uv : u ≤ v
  hist : (u0 = 0 ∧ v0 = 0 ∧ u1 = 1 ∧ v1 = 0 ∧ u = 0 ∧ v = 1) ∨ (u0 = 1 ∧ v0 = 0 ∧ u1 = 0 ∧ v1 = 1 ∧ u = 1) ∨ (u1 ≤ u ∧ ∃ z, GoodP X Y z x u0 v0 u1 v1 odd)
theorem LI.start {X Y : Nat} (h : Y ≤ X) : LI X Y X Y 0 0 1 0 0 1 true :=
  ⟨by omega, by omega, by simp [tau], by simp [tau], by simp [tau], h, by omega, by omega, by omega, .inl ⟨rfl, rfl, rfl, rfl, rfl, rfl⟩⟩
theorem LI.step {X Y x y u0 v0 u1 v1 u v : Nat} {odd : Bool} (h : LI X Y x y u0 v0 u1 v1 u v odd) (h1 : v ≤ y) (h2 : v1 + v ≤ x - y) :
    LI X Y y (x % y) u1 v1 u v (u1 + x / y * u) (v1 + x / y * v) (!odd) := by
  have hv := h.v1'
  have hyx := h.yx
  have hd := Nat.div_add_mod x y
  have hq : 1 ≤ x / y := Nat.div_pos hyx (by omega)
  have hr := Nat.mod_lt x (show y > 0 by omega)
  have e1 := h.e1
  have e2 := h.e2
  have s1 := h.s1
  have s2 := h.s2
  have det := h.det
  have vv := h.vv
  have uv := h.uv
  have hist := h.hist
  rw [← tau_not] at det
  have s1' : (x : Int) = - tau (!odd) * (v1 * Y - u1 * X) := by rw [tau_not]; grind
  have s2' : (y : Int) = - tau (!odd) * (u * X - v * Y) := by rw [tau_not]; grind
  have tt := tau_sq (!odd)
  generalize hq' : x / y = q at *
  generalize hr' : x % y = r at *
  have qu : u ≤ q * u := Nat.le_mul_of_pos_left u hq
  have qv : v ≤ q * v := Nat.le_mul_of_pos_left v hq
  have quv : q * u ≤ q * v := Nat.mul_le_mul_left q uv
  have hdi : (y : Int) * q + r = x := by exact_mod_cast hd
  refine ⟨?_, ?_, ?_, ?_, ?_, by omega, by omega, by omega, ?_, ?_⟩
  · rw [← e1, ← hd]; grind
  · rw [← e2, ← hd]; grind
  · grind
  · push_cast; grind
  · push_cast; grind
  · rcases hist with ⟨_, _, rfl, rfl, rfl, rfl⟩ | ⟨_, _, rfl, rfl, rfl⟩ | ⟨_, z, g⟩
    · omega
    · omega
    · have := g.a2; omega
  · rcases hist with ⟨_, _, rfl, rfl, rfl, rfl⟩ | ⟨_, _, rfl, rfl, rfl⟩ | ⟨h4, z, g⟩
    · exact .inr (.inl ⟨rfl, rfl, rfl, rfl, by omega⟩)
    · exact .inr (.inr ⟨by omega, x, ⟨by grind, by grind, h1, by omega, by omega, uv, by omega, vv, by omega, by omega, e1, e2, det⟩⟩)
    · have g2 := g.a2
      have g5 := g.a5
      have g6 := g.a6
      have g4 := g.a4
      exact .inr (.inr ⟨by omega, x, ⟨by grind, by grind, h1, by omega, g2, uv, h4, vv, by omega, by omega, e1, e2, det⟩⟩)
theorem LI.small {X Y x y u0 v0 u1 v1 u v : Nat} {odd : Bool} (h : LI X Y x y u0 v0 u1 v1 u v odd) (hX : X < 18446744073709551616) (h1 : v ≤ y) : v < 4294967296 ∧ x ≤ X := by
  have e1 := h.e1
  have hv := h.v1'
  have hyx := h.yx
  have hx : x ≤ v * x := Nat.le_mul_of_pos_left x hv
  refine ⟨?_, by omega⟩
  refine Nat.lt_of_not_le fun hc => ?_
  have := Nat.mul_le_mul hc (show 4294967296 ≤ x by omega)
  omega
theorem LI.fits {X Y x y u0 v0 u1 v1 u v : Nat} {odd : Bool} (h : LI X Y x y u0 v0 u1 v1 u v odd) (h1 : v ≤ y) : x / y * v ≤ X ∧ v1 + x / y * v ≤ X ∧ x / y * u ≤ X ∧ u1 + x / y * u ≤ X := by
  have e1 := h.e1
  have hv := h.v1'
  have hyx := h.yx
  have hd := Nat.div_add_mod x y
  have huv := Nat.mul_le_mul_left (x / y) h.uv
  have k1 : v * x = v * (y * (x / y)) + v * (x % y) := by rw [← Nat.mul_add, hd]
  have k2 : v * (y * (x / y)) = y * (x / y * v) := by grind
  have k3 : x / y * v ≤ y * (x / y * v) := Nat.le_mul_of_pos_left _ (by omega)
  have k4 : v1 ≤ v1 * y := Nat.le_mul_of_pos_right _ (by omega)
  have hX1 : x ≤ v * x := Nat.le_mul_of_pos_left x hv
  have hu1 : u1 + x / y * u ≤ X := by
    rcases h.hist with ⟨_, _, h3, h4, h5, _⟩ | ⟨_, _, h3, h4, _⟩ | ⟨_, z, g⟩
    · rw [h3, h5, Nat.mul_zero]; omega
    · omega
    · have := g.a2; omega
  omega
/-- what many steps do -/
structure StepsOf (a b u0 v0 u1 v1 : Nat) (odd : Bool) (a' b' : Nat) : Prop where
  sa : (a' : Int) = tau odd * (u0 * a - v0 * b)
  sb : (b' : Int) = tau odd * (v1 * b - u1 * a)
  lt : b' < a'
  ea : v1 * a' + v0 * b' = a
  eb : u1 * a' + u0 * b' = b
  b1 : u0 < 4294967296
  b2 : v0 < 4294967296
  b3 : u1 < 4294967296
  b4 : v1 < 4294967296
  a3 : u0 ≤ u1
  a4 : v0 ≤ v1
  a5 : 1 ≤ u1
theorem inv_a (u0 v0 u1 v1 a b T : Int) (tt : T * T = 1) (det : u0 * v1 - v0 * u1 = T) : v1 * (T * (u0 * a - v0 * b)) + v0 * (T * (v1 * b - u1 * a)) = a := by
  have e : v1 * (T * (u0 * a - v0 * b)) + v0 * (T * (v1 * b - u1 * a)) = T * (u0 * v1 - v0 * u1) * a := by grind
  rw [e, det, tt, Int.one_mul]
theorem inv_b (u0 v0 u1 v1 a b T : Int) (tt : T * T = 1) (det : u0 * v1 - v0 * u1 = T) : u1 * (T * (u0 * a - v0 * b)) + u0 * (T * (v1 * b - u1 * a)) = b := by
  have e : u1 * (T * (u0 * a - v0 * b)) + u0 * (T * (v1 * b - u1 * a)) = T * (u0 * v1 - v0 * u1) * b := by grind
  rw [e, det, tt, Int.one_mul]
theorem good_real {a b P z x u0 v0 u1 v1 : Nat} {odd : Bool} (hP : 0 < P) (hX : a / P < 18446744073709551616) (g : GoodP (a / P) (b / P) z x u0 v0 u1 v1 odd) : ∃ a' b', StepsOf a b u0 v0 u1 v1 odd a' b' := by
  obtain ⟨sz, sx, c1, c2, a1, a2, a3, a4, a5, a6, e1, e2, det⟩ := g
  have ha := Nat.div_add_mod a P
  have hb := Nat.div_add_mod b P
  have hr := Nat.mod_lt a hP
  have ht := Nat.mod_lt b hP
  generalize a / P = X at *
  generalize b / P = Y at *
  generalize a % P = r at *
  generalize b % P = t at *
  have hai : (a : Int) = P * X + r := by exact_mod_cast ha.symm
  have hbi : (b : Int) = P * Y + t := by exact_mod_cast hb.symm
  have tt := tau_sq odd
  have fa : tau odd * (u0 * a - v0 * b) = (P : Int) * z + tau odd * (u0 * r - v0 * t) := by rw [hai, hbi, sz]; grind
  have fb : tau odd * (v1 * b - u1 * a) = (P : Int) * x + tau odd * (v1 * t - u1 * r) := by rw [hai, hbi, sx]; grind
  have p1 : u1 * r ≤ v1 * r := Nat.mul_le_mul_right r a2
  have p2 : v1 * r ≤ P * v1 := by rw [Nat.mul_comm]; exact Nat.mul_le_mul_right v1 (Nat.le_of_lt hr)
  have p3 : v1 * t ≤ P * v1 := by rw [Nat.mul_comm]; exact Nat.mul_le_mul_right v1 (Nat.le_of_lt ht)
  have p4 : P * v1 ≤ P * x := Nat.mul_le_mul_left P c1
  have p5 : P * (x + v0 + v1) ≤ P * z := Nat.mul_le_mul_left P c2
  have p6 : u0 * r ≤ v0 * r := Nat.mul_le_mul_right r a1
  have p7 : v0 * (r + 1) ≤ v0 * P := Nat.mul_le_mul_left v0 hr
  have p8 : v0 * (t + 1) ≤ v0 * P := Nat.mul_le_mul_left v0 ht
  have hbn : 0 ≤ tau odd * (v1 * b - u1 * a) := by
    rw [fb]
    have q1 : ((P * v1 : Nat) : Int) ≤ ((P * x : Nat) : Int) := by exact_mod_cast p4
    have q2 : ((v1 * t : Nat) : Int) ≤ ((P * v1 : Nat) : Int) := by exact_mod_cast p3
    have q3 : ((u1 * r : Nat) : Int) ≤ ((P * v1 : Nat) : Int) := by exact_mod_cast Nat.le_trans p1 p2
    push_cast at q1 q2 q3
    have q4 : (0 : Int) ≤ (v1 : Int) * t := by exact_mod_cast Nat.zero_le _
    have q5 : (0 : Int) ≤ (u1 : Int) * r := by exact_mod_cast Nat.zero_le _
    cases odd
    · show 0 ≤ (P : Int) * x + 1 * (v1 * t - u1 * r)
      omega
    · show 0 ≤ (P : Int) * x + (-1) * (v1 * t - u1 * r)
      omega
  have hlt : tau odd * (v1 * b - u1 * a) < tau odd * (u0 * a - v0 * b) := by
    rw [fa, fb]
    have q1 : ((P * (x + v0 + v1) : Nat) : Int) ≤ ((P * z : Nat) : Int) := by exact_mod_cast p5
    have q2 : ((v1 * t : Nat) : Int) ≤ ((P * v1 : Nat) : Int) := by exact_mod_cast p3
    have q3 : ((u1 * r : Nat) : Int) ≤ ((P * v1 : Nat) : Int) := by exact_mod_cast Nat.le_trans p1 p2
    have q6 : ((u0 * r : Nat) : Int) ≤ ((v0 * r : Nat) : Int) := by exact_mod_cast p6
    have q7 : ((v0 * (r + 1) : Nat) : Int) ≤ ((v0 * P : Nat) : Int) := by exact_mod_cast p7
    have q8 : ((v0 * (t + 1) : Nat) : Int) ≤ ((v0 * P : Nat) : Int) := by exact_mod_cast p8
    push_cast at q1 q2 q3 q6 q7 q8
    have q4 : (0 : Int) ≤ (v1 : Int) * t := by exact_mod_cast Nat.zero_le _
    have q5 : (0 : Int) ≤ (u1 : Int) * r := by exact_mod_cast Nat.zero_le _
    have q9 : (0 : Int) ≤ (u0 : Int) * r := by exact_mod_cast Nat.zero_le _
    have q10 : (0 : Int) ≤ (v0 : Int) * t := by exact_mod_cast Nat.zero_le _
    have q11 : (1 : Int) ≤ v0 := by exact_mod_cast a6
    rw [Int.mul_add, Int.mul_add] at q1
    rw [Int.mul_add] at q7 q8
    have q12 : (v0 : Int) * P = P * v0 := Int.mul_comm _ _
    cases odd
    · show (P : Int) * x + 1 * (v1 * t - u1 * r) < (P : Int) * z + 1 * (u0 * r - v0 * t)
      omega
    · show (P : Int) * x + (-1) * (v1 * t - u1 * r) < (P : Int) * z + (-1) * (u0 * r - v0 * t)
      omega
  obtain ⟨b', hb'⟩ := Int.eq_ofNat_of_zero_le hbn
  obtain ⟨a', ha'⟩ := Int.eq_ofNat_of_zero_le (show 0 ≤ tau odd * (u0 * a - v0 * b) by omega)
  rw [ha', hb'] at hlt
  have hv : v1 < 4294967296 := by
    refine Nat.lt_of_not_le fun hc => ?_
    have k1 := Nat.mul_le_mul hc (show 4294967296 ≤ z by omega)
    omega
  refine ⟨a', b', ha'.symm, hb'.symm, by omega, ?_, ?_, by omega, by omega, by omega, hv, a3, a4, a5⟩
  · have : (v1 : Int) * a' + v0 * b' = a := by rw [← ha', ← hb']; exact inv_a _ _ _ _ _ _ _ tt det
    exact_mod_cast this
  · have : (u1 : Int) * a' + u0 * b' = b := by rw [← ha', ← hb']; exact inv_b _ _ _ _ _ _ _ tt det
    exact_mod_cast this
/-- what Euclid's algorithm keeps -/
structure EI (A B f s one two : Nat) (minus : Bool) : Prop where
  gcd : Nat.gcd f s = Nat.gcd A B
  det : two * f + one * s = B
  cg : ∃ k : Int, (f : Int) = tau minus * one * A + B * k
  cg2 : ∃ k : Int, (s : Int) = - tau minus * two * A + B * k
  ord : (one = 1 ∧ two = 0) ∨ (one ≤ two ∧ s < f)
theorem EI.start (A B : Nat) : EI A B A B 1 0 false :=
  ⟨rfl, by omega, ⟨0, by simp [tau]⟩, ⟨1, by simp⟩, .inl ⟨rfl, rfl⟩⟩
theorem EI.div {A B f s one two : Nat} {minus : Bool} (h : EI A B f s one two minus) (hs : 0 < s) : EI A B s (f % s) two (one + f / s * two) (!minus) := by
  obtain ⟨g, d, ⟨k, hk⟩, ⟨l, hl⟩, o⟩ := h
  have hd := Nat.div_add_mod f s
  have hr := Nat.mod_lt f hs
  refine ⟨by rw [← g, Nat.gcd_comm s, ← Nat.gcd_rec, Nat.gcd_comm], ?_, ⟨l, by rw [tau_not]; exact hl⟩, ?_, ?_⟩
  · rw [← d]
    generalize f / s = q at *
    generalize f % s = r at *
    rw [← hd]
    grind
  · have hdi : (s : Int) * (f / s : Nat) + (f % s : Nat) = f := by exact_mod_cast hd
    refine ⟨k - (f / s : Nat) * l, ?_⟩
    rw [tau_not]
    generalize f / s = q at *
    generalize f % s = r at *
    push_cast
    grind
  · right
    refine ⟨?_, hr⟩
    rcases o with ⟨rfl, rfl⟩ | ⟨o1, o2⟩
    · omega
    · have : 1 ≤ f / s := Nat.div_pos (Nat.le_of_lt o2) hs
      have := Nat.le_mul_of_pos_left two this
      omega
theorem EI.many {A B f s one two : Nat} {minus : Bool} (h : EI A B f s one two minus) {u0 v0 u1 v1 : Nat} {odd : Bool} {a' b' : Nat} (g : StepsOf f s u0 v0 u1 v1 odd a' b') :
    EI A B a' b' (u0 * one + v0 * two) (u1 * one + v1 * two) (minus != odd) ∧ b' < s := by
  obtain ⟨hg, d, ⟨k, hk⟩, ⟨l, hl⟩, o⟩ := h
  obtain ⟨sa, sb, lt, ea, eb, b1, b2, b3, b4, a3, a4, a5⟩ := g
  refine ⟨⟨?_, ?_, ?_, ?_, ?_⟩, ?_⟩
  · rw [← hg]
    apply Nat.dvd_antisymm
    · refine Nat.dvd_gcd ?_ ?_
      · rw [← ea]
        exact Nat.dvd_add (Nat.dvd_mul_left_of_dvd (Nat.gcd_dvd_left _ _) _) (Nat.dvd_mul_left_of_dvd (Nat.gcd_dvd_right _ _) _)
      · rw [← eb]
        exact Nat.dvd_add (Nat.dvd_mul_left_of_dvd (Nat.gcd_dvd_left _ _) _) (Nat.dvd_mul_left_of_dvd (Nat.gcd_dvd_right _ _) _)
    · have h1 : ((Nat.gcd f s : Nat) : Int) ∣ (f : Int) := Int.natCast_dvd_natCast.2 (Nat.gcd_dvd_left _ _)
      have h2 : ((Nat.gcd f s : Nat) : Int) ∣ (s : Int) := Int.natCast_dvd_natCast.2 (Nat.gcd_dvd_right _ _)
      refine Nat.dvd_gcd ?_ ?_
      · apply Int.natCast_dvd_natCast.1
        rw [sa]
        exact Int.dvd_mul_of_dvd_right (Int.dvd_sub (Int.dvd_mul_of_dvd_right h1) (Int.dvd_mul_of_dvd_right h2))
      · apply Int.natCast_dvd_natCast.1
        rw [sb]
        exact Int.dvd_mul_of_dvd_right (Int.dvd_sub (Int.dvd_mul_of_dvd_right h2) (Int.dvd_mul_of_dvd_right h1))
  · rw [← d, ← ea, ← eb]
    grind
  · refine ⟨tau odd * (u0 * k - v0 * l), ?_⟩
    rw [sa, hk, hl, tau_ne]
    push_cast
    grind
  · refine ⟨tau odd * (v1 * l - u1 * k), ?_⟩
    rw [sb, hk, hl, tau_ne]
    push_cast
    grind
  · right
    refine ⟨?_, lt⟩
    have := Nat.mul_le_mul_right one a3
    have := Nat.mul_le_mul_right two a4
    omega
  · have := Nat.le_mul_of_pos_left a' a5
    omega
/-- what Euclid's algorithm comes to -/
theorem EI.done {A B f one two : Nat} {minus : Bool} (h : EI A B f 0 one two minus) (hB : 0 < B) : f = Nat.gcd A B ∧ one ≤ B ∧ ∃ k : Int, (f : Int) = tau minus * one * A + B * k := by
  obtain ⟨g, d, c, _, o⟩ := h
  rw [Nat.gcd_zero_right] at g
  refine ⟨g, ?_, c⟩
  rw [Nat.mul_zero, Nat.add_zero] at d
  rcases o with ⟨_, rfl⟩ | ⟨o1, o2⟩
  · omega
  · have := Nat.le_mul_of_pos_right two o2
    omega
end Go.Proofs.Ytbblckaplddggaa
