/- the law LargeTexts's pieces -/
import Derived.Test.YthjdnidapbhdlaaDoorGp
import Derived.Test.YthjdnidapbhdlaaDoorGn
import Derived.Test.YthjdnidapbhdlaaDoorGk
import Derived.Test.YthjdnidapbhdlaaDoorGh
import Derived.Test.YthjdnidapbhdlaaDoorGl
import Derived.Test.YthjdnidapbhdlaaDoorRk
set_option maxRecDepth 100000
namespace Go.Proofs.YthjdnidapbhdlaaDoor
open Go.RowKit
theorem itoa_sgn {s : Bool} {V : Nat} (h : s = true → V ≠ 0) : Lib.itoa (sgn s V) = (if s then [45] else []) ++ Lib.decDigits V := by
  cases s
  · simp [sgn, Lib.itoa]
  · have := h rfl
    simp only [sgn, if_true, Lib.itoa]
    rw [if_pos (by omega)]
    simp
theorem sgn_of (z : Int) : ∃ (s : Bool) (V : Nat), z = sgn s V ∧ (s = true → V ≠ 0) := by
  refine ⟨decide (z < 0), z.natAbs, (sgn_self z).symm, ?_⟩
  intro h
  have := of_decide_eq_true h
  omega
theorem dd_no45 (u : Nat) : (Lib.decDigits u).head? ≠ some 45 := by
  intro h
  have h1 := dd_digits u
  rcases hl : Lib.decDigits u with _ | ⟨c, r⟩
  · rw [hl] at h; cases h
  · rw [hl] at h h1
    simp only [List.head?_cons, Option.some.injEq] at h
    have := h1 c (by simp)
    rw [h] at this
    simp at this
theorem text_itoa (z : Int) : IsText (Lib.itoa z) ∧ sgn (negT (Lib.itoa z)) (val10 (digT (Lib.itoa z))) = z := by
  obtain ⟨s, V, rfl, h⟩ := sgn_of z
  rw [itoa_sgn h]
  cases s
  · simp only [Bool.false_eq_true, if_false, List.nil_append]
    obtain ⟨e1, e2⟩ := neg_no (dd_no45 V)
    refine ⟨?_, by rw [e1, e2, val10_dd]⟩
    unfold IsText
    rw [e1, e2]
    exact ⟨dd_numeral V, by simp⟩
  · simp only [if_true]
    obtain ⟨e1, e2⟩ := neg_yes (l := [45] ++ Lib.decDigits V) rfl
    have e3 : digT ([45] ++ Lib.decDigits V) = Lib.decDigits V := e2
    refine ⟨?_, by rw [e1, e3, val10_dd]⟩
    unfold IsText
    rw [e1, e3]
    refine ⟨dd_numeral V, fun h' => ?_⟩
    have h2 := (dd_head V).1 (by rw [h'.2]; rfl)
    exact h rfl h2
theorem itoa_text {l : List UInt8} (h : IsText l) : l = Lib.itoa (sgn (negT l) (val10 (digT l))) := by
  obtain ⟨h1, h2⟩ := h
  have hd := dd_val10 h1
  by_cases hc : l.head? = some 45
  · obtain ⟨e1, e2⟩ := neg_yes hc
    rw [e1, e2] at h2 ⊢
    rw [e2] at hd
    rw [itoa_sgn (fun _ h0 => h2 ⟨rfl, by rw [h0] at hd; rw [← hd, Lib.decDigits, dif_pos (by omega)]; rfl⟩), hd]
    rcases l with _ | ⟨c, r⟩
    · cases hc
    · simp only [List.head?_cons, Option.some.injEq] at hc
      subst hc
      rfl
  · obtain ⟨e1, e2⟩ := neg_no hc
    rw [e1, e2]
    rw [e2] at hd
    rw [itoa_sgn (fun h => by cases h), hd]
    rfl
theorem pw_le_ten (n : Nat) : pw n ≤ 10 ^ (10 * n) := by
  unfold pw
  rw [Nat.pow_mul]
  exact Nat.pow_le_pow_left (by decide) n
theorem itoa_len {z : Int} {k : Nat} (h : Sz z k) (hk : 0 < k) : (Lib.itoa z).length ≤ 10 * k + 1 := by
  obtain ⟨s, V, rfl, hs⟩ := sgn_of z
  have h1 : V < pw k := by
    have h1 : (sgn s V).natAbs < pw k := h
    rwa [sgn_abs] at h1
  have h2 := dd_len_le (Nat.lt_of_lt_of_le h1 (pw_le_ten k)) (by omega)
  rw [itoa_sgn hs, List.length_append]
  cases s <;> simp <;> omega
/-- a variable's two cells -/
structure Vx (W : World) (g : Nat) (t : Bool) (A : Option Addr) (n c : Nat) : Prop where
  lt : g < W.heap.size
  c0 : W.cell? ⟨g, 0, none⟩ = some (.bool t)
  c1 : W.cell? ⟨g, 1, none⟩ = some (.slice A n c)
theorem Vx.next {W W' : World} {g : Nat} {t : Bool} {A : Option Addr} {n c : Nat} (h : Vx W g t A n c) (hb : Below W.heap.size W W') : Vx W' g t A n c :=
  ⟨Nat.lt_of_lt_of_le h.lt hb.size, (hb.cell (p := ⟨g, 0, none⟩) h.lt).trans h.c0, (hb.cell (p := ⟨g, 1, none⟩) h.lt).trans h.c1⟩
theorem Vx.new (W : World) (t : Bool) (A : Option Addr) (n c : Nat) : Vx (W.alloc (.cells #[.bool t, .slice A n c] 24)) W.heap.size t A n c :=
  ⟨by simp, by go_simp, by go_simp⟩
/-- the library's table, as it was laid -/
def Tb (w : World) : Prop := Tab w
theorem Tb.next {W W' : World} (h : Tb W) (hb : Below W.heap.size W W') : Tb W' := fun w' h' => h w' (hb.trans (h'.mono hb.size))
/-- what the law keeps -/
structure Ev (w W : World) (ga : Nat) (s : Bool) (A : Option Addr) (n c : Nat) (xs : List Nat) : Prop where
  below : Below w.heap.size w W
  va : Vx W ga s A n c
  ra : Rd W A n xs
  tb : Tb W
theorem Ev.next {w W W' : World} {ga : Nat} {s : Bool} {A : Option Addr} {n c : Nat} {xs : List Nat} (h : Ev w W ga s A n c xs) (hb : Below W.heap.size W W') : Ev w W' ga s A n c xs :=
  ⟨h.below.trans (hb.mono h.below.size), h.va.next hb, h.ra.below hb, h.tb.next hb⟩
theorem Ev.start (s : Bool) (A : Option Addr) (n c : Nat) (xs : List Nat) (w : World) (h : Rd w A n xs) (ht : Tb w) : Ev w (w.alloc (.cells #[.bool s, .slice A n c] 24)) w.heap.size s A n c xs :=
  have k0 := below_alloc w (.cells #[.bool s, .slice A n c] 24)
  ⟨k0, Vx.new w s A n c, h.below k0, ht.next k0⟩
def OneV (w : World) (z : Int) (e : Ending) (w' : World) : Prop :=
  ∃ t A n c, e = .returned (.agg #[.bool t, .slice A n c]) ∧ Is w' z t A n c ∧ Below w.heap.size w w'
theorem one_v {w w' : World} {z : Int} {e : Ending} (h : One w z e w') : OneV w z e w' := by
  obtain ⟨A, c, he, hr, h1, h2, hb⟩ := h
  exact ⟨_, A, _, c, he, ⟨rfl, rfl, hr, h1, h2⟩, hb⟩
theorem of_v (z : Int) (w : World) (h1 : -9223372036854775808 ≤ z) (h2 : z < 9223372036854775808) : Calls Tryd.prog 13 #[.int .i64 z] w (OneV w z) :=
  (Of_c z w h1 h2).mono fun _ _ h => one_v h
theorem rof_v (z : Int) (w : World) (h1 : -9223372036854775808 ≤ z) (h2 : z < 9223372036854775808) : Calls Tryd.prog 14 #[.int .i64 z] w (OneV w z) :=
  (refOf_c z w h1 h2).mono fun _ _ h => one_v h
theorem sz_int {z : Int} (h1 : -9223372036854775808 ≤ z) (h2 : z < 9223372036854775808) : Sz z 4096 := by
  have h : Sz z 2 := by
    show z.natAbs < pw 2
    rw [pw_succ, pw_one]
    omega
  exact h.le (by omega)
/-- what large's Parse says -/
def PQ (s : ByteArray) (W : World) (t : Bool) (B : Option Addr) (m d : Nat) (k : Int) : Prop :=
  (¬ (s.size ≤ 60000 ∧ IsText s.data.toList) ∧ t = false ∧ B = none ∧ m = 0 ∧ d = 0 ∧ k = 3) ∨
  (∃ z, s.size ≤ 60000 ∧ IsText s.data.toList ∧ s.data.toList = Lib.itoa z ∧ NumIs W z t B m d k)
theorem PQ.below {s : ByteArray} {W W' : World} {t : Bool} {B : Option Addr} {m d : Nat} {k : Int} (h : PQ s W t B m d k) (hb : Below W.heap.size W W') : PQ s W' t B m d k := by
  rcases h with h | ⟨z, h0, h1, h2, h3⟩
  · exact .inl h
  · exact .inr ⟨z, h0, h1, h2, h3.below hb⟩
def PPost (s : ByteArray) (w : World) (e : Ending) (w' : World) : Prop :=
  ∃ t B m d k, e = .returned (.tuple #[.agg #[.bool t, .slice B m d], .int .i64 k]) ∧ PQ s w' t B m d k ∧ Below w.heap.size w w'
theorem Parse_p (s : ByteArray) (w : World) (hs : s.size ≤ 9223372036854775807) : Calls Tryd.prog 10 #[.string s] w (PPost s w) := by
  rcases Nat.lt_or_ge 60000 s.size with h | h
  · refine (Parse_long s w h hs).mono ?_
    rintro e w' ⟨rfl, hb⟩
    exact ⟨_, _, _, _, _, rfl, .inl ⟨fun h' => by omega, rfl, rfl, rfl, rfl, rfl⟩, hb⟩
  · by_cases hn : IsText s.data.toList
    · refine (Parse_yes s w h hn).mono ?_
      rintro e w' ⟨t, B, m, d, k, he, hz, hb⟩
      exact ⟨t, B, m, d, k, he, .inr ⟨_, h, hn, itoa_text hn, hz⟩, hb⟩
    · refine (Parse_no s w h hn).mono ?_
      rintro e w' ⟨rfl, hb⟩
      exact ⟨_, _, _, _, _, rfl, .inl ⟨fun h' => hn h'.2, rfl, rfl, rfl, rfl, rfl⟩, hb⟩
/-- what the reference's Parse says -/
def RQ (s : ByteArray) (W : World) (t : Bool) (B : Option Addr) (m d : Nat) (ok : Bool) : Prop :=
  (¬ (s.size ≤ 60000 ∧ IsText s.data.toList) ∧ t = false ∧ B = none ∧ m = 0 ∧ d = 0 ∧ ok = false) ∨
  (∃ z, s.size ≤ 60000 ∧ IsText s.data.toList ∧ s.data.toList = Lib.itoa z ∧ Is W z t B m d ∧ ok = true)
theorem RQ.below {s : ByteArray} {W W' : World} {t : Bool} {B : Option Addr} {m d : Nat} {ok : Bool} (h : RQ s W t B m d ok) (hb : Below W.heap.size W W') : RQ s W' t B m d ok := by
  rcases h with h | ⟨z, h0, h1, h2, h3, h4⟩
  · exact .inl h
  · exact .inr ⟨z, h0, h1, h2, h3.below hb, h4⟩
def RPost (s : ByteArray) (w : World) (e : Ending) (w' : World) : Prop :=
  ∃ t B m d ok, e = .returned (.tuple #[.agg #[.bool t, .slice B m d], .bool ok]) ∧ RQ s w' t B m d ok ∧ Below w.heap.size w w'
theorem refParse_p (s : ByteArray) (w : World) (hs : s.size ≤ 9223372036854775807) : Calls Tryd.prog 15 #[.string s] w (RPost s w) := by
  refine (refParse_c s w hs).mono ?_
  intro e w' ⟨h1, h2⟩
  by_cases h : s.size ≤ 60000 ∧ IsText s.data.toList
  · obtain ⟨A, c, he, hr, l1, l2, hb⟩ := h1 h
    exact ⟨_, _, _, _, _, he, .inr ⟨_, h.1, h.2, itoa_text h.2, ⟨rfl, rfl, hr, l1, l2⟩, rfl⟩, hb⟩
  · obtain ⟨he, hb⟩ := h2 h
    exact ⟨_, _, _, _, _, he, .inl ⟨h, rfl, rfl, rfl, rfl, rfl⟩, hb⟩
theorem itoa_inj {y z : Int} (h : Lib.itoa y = Lib.itoa z) : y = z := by
  have h1 := (text_itoa y).2
  rw [h] at h1
  exact h1.symm.trans (text_itoa z).2
/-- both say the same -/
theorem both_pq {s : ByteArray} {W : World} {t t' : Bool} {B B' : Option Addr} {m d m' d' : Nat} {k : Int} {ok : Bool} (h : PQ s W t B m d k) (h' : RQ s W t' B' m' d' ok) :
    (t = false ∧ B = none ∧ m = 0 ∧ d = 0 ∧ k = 3 ∧ ok = false) ∨ (∃ z, s = ⟨(Lib.itoa z).toArray⟩ ∧ NumIs W z t B m d k ∧ Is W z t' B' m' d' ∧ ok = true) := by
  rcases h with ⟨h, h1⟩ | ⟨z, h0, h1, h2, h3⟩
  · rcases h' with ⟨_, h2⟩ | ⟨z, h0, h2, _⟩
    · exact .inl ⟨h1.1, h1.2.1, h1.2.2.1, h1.2.2.2.1, h1.2.2.2.2, h2.2.2.2.2⟩
    · exact absurd ⟨h0, h2⟩ h
  · rcases h' with ⟨h4, _⟩ | ⟨y, _, _, h5, h6, h7⟩
    · exact absurd ⟨h0, h1⟩ h4
    · have e : y = z := itoa_inj (h5.symm.trans h2)
      subst e
      refine .inr ⟨y, ?_, h3, h6, h7⟩
      rw [← h2]
/-- Text of a valid number -/
theorem Text_is {w : World} {z : Int} {t : Bool} {A : Option Addr} {n c : Nat} (h : Is w z t A n c) (hz : Sz z 4096) (ht : Tb w) :
    Calls Tryd.prog 9 #[.agg #[.bool t, .slice A n c]] w fun e w' => e = .returned (.tuple #[.string ⟨(Lib.itoa z).toArray⟩, .int .i64 0]) ∧ Below w.heap.size w w' := by
  obtain ⟨h1, h2, h3, _⟩ := h
  subst h1 h2
  have hv : validB (decide (z < 0)) (words z.natAbs) = true := valid_words (words_len_le.2 hz) (fun h => by rw [decide_eq_false_iff_not]; omega)
  have := Text_ok (decide (z < 0)) A _ c z.natAbs w h3 hv ht
  rw [sgn_self] at this
  exact this
theorem Parse_is (z : Int) (w : World) (hz : Sz z 4096) :
    Calls Tryd.prog 10 #[.string ⟨(Lib.itoa z).toArray⟩] w fun e w' => ∃ t B m d, e = .returned (.tuple #[.agg #[.bool t, .slice B m d], .int .i64 0]) ∧ Is w' z t B m d ∧ Below w.heap.size w w' := by
  have hl := itoa_len hz (by omega)
  obtain ⟨h1, h2⟩ := text_itoa z
  have := Parse_yes ⟨(Lib.itoa z).toArray⟩ w (by show (Lib.itoa z).toArray.size ≤ _; simp; omega) h1
  refine this.mono ?_
  rintro e w' ⟨t, B, m, d, k, he, hn, hb⟩
  have e2 : sgn (negT (⟨(Lib.itoa z).toArray⟩ : ByteArray).data.toList) (val10 (digT (⟨(Lib.itoa z).toArray⟩ : ByteArray).data.toList)) = z := h2
  rw [e2] at hn
  obtain ⟨k0, g1, g2, g3, g4, g5⟩ := hn.1 (words_len_le.2 hz)
  subst k0
  exact ⟨t, B, m, d, he, ⟨g1, g2, g3, g4, g5⟩, hb⟩
end Go.Proofs.YthjdnidapbhdlaaDoor
