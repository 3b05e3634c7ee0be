import Derived.Test.YteabokkofoomkaaGreatCay
import Derived.Test.YteabokkofoomkaaGreatCas
import Derived.Test.YteabokkofoomkaaGreatCao
import Derived.Test.YteabokkofoomkaaGreatCau
import Derived.Test.YteabokkofoomkaaGreatCar
import Derived.Test.YteabokkofoomkaaGreatCax
import Derived.Test.YteabokkofoomkaaGreatCai
import Derived.Test.YteabokkofoomkaaGreatCam
import Derived.Lib.AppendIntMem
import Derived.Maps.AppendAt
set_option maxRecDepth 100000
namespace Go.Proofs.YteabokkofoomkaaGreat
open Go.RowKit Go.Shelf Go.Deep
structure B3 (w W : World) (a : Int) (t0 : Bool) (A0 : Option Addr) (n0 c0 : Nat) (b : Int) (t1 : Bool) (A1 : Option Addr) (n1 c1 : Nat) (c : Int) (t2 : Bool) (A2 : Option Addr) (n2 c2 : Nat) : Prop where
 low : Below w.heap.size w W
 ba : Box W w.heap.size a t0 A0 n0 c0
 bb : Box W (w.heap.size + 1) b t1 A1 n1 c1
 bc : Box W (w.heap.size + 1 + 1) c t2 A2 n2 c2
section
variable {w W W' : World} {a : Int} {t0 : Bool} {A0 : Option Addr} {n0 c0 : Nat} {b : Int} {t1 : Bool} {A1 : Option Addr} {n1 c1 : Nat} {c : Int} {t2 : Bool} {A2 : Option Addr} {n2 c2 : Nat}
theorem B3.next (h : B3 w W a t0 A0 n0 c0 b t1 A1 n1 c1 c t2 A2 n2 c2) (hb : Below W.heap.size W W') : B3 w W' a t0 A0 n0 c0 b t1 A1 n1 c1 c t2 A2 n2 c2 :=
 ⟨h.low.trans (hb.mono h.low.size), h.ba.next hb, h.bb.next hb, h.bc.next hb⟩
theorem B3.start (h0 : Is w a t0 A0 n0 c0) (h1 : Is w b t1 A1 n1 c1) (h2 : Is w c t2 A2 n2 c2) :
 B3 w (((w.alloc (.cells #[.bool t0, .slice A0 n0 c0] 58)).alloc (.cells #[.bool t1, .slice A1 n1 c1] 58)).alloc (.cells #[.bool t2, .slice A2 n2 c2] 58)) a t0 A0 n0 c0 b t1 A1 n1 c1 c t2 A2 n2 c2 := by
 have k0 := bel_alloc w (.cells #[.bool t0, .slice A0 n0 c0] 58)
 have k1 := bel_alloc (w.alloc (.cells #[.bool t0, .slice A0 n0 c0] 58)) (.cells #[.bool t1, .slice A1 n1 c1] 58)
 have k2 := bel_alloc ((w.alloc (.cells #[.bool t0, .slice A0 n0 c0] 58)).alloc (.cells #[.bool t1, .slice A1 n1 c1] 58)) (.cells #[.bool t2, .slice A2 n2 c2] 58)
 have e1 := Box.new ((h1.below k0))
 have e2 := Box.new ((h2.below k0).below k1)
 rw [World.size_alloc] at e1 e2
 rw [World.size_alloc] at e2
 exact ⟨(k0.trans (k1.mono k0.size)).trans (k2.mono (Nat.le_trans k0.size k1.size)), ((Box.new h0).next k1).next k2, e1.next k2, e2⟩
end
theorem pow_never {a b c : Int} (ha : 2 ≤ a) (hb : 9223372036854775808 ≤ b) (hc : Sz c 4096) : ¬ a ^ b.toNat = c := by
 intro e
 have h := pow_long (z := a) (k := b.toNat) (by
  have h1 : 2 ≤ a.natAbs := by omega
  rcases Nat.lt_or_ge 1 (blen a.natAbs) with h2 | h2
  · exact h2
  · have := blen_lt a.natAbs
    have h3 := Nat.pow_le_pow_right (n := 2) (by omega) h2
    omega) (by omega)
 rw [e] at h
 exact h hc.len
set_option maxHeartbeats 8000000 in
theorem isPower_c {w : World} {a : Int} {t0 : Bool} {A0 : Option Addr} {n0 c0 : Nat} {b : Int} {t1 : Bool} {A1 : Option Addr} {n1 c1 : Nat} {c : Int} {t2 : Bool} {A2 : Option Addr} {n2 c2 : Nat} (h0 : Iv w a t0 A0 n0 c0) (h1 : Iv w b t1 A1 n1 c1) (h2 : Iv w c t2 A2 n2 c2) :
 Calls Tryz.prog 79 #[.agg #[.bool t0, .slice A0 n0 c0], .agg #[.bool t1, .slice A1 n1 c1], .agg #[.bool t2, .slice A2 n2 c2]] w (IsB (decide (1 ≤ a ∧ 0 ≤ b ∧ a ^ b.toNat = c)) w) := by
 have E := Lib.hid (B3.start h0.is h1.is h2.is)
 have HS := Lib.hid (And.intro h0.sz (And.intro h1.sz h2.sz))
 clear h0 h1 h2
 go_enter Tryz.func79, Tryz.ntmps79
 go_upto_region 1 with (fail)
 generalize ((w.alloc (.cells #[.bool t0, .slice A0 n0 c0] 58)).alloc (.cells #[.bool t1, .slice A1 n1 c1] 58)).alloc (.cells #[.bool t2, .slice A2 n2 c2] 58) = W0 at E ⊢
 go_wp2_with fail
 refine (OfV 1 _ (by omega) (by omega)).mono ?_
 rintro e w1 ⟨t3, A3, n3, c3, rfl, hi, hb⟩
 replace E := Lib.hid (E.out.next hb)
 have k1 := bel_alloc w1 (.cells #[.bool t3, .slice A3 n3 c3] 58)
 have BO := Lib.hid (Box.new hi.is)
 have HO := Lib.hid hi.sz
 replace E := Lib.hid (E.out.next k1)
 clear hi hb k1
 go_upto_region 2 with (fail)
 generalize w1.alloc (.cells #[.bool t3, .slice A3 n3 c3] 58) = W1 at E BO ⊢
 generalize w1.heap.size = go_ at BO ⊢
 have x0 := E.out.ba.c0
 have x1 := E.out.ba.c1
 have o0 := BO.out.c0
 have o1 := BO.out.c1
 go_wp2_with fail
 refine (Less_c ⟨E.out.ba.is, HS.out.1⟩ ⟨BO.out.is, HO.out⟩).mono ?_
 rintro e w2 ⟨rfl, hb⟩
 replace E := Lib.hid (E.out.next hb)
 replace BO := Lib.hid (BO.out.next hb)
 clear hb x0 x1 o0 o1
 obtain ⟨v, hv⟩ : ∃ v, v = decide (a < 1) := ⟨_, rfl⟩
 rw [← hv]
 have HV := Lib.hid hv
 clear hv
 cases v with
 | true =>
   have HF := Lib.hid (show decide (1 ≤ a ∧ 0 ≤ b ∧ a ^ b.toNat = c) = false from decide_eq_false fun q => by
    have := of_decide_eq_true HV.out.symm
    omega)
   go_wp2
   go_ret
   exact ⟨by rw [HF.out] <;> rfl, E.out.low⟩
 | false =>
 have HA1 := Lib.hid (show 1 ≤ a by have := of_decide_eq_false HV.out.symm; omega)
 clear HV
 have HT1 := Lib.hid E.out.bb.is.1
 have y0 := E.out.bb.c0
 cases t1 with
 | true =>
   have HF := Lib.hid (show decide (1 ≤ a ∧ 0 ≤ b ∧ a ^ b.toNat = c) = false from decide_eq_false fun q => by
    have := of_decide_eq_true HT1.out.symm
    omega)
   go_wp2
   go_ret
   exact ⟨by rw [HF.out] <;> rfl, E.out.low⟩
 | false =>
 have HB0 := Lib.hid (show 0 ≤ b by have := of_decide_eq_false HT1.out.symm; omega)
 clear HT1
 have x0 := E.out.ba.c0
 have x1 := E.out.ba.c1
 have o0 := BO.out.c0
 have o1 := BO.out.c1
 go_wp2_with fail
 refine (Equal_c ⟨E.out.ba.is, HS.out.1⟩ ⟨BO.out.is, HO.out⟩).mono ?_
 rintro e w3 ⟨rfl, hb⟩
 replace E := Lib.hid (E.out.next hb)
 replace BO := Lib.hid (BO.out.next hb)
 clear hb x0 x1 o0 o1 y0
 obtain ⟨v, hv⟩ : ∃ v, v = decide (a = 1) := ⟨_, rfl⟩
 rw [← hv]
 have HV := Lib.hid hv
 clear hv
 cases v with
 | true =>
   have x0 := E.out.bc.c0
   have x1 := E.out.bc.c1
   have o0 := BO.out.c0
   have o1 := BO.out.c1
   go_wp2_with fail
   refine (Equal_c ⟨E.out.bc.is, HS.out.2.2⟩ ⟨BO.out.is, HO.out⟩).mono ?_
   rintro e w4 ⟨rfl, hb⟩
   replace E := Lib.hid (E.out.next hb)
   clear hb x0 x1 o0 o1
   have HF := Lib.hid (show decide (1 ≤ a ∧ 0 ≤ b ∧ a ^ b.toNat = c) = decide (c = 1) by
    have h1 := of_decide_eq_true HV.out.symm
    have h2 := HB0.out
    rw [h1, Int.one_pow]
    by_cases h : c = 1
    · rw [decide_eq_true h, decide_eq_true ⟨by omega, h2, h.symm⟩]
    · rw [decide_eq_false h, decide_eq_false (fun q => h q.2.2.symm)])
   go_wp2
   go_ret
   exact ⟨by rw [HF.out] <;> rfl, E.out.low⟩
 | false =>
 have HA2 := Lib.hid (show 2 ≤ a by have h1 := of_decide_eq_false HV.out.symm; have h2 := HA1.out; omega)
 clear HV
 have x0 := E.out.bb.c0
 have x1 := E.out.bb.c1
 obtain ⟨V, hV⟩ : ∃ V, V = b.natAbs := ⟨_, rfl⟩
 have hraw := E.out.bb.is.raw HS.out.2.1 (Nat.le_refl _)
 rw [← hV] at hraw
 have HRAW := Lib.hid hraw
 have HVB := Lib.hid hV
 clear hraw hV
 go_wp2_with fail
 refine (Small_c false A1 n1 c1 V _ HRAW.out.1 HRAW.out.2.1).mono ?_
 rintro e w4 ⟨rfl, hb⟩
 replace E := Lib.hid (E.out.next hb)
 clear hb x0 x1 HRAW
 obtain ⟨u, hu⟩ : ∃ u, u = smallB false V := ⟨_, rfl⟩
 rw [← hu]
 have HU := Lib.hid hu
 clear hu
 cases u with
 | false =>
   have HF := Lib.hid (show decide (1 ≤ a ∧ 0 ≤ b ∧ a ^ b.toNat = c) = false from decide_eq_false fun q => by
    have h1 := HU.out.symm
    simp only [smallB, Bool.false_eq_true, if_false, decide_eq_false_iff_not] at h1
    have h2 := HVB.out
    exact pow_never HA2.out (by omega) HS.out.2.2 q.2.2)
   simp only [Bool.false_eq_true, if_false]
   go_wp2
   go_ret
   exact ⟨by rw [HF.out] <;> rfl, E.out.low⟩
 | true =>
 have HK := Lib.hid (show V < 9223372036854775808 by
  have h1 := HU.out.symm
  simp only [smallB, Bool.false_eq_true, if_false, decide_eq_true_eq] at h1
  exact h1)
 have HBV := Lib.hid (show b.toNat = V by have := HVB.out; have := HB0.out; omega)
 rw [if_pos rfl, show sgn false V = (V : Int) from rfl]
 have x0 := E.out.ba.c0
 have x1 := E.out.ba.c1
 go_wp2_with fail
 refine (Power_is E.out.ba.is (E.out.ba.is.len HS.out.1) V HK.out).mono ?_
 rintro e w5 ⟨t5, A5, m5, d5, k5, rfl, hn, hb⟩
 replace E := Lib.hid (E.out.next hb)
 clear hb x0 x1
 by_cases hz : (words (a ^ V).natAbs).length ≤ 4096
 · obtain ⟨rfl, hi⟩ := hn.is_ hz
   have BP := Lib.hid (Box.new hi)
   replace E := Lib.hid (E.out.next (bel_alloc w5 (.cells #[.bool t5, .slice A5 m5 d5] 58)))
   have HZ := Lib.hid (show Sz (a ^ V) 4096 from sz_of_len hz)
   clear hn hi hz
   go_upto_region 10 with (fail)
   generalize w5.alloc (.cells #[.bool t5, .slice A5 m5 d5] 58) = W6 at E BP ⊢
   generalize w5.heap.size = gp at BP ⊢
   have x0 := E.out.bc.c0
   have x1 := E.out.bc.c1
   have o0 := BP.out.c0
   have o1 := BP.out.c1
   go_wp2_with fail
   refine (Equal_c ⟨BP.out.is, HZ.out⟩ ⟨E.out.bc.is, HS.out.2.2⟩).mono ?_
   rintro e w6 ⟨rfl, hb⟩
   replace E := Lib.hid (E.out.next hb)
   clear hb x0 x1 o0 o1
   have HF := Lib.hid (show decide (1 ≤ a ∧ 0 ≤ b ∧ a ^ b.toNat = c) = decide (a ^ V = c) by
    rw [HBV.out]
    by_cases h : a ^ V = c
    · rw [decide_eq_true h, decide_eq_true ⟨HA1.out, HB0.out, h⟩]
    · rw [decide_eq_false h, decide_eq_false (fun q => h q.2.2)])
   generalize decide (a ^ V = c) = v at HF ⊢
   go_wp2
   go_ret
   exact ⟨by rw [HF.out] <;> rfl, E.out.low⟩
 · obtain ⟨rfl, rfl, rfl, rfl, rfl⟩ := hn.2 hz
   have HF := Lib.hid (show decide (1 ≤ a ∧ 0 ≤ b ∧ a ^ b.toNat = c) = false from decide_eq_false fun q => by
    have h1 := q.2.2
    rw [HBV.out] at h1
    rw [h1] at hz
    exact hz HS.out.2.2.len)
   clear hn hz
   replace E := Lib.hid (E.out.next (bel_alloc w5 (.cells #[.bool false, .slice none 0 0] 58)))
   go_upto_region 10 with (fail)
   generalize w5.alloc (.cells #[.bool false, .slice none 0 0] 58) = W6 at E ⊢
   go_wp2
   go_ret
   exact ⟨by rw [HF.out] <;> rfl, E.out.low⟩
end Go.Proofs.YteabokkofoomkaaGreat
namespace Go.Proofs.YteabokkofoomkaaGreat
open Go.RowKit
set_option maxHeartbeats 400000 in
theorem Under_neg (s s' : Bool) (A A' : Option Addr) (n c n' c' : Nat) (xs ys : List Nat) (w : World) (h : Rd w A n xs) (h' : Rd w A' n' ys) (hv : (validB s xs && validB s' ys) = true) (hs : (s || s') = true) :
 Calls Tryz.prog 80 #[.agg #[.bool s, .slice A n c], .agg #[.bool s', .slice A' n' c']] w (fun e w' => e = .returned (.tuple #[.bool false, .int .i64 2]) ∧ Below w.heap.size w w') := by
 have HV := Lib.hid hv
 clear hv
 go_enter Tryz.func80, Tryz.ntmps80
 go_wp2_with fail
 have E := (Env2.start w s s' A A' n c n' c').alloc (.cells #[.bool s, .slice A n c, .bool s', .slice A' n' c'] 58)
 refine (allValid_c (w.heap.size + 1 + 1) s s' A A' n c n' c' xs ys _ (h.below E.below) (h'.below E.below) (by simp) (by go_simp) (by go_simp) (by go_simp) (by go_simp)).mono ?_
 rintro e w1 ⟨rfl, hb⟩
 rw [HV.out]
 have E1 := Lib.hid (E.next hb)
 clear E hb
 have a0 := E1.out.a0
 have b0 := E1.out.b0
 clear h h'
 rcases s with _ | _
 · obtain rfl : s' = true := by simpa using hs
   go_wp2
   go_ret2
   exact ⟨rfl, E1.out.below⟩
 · clear hs
   go_wp2
   go_ret2
   exact ⟨rfl, E1.out.below⟩
end Go.Proofs.YteabokkofoomkaaGreat
set_option maxRecDepth 100000
namespace Go.Proofs.YteabokkofoomkaaGreat
open Go.RowKit Go.Shelf Go.Deep
def noW (u : Value) : Prop := ∀ x, u ≠ .int .u32 x
structure ChgR (T : TypeId) (W W' : World) : Prop where
 size : W.heap.size ≤ W'.heap.size
 blk : ∀ q, q < W.heap.size → (∀ cur f, W.heap[q]? ≠ some (.cells cur T f)) → W'.heap[q]? = W.heap[q]?
 rd : ∀ A n xs, Rd W A n xs → Rd W' A n xs
theorem ChgR.of_below {T : TypeId} {W W' : World} (h : Below W.heap.size W W') : ChgR T W W' := ⟨h.size, fun q hq _ => h.block q hq, fun _ _ _ r => r.below h⟩
theorem ChgR.trans {T : TypeId} {W W' W'' : World} (h : ChgR T W W') (h' : ChgR T W' W'') : ChgR T W W'' :=
 ⟨Nat.le_trans h.size h'.size, fun q hq hn => by
  have e := h.blk q hq hn
  rw [← e]
  exact h'.blk q (Nat.lt_of_lt_of_le hq h.size) (by rw [e]; exact hn), fun A n xs r => h'.rd A n xs (h.rd A n xs r)⟩
theorem ChgR.set {T : TypeId} {W : World} {p : Addr} {cur : Array Value} {f : Nat × Nat} {v : Value} (hp : W.heap[p.block]? = some (.cells cur T f)) (hc : W.cell? p = some v) (hv : noW v) (u : Value) : ChgR T W (W.setCell p u) :=
 ⟨by rw [World.size_setCell]; exact Nat.le_refl _, fun q _ hn => Below.heap_setCell W p u q (by intro e; subst e; exact hn cur f hp), fun A n xs r => r.set_other hc hv u⟩
def TyB (W : World) (t : TypeId) (A : Option Addr) (n : Nat) : Prop := 0 < n → ∃ b o cur f, A = some ⟨b, o, none⟩ ∧ W.heap[b]? = some (.cells cur t f)
theorem lt_of_some {W : World} {b : Nat} {x : Obj} (h : W.heap[b]? = some x) : b < W.heap.size := (Array.getElem?_eq_some_iff.1 h).1
theorem blk_chg {W W' : World} {T t : TypeId} {b : Nat} {cur : Array Value} {f : Nat × Nat} (h : W.heap[b]? = some (.cells cur t f)) (hc : ChgR T W W') (ht : t ≠ T) : W'.heap[b]? = W.heap[b]? :=
 hc.blk b (lt_of_some h) (fun cur' f' e => by
  rw [h] at e
  injection e with e
  injection e with e1 e2 e3
  exact ht e2)
theorem TyB.chg {W W' : World} {T t : TypeId} {A : Option Addr} {n : Nat} (h : TyB W t A n) (hc : ChgR T W W') (ht : t ≠ T) : TyB W' t A n := by
 intro h0
 obtain ⟨b, o, cur, f, e, hb⟩ := h h0
 exact ⟨b, o, cur, f, e, (blk_chg hb hc ht).trans hb⟩
theorem rdI_chg {W W' : World} {T t : TypeId} {A : Option Addr} {n : Nat} {zs : List Int} (h : RdI W A n zs) (ty : TyB W t A n) (hc : ChgR T W W') (ht : t ≠ T) : RdI W' A n zs := by
 refine ⟨h.len, fun h0 => ?_⟩
 obtain ⟨b, o, e, hlt, hcell⟩ := h.at_ h0
 obtain ⟨b', o', cur, f, e', hb⟩ := ty h0
 rw [e] at e'
 injection e' with e'
 injection e' with e1 e2
 subst e1 e2
 exact ⟨b, o, e, Nat.lt_of_lt_of_le hlt hc.size, fun k hk => (World.cell?_of_block (blk_chg hb hc ht)).trans (hcell k hk)⟩
def rowF (F : Nat → List Value) : Nat → List Value
 | 0 => []
 | n + 1 => rowF F n ++ F n
theorem rowF_len {F : Nat → List Value} {sz : Nat} : ∀ n, (∀ k, k < n → (F k).length = sz) → (rowF F n).length = n * sz
 | 0, _ => by simp [rowF]
 | n + 1, h => by rw [rowF, List.length_append, rowF_len n (fun k hk => h k (by omega)), h n (by omega), Nat.succ_mul]
theorem rowF_at {F : Nat → List Value} {sz : Nat} : ∀ n, (∀ k, k < n → (F k).length = sz) → ∀ k, k < n → ∀ e, e < sz → (rowF F n)[k * sz + e]? = (F k)[e]?
 | n + 1, h, k, hk, e, he => by
   rw [rowF]
   have hl := rowF_len n (fun k hk => h k (by omega))
   by_cases q : k < n
   · have h1 : (k + 1) * sz ≤ n * sz := Nat.mul_le_mul_right sz q
     rw [Nat.succ_mul] at h1
     rw [List.getElem?_append_left (by rw [hl]; omega)]
     exact rowF_at n (fun k hk => h k (by omega)) k q e he
   · obtain rfl : k = n := by omega
     rw [List.getElem?_append_right (by rw [hl]; omega), hl, show k * sz + e - k * sz = e by omega]
theorem rowF_congr {F G : Nat → List Value} : ∀ n, (∀ k, k < n → F k = G k) → rowF F n = rowF G n
 | 0, _ => rfl
 | n + 1, h => by rw [rowF, rowF, rowF_congr n (fun k hk => h k (by omega)), h n (by omega)]
def jnF (F G : Nat → List Value) (j k : Nat) : List Value := if k < j then F k else G (k - j)
theorem rowF_add (F G : Nat → List Value) (j : Nat) : ∀ m, rowF F j ++ rowF G m = rowF (jnF F G j) (j + m)
 | 0 => by
   rw [rowF, List.append_nil, Nat.add_zero]
   exact rowF_congr j (fun k hk => by unfold jnF; rw [if_pos hk])
 | m + 1 => by
   rw [rowF, ← List.append_assoc, rowF_add F G j m, ← Nat.add_assoc, rowF]
   congr 1
   unfold jnF
   rw [if_neg (by omega), show j + m - j = m by omega]
theorem rowF_mem {F : Nat → List Value} {p : Value → Prop} : ∀ n, (∀ k, k < n → ∀ u ∈ F k, p u) → ∀ u ∈ rowF F n, p u
 | 0, _, u, hu => by cases hu
 | n + 1, h, u, hu => by
   rw [rowF, List.mem_append] at hu
   rcases hu with hu | hu
   · exact rowF_mem n (fun k hk => h k (by omega)) u hu
   · exact h n (by omega) u hu
section
variable {α : Type} {T : TypeId} {sz : Nat} {C : World → List Value → α → Prop}
structure OwG (T : TypeId) (sz : Nat) (C : World → List Value → α → Prop) (W : World) (B : Nat) (A : Option Addr) (j c : Nat) (xs : List α) : Prop where
 len : xs.length = j
 kind : Kind W noW (.slice A j c)
 ex : ∃ F : Nat → List Value, W.ownsRow B T sz (.slice A j c) j (rowF F j) ∧ ∀ k, k < j → (F k).length = sz ∧ ∃ x, xs[k]? = some x ∧ C W (F k) x
theorem OwG.nil (W : World) (B : Nat) : OwG T sz C W B none 0 0 [] :=
 ⟨rfl, (fun g n cap cur e hv => by cases hv), fun _ => [], World.ownsRow_nil W B _ sz, fun k hk => absurd hk (by omega)⟩
variable {W W' : World} {B : Nat} {A : Option Addr} {j c : Nat} {xs : List α}
theorem OwG.cap (h : OwG T sz C W B A j c xs) : j ≤ c ∧ c ≤ 9223372036854775807 ∧ ∀ a, A = some a → B ≤ a.block ∧ ∃ cur, W.heap[a.block]? = some (.cells cur T (0, 0)) := by
 obtain ⟨F, hown, _⟩ := h.ex
 rcases hown.2 with ⟨e, e2⟩ | ⟨g, cap, cur, e, h1, hg, h2, h3, _⟩
 · injection e with e1 e3 e4
   subst e1 e4 e2
   exact ⟨Nat.le_refl _, by omega, fun a h => by cases h⟩
 · injection e with e1 e3 e4
   subst e1 e4
   refine ⟨h2, by simpa [maxLen] using h3, fun a h => ?_⟩
   injection h with h
   subst h
   exact ⟨h1, cur, hg⟩
theorem OwG.move (h : OwG T sz C W B A j c xs) (hA : ∀ a, A = some a → W'.heap[a.block]? = W.heap[a.block]?) (hC : ∀ v x, C W v x → C W' v x) : OwG T sz C W' B A j c xs := by
 obtain ⟨F, hown, hF⟩ := h.ex
 refine ⟨h.len, h.kind.keep hA, F, ⟨hown.1, ?_⟩, fun k hk => ⟨(hF k hk).1, (hF k hk).2.choose, (hF k hk).2.choose_spec.1, hC _ _ (hF k hk).2.choose_spec.2⟩⟩
 rcases hown.2 with ⟨e, e2⟩ | ⟨g, cap, cur, e, h1, hg, h2⟩
 · exact .inl ⟨e, e2⟩
 · refine .inr ⟨g, cap, cur, e, h1, ?_, h2⟩
   injection e with e1 e3 e4
   subst e1
   exact (hA _ rfl).trans hg
theorem OwG.keep (h : OwG T sz C W B A j c xs) (hC : ∀ W W' v x, ChgR T W W' → C W v x → C W' v x) (hb : Below W.heap.size W W') : OwG T sz C W' B A j c xs :=
 h.move (fun a ha => by obtain ⟨_, cur, hc⟩ := h.cap.2.2 a ha; exact hb.block _ (lt_of_some hc)) (fun v x => hC W W' v x (ChgR.of_below hb))
theorem OwG.chg {T' : TypeId} (h : OwG T sz C W B A j c xs) (hC : ∀ W W' v x, ChgR T' W W' → C W v x → C W' v x) (hc : ChgR T' W W') (ht : T ≠ T') : OwG T sz C W' B A j c xs :=
 h.move (fun a ha => by obtain ⟨_, cur, hcc⟩ := h.cap.2.2 a ha; exact blk_chg hcc hc ht) (fun v x => hC W W' v x hc)
theorem OwG.base {B' : Nat} (h : OwG T sz C W B A j c xs) (hb : B' ≤ B) : OwG T sz C W B' A j c xs := by
 obtain ⟨F, hown, hF⟩ := h.ex
 refine ⟨h.len, h.kind, F, ⟨hown.1, ?_⟩, hF⟩
 rcases hown.2 with e | ⟨g, cap, cur, e, h1, h2⟩
 · exact .inl e
 · exact .inr ⟨g, cap, cur, e, Nat.le_trans hb h1, h2⟩
theorem add_none (g j : Nat) (o : Nat) : (⟨g, o, none⟩ : Addr).add j = ⟨g, o + j, none⟩ := by
 rcases Nat.eq_zero_or_pos j with rfl | hq
 · rfl
 · unfold Addr.add; simp; omega
theorem OwG.at_ (h : OwG T sz C W B A j c xs) (h0 : 0 < j) : ∃ g cur, A = some ⟨g, 0, none⟩ ∧ W.heap[g]? = some (.cells cur T (0, 0)) ∧ ∀ k, k < j → ∃ v x, v.length = sz ∧ xs[k]? = some x ∧ C W v x ∧ ∀ e u, v[e]? = some u → W.cell? ⟨g, k * sz + e, none⟩ = some u := by
 obtain ⟨F, hown, hF⟩ := h.ex
 rcases hown.2 with ⟨_, e2⟩ | ⟨g, cap, cur, e, _, hg, _⟩
 · omega
 · injection e with e1 e3 e4
   subst e1
   have hc := hown.cells (g := g) rfl
   refine ⟨g, cur, rfl, hg, fun k hk => ?_⟩
   obtain ⟨x, hx, hCx⟩ := (hF k hk).2
   refine ⟨F k, x, (hF k hk).1, hx, hCx, fun e u hu => ?_⟩
   have he : e < sz := by have := (List.getElem?_eq_some_iff.1 hu).1; rw [(hF k hk).1] at this; exact this
   have h2 := hc (k * sz + e) u (by rw [rowF_at j (fun k hk => (hF k hk).1) k hk e he]; exact hu)
   rw [add_none, Nat.zero_add] at h2
   exact h2
theorem rd_grown9 {v : Value} (hg : W.grownBy W' v.ownBlock) (hk : Kind W noW v) {base n : Nat} {e : TypeId} {size : Nat} {xs : List Value} (hown : W.ownsRow base e size v n xs) {A : Option Addr} {m : Nat} {ws : List Nat} (h : Rd W A m ws) : Rd W' A m ws := by
 refine ⟨h.len, h.sm, fun hp => ?_⟩
 obtain ⟨b, o, ea, hlt, hcell⟩ := h.at_ hp
 refine ⟨b, o, ea, Nat.lt_of_lt_of_le hlt hg.size, fun i hi => ?_⟩
 have hne : some b ≠ v.ownBlock := by
  intro hb
  rcases hown.2 with ⟨e1, _⟩ | ⟨g, cap, cur, e1, _, hh, _⟩
  · rw [e1] at hb; cases hb
  · rw [e1] at hb
    injection hb with hb
    change b = g at hb
    subst hb
    have h0 := hcell 0 hp
    rw [cell_of_row W b (o + 0) _ _ _ hh] at h0
    have h1 := hk b _ _ cur e e1 hh _ (by rw [Array.mem_toList_iff]; exact Array.mem_of_getElem? h0)
    exact h1 _ rfl
 exact (World.cell?_of_block (hg.block b hlt hne)).trans (hcell i hi)
theorem run_app_g (hC : ∀ W W' v x, ChgR T W W' → C W v x → C W' v x) (hsz : 0 < sz) (t ty : TypeId) (i : TypeInfo) (z : Value) (bytes : Nat) (ht : Tryz.prog.underlying t = some (.slice T)) (hi : Tryz.prog.info? T = some i) (hz : i.zero = some z) (hs : i.size = sz) (hb : i.bytes = bytes) (hzs : z.cells.size = sz) (hby : bytes ≤ 1000) (hzk : ∀ u ∈ z.cells.toList, noW u)
 (h : OwG T sz C W B A j c xs) (hB : B ≤ W.heap.size) (b o m q : Nat) (G : Nat → List Value) (ys : List α) (hyl : ys.length = m) (hm : 0 < m)
 (hel : ∀ k, k < m → (G k).length = sz ∧ (∀ u ∈ G k, u.oneCell' = true ∧ noW u) ∧ (∃ y, ys[k]? = some y ∧ C W (G k) y) ∧ ∀ e u, (G k)[e]? = some u → W.cell? ⟨b, o + k * sz + e, none⟩ = some u) (hj : j ≤ 1000000) (hm2 : m ≤ 1000000) :
 ∃ g' c' W', (Builtin.append_ #[t, t] ty #[.slice A j c, .slice (some ⟨b, o, none⟩) m q]).run Tryz.prog W = .ok (.slice (some ⟨g', 0, none⟩) (j + m) c') W' ∧ OwG T sz C W' B (some ⟨g', 0, none⟩) (j + m) c' (xs ++ ys) ∧ Below B W W' ∧ ChgR T W W' ∧ (∀ q, q < W.heap.size → (∀ a, A = some a → a.block ≠ q) → W'.heap[q]? = W.heap[q]?) := by
 have hBg := h.cap.2.2
 obtain ⟨F, hown, hF⟩ := h.ex
 have hGl := rowF_len m (fun k hk => (hel k hk).1)
 obtain ⟨v', W', hrun, hown', hgr, -, hk'⟩ := run_append_kind (P := Tryz.prog) (w := W) B t ty T i z sz bytes ht hi hz hs hb hzs hsz (.slice A j c) j (rowF F j) hown ⟨b, o, none⟩ m q (rowF G m) hGl
  (fun x u hu => by
   have hx : x < m * sz := by
    have := (List.getElem?_eq_some_iff.1 hu).1
    rwa [hGl] at this
   have hk : x / sz < m := Nat.div_lt_of_lt_mul (by rw [Nat.mul_comm]; exact hx)
   have he : x % sz < sz := Nat.mod_lt _ hsz
   have hx2 : x / sz * sz + x % sz = x := by rw [Nat.mul_comm]; exact Nat.div_add_mod x sz
   rw [← hx2, rowF_at m (fun k hk => (hel k hk).1) _ hk _ he] at hu
   have := (hel _ hk).2.2.2 _ u hu
   rw [add_none, ← hx2, ← Nat.add_assoc]
   exact this)
  (rowF_mem m (fun k hk u hu => ((hel k hk).2.1 u hu).1)) (by simp only [maxLen]; omega)
  (Nat.le_trans (Nat.mul_le_mul (show j + m ≤ 2000000 by omega) hby) (by omega)) hB hm noW h.kind hzk (rowF_mem m (fun k hk u hu => ((hel k hk).2.1 u hu).2))
 have hch : ChgR T W W' := ⟨hgr.size, fun k hk hn => hgr.block k hk (by
  intro e
  rcases A with _ | a
  · cases e
  · injection e with e
    obtain ⟨_, cur, hcur⟩ := hBg a rfl
    subst e
    exact hn cur (0, 0) hcur), fun _ _ _ r => rd_grown9 hgr h.kind hown r⟩
 rw [rowF_add] at hown'
 rcases hown'.2 with ⟨rfl, h1⟩ | ⟨g2, cap, cur, rfl, hg1, hh, hcap, hcap2, hcur, htake⟩
 · omega
 · refine ⟨g2, cap, W', hrun, ⟨by rw [List.length_append, h.len, hyl], hk', jnF F G j, hown', fun k hk => ?_⟩, ⟨hgr.os, hgr.tape, hgr.output, hgr.size, fun k hk => hgr.block k (by omega) ?_⟩, hch, fun k hk hn => hgr.block k hk (by
    intro e
    rcases A with _ | a
    · cases e
    · injection e with e
      exact hn a rfl e.symm)⟩
   · unfold jnF
     by_cases q1 : k < j
     · rw [if_pos q1]
       obtain ⟨x, hx, hCx⟩ := (hF k q1).2
       exact ⟨(hF k q1).1, x, by rw [List.getElem?_append_left (by rw [h.len]; exact q1)]; exact hx, hC _ _ _ _ hch hCx⟩
     · rw [if_neg q1]
       obtain ⟨h1, _, ⟨y, hy, hCy⟩, _⟩ := hel (k - j) (by omega)
       exact ⟨h1, y, by rw [List.getElem?_append_right (by rw [h.len]; omega), h.len]; exact hy, hC _ _ _ _ hch hCy⟩
   · intro e
     rcases A with _ | a
     · cases e
     · injection e with e
       have := (hBg a rfl).1
       omega
end
def InfG (t T : TypeId) (sz : Nat) : Prop := ∃ i z bytes, Tryz.prog.underlying t = some (.slice T) ∧ Tryz.prog.info? T = some i ∧ i.zero = some z ∧ i.size = sz ∧ i.bytes = bytes ∧ z.cells.size = sz ∧ bytes ≤ 1000 ∧ (∀ u ∈ z.cells.toList, noW u) ∧ 0 < sz
theorem infoP9 : (Tryz.prog.info? 45).map (fun i => (i.zero, i.size, i.bytes)) = some (some (.agg #[.int .i64 0, .slice none 0 0]), 2, 32) := by kernel_rfl
theorem infoK9 : (Tryz.prog.info? 51).map (fun i => (i.zero, i.size, i.bytes)) = some (some (.agg #[.int .i64 0, .slice none 0 0, .slice none 0 0]), 3, 56) := by kernel_rfl
theorem infoI9 : (Tryz.prog.info? 3).map (fun i => (i.zero, i.size, i.bytes)) = some (some (.int .i64 0), 1, 8) := by kernel_rfl
theorem noW_i (z : Int) : noW (.int .i64 z) := fun x e => by injection e with e; cases e
theorem noW_s (A : Option Addr) (n c : Nat) : noW (.slice A n c) := fun x e => by cases e
theorem noW_b (b : Bool) : noW (.bool b) := fun x e => by cases e
theorem infT : InfG 43 70 3 := by
 obtain ⟨i, hi, hz, hs, hb⟩ := info_parts infoT
 exact ⟨i, _, 56, Tryz.underlying43, hi, hz, hs, hb, rfl, by decide, fun u hu => by simp [Value.cells] at hu; rcases hu with rfl | rfl; exact noW_b _; exact noW_s _ _ _, by decide⟩
theorem infP : InfG 49 45 2 := by
 obtain ⟨i, hi, hz, hs, hb⟩ := info_parts infoP9
 exact ⟨i, _, 32, Tryz.underlying49, hi, hz, hs, hb, rfl, by decide, fun u hu => by simp [Value.cells] at hu; rcases hu with rfl | rfl; exact noW_i _; exact noW_s _ _ _, by decide⟩
theorem infK : InfG 22 51 3 := by
 obtain ⟨i, hi, hz, hs, hb⟩ := info_parts infoK9
 exact ⟨i, _, 56, Tryz.underlying22, hi, hz, hs, hb, rfl, by decide, fun u hu => by simp [Value.cells] at hu; rcases hu with rfl | rfl; exact noW_i _; exact noW_s _ _ _, by decide⟩
theorem infI : InfG 48 3 1 := by
 obtain ⟨i, hi, hz, hs, hb⟩ := info_parts infoI9
 exact ⟨i, _, 8, Tryz.underlying48, hi, hz, hs, hb, rfl, by decide, fun u hu => by simp [Value.cells] at hu; rcases hu with rfl; exact noW_i _, by decide⟩
section
variable {α : Type} {t T : TypeId} {sz : Nat} {C : World → List Value → α → Prop} {W : World} {B : Nat} {A : Option Addr} {j c : Nat} {xs : List α}
def ElG (sz : Nat) (C : World → List Value → α → Prop) (W : World) (b o m : Nat) (ys : List α) : Prop :=
 ys.length = m ∧ ∃ G : Nat → List Value, ∀ k, k < m → (G k).length = sz ∧ (∀ u ∈ G k, u.oneCell' = true ∧ noW u) ∧ (∃ y, ys[k]? = some y ∧ C W (G k) y) ∧ ∀ e u, (G k)[e]? = some u → W.cell? ⟨b, o + k * sz + e, none⟩ = some u
theorem ElG.one {b : Nat} {v : List Value} {y : α} (hl : v.length = sz) (hv : ∀ u ∈ v, u.oneCell' = true ∧ noW u) (hC : C W v y) (hc : ∀ e u, v[e]? = some u → W.cell? ⟨b, e, none⟩ = some u) : ElG sz C W b 0 1 [y] :=
 ⟨rfl, fun _ => v, fun k hk => by
  obtain rfl : k = 0 := by omega
  exact ⟨hl, hv, ⟨y, rfl, hC⟩, fun e u hu => by have h := hc e u hu; simpa using h⟩⟩
theorem wp_app_g {w : World} {o : Oper} {a : Act} {K : Act → World → Prop} {Q : Exit → Act → World → Prop} (inf : InfG t T sz) (hC : ∀ W W' v x, ChgR T W W' → C W v x → C W' v x) (s y : Operand)
 (ho : o.op = .call { callee := .builtin .append, args := #[s, y], argTypes := #[t, t] })
 (b o' m q : Nat) (ys : List α) (hs : a.eval s = .slice A j c) (hy : a.eval y = .slice (some ⟨b, o', none⟩) m q) (h : OwG T sz C w B A j c xs) (hB : B ≤ w.heap.size) (hm : 0 < m) (hel : ElG sz C w b o' m ys) (hj : j ≤ 1000000) (hm2 : m ≤ 1000000)
 (hk : ∀ g' c' w', OwG T sz C w' B (some ⟨g', 0, none⟩) (j + m) c' (xs ++ ys) → Below B w w' → ChgR T w w' → (∀ q, q < w.heap.size → (∀ a, A = some a → a.block ≠ q) → w'.heap[q]? = w.heap[q]?) → K (a.put o.dst (.slice (some ⟨g', 0, none⟩) (j + m) c')) w') : o.wp Tryz.prog a w K Q := by
 obtain ⟨i, z, bytes, i1, i2, i3, i4, i5, i6, i7, i8, i9⟩ := inf
 obtain ⟨hyl, G, hG⟩ := hel
 obtain ⟨g', c', w', hrun, h1, h2, h3, h4⟩ := run_app_g hC i9 t o.type i z bytes i1 i2 i3 i4 i5 i6 i7 i8 h hB b o' m q G ys hyl hm hG hj hm2
 unfold Oper.wp execOp
 simp only [ho, resolve, invoke, builtin, Sem.run_bind, Sem.run_pure, Result.andThen_ok, List.map_toArray, List.map_cons, List.map_nil, hs, hy, hrun]
 exact hk g' c' w' h1 h2 h3 h4
theorem step_app_g {w : World} {ops : Array Oper} {o : Oper} {a : Act} {K : Act → World → Prop} {Q : Exit → Act → World → Prop} {E : Prop} (hgd : o.guard = none) (inf : InfG t T sz) (hC : ∀ W W' v x, ChgR T W W' → C W v x → C W' v x) (s y : Operand)
 (ho : o.op = .call { callee := .builtin .append, args := #[s, y], argTypes := #[t, t] })
 (b o' m q : Nat) (ys : List α) (hs : a.eval s = .slice A j c) (hy : a.eval y = .slice (some ⟨b, o', none⟩) m q) (h : OwG T sz C w B A j c xs) (hB : B ≤ w.heap.size) (hm : 0 < m) (hel : ElG sz C w b o' m ys) (hj : j ≤ 1000000) (hm2 : m ≤ 1000000)
 (hk : ∀ g' c' w', OwG T sz C w' B (some ⟨g', 0, none⟩) (j + m) c' (xs ++ ys) → Below B w w' → ChgR T w w' → (∀ q, q < w.heap.size → (∀ a, A = some a → a.block ≠ q) → w'.heap[q]? = w.heap[q]?) → K (a.put o.dst (.slice (some ⟨g', 0, none⟩) (j + m) c')) w') :
 if Region.wanted o (yielded ops a.tmps) = true then Oper.wp Tryz.prog o a w K Q else E := by
 have hw2 : Region.wanted o (yielded ops a.tmps) = true := by simp [Region.wanted, hgd]
 rw [if_pos hw2]
 exact wp_app_g inf hC s y ho b o' m q ys hs hy h hB hm hel hj hm2 hk
theorem wpList_app_g {w : World} {ops : Array Oper} {rest : List Oper} {o : Oper} {a : Act} {Q : Exit → Act → World → Prop} (hgd : o.guard = none) (inf : InfG t T sz) (hC : ∀ W W' v x, ChgR T W W' → C W v x → C W' v x) (s y : Operand)
 (ho : o.op = .call { callee := .builtin .append, args := #[s, y], argTypes := #[t, t] })
 (b o' m q : Nat) (ys : List α) (hs : a.eval s = .slice A j c) (hy : a.eval y = .slice (some ⟨b, o', none⟩) m q) (h : OwG T sz C w B A j c xs) (hB : B ≤ w.heap.size) (hm : 0 < m) (hel : ElG sz C w b o' m ys) (hj : j ≤ 1000000) (hm2 : m ≤ 1000000)
 (hk : ∀ g' c' w', OwG T sz C w' B (some ⟨g', 0, none⟩) (j + m) c' (xs ++ ys) → Below B w w' → ChgR T w w' → (∀ q, q < w.heap.size → (∀ a, A = some a → a.block ≠ q) → w'.heap[q]? = w.heap[q]?) → wpList Tryz.prog ops Q rest (a.put o.dst (.slice (some ⟨g', 0, none⟩) (j + m) c')) w') : wpList Tryz.prog ops Q (o :: rest) a w :=
 wpList_plain hgd fun _ hK => wp_app_g inf hC s y ho b o' m q ys hs hy h hB hm hel hj hm2 fun g' c' w' h1 h2 h3 h4 => hK _ _ (hk g' c' w' h1 h2 h3 h4)
theorem wpList_app_0 {w : World} {ops : Array Oper} {rest : List Oper} {o : Oper} {a : Act} {Q : Exit → Act → World → Prop} (hgd : o.guard = none) (inf : InfG t T sz) (s y : Operand)
 (ho : o.op = .call { callee := .builtin .append, args := #[s, y], argTypes := #[t, t] })
 (A2 : Option Addr) (q : Nat) (hs : a.eval s = .slice A j c) (hy : a.eval y = .slice A2 0 q) (hjc : j ≤ c)
 (hk : wpList Tryz.prog ops Q rest (a.put o.dst (.slice A j c)) w) : wpList Tryz.prog ops Q (o :: rest) a w := by
 refine wpList_plain hgd fun K hK => ?_
 obtain ⟨i, z, bytes, i1, i2, i3, i4, i5, i6, i7, i8, i9⟩ := inf
 have hrun : (Builtin.append_ #[t, t] o.type #[.slice A j c, .slice A2 0 q]).run Tryz.prog w = .ok (.slice A j c) w := by
  rcases A2 with _ | a <;> rcases A with _ | l <;> simp [Builtin.append_, run_underlying i1, sizeOf, typeInfo, i2, Builtin.lenOf, Builtin.firstCells, loadCells, loadCellsFrom, storeCells, hjc]
 unfold Oper.wp execOp
 simp only [ho, resolve, invoke, builtin, Sem.run_bind, Sem.run_pure, Result.andThen_ok, List.map_toArray, List.map_cons, List.map_nil, hs, hy, hrun]
 exact hK _ _ hk
theorem wpList_app_0n {w : World} {ops : Array Oper} {rest : List Oper} {o : Oper} {a : Act} {Q : Exit → Act → World → Prop} (hgd : o.guard = none) (inf : InfG t T sz) (s y : Operand)
 (ho : o.op = .call { callee := .builtin .append, args := #[s, y], argTypes := #[t, t] })
 (A2 : Option Addr) (m q : Nat) (hm : m = 0) (hs : a.eval s = .slice A j c) (hy : a.eval y = .slice A2 m q) (hjc : j ≤ c)
 (hk : wpList Tryz.prog ops Q rest (a.put o.dst (.slice A j c)) w) : wpList Tryz.prog ops Q (o :: rest) a w := by
 subst hm
 exact wpList_app_0 hgd inf s y ho A2 q hs hy hjc hk
structure RowG (T : TypeId) (sz : Nat) (C : World → List Value → α → Prop) (W : World) (A : Option Addr) (n : Nat) (xs : List α) : Prop where
 len : xs.length = n
 at_ : 0 < n → ∃ g cur, A = some ⟨g, 0, none⟩ ∧ W.heap[g]? = some (.cells cur T (0, 0)) ∧ ∀ k, k < n → ∃ v x, v.length = sz ∧ xs[k]? = some x ∧ C W v x ∧ ∀ e u, v[e]? = some u → W.cell? ⟨g, k * sz + e, none⟩ = some u
theorem OwG.row (h : OwG T sz C W B A j c xs) : RowG T sz C W A j xs := ⟨h.len, h.at_⟩
theorem RowG.chg {T' : TypeId} {W' : World} (h : RowG T sz C W A j xs) (hC : ∀ W W' v x, ChgR T' W W' → C W v x → C W' v x) (hc : ChgR T' W W') (ht : T ≠ T') : RowG T sz C W' A j xs := by
 refine ⟨h.len, fun h0 => ?_⟩
 obtain ⟨g, cur, e, hg, hk⟩ := h.at_ h0
 have hb := blk_chg hg hc ht
 refine ⟨g, cur, e, hb.trans hg, fun k hk2 => ?_⟩
 obtain ⟨v, x, h1, h2, h3, h4⟩ := hk k hk2
 exact ⟨v, x, h1, h2, hC _ _ _ _ hc h3, fun e u hu => (World.cell?_of_block hb).trans (h4 e u hu)⟩
end
def CTm (W : World) (v : List Value) (t : Trm) : Prop := ∃ A n c B m d, v = [.bool t.s, .slice A n c, .slice B m d] ∧ Rd W A n t.xs ∧ n ≤ c ∧ c ≤ 9223372036854775807 ∧ RdI W B m t.es ∧ TyB W 3 B m ∧ m ≤ d ∧ d ≤ 9223372036854775807
theorem CTm.chg {T : TypeId} (hT : 3 ≠ T) : ∀ W W' v x, ChgR T W W' → CTm W v x → CTm W' v x := by
 rintro W W' v x hc ⟨A, n, c, B, m, d, e, h1, h2, h3, h4, h5, h6, h7⟩
 exact ⟨A, n, c, B, m, d, e, hc.rd _ _ _ h1, h2, h3, rdI_chg h4 h5 hc hT, h5.chg hc hT, h6, h7⟩
abbrev RowT9 := RowG 70 3 CTm
def CPl (W : World) (v : List Value) (p : Ply) : Prop := ∃ A n c, v = [.int .i64 p.V, .slice A n c] ∧ RowT9 W A n p.ts ∧ n ≤ c ∧ c ≤ 9223372036854775807
theorem CPl.chg {T : TypeId} (hT : 3 ≠ T) (hT2 : 70 ≠ T) : ∀ W W' v x, ChgR T W W' → CPl W v x → CPl W' v x := by
 rintro W W' v x hc ⟨A, n, c, e, h1, h2, h3⟩
 exact ⟨A, n, c, e, h1.chg (CTm.chg hT) hc hT2, h2, h3⟩
abbrev RowP9 := RowG 45 2 CPl
def CLk (W : World) (v : List Value) (l : Lnk) : Prop := ∃ B m d C p q, v = [.int .i64 l.kind, .slice B m d, .slice C p q] ∧ RdI W B m l.vs ∧ TyB W 3 B m ∧ m ≤ d ∧ d ≤ 9223372036854775807 ∧ RowP9 W C p l.ps ∧ p ≤ q ∧ q ≤ 9223372036854775807
theorem CLk.chg {T : TypeId} (hT : 3 ≠ T) (hT2 : 70 ≠ T) (hT3 : 45 ≠ T) : ∀ W W' v x, ChgR T W W' → CLk W v x → CLk W' v x := by
 rintro W W' v x hc ⟨B, m, d, C, p, q, e, h1, h2, h3, h4, h5, h6, h7⟩
 exact ⟨B, m, d, C, p, q, e, rdI_chg h1 h2 hc hT, h2.chg hc hT, h3, h4, h5.chg (CPl.chg hT hT2) hc hT3, h6, h7⟩
abbrev RowK9 := RowG 51 3 CLk
theorem getD_of {α : Type} {l : List α} {k : Nat} {x d : α} (h : l[k]? = some x) : l.getD k d = x := by rw [List.getD_eq_getElem?_getD, h]; rfl
theorem RowG.rdT {W : World} {A : Option Addr} {n : Nat} {ts : List Trm} (h : RowT9 W A n ts) : RdT W A n ts := by
 refine ⟨h.len, fun h0 => ?_⟩
 obtain ⟨g, cur, e, hg, hk⟩ := h.at_ h0
 refine ⟨g, 0, e, lt_of_some hg, fun k hk2 => ?_⟩
 obtain ⟨v, x, h1, h2, ⟨A1, n1, c1, B1, m1, d1, rfl, r1, r2, r3, r4, -, r6, r7⟩, h4⟩ := hk k hk2
 have ex : trmAt ts k = x := getD_of h2
 rw [ex, Nat.zero_add]
 exact ⟨A1, n1, c1, B1, m1, d1, h4 0 _ rfl, h4 1 _ rfl, h4 2 _ rfl, r1, r2, r3, r4, r6, r7⟩
theorem RowG.rdP {W : World} {A : Option Addr} {n : Nat} {ps : List Ply} (h : RowP9 W A n ps) : RdP W A n ps := by
 refine ⟨h.len, fun h0 => ?_⟩
 obtain ⟨g, cur, e, hg, hk⟩ := h.at_ h0
 refine ⟨g, 0, e, lt_of_some hg, fun k hk2 => ?_⟩
 obtain ⟨v, x, h1, h2, ⟨A1, n1, c1, rfl, r1, r2, r3⟩, h4⟩ := hk k hk2
 have ex : plyAt ps k = x := getD_of h2
 rw [ex, Nat.zero_add]
 exact ⟨A1, n1, c1, h4 0 _ rfl, h4 1 _ rfl, r1.rdT, r2, r3⟩
theorem RowG.rdL {W : World} {A : Option Addr} {n : Nat} {ls : List Lnk} (h : RowK9 W A n ls) : RdL W A n ls := by
 refine ⟨h.len, fun h0 => ?_⟩
 obtain ⟨g, cur, e, hg, hk⟩ := h.at_ h0
 refine ⟨g, 0, e, lt_of_some hg, fun k hk2 => ?_⟩
 obtain ⟨v, x, h1, h2, ⟨B, m, d, C, p, q, rfl, r1, -, r3, r4, r5, r6, r7⟩, h4⟩ := hk k hk2
 have ex : lnkAt ls k = x := getD_of h2
 rw [ex, Nat.zero_add]
 exact ⟨B, m, d, C, p, q, h4 0 _ rfl, h4 1 _ rfl, h4 2 _ rfl, r1, r5.rdP, r3, r4, r6, r7⟩
structure VB (W : World) (g : Nat) (cur : Array Value) (t : TypeId) : Prop where
 hp : W.heap[g]? = some (.cells cur t (0, 0))
section
variable {W W' : World} {g : Nat} {cur : Array Value} {t : TypeId}
theorem VB.lt (h : VB W g cur t) : g < W.heap.size := lt_of_some h.hp
theorem VB.new (W : World) (cur : Array Value) (t : TypeId) : VB (W.alloc (.cells cur t)) W.heap.size cur t := ⟨Go.heap_alloc_new W _⟩
theorem VB.next (h : VB W g cur t) (hb : Below W.heap.size W W') : VB W' g cur t := ⟨(hb.block g h.lt).trans h.hp⟩
theorem VB.low (h : VB W g cur t) {N : Nat} (hg : g < N) (hb : Below N W W') : VB W' g cur t := ⟨(hb.block g hg).trans h.hp⟩
theorem VB.cell (h : VB W g cur t) (o : Nat) : W.cell? ⟨g, o, none⟩ = cur[o]? := cell_of_row W g o _ _ _ h.hp
theorem VB.c0 {a b : Value} (h : VB W g #[a, b] t) : W.cell? ⟨g, 0, none⟩ = some a := h.cell 0
theorem VB.c1 {a b : Value} (h : VB W g #[a, b] t) : W.cell? ⟨g, 1, none⟩ = some b := h.cell 1
theorem VB.d0 {a b c : Value} (h : VB W g #[a, b, c] t) : W.cell? ⟨g, 0, none⟩ = some a := h.cell 0
theorem VB.d1 {a b c : Value} (h : VB W g #[a, b, c] t) : W.cell? ⟨g, 1, none⟩ = some b := h.cell 1
theorem VB.d2 {a b c : Value} (h : VB W g #[a, b, c] t) : W.cell? ⟨g, 2, none⟩ = some c := h.cell 2
theorem VB.fr (h : VB W g cur t) (o : Nat) : W.frozen? ⟨g, o, none⟩ = false := by
 unfold World.frozen?
 rw [h.hp]
 simp
theorem VB.put (h : VB W g cur t) (o : Nat) (u : Value) : VB (W.setCell ⟨g, o, none⟩ u) g (cur.setIfInBounds o u) t := by
 constructor
 simp [World.setCell, Array.getElem?_modify, h.hp]
theorem VB.far (h : VB W g cur t) {p : Addr} (hp : g ≠ p.block) (u : Value) : VB (W.setCell p u) g cur t := ⟨(Below.heap_setCell W p u g hp).trans h.hp⟩
theorem VB.chg {T : TypeId} (h : VB W g cur t) (hc : ChgR T W W') (ht : t ≠ T) : VB W' g cur t := ⟨(blk_chg h.hp hc ht).trans h.hp⟩
theorem VB.set (h : VB W g cur t) (o : Nat) {v : Value} (hv : cur[o]? = some v) (hn : noW v) (u : Value) : ChgR t W (W.setCell ⟨g, o, none⟩ u) := ChgR.set h.hp ((h.cell o).trans hv) hn u
end
def CIn (_ : World) (v : List Value) (z : Int) : Prop := v = [.int .i64 z]
theorem CIn.chg {T : TypeId} : ∀ W W' v x, ChgR T W W' → CIn W v x → CIn W' v x := fun _ _ _ _ _ h => h
def NewI9 (zs : List Int) (w : World) (e : Ending) (w' : World) : Prop :=
 ∃ A c, e = .returned (.slice A zs.length c) ∧ RdI w' A zs.length zs ∧ TyB w' 3 A zs.length ∧ (∀ a, A = some a → w.heap.size ≤ a.block) ∧ zs.length ≤ c ∧ c ≤ 9223372036854775807 ∧ Below w.heap.size w w'
theorem own_made9 {α : Type} {C : World → List Value → α → Prop} {sz : Nat} (w : World) (T : TypeId) (B : Nat) (hB : B ≤ w.heap.size) : OwG T sz C (w.alloc (.cells #[] T)) B (some ⟨w.heap.size, 0, none⟩) 0 0 [] :=
 ⟨rfl, (fun g n cap cur e hv hg u hu => by
  injection hv with q1 q2 q3
  injection q1 with q1
  injection q1 with q1
  subst q1
  rw [Go.heap_alloc_new] at hg
  injection hg with hg
  injection hg with hg
  subst hg
  cases hu), fun _ => [], World.ownsRow_made w #[] 0 hB (by simp [maxLen]) (by simp), fun k hk => absurd hk (by omega)⟩
theorem rdI_el {W : World} {b o n : Nat} {zs : List Int} (h : RdI W (some ⟨b, o, none⟩) n zs) (h0 : 0 < n) : ElG 1 CIn W b o n zs := by
 refine ⟨h.len, fun k => [.int .i64 (zs.getD k 0)], fun k hk => ⟨rfl, fun u hu => ?_, ⟨zs.getD k 0, ?_, rfl⟩, fun e u hu => ?_⟩⟩
 · simp at hu; subst hu; exact ⟨rfl, noW_i _⟩
 · have hl := h.len
   rw [List.getD_eq_getElem?_getD, List.getElem?_eq_getElem (by omega)]; rfl
 · obtain ⟨b', o', e', _, hc⟩ := h.at_ h0
   injection e' with e'
   injection e' with e1 e2
   subst e1 e2
   match e, hu with
   | 0, hu =>
     injection hu with hu
     subst hu
     rw [Nat.mul_one, Nat.add_zero]
     exact hc k hk
theorem own_rdI {W : World} {B : Nat} {A : Option Addr} {j c : Nat} {zs : List Int} (h : OwG 3 1 CIn W B A j c zs) : RdI W A j zs ∧ TyB W 3 A j := by
 constructor
 · refine ⟨h.len, fun h0 => ?_⟩
   obtain ⟨g, cur, e, hg, hk⟩ := h.at_ h0
   refine ⟨g, 0, e, lt_of_some hg, fun k hk2 => ?_⟩
   obtain ⟨v, x, h1, h2, rfl, h4⟩ := hk k hk2
   have := h4 0 _ rfl
   rw [Nat.mul_one, Nat.add_zero] at this
   rw [Nat.zero_add, getD_of h2]
   exact this
 · intro h0
   obtain ⟨g, cur, e, hg, _⟩ := h.at_ h0
   exact ⟨g, 0, cur, _, e, hg⟩
set_option maxHeartbeats 2000000 in
theorem cloneI_c (A : Option Addr) (n c : Nat) (zs : List Int) (w : World) (hr : RdI w A n zs) (hn : n ≤ 1000000) :
 Calls Tryz.prog 48 #[.slice A n c] w (NewI9 zs w) := by
 have q22 : ∀ (w : World) (a : Option Addr) (n c n' c' : Nat), (binOp .eql 48 (.slice a n c) (.slice none n' c')).run Tryz.prog w = .ok (.bool a.isNone) w := fun w a n c n' c' => Lib.run_eql_slice_nil w _ _ a n c n' c' Tryz.underlying48
 have hl := hr.len
 have k0 := bel_alloc w (.cells #[] 3)
 have OW := Lib.hid (own_made9 (C := CIn) (sz := 1) w 3 w.heap.size (Nat.le_refl _))
 have HR := Lib.hid (And.intro hr (hr.below k0))
 have P := Lib.hid k0
 have HL := Lib.hid hl
 clear k0
 rcases A with _ | a
 · have h0 : n = 0 := by
    rcases Nat.eq_zero_or_pos n with h | h
    · exact h
    · obtain ⟨b, o, e, _⟩ := hr.at_ h
      cases e
   subst h0
   have hz : zs = [] := List.length_eq_zero_iff.1 hl
   subst hz
   clear hr hl OW HR P
   go_enter Tryz.func48, Tryz.ntmps48
   go_wp2
   go_ret
   exact ⟨none, 0, rfl, ⟨rfl, fun h => absurd h (Nat.lt_irrefl 0)⟩, fun h => absurd h (Nat.lt_irrefl 0), (fun a h => by cases h), Nat.le_refl _, by omega, Below.refl _ _⟩
 · by_cases h0 : n = 0
   · subst h0
     have hz : zs = [] := List.length_eq_zero_iff.1 hl
     subst hz
     clear hr hl HR
     go_enter Tryz.func48, Tryz.ntmps48
     go_wp2_with (at_builtin; refine wpList_app_0 rfl infI (.tmp 5) (.tmp 6) rfl (some a) c rfl rfl (Nat.le_refl 0) ?_)
     go_wp2
     go_ret
     exact ⟨_, 0, rfl, ⟨rfl, fun h => absurd h (Nat.lt_irrefl 0)⟩, fun h => absurd h (Nat.lt_irrefl 0), (fun a h => by injection h with h; subst h; exact Nat.le_refl _), Nat.le_refl _, by omega, P.out⟩
   · obtain ⟨b, o, e, _, _⟩ := hr.at_ (by omega)
     injection e with e
     subst e
     clear hr hl
     have HN := Lib.hid hn
     go_enter Tryz.func48, Tryz.ntmps48
     go_wp2_with (at_builtin; refine wpList_app_g rfl infI CIn.chg (.tmp 5) (.tmp 6) rfl b o n c zs rfl rfl OW.out (by simp) (by omega) (rdI_el HR.out.2 (by omega)) (by omega) HN.out ?_)
     intro g' c' w' h1 h2 h3 h4
     clear h4
     have O2 := Lib.hid h1
     have P2 := Lib.hid (P.out.trans h2)
     clear h1 h2 h3 OW P
     go_wp2
     go_ret
     have h1 := own_rdI O2.out
     have h2 := O2.out.cap
     exact ⟨some ⟨g', 0, none⟩, c', by rw [HL.out]; rfl, by rw [HL.out]; exact h1.1, by rw [HL.out]; exact h1.2, (fun a h => by injection h with h; subst h; exact (h2.2.2 _ rfl).1), by rw [HL.out]; exact h2.1, h2.2.1, P2.out⟩
end Go.Proofs.YteabokkofoomkaaGreat
