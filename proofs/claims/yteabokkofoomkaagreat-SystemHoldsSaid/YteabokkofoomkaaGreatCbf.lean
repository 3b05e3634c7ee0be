import Derived.Test.YteabokkofoomkaaGreatCba
import Derived.Test.YteabokkofoomkaaGreatCau
import Derived.Test.YteabokkofoomkaaGreatCao
import Derived.Test.YteabokkofoomkaaGreatCaw
import Derived.Test.YteabokkofoomkaaGreatCag
import Derived.Test.YteabokkofoomkaaGreatCar
import Derived.Test.YteabokkofoomkaaGreatCan
import Derived.Outline
import Derived.Deep.RegionHeld3
import Derived.Deep.DeepMust
import Derived.IntWalk
set_option maxRecDepth 100000
namespace Go.Proofs.YteabokkofoomkaaGreat
open Go.RowKit Go.Shelf Go.Deep
structure B3 (w W : World) (a : Int) (t0 : Bool) (A0 : Option Addr) (n0 c0 : Nat) (b : Int) (t1 : Bool) (A1 : Option Addr) (n1 c1 : Nat) (c : Int) (t2 : Bool) (A2 : Option Addr) (n2 c2 : Nat) : Prop where
 low : Below w.heap.size w W
 ba : Box W w.heap.size a t0 A0 n0 c0
 bb : Box W (w.heap.size + 1) b t1 A1 n1 c1
 bc : Box W (w.heap.size + 1 + 1) c t2 A2 n2 c2
section
variable {w W W' : World} {a : Int} {t0 : Bool} {A0 : Option Addr} {n0 c0 : Nat} {b : Int} {t1 : Bool} {A1 : Option Addr} {n1 c1 : Nat} {c : Int} {t2 : Bool} {A2 : Option Addr} {n2 c2 : Nat}
theorem B3.next (h : B3 w W a t0 A0 n0 c0 b t1 A1 n1 c1 c t2 A2 n2 c2) (hb : Below W.heap.size W W') : B3 w W' a t0 A0 n0 c0 b t1 A1 n1 c1 c t2 A2 n2 c2 :=
 ⟨h.low.trans (hb.mono h.low.size), h.ba.next hb, h.bb.next hb, h.bc.next hb⟩
theorem B3.start (h0 : Is w a t0 A0 n0 c0) (h1 : Is w b t1 A1 n1 c1) (h2 : Is w c t2 A2 n2 c2) :
 B3 w (((w.alloc (.cells #[.bool t0, .slice A0 n0 c0] 58)).alloc (.cells #[.bool t1, .slice A1 n1 c1] 58)).alloc (.cells #[.bool t2, .slice A2 n2 c2] 58)) a t0 A0 n0 c0 b t1 A1 n1 c1 c t2 A2 n2 c2 := by
 have k0 := bel_alloc w (.cells #[.bool t0, .slice A0 n0 c0] 58)
 have k1 := bel_alloc (w.alloc (.cells #[.bool t0, .slice A0 n0 c0] 58)) (.cells #[.bool t1, .slice A1 n1 c1] 58)
 have k2 := bel_alloc ((w.alloc (.cells #[.bool t0, .slice A0 n0 c0] 58)).alloc (.cells #[.bool t1, .slice A1 n1 c1] 58)) (.cells #[.bool t2, .slice A2 n2 c2] 58)
 have e1 := Box.new ((h1.below k0))
 have e2 := Box.new ((h2.below k0).below k1)
 rw [World.size_alloc] at e1 e2
 rw [World.size_alloc] at e2
 exact ⟨(k0.trans (k1.mono k0.size)).trans (k2.mono (Nat.le_trans k0.size k1.size)), ((Box.new h0).next k1).next k2, e1.next k2, e2⟩
end
theorem pow_never {a b c : Int} (ha : 2 ≤ a) (hb : 9223372036854775808 ≤ b) (hc : Sz c 4096) : ¬ a ^ b.toNat = c := by
 intro e
 have h := pow_long (z := a) (k := b.toNat) (by
  have h1 : 2 ≤ a.natAbs := by omega
  rcases Nat.lt_or_ge 1 (blen a.natAbs) with h2 | h2
  · exact h2
  · have := blen_lt a.natAbs
    have h3 := Nat.pow_le_pow_right (n := 2) (by omega) h2
    omega) (by omega)
 rw [e] at h
 exact h hc.len
set_option maxHeartbeats 8000000 in
theorem isPower_c {w : World} {a : Int} {t0 : Bool} {A0 : Option Addr} {n0 c0 : Nat} {b : Int} {t1 : Bool} {A1 : Option Addr} {n1 c1 : Nat} {c : Int} {t2 : Bool} {A2 : Option Addr} {n2 c2 : Nat} (h0 : Iv w a t0 A0 n0 c0) (h1 : Iv w b t1 A1 n1 c1) (h2 : Iv w c t2 A2 n2 c2) :
 Calls Tryz.prog 79 #[.agg #[.bool t0, .slice A0 n0 c0], .agg #[.bool t1, .slice A1 n1 c1], .agg #[.bool t2, .slice A2 n2 c2]] w (IsB (decide (1 ≤ a ∧ 0 ≤ b ∧ a ^ b.toNat = c)) w) := by
 have E := Lib.hid (B3.start h0.is h1.is h2.is)
 have HS := Lib.hid (And.intro h0.sz (And.intro h1.sz h2.sz))
 clear h0 h1 h2
 go_enter Tryz.func79, Tryz.ntmps79
 go_upto_region 1 with (fail)
 generalize ((w.alloc (.cells #[.bool t0, .slice A0 n0 c0] 58)).alloc (.cells #[.bool t1, .slice A1 n1 c1] 58)).alloc (.cells #[.bool t2, .slice A2 n2 c2] 58) = W0 at E ⊢
 go_wp2_with fail
 refine (OfV 1 _ (by omega) (by omega)).mono ?_
 rintro e w1 ⟨t3, A3, n3, c3, rfl, hi, hb⟩
 replace E := Lib.hid (E.out.next hb)
 have k1 := bel_alloc w1 (.cells #[.bool t3, .slice A3 n3 c3] 58)
 have BO := Lib.hid (Box.new hi.is)
 have HO := Lib.hid hi.sz
 replace E := Lib.hid (E.out.next k1)
 clear hi hb k1
 go_upto_region 2 with (fail)
 generalize w1.alloc (.cells #[.bool t3, .slice A3 n3 c3] 58) = W1 at E BO ⊢
 generalize w1.heap.size = go_ at BO ⊢
 have x0 := E.out.ba.c0
 have x1 := E.out.ba.c1
 have o0 := BO.out.c0
 have o1 := BO.out.c1
 go_wp2_with fail
 refine (Less_c ⟨E.out.ba.is, HS.out.1⟩ ⟨BO.out.is, HO.out⟩).mono ?_
 rintro e w2 ⟨rfl, hb⟩
 replace E := Lib.hid (E.out.next hb)
 replace BO := Lib.hid (BO.out.next hb)
 clear hb x0 x1 o0 o1
 obtain ⟨v, hv⟩ : ∃ v, v = decide (a < 1) := ⟨_, rfl⟩
 rw [← hv]
 have HV := Lib.hid hv
 clear hv
 cases v with
 | true =>
   have HF := Lib.hid (show decide (1 ≤ a ∧ 0 ≤ b ∧ a ^ b.toNat = c) = false from decide_eq_false fun q => by
    have := of_decide_eq_true HV.out.symm
    omega)
   go_wp2
   go_ret
   exact ⟨by rw [HF.out] <;> rfl, E.out.low⟩
 | false =>
 have HA1 := Lib.hid (show 1 ≤ a by have := of_decide_eq_false HV.out.symm; omega)
 clear HV
 have HT1 := Lib.hid E.out.bb.is.1
 have y0 := E.out.bb.c0
 cases t1 with
 | true =>
   have HF := Lib.hid (show decide (1 ≤ a ∧ 0 ≤ b ∧ a ^ b.toNat = c) = false from decide_eq_false fun q => by
    have := of_decide_eq_true HT1.out.symm
    omega)
   go_wp2
   go_ret
   exact ⟨by rw [HF.out] <;> rfl, E.out.low⟩
 | false =>
 have HB0 := Lib.hid (show 0 ≤ b by have := of_decide_eq_false HT1.out.symm; omega)
 clear HT1
 have x0 := E.out.ba.c0
 have x1 := E.out.ba.c1
 have o0 := BO.out.c0
 have o1 := BO.out.c1
 go_wp2_with fail
 refine (Equal_c ⟨E.out.ba.is, HS.out.1⟩ ⟨BO.out.is, HO.out⟩).mono ?_
 rintro e w3 ⟨rfl, hb⟩
 replace E := Lib.hid (E.out.next hb)
 replace BO := Lib.hid (BO.out.next hb)
 clear hb x0 x1 o0 o1 y0
 obtain ⟨v, hv⟩ : ∃ v, v = decide (a = 1) := ⟨_, rfl⟩
 rw [← hv]
 have HV := Lib.hid hv
 clear hv
 cases v with
 | true =>
   have x0 := E.out.bc.c0
   have x1 := E.out.bc.c1
   have o0 := BO.out.c0
   have o1 := BO.out.c1
   go_wp2_with fail
   refine (Equal_c ⟨E.out.bc.is, HS.out.2.2⟩ ⟨BO.out.is, HO.out⟩).mono ?_
   rintro e w4 ⟨rfl, hb⟩
   replace E := Lib.hid (E.out.next hb)
   clear hb x0 x1 o0 o1
   have HF := Lib.hid (show decide (1 ≤ a ∧ 0 ≤ b ∧ a ^ b.toNat = c) = decide (c = 1) by
    have h1 := of_decide_eq_true HV.out.symm
    have h2 := HB0.out
    rw [h1, Int.one_pow]
    by_cases h : c = 1
    · rw [decide_eq_true h, decide_eq_true ⟨by omega, h2, h.symm⟩]
    · rw [decide_eq_false h, decide_eq_false (fun q => h q.2.2.symm)])
   go_wp2
   go_ret
   exact ⟨by rw [HF.out] <;> rfl, E.out.low⟩
 | false =>
 have HA2 := Lib.hid (show 2 ≤ a by have h1 := of_decide_eq_false HV.out.symm; have h2 := HA1.out; omega)
 clear HV
 have x0 := E.out.bb.c0
 have x1 := E.out.bb.c1
 obtain ⟨V, hV⟩ : ∃ V, V = b.natAbs := ⟨_, rfl⟩
 have hraw := E.out.bb.is.raw HS.out.2.1 (Nat.le_refl _)
 rw [← hV] at hraw
 have HRAW := Lib.hid hraw
 have HVB := Lib.hid hV
 clear hraw hV
 go_wp2_with fail
 refine (Small_c false A1 n1 c1 V _ HRAW.out.1 HRAW.out.2.1).mono ?_
 rintro e w4 ⟨rfl, hb⟩
 replace E := Lib.hid (E.out.next hb)
 clear hb x0 x1 HRAW
 obtain ⟨u, hu⟩ : ∃ u, u = smallB false V := ⟨_, rfl⟩
 rw [← hu]
 have HU := Lib.hid hu
 clear hu
 cases u with
 | false =>
   have HF := Lib.hid (show decide (1 ≤ a ∧ 0 ≤ b ∧ a ^ b.toNat = c) = false from decide_eq_false fun q => by
    have h1 := HU.out.symm
    simp only [smallB, Bool.false_eq_true, if_false, decide_eq_false_iff_not] at h1
    have h2 := HVB.out
    exact pow_never HA2.out (by omega) HS.out.2.2 q.2.2)
   simp only [Bool.false_eq_true, if_false]
   go_wp2
   go_ret
   exact ⟨by rw [HF.out] <;> rfl, E.out.low⟩
 | true =>
 have HK := Lib.hid (show V < 9223372036854775808 by
  have h1 := HU.out.symm
  simp only [smallB, Bool.false_eq_true, if_false, decide_eq_true_eq] at h1
  exact h1)
 have HBV := Lib.hid (show b.toNat = V by have := HVB.out; have := HB0.out; omega)
 rw [if_pos rfl, show sgn false V = (V : Int) from rfl]
 have x0 := E.out.ba.c0
 have x1 := E.out.ba.c1
 go_wp2_with fail
 refine (Power_is E.out.ba.is (E.out.ba.is.len HS.out.1) V HK.out).mono ?_
 rintro e w5 ⟨t5, A5, m5, d5, k5, rfl, hn, hb⟩
 replace E := Lib.hid (E.out.next hb)
 clear hb x0 x1
 by_cases hz : (words (a ^ V).natAbs).length ≤ 4096
 · obtain ⟨rfl, hi⟩ := hn.is_ hz
   have BP := Lib.hid (Box.new hi)
   replace E := Lib.hid (E.out.next (bel_alloc w5 (.cells #[.bool t5, .slice A5 m5 d5] 58)))
   have HZ := Lib.hid (show Sz (a ^ V) 4096 from sz_of_len hz)
   clear hn hi hz
   go_upto_region 10 with (fail)
   generalize w5.alloc (.cells #[.bool t5, .slice A5 m5 d5] 58) = W6 at E BP ⊢
   generalize w5.heap.size = gp at BP ⊢
   have x0 := E.out.bc.c0
   have x1 := E.out.bc.c1
   have o0 := BP.out.c0
   have o1 := BP.out.c1
   go_wp2_with fail
   refine (Equal_c ⟨BP.out.is, HZ.out⟩ ⟨E.out.bc.is, HS.out.2.2⟩).mono ?_
   rintro e w6 ⟨rfl, hb⟩
   replace E := Lib.hid (E.out.next hb)
   clear hb x0 x1 o0 o1
   have HF := Lib.hid (show decide (1 ≤ a ∧ 0 ≤ b ∧ a ^ b.toNat = c) = decide (a ^ V = c) by
    rw [HBV.out]
    by_cases h : a ^ V = c
    · rw [decide_eq_true h, decide_eq_true ⟨HA1.out, HB0.out, h⟩]
    · rw [decide_eq_false h, decide_eq_false (fun q => h q.2.2)])
   generalize decide (a ^ V = c) = v at HF ⊢
   go_wp2
   go_ret
   exact ⟨by rw [HF.out] <;> rfl, E.out.low⟩
 · obtain ⟨rfl, rfl, rfl, rfl, rfl⟩ := hn.2 hz
   have HF := Lib.hid (show decide (1 ≤ a ∧ 0 ≤ b ∧ a ^ b.toNat = c) = false from decide_eq_false fun q => by
    have h1 := q.2.2
    rw [HBV.out] at h1
    rw [h1] at hz
    exact hz HS.out.2.2.len)
   clear hn hz
   replace E := Lib.hid (E.out.next (bel_alloc w5 (.cells #[.bool false, .slice none 0 0] 58)))
   go_upto_region 10 with (fail)
   generalize w5.alloc (.cells #[.bool false, .slice none 0 0] 58) = W6 at E ⊢
   go_wp2
   go_ret
   exact ⟨by rw [HF.out] <;> rfl, E.out.low⟩
def fewB (z : Int) : Bool := decide (0 ≤ z ∧ z ≤ 163840)
def FewP (w : World) (z : Int) (e : Ending) (w' : World) : Prop :=
 ∃ m : Int, e = .returned (.tuple #[.int .i64 m, .bool (fewB z)]) ∧ (fewB z = true → m = z) ∧ Below w.heap.size w w'
theorem FewP.mk' {w w' : World} {z m : Int} {b : Bool} (h : fewB z = b) (hm : b = true → m = z) (hb : Below w.heap.size w w') : FewP w z (.returned (.tuple #[.int .i64 m, .bool b])) w' := by
 subst h
 exact ⟨m, rfl, hm, hb⟩
set_option maxHeartbeats 1000000 in
theorem refFew_c {w : World} {z : Int} {t : Bool} {A : Option Addr} {n c : Nat} (h : Is w z t A n c) (hn : n ≤ 9223372036854775800) :
 Calls Tryz.prog 86 #[.agg #[.bool t, .slice A n c]] w (FewP w z) := by
 have HT := Lib.hid h.1
 have HS := Lib.hid (show sgn t z.natAbs = z by
  have := h.1
  by_cases q : z < 0
  · rw [decide_eq_true q] at this; rw [this]; simp only [sgn, if_true]; omega
  · rw [decide_eq_false q] at this; rw [this]; simp only [sgn, Bool.false_eq_true, if_false]; omega)
 have B := Lib.hid (Box.new h)
 have P := Lib.hid (bel_alloc w (.cells #[.bool t, .slice A n c] 58))
 have HN := Lib.hid hn
 clear h hn
 go_enter Tryz.func86, Tryz.ntmps86
 go_upto_region 1 with (fail)
 generalize w.alloc (.cells #[.bool t, .slice A n c] 58) = W0 at B P ⊢
 generalize w.heap.size = g at B ⊢
 have x0 := B.out.c0
 have x1 := B.out.c1
 go_wp2_with fail
 refine (refSmall_g t A n c z.natAbs _ B.out.is.2.2.1 (fun ht hz => by
  have h1 := HT.out
  rw [ht] at h1
  have h2 := of_decide_eq_true h1.symm
  omega) HN.out).mono ?_
 rintro e w1 ⟨m, rfl, hm, hb⟩
 have P1 := Lib.hid (P.out.trans (hb.mono P.out.size))
 obtain ⟨v, hv⟩ : ∃ v, v = smallB t z.natAbs := ⟨_, rfl⟩
 rw [← hv] at hm ⊢
 have HV := Lib.hid hv
 have HM := Lib.hid hm
 clear hb hv hm P B x0 x1
 cases v with
 | false =>
   have HF := Lib.hid (show fewB z = false from decide_eq_false fun q => by
    have h1 := HV.out.symm
    have h2 : smallB t z.natAbs = true := smallB_iff.2 (by rw [HS.out]; omega)
    rw [h1] at h2
    cases h2)
   go_wp2
   refine bodyPost_ret (v := .tuple #[.int .i64 m, .bool false]) (by simp [results, Tryz.results86, go_sem]) rfl ?_
   exact FewP.mk' HF.out (fun q => by cases q) P1.out
 | true =>
 obtain rfl : m = z := by rw [HM.out rfl, HS.out]
 by_cases q1 : 0 ≤ m
 · have t1 : decide (0 ≤ m) = true := decide_eq_true q1
   by_cases q2 : m ≤ 163840
   · have t2 : decide (m ≤ 163840) = true := decide_eq_true q2
     have HF := Lib.hid (show fewB m = true from decide_eq_true ⟨q1, q2⟩)
     clear q1 q2
     go_wp2
     refine bodyPost_ret (v := .tuple #[.int .i64 m, .bool true]) (by simp [results, Tryz.results86, go_sem]) rfl ?_
     exact FewP.mk' HF.out (fun _ => rfl) P1.out
   · have t2 : decide (m ≤ 163840) = false := decide_eq_false q2
     have HF := Lib.hid (show fewB m = false from decide_eq_false fun q => q2 q.2)
     clear q1 q2
     go_wp2
     refine bodyPost_ret (v := .tuple #[.int .i64 m, .bool false]) (by simp [results, Tryz.results86, go_sem]) rfl ?_
     exact FewP.mk' HF.out (fun _ => rfl) P1.out
 · have t1 : decide (0 ≤ m) = false := decide_eq_false q1
   have HF := Lib.hid (show fewB m = false from decide_eq_false fun q => q1 q.1)
   clear q1
   go_wp2
   refine bodyPost_ret (v := .tuple #[.int .i64 m, .bool false]) (by simp [results, Tryz.results86, go_sem]) rfl ?_
   exact FewP.mk' HF.out (fun _ => rfl) P1.out
end Go.Proofs.YteabokkofoomkaaGreat
namespace Go.Proofs.YteabokkofoomkaaGreat
open Go.RowKit
set_option maxHeartbeats 400000 in
set_option maxRecDepth 100000 in
theorem refBits_c (s : Bool) (A : Option Addr) (n c : Nat) (xs : List Nat) (w : World) (h : Rd w A n xs) (hx : canon xs) (hn : n ≤ 17592186044416) :
 Calls Tryz.prog 89 #[.agg #[.bool s, .slice A n c]] w fun e w' => e = .returned (.int .i64 (blen (val xs))) ∧ Below w.heap.size w w' := by
 rcases Nat.eq_zero_or_pos n with h0 | h0
 · subst h0
   have hx0 : xs = [] := List.eq_nil_of_length_eq_zero h.len
   have H := Lib.hid (show blen (val xs) = 0 by rw [hx0]; rfl)
   clear hx0
   go_enter Tryz.func89, Tryz.ntmps89
   go_wp2
   go_ret
   exact ⟨by rw [H.out]; rfl, below_alloc _ _⟩
 · have hl := h.len
   have hb := blen_words hx (by omega)
   obtain ⟨b, o, rfl, hlt, hcell⟩ := h.of h0
   obtain ⟨j, rfl⟩ : ∃ j, n = j + 1 := ⟨n - 1, by omega⟩
   rw [hl, Nat.add_sub_cancel] at hb
   have hc := hcell j (by omega)
   have hx1 := small_get hx.1 j
   obtain ⟨x, hx2⟩ : ∃ x, x = xs.getD j 0 := ⟨_, rfl⟩
   rw [← hx2] at hc hx1 hb
   have hc2 : ∀ o1, (w.alloc o1).cell? ⟨b, o + j, none⟩ = some (.int .u32 (x : Int)) := fun o1 => (World.cell?_alloc_lt w o1 ⟨b, o + j, none⟩ hlt).trans hc
   have HB := Lib.hid hb
   have hle := blen_le.2 (show x < 2 ^ 32 by omega)
   have t : ((j : Int) + 1 == 0) = false := by rw [beq_eq_false_iff_ne]; omega
   clear hb hcell hl hx2 h hx hc
   go_enter Tryz.func89, Tryz.ntmps89
   go_wp2
   go_loop [4, 5] (fun k v => ∃ (i y : Nat), k = .int .i64 i ∧ v = .int .u32 y ∧ i + blen y = blen x ∧ y ≤ x) (fun _ v => (intOf v).toNat)
   case atStart => exact ⟨0, x, rfl, rfl, by omega, Nat.le_refl _⟩
   case round =>
    obtain ⟨i, y, rfl, rfl, he, hy⟩ := hrel
    by_cases hy0 : 0 < y
    · have hbh := Lib.hid (blen_half' hy0)
      have HE := Lib.hid he
      have hi : i ≤ 32 := by omega
      clear he
      go_wp2
      go_round
      case measure => simp [intOf]; omega
      case rel => exact ⟨i + 1, y / 2, by go_num, by go_num, by have := HE.out; have := hbh.out; omega, by omega⟩
    · obtain rfl : y = 0 := by omega
      have HE := Lib.hid (show i = blen x by rw [← he]; rfl)
      have hi : i ≤ 32 := by have := HE.out; omega
      clear he
      go_wp2
      go_ret
      exact ⟨ret_int (by rw [HB.out, ← HE.out]; omega), below_alloc _ _⟩
theorem u32_and (x y : Nat) (hx : x < 4294967296) (hy : y < 4294967296) : bits BinOp.and IntKind.u32 (x : Int) (y : Int) = ((x &&& y : Nat) : Int) := by
 show IntKind.u32.wrap ((BitVec.ofInt 32 (x : Int) &&& BitVec.ofInt 32 (y : Int)).toNat : Int) = _
 rw [BitVec.toNat_and, BitVec.toNat_ofInt, BitVec.toNat_ofInt]
 rw [show (((x : Int) % ((2 ^ 32 : Nat) : Int)).toNat) = x by omega, show (((y : Int) % ((2 ^ 32 : Nat) : Int)).toNat) = y by omega]
 have h : x &&& y ≤ x := Nat.and_le_left
 show ((x &&& y : Nat) : Int) % 4294967296 = _
 omega
set_option maxHeartbeats 1000000 in
set_option maxRecDepth 100000 in
theorem refUnder_c (s s' : Bool) (A A' : Option Addr) (n c n' c' : Nat) (xs ys : List Nat) (w : World) (h : Rd w A n xs) (h' : Rd w A' n' ys) (hn : n ≤ 17592186044416) (hn' : n' ≤ 17592186044416) :
 Calls Tryz.prog 46 #[.agg #[.bool s, .slice A n c], .agg #[.bool s', .slice A' n' c']] w fun e w' => e = .returned (.bool (decide (val xs &&& val ys = val xs))) ∧ Below w.heap.size w w' := by
 have HX := Lib.hid h.len
 have HY := Lib.hid h'.len
 have hsx := h.sm
 have hsy := h'.sm
 have HU := Lib.hid (under_iff hsx hsy)
 go_enter Tryz.func46, Tryz.ntmps46
 go_wp2
 have E := Lib.hid (Env2.start w s s' A A' n c n' c')
 generalize (w.alloc (.cells #[.bool s, .slice A n c] 58)).alloc (.cells #[.bool s', .slice A' n' c'] 58) = W at E ⊢
 have CA := Lib.hid (h.below E.out.below).at_
 have CB := Lib.hid (h'.below E.out.below).at_
 have a0 := E.out.a0
 have a1 := E.out.a1
 have b0 := E.out.b0
 have b1 := E.out.b1
 clear h h'
 go_loopw [5, 6] (fun v _ wr => ∃ i q : Nat, v = .int .i64 i ∧ i ≤ n ∧ wr = W.drewN q ∧ ∀ j, j < i → xs.getD j 0 &&& ys.getD j 0 = xs.getD j 0) (fun v _ _ => n - (intOf v).toNat)
 case atStart => exact ⟨0, 0, rfl, Nat.zero_le _, rfl, fun j hj => by omega⟩
 case round =>
  obtain ⟨i, q, rfl, hi, rfl, hall⟩ := hrel
  have HA := Lib.hid hall
  clear hall
  by_cases hin : i < n
  · obtain ⟨b, o, rfl, _, hca⟩ := CA.out (by omega)
    have hci := hca i hin
    have hx1 := small_get hsx i
    obtain ⟨x, hx2⟩ : ∃ x, x = xs.getD i 0 := ⟨_, rfl⟩
    have HX2 := Lib.hid hx2
    rw [← hx2] at hci hx1
    clear hx2 hca hsx
    by_cases hin' : i < n'
    · obtain ⟨b', o', rfl, _, hcb⟩ := CB.out (by omega)
      have hdi := hcb i (by omega)
      have hy1 := small_get hsy i
      obtain ⟨y, hy2⟩ : ∃ y, y = ys.getD i 0 := ⟨_, rfl⟩
      have HY2 := Lib.hid hy2
      rw [← hy2] at hdi hy1
      have han := u32_and x y hx1 hy1
      obtain ⟨z, hz⟩ : ∃ z, z = x &&& y := ⟨_, rfl⟩
      have HZ := Lib.hid hz
      rw [← hz] at han
      clear hy2 hcb hsy hz
      by_cases hz0 : z = x
      · have t : ((z : Int) != (x : Int)) = false := by rw [hz0]; simp
        have HZ0 := Lib.hid hz0
        clear hz0
        go_wp2
        go_quiet (fail)
        go_wp2
        go_roundw
        case measure => simp [intOf]; omega
        case rel => exact ⟨i + 1, _, by go_num, by omega, by first | rfl | rw [World.drewN_drewN], fun j hj => by
         by_cases hji : j = i
         · subst hji; rw [← HX2.out, ← HY2.out, ← HZ.out]; exact HZ0.out
         · exact HA.out j (by omega)⟩
      · have t : ((z : Int) != (x : Int)) = true := by rw [bne_iff_ne]; omega
        have HF := Lib.hid (show ¬ val xs &&& val ys = val xs from fun e => hz0 (by
         have := HU.out.2 e i (by rw [HX.out]; exact hin)
         rw [HZ.out, HX2.out, HY2.out]; exact this))
        clear hz0
        go_wp2
        go_quiet (fail)
        go_wp2
        go_ret
        exact ⟨by rw [decide_eq_false HF.out]; rfl, below_drewN (below_drewN E.out.below _) _⟩
    · have HY2 := Lib.hid (show ys.getD i 0 = 0 by rw [List.getD_eq_getElem?_getD, List.getElem?_eq_none (by rw [HY.out]; omega)]; rfl)
      have han := u32_and x 0 hx1 (by omega)
      rw [Nat.and_zero] at han
      have han2 : bits BinOp.and IntKind.u32 (x : Int) 0 = 0 := han
      clear han hsy
      by_cases hz0 : x = 0
      · subst hz0
        have HZ0 := Lib.hid HX2.out
        go_wp2
        go_quiet (fail)
        go_wp2
        go_roundw
        case measure => simp [intOf]; omega
        case rel => exact ⟨i + 1, _, by go_num, by omega, by first | rfl | rw [World.drewN_drewN], fun j hj => by
         by_cases hji : j = i
         · subst hji; rw [← HX2.out, Nat.zero_and]
         · exact HA.out j (by omega)⟩
      · have t : ((0 : Int) != (x : Int)) = true := by rw [bne_iff_ne]; omega
        have HF := Lib.hid (show ¬ val xs &&& val ys = val xs from fun e => hz0 (by
         have := HU.out.2 e i (by rw [HX.out]; exact hin)
         rw [HY2.out, Nat.and_zero] at this
         rw [HX2.out]; exact this.symm))
        clear hz0
        go_wp2
        go_quiet (fail)
        go_wp2
        go_ret
        exact ⟨by rw [decide_eq_false HF.out]; rfl, below_drewN (below_drewN E.out.below _) _⟩
  · have HF := Lib.hid (HU.out.1 (fun j hj => HA.out j (by rw [HX.out] at hj; omega)))
    go_wp2
    go_ret
    exact ⟨by rw [decide_eq_true HF.out]; rfl, below_drewN E.out.below _⟩
end Go.Proofs.YteabokkofoomkaaGreat
set_option maxRecDepth 100000
namespace Go.Proofs.YteabokkofoomkaaGreat
open Go.RowKit Go.Deep
end Go.Proofs.YteabokkofoomkaaGreat
