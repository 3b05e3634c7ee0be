import Derived.Test.YteabokkofoomkaaGreatCam
import Derived.Test.YteabokkofoomkaaGreatCal
import Derived.Test.YteabokkofoomkaaGreatCak
import Derived.Laws.EntriesVeiled
namespace Go.Proofs.YteabokkofoomkaaGreat
open Go.RowKit
theorem len_i (x : Int) (w : World) (h0 : 0 ≤ x) (h1 : x ≤ 18446744073709551615) : Calls Tryz.prog 141 #[.int .u64 x] w fun e w' => e = .returned (.int .i64 (Lib.bitLen x.toNat)) ∧ w' = w := by
  have H := Lib.hid (len64_i x w h0 h1)
  go_enter Tryz.func141, Tryz.ntmps141
  go_wp2_with fail
  refine H.out.mono ?_
  rintro e w' ⟨rfl, rfl⟩
  go_wp2
  go_ret
  exact ⟨rfl, rfl⟩
/-- the power so far, in a box -/
structure PowAt (w W : World) (z : Int) (t : Bool) (A : Option Addr) (n c g q : Nat) (t' : Bool) (B : Option Addr) (m d : Nat) : Prop where
  env : Env1r w W t A n c
  hg : w.heap.size + 2 ≤ g
  box : Box W g (z ^ q) t' B m d
  f0 : W.frozen? ⟨g, 0, none⟩ = false
  f1 : W.frozen? ⟨g, 1, none⟩ = false
  sz : m ≤ 4096
theorem PowAt.next {w W w1 : World} {z : Int} {t : Bool} {A : Option Addr} {n c g q : Nat} {t' : Bool} {B : Option Addr} {m d : Nat} (h : PowAt w W z t A n c g q t' B m d) (hb : Below W.heap.size W w1) : PowAt w w1 z t A n c g q t' B m d :=
  ⟨h.env.next hb, h.hg, h.box.next hb, (hb.frozen (p := ⟨g, 0, none⟩) h.box.lt).trans h.f0, (hb.frozen (p := ⟨g, 1, none⟩) h.box.lt).trans h.f1, h.sz⟩
theorem frozen_two (W : World) (g : Nat) (u v : Value) (p : Addr) : ((W.setCell ⟨g, 0, none⟩ u).setCell ⟨g, 1, none⟩ v).frozen? p = W.frozen? p := by
  rw [World.frozen?_setCell, World.frozen?_setCell]
theorem size_two (W : World) (g : Nat) (u v : Value) : ((W.setCell ⟨g, 0, none⟩ u).setCell ⟨g, 1, none⟩ v).heap.size = W.heap.size := by simp [World.setCell]
theorem own_two {W : World} {g : Nat} {x y u v : Value} (h0 : W.cell? ⟨g, 0, none⟩ = some x) (h1 : W.cell? ⟨g, 1, none⟩ = some y) :
    ((W.setCell ⟨g, 0, none⟩ u).setCell ⟨g, 1, none⟩ v).cell? ⟨g, 0, none⟩ = some u ∧ ((W.setCell ⟨g, 0, none⟩ u).setCell ⟨g, 1, none⟩ v).cell? ⟨g, 1, none⟩ = some v := by
  have e : (W.setCell ⟨g, 0, none⟩ u).cell? ⟨g, 1, none⟩ = some y := by rw [World.cell?_setCell_other _ _ _ _ (by simp)]; exact h1
  exact ⟨by rw [World.cell?_setCell_other _ _ _ _ (by simp)]; exact World.cell?_setCell_same _ _ _ h0, World.cell?_setCell_same _ _ _ e⟩
theorem Res.two {W : World} {b g : Nat} (h : Res W b) (hne : g ≠ b) (u v : Value) : Res ((W.setCell ⟨g, 0, none⟩ u).setCell ⟨g, 1, none⟩ v) b :=
  ⟨by rw [size_two]; exact h.lt, cell_two hne h.r0, cell_two hne h.r1, by rw [frozen_two]; exact h.f0, by rw [frozen_two]; exact h.f1⟩
theorem Env1r.two {w W : World} {s : Bool} {A : Option Addr} {n c g : Nat} (h : Env1r w W s A n c) (hg : w.heap.size + 2 ≤ g) (u v : Value) : Env1r w ((W.setCell ⟨g, 0, none⟩ u).setCell ⟨g, 1, none⟩ v) s A n c :=
  ⟨by rw [size_two]; exact h.size, cell_two (by omega) h.a0, cell_two (by omega) h.a1, h.res.two (by omega) u v, below_store h.below (by omega) u v⟩
/-- a box is given another number -/
theorem Box.put {W : World} {b : Nat} {z z' : Int} {t t' : Bool} {A B : Option Addr} {n c m d : Nat} (h : Box W b z t A n c) (hi : Is W z' t' B m d) : Box ((W.setCell ⟨b, 0, none⟩ (.bool t')).setCell ⟨b, 1, none⟩ (.slice B m d)) b z' t' B m d :=
  ⟨by rw [size_two]; exact h.lt, (own_two h.c0 h.c1).1, (own_two h.c0 h.c1).2, hi.store h.c0 h.c1 _ _⟩
theorem PowAt.put {w W : World} {z : Int} {t : Bool} {A : Option Addr} {n c g q : Nat} {t' : Bool} {B : Option Addr} {m d : Nat} (h : PowAt w W z t A n c g q t' B m d) {q' : Nat} {t2 : Bool} {B2 : Option Addr} {m2 d2 : Nat}
    (hi : Is W (z ^ q') t2 B2 m2 d2) (hl : m2 ≤ 4096) : PowAt w ((W.setCell ⟨g, 0, none⟩ (.bool t2)).setCell ⟨g, 1, none⟩ (.slice B2 m2 d2)) z t A n c g q' t2 B2 m2 d2 :=
  ⟨h.env.two h.hg _ _, h.hg, h.box.put hi, by rw [frozen_two]; exact h.f0, by rw [frozen_two]; exact h.f1, hl⟩
theorem Is.numIs {w : World} {z : Int} {t : Bool} {A : Option Addr} {n c : Nat} (h : Is w z t A n c) (hn : n ≤ 4096) : NumIs w z t A n c 0 :=
  ⟨fun _ => ⟨rfl, h.1, h.2.1, h.2.2.1, h.2.2.2⟩, fun hl => absurd (by rw [← h.2.1]; exact hn) hl⟩
theorem sz_of_len {z : Int} (h : (words z.natAbs).length ≤ 4096) : Sz z 4096 := words_len_le.1 h
theorem pow_len {z : Int} {p k : Nat} (hz : z ≠ 0) (hp : p ≤ k) (h : ¬ (words (z ^ p).natAbs).length ≤ 4096) : ¬ (words (z ^ k).natAbs).length ≤ 4096 := by
  intro hl
  apply h
  refine Nat.le_trans (words_mono ?_) hl
  rw [Int.natAbs_pow, Int.natAbs_pow]
  exact Nat.pow_le_pow_right (by omega) hp
theorem and_one (x : Nat) (h : x < 9223372036854775808) : bits BinOp.and IntKind.i64 (x : Int) 1 = ((x % 2 : Nat) : Int) := by
  show IntKind.i64.wrap ((BitVec.ofInt 64 (x : Int) &&& BitVec.ofInt 64 1).toNat : Int) = _
  rw [BitVec.toNat_and, BitVec.toNat_ofInt, BitVec.toNat_ofInt]
  rw [show (((x : Int) % ((2 ^ 64 : Nat) : Int)).toNat) = x by omega, show ((1 : Int) % ((2 ^ 64 : Nat) : Int)).toNat = 1 by decide, Nat.and_one_is_mod]
  exact IntWalk.i64_in _ (by omega)
theorem bit_at {K : Int} {k i : Nat} (h : K = (k : Int)) (hk : k < 131072) : bits BinOp.and IntKind.i64 (K / 2 ^ i) 1 = ((k / 2 ^ i % 2 : Nat) : Int) := by
  have e : K / 2 ^ i = ((k / 2 ^ i : Nat) : Int) := by rw [h, Int.natCast_ediv, Int.natCast_pow]; rfl
  rw [e, and_one _ (Nat.lt_of_le_of_lt (Nat.div_le_self _ _) (by omega))]
set_option maxHeartbeats 1000000 in
set_option maxRecDepth 100000 in
theorem Power_loop {w : World} {z : Int} {t : Bool} {A : Option Addr} {n c : Nat} (h : Is w z t A n c) (hn : n ≤ 4096) (hz : 1 < blen z.natAbs) (k : Nat) (hk0 : 0 < k) (hk : k < 131072) :
    Calls Tryz.prog 119 #[.agg #[.bool t, .slice A n c], .int .i64 (k : Int)] w (Num w (z ^ k)) := by
  have S : Sz z 4096 := by show z.natAbs < pw 4096; exact words_len_le.1 (by rw [← h.2.1]; exact hn)
  obtain ⟨r, v, s, hc, hc2⟩ := h.raw S (Nat.le_refl _)
  have hbl2 := blen_sz S
  have HV := Lib.hid v
  have HI := Lib.hid h
  have HR := Lib.hid r
  have E := Lib.hid (Env1r.start w t A n c)
  clear v r h s
  obtain ⟨K, hK⟩ : ∃ K : Int, K = (k : Int) := ⟨_, rfl⟩
  have hK0 : 0 < K := by omega
  have hK1 : K < 131072 := by omega
  rw [← hK]
  have HKk := Lib.hid hK
  clear hK hk0
  have t0 : (K == 0) = false := by rw [beq_eq_false_iff_ne]; omega
  have HK := Lib.hid hk
  clear hk
  go_enter Tryz.func119, Tryz.ntmps119
  go_wp2_with fail
  generalize (w.alloc (.cells #[.bool t, .slice A n c] 58)).alloc (.cells #[.bool false, .slice none 0 0] 58) = W at E ⊢
  refine (valid_c t A n c _ W (HR.out.below E.out.below)).mono ?_
  rintro e w1 ⟨rfl, hb⟩
  rw [HV.out]
  replace E := Lib.hid (E.out.next hb)
  clear hb
  have a0 := E.out.a0
  have a1 := E.out.a1
  go_wp2_with fail
  refine (Bits_c (HI.out.below E.out.below) hn).mono ?_
  rintro e w2 ⟨rfl, hb⟩
  replace E := Lib.hid (E.out.next hb)
  clear hb
  replace a0 := E.out.a0
  replace a1 := E.out.a1
  obtain ⟨b, hb0⟩ : ∃ b, b = blen z.natAbs := ⟨_, rfl⟩
  rw [← hb0]
  rw [← hb0] at hz
  have HSz := Lib.hid S
  have hz0 : z ≠ 0 := by rintro rfl; simp [blen] at hb0; omega
  have HZ := Lib.hid hz0
  clear hb0 S hbl2 hz0
  go_wp2_with fail
  refine (of_nat 1 _ (by omega)).mono ?_
  rintro e w3 ⟨B, d, rfl, o1, o2, o3, o4⟩
  replace E := Lib.hid (E.out.next o4)
  replace a0 := E.out.a0
  replace a1 := E.out.a1
  clear o4
  go_wp2_with fail
  refine (len_i K _ (by omega) (by omega)).mono ?_
  rintro e w4 ⟨rfl, rfl⟩
  have hL : Lib.bitLen K.toNat = blen k := by rw [HKk.out, Int.toNat_natCast, bitLen_blen k (by have := HK.out; omega)]
  rw [hL]
  clear hL
  have hL1 : blen k ≤ 17 := blen_le.2 (Nat.lt_of_lt_of_le HK.out (by decide))
  have hL0 := blen_pos (v := k) (by have := HKk.out; omega)
  have hL2 := blen_lt k
  obtain ⟨L, hL⟩ : ∃ L, L = blen k := ⟨_, rfl⟩
  rw [← hL]
  rw [← hL] at hL0 hL1 hL2
  have HL2 := Lib.hid hL2
  clear hL hL2
  have P : PowAt w (w3.alloc (.cells #[.bool false, .slice B (words 1).length d] 58)) z t A n c w3.heap.size (k / 2 ^ L) false B (words 1).length d := by
    rw [Nat.div_eq_of_lt HL2.out]
    refine ⟨E.out.next (below_alloc _ _), E.out.size, ?_, by go_simp, by go_simp, by rw [words_one (by omega) (by omega)]; decide⟩
    rw [Int.pow_zero]
    exact Box.new (z := 1) ⟨rfl, rfl, o1, o2, o3⟩
  have HP := Lib.hid P
  obtain ⟨g, hg⟩ : ∃ g, g = w3.heap.size := ⟨_, rfl⟩
  rw [← hg]
  rw [← hg] at HP
  obtain ⟨m, hm⟩ : ∃ m, m = (words 1).length := ⟨_, rfl⟩
  rw [← hm] at HP ⊢
  clear P o1 o2 o3 hm a0 a1 E hg
  go_wp2_with fail
  generalize w3.alloc (.cells #[.bool false, .slice B m d] 58) = W at HP ⊢
  go_loopw [8] (fun i wr => ∃ j : Nat, j ≤ L ∧ i = .int .i64 ((j : Int) - 1) ∧ ∃ t' B m d, PowAt w wr z t A n c g (k / 2 ^ j) t' B m d) (fun i _ => (intOf i + 1).toNat)
  case atStart => exact ⟨L, Nat.le_refl _, rfl, _, _, _, _, HP.out⟩
  case round =>
    obtain ⟨j, hj, rfl, t', B', m', d', hP⟩ := hrel
    clear HP
    have HP := Lib.hid hP
    clear hP
    rcases Nat.eq_zero_or_pos j with hj0 | hj0
    · subst hj0
      have hg2 := HP.out.hg
      have g1 : ¬ g = w.heap.size := by omega
      have g2 : ¬ w.heap.size = g := by omega
      have g3 : ¬ g = w.heap.size + 1 := by omega
      have g4 : ¬ w.heap.size + 1 = g := by omega
      clear hg2
      have c0 := HP.out.box.c0
      have c1 := HP.out.box.c1
      have r0 := HP.out.env.res.r0
      have r1 := HP.out.env.res.r1
      have q0 := HP.out.env.res.f0
      have q1 := HP.out.env.res.f1
      have hi := HP.out.box.is
      rw [Nat.pow_zero, Nat.div_one] at hi
      have HNI := Lib.hid (Is.numIs hi HP.out.sz)
      have HB := Lib.hid (HP.out.env.below)
      clear hi HP g1 g2 g3 g4
      go_wp2
      refine bodyPost_ret (v := .tuple #[.agg #[.bool t', .slice B' m' d'], .int .i64 0]) (by simp [results, Tryz.results119, go_sem, r0, r1]) rfl ?_
      exact ⟨t', B', m', d', 0, rfl, HNI.out.store r0 r1 _ _, below_store HB.out (by omega) _ _⟩
    · obtain ⟨i, rfl⟩ : ∃ i, j = i + 1 := ⟨j - 1, by omega⟩
      have c0 := HP.out.box.c0
      have c1 := HP.out.box.c1
      have S1 := Lib.hid (sz_of_len (by rw [← HP.out.box.is.2.1]; exact HP.out.sz) : Sz (z ^ (k / 2 ^ (i + 1))) 4096)
      go_wp2_with fail
      refine (Mul_is HP.out.box.is HP.out.box.is S1.out S1.out (Nat.le_refl _)).mono ?_
      rintro e w5 ⟨t2, B2, m2, d2, k2, rfl, hn2, hb⟩
      replace HP := Lib.hid (HP.out.next hb)
      have HN := Lib.hid hn2
      clear hn2 hb
      replace c0 := HP.out.box.c0
      replace c1 := HP.out.box.c1
      have f0 := HP.out.f0
      have f1 := HP.out.f1
      have a0 := HP.out.env.a0
      have a1 := HP.out.env.a1
      have hg2 := HP.out.hg
      have g1 : ¬ g = w.heap.size := by omega
      have g2 : ¬ w.heap.size = g := by omega
      have g3 : ¬ g = w.heap.size + 1 := by omega
      have g4 : ¬ w.heap.size + 1 = g := by omega
      clear hg2
      by_cases hl : (words (z ^ (k / 2 ^ (i + 1)) * z ^ (k / 2 ^ (i + 1))).natAbs).length ≤ 4096
      · obtain ⟨rfl, hi2⟩ := HN.out.is_ hl
        have HI2 := Lib.hid hi2
        have HL := Lib.hid hl
        clear hi2 hl HN
        by_cases hb : k / 2 ^ i % 2 = 0
        · have tb : (bits BinOp.and IntKind.i64 (K / 2 ^ i) 1 == 0) = true := by rw [bit_at HKk.out HK.out, hb]; rfl
          have hq : z ^ (k / 2 ^ (i + 1)) * z ^ (k / 2 ^ (i + 1)) = z ^ (k / 2 ^ i) := by
            rw [← Int.pow_add]; congr 1; rw [Nat.pow_succ, ← Nat.div_div_eq_div_mul]; omega
          rw [hq] at HI2 HL
          have HP2 := Lib.hid (HP.out.put HI2.out (by rw [HI2.out.2.1]; exact HL.out))
          clear hq hb HP a0 a1 g1 g2 g3 g4 hn hc hc2
          go_wp2
          go_roundw
          case measure => simp [intOf]
          case rel => exact ⟨i, by omega, by simp, _, _, _, _, HP2.out⟩
        · have tb : (bits BinOp.and IntKind.i64 (K / 2 ^ i) 1 == 0) = false := by rw [bit_at HKk.out HK.out, show k / 2 ^ i % 2 = 1 by omega]; rfl
          have HQ := Lib.hid (show z ^ (k / 2 ^ (i + 1)) * z ^ (k / 2 ^ (i + 1)) = z ^ (k / 2 ^ (i + 1) + k / 2 ^ (i + 1)) by rw [Int.pow_add])
          have HQ2 := Lib.hid (show z ^ (k / 2 ^ (i + 1) + k / 2 ^ (i + 1)) * z = z ^ (k / 2 ^ i) by
            rw [← Int.pow_succ]; congr 1; rw [Nat.pow_succ, ← Nat.div_div_eq_div_mul]; omega)
          rw [HQ.out] at HI2 HL
          have HP2 := Lib.hid (HP.out.put HI2.out (by rw [HI2.out.2.1]; exact HL.out))
          have S2 := Lib.hid (sz_of_len HL.out)
          clear hb HP HQ hn hc hc2
          go_wp2_with fail
          generalize (w5.setCell ⟨g, 0, none⟩ (.bool t2)).setCell ⟨g, 1, none⟩ (.slice B2 m2 d2) = W6 at HP2 ⊢
          refine (Mul_is HP2.out.box.is (HI.out.below HP2.out.env.below) S2.out HSz.out (Nat.le_refl _)).mono ?_
          rintro e w7 ⟨t3, B3, m3, d3, k3, rfl, hn3, hb⟩
          rw [HQ2.out] at hn3
          replace HP2 := Lib.hid (HP2.out.next hb)
          clear hb HI2 a0 a1 f0 f1 c0 c1
          have c0 := HP2.out.box.c0
          have c1 := HP2.out.box.c1
          have f0 := HP2.out.f0
          have f1 := HP2.out.f1
          by_cases hl : (words (z ^ (k / 2 ^ i)).natAbs).length ≤ 4096
          · obtain ⟨rfl, hi3⟩ := hn3.is_ hl
            have HP3 := Lib.hid (HP2.out.put hi3 (by rw [hi3.2.1]; exact hl))
            clear hi3 hl hn3 HP2
            go_wp2
            go_roundw
            case measure => simp [intOf]
            case rel => exact ⟨i, by omega, by simp, _, _, _, _, HP3.out⟩
          · obtain ⟨rfl, rfl, rfl, rfl, rfl⟩ := hn3.2 hl
            have HL3 := Lib.hid (pow_len HZ.out (Nat.div_le_self k (2 ^ i)) hl)
            clear hl hn3
            have r0 := HP2.out.env.res.r0
            have r1 := HP2.out.env.res.r1
            have q0 := HP2.out.env.res.f0
            have q1 := HP2.out.env.res.f1
            have B7 := Lib.hid (below_store (below_store HP2.out.env.below (by have := HP2.out.hg; omega : w.heap.size ≤ g) (.bool false) (.slice none 0 0)) (by omega : w.heap.size ≤ w.heap.size + 1) (.bool false) (.slice none 0 0))
            go_wp2
            refine bodyPost_ret (v := .tuple #[.agg #[.bool false, .slice none 0 0], .int .i64 4]) (by simp [results, Tryz.results119, go_sem, r0, r1]) rfl ?_
            exact Bad.num ⟨rfl, B7.out⟩ HL3.out
      · obtain ⟨rfl, rfl, rfl, rfl, rfl⟩ := HN.out.2 hl
        have HL := Lib.hid hl
        clear hl HN
        have r0 := HP.out.env.res.r0
        have r1 := HP.out.env.res.r1
        have q0 := HP.out.env.res.f0
        have q1 := HP.out.env.res.f1
        have HL3 := Lib.hid (pow_len HZ.out (show k / 2 ^ (i + 1) + k / 2 ^ (i + 1) ≤ k by rw [Nat.pow_succ, ← Nat.div_div_eq_div_mul]; have := Nat.div_le_self k (2 ^ i); omega) (by rw [Int.pow_add]; exact HL.out))
        have B7 := Lib.hid (below_store (below_store HP.out.env.below (by have := HP.out.hg; omega : w.heap.size ≤ g) (.bool false) (.slice none 0 0)) (by omega : w.heap.size ≤ w.heap.size + 1) (.bool false) (.slice none 0 0))
        go_wp2
        refine bodyPost_ret (v := .tuple #[.agg #[.bool false, .slice none 0 0], .int .i64 4]) (by simp [results, Tryz.results119, go_sem, r0, r1]) rfl ?_
        exact Bad.num ⟨rfl, B7.out⟩ HL3.out
end Go.Proofs.YteabokkofoomkaaGreat
set_option maxRecDepth 100000
namespace Go.Proofs.YteabokkofoomkaaGreat
open Go.RowKit Go.Shelf
theorem cell_dr {W : World} {p : Addr} {v : Value} (h : W.cell? p = some v) : W.drew.cell? p = some v := h
/-- a small number, new -/
def NumV (w : World) (z : Int) (e : Ending) (w' : World) : Prop := ∃ t A n c, e = .returned (.agg #[.bool t, .slice A n c]) ∧ Iv w' z t A n c ∧ Below w.heap.size w w'
theorem OfV (z : Int) (w : World) (h1 : -9223372036854775808 ≤ z) (h2 : z < 9223372036854775808) : Calls Tryz.prog 97 #[.int .i64 z] w (NumV w z) :=
  (Of_c z w h1 h2).mono fun e w' h => by
    obtain ⟨A, c, he, r1, r2, r3, r4⟩ := h
    refine ⟨_, A, _, c, he, ⟨⟨rfl, rfl, r1, r2, r3⟩, ?_⟩, r4⟩
    show z.natAbs < pw 4096
    have : pw 2 ≤ pw 4096 := pw_le (by omega)
    rw [show pw 2 = 18446744073709551616 by unfold pw; decide] at this
    omega
section
variable {w w' W W' : World} {T b f : Nat} {caps : Array Value} {g : Int → Int} {Ev : World → Prop} {k k' zt zx zy za z : Int} {ta : Bool} {Aa : Option Addr} {na ca : Nat} {tt : Bool} {At : Option Addr} {nt ct : Nat} {t : Bool} {A : Option Addr} {n c : Nat} {t' : Bool} {A' : Option Addr} {n' c' : Nat} {e : Ending}
theorem Vb.new1 (w W : World) (o : Obj) (t : Bool) (A : Option Addr) (n c : Nat) (h : w.heap.size ≤ W.heap.size) : Vb w ((W.alloc o).alloc (.cells #[.bool t, .slice A n c] 58)) (W.heap.size + 1) t A n c := by
  have := Vb.new w (W.alloc o) t A n c (by simp; omega)
  rwa [World.size_alloc] at this
/-- the variables of at: two results, the two numbers -/
structure AtV (T b f : Nat) (caps : Array Value) (g : Int → Int) (Ev : World → Prop) (zt za : Int) (ta : Bool) (Aa : Option Addr) (na ca : Nat) (tt : Bool) (At : Option Addr) (nt ct : Nat) (k : Int) (w W : World) (p q : Nat) (k' zl zh : Int) (tl : Bool) (Al : Option Addr) (nl cl : Nat) (th : Bool) (Ah : Option Addr) (nh ch : Nat) : Prop where
  ne : p ≠ q
  stp : Stp b w W
  ms : Ms T b f caps g Ev zt za ta Aa na ca tt At nt ct W k'
  r4 : Vb w W w.heap.size false none 0 0
  r5 : Vb w W (w.heap.size + 1) false none 0 0
  gp : w.heap.size + 2 ≤ p
  gq : w.heap.size + 2 ≤ q
  vp : Vb w W p tl Al nl cl
  vq : Vb w W q th Ah nh ch
  z0 : k' = 0 → k = 0
  vl : Vn W k' zl tl Al nl cl
  vh : Vn W k' zh th Ah nh ch
/-- behind a call that made memory -/
theorem AtV.next {p q : Nat} {zl zh : Int} {tl : Bool} {Al : Option Addr} {nl cl : Nat} {th : Bool} {Ah : Option Addr} {nh ch : Nat} {k1 k2 : Int} (h : AtV T b f caps g Ev zt za ta Aa na ca tt At nt ct k w W p q k1 zl zh tl Al nl cl th Ah nh ch) (hb : b < w.heap.size) (hs : Stp b W W') (hm : Ms T b f caps g Ev zt za ta Aa na ca tt At nt ct W' k2) (hz : k2 = 0 → k1 = 0) :
    AtV T b f caps g Ev zt za ta Aa na ca tt At nt ct k w W' p q k2 zl zh tl Al nl cl th Ah nh ch :=
  ⟨h.ne, h.stp.trans hs, hm, h.r4.next hs hb, h.r5.next hs hb, h.gp, h.gq, h.vp.next hs hb, h.vq.next hs hb, fun e => h.z0 (hz e), h.vl.next h.ms.cc hs hz, h.vh.next h.ms.cc hs hz⟩
section
variable {p q : Nat} {zl zh : Int} {tl : Bool} {Al : Option Addr} {nl cl : Nat} {th : Bool} {Ah : Option Addr} {nh ch : Nat}
theorem Vn.two {W : World} {k z : Int} {t : Bool} {A : Option Addr} {n c : Nat} (h : Vn W k z t A n c) {g : Nat} {x : Bool} {a : Option Addr} {i j : Nat} (h0 : W.cell? ⟨g, 0, none⟩ = some (.bool x)) (h1 : W.cell? ⟨g, 1, none⟩ = some (.slice a i j)) (u v : Value) :
    Vn ((W.setCell ⟨g, 0, none⟩ u).setCell ⟨g, 1, none⟩ v) k z t A n c := fun e => (h e).two h0 h1 u v
/-- all that is known in front of the two stores -/
structure AtW (T b f : Nat) (caps : Array Value) (g : Int → Int) (Ev : World → Prop) (zt za : Int) (ta : Bool) (Aa : Option Addr) (na ca : Nat) (tt : Bool) (At : Option Addr) (nt ct : Nat) (k : Int) (w W : World) (k' zl zh : Int) (tl : Bool) (Al : Option Addr) (nl cl : Nat) (th : Bool) (Ah : Option Addr) (nh ch : Nat) : Prop where
  m0 : Ms T b f caps g Ev zt za ta Aa na ca tt At nt ct w k
  hz : w.heap.size + 2 ≤ W.heap.size
  stp : Stp b w W
  ms : Ms T b f caps g Ev zt za ta Aa na ca tt At nt ct W k'
  r4 : Vb w W w.heap.size false none 0 0
  r5 : Vb w W (w.heap.size + 1) false none 0 0
  z0 : k' = 0 → k = 0
  vl : Vn W k' zl tl Al nl cl
  vh : Vn W k' zh th Ah nh ch
theorem AtW.alloc (h : AtW T b f caps g Ev zt za ta Aa na ca tt At nt ct k w W k' zl zh tl Al nl cl th Ah nh ch) (o : Obj) : AtW T b f caps g Ev zt za ta Aa na ca tt At nt ct k w (W.alloc o) k' zl zh tl Al nl cl th Ah nh ch :=
  have hb := below_alloc W o
  ⟨h.m0, Nat.le_trans h.hz hb.size, h.stp.trans (Stp.of_below h.ms.cc.lt hb), h.ms.below hb, h.r4.below hb, h.r5.below hb, h.z0, h.vl.below hb, h.vh.below hb⟩
theorem AtW.two (h : AtW T b f caps g Ev zt za ta Aa na ca tt At nt ct k w W k' zl zh tl Al nl cl th Ah nh ch) {x : Bool} {a : Option Addr} {i j : Nat} (hp : w.heap.size + 2 ≤ p) (v : Vb w W p x a i j) (u1 u2 : Value) :
    AtW T b f caps g Ev zt za ta Aa na ca tt At nt ct k w ((W.setCell ⟨p, 0, none⟩ u1).setCell ⟨p, 1, none⟩ u2) k' zl zh tl Al nl cl th Ah nh ch := by
  have hl := h.m0.cc.lt
  have hs := h.stp.two (g := p) (by omega) (by omega) u1 u2
  exact ⟨h.m0, by rw [size_pair]; exact h.hz, hs, h.ms.two (by omega) v.c0 v.c1 (h.m0.ea.stp _ _ _ h.m0.ev h.m0.cc hs), h.r4.far (by omega) _ _, h.r5.far (by omega) _ _, h.z0, h.vl.two v.c0 v.c1 _ _, h.vh.two v.c0 v.c1 _ _⟩
theorem AtW.v (h : AtW T b f caps g Ev zt za ta Aa na ca tt At nt ct k w W k' zl zh tl Al nl cl th Ah nh ch) (hne : p ≠ q) (hp : w.heap.size + 2 ≤ p) (hq : w.heap.size + 2 ≤ q) (vp : Vb w W p tl Al nl cl) (vq : Vb w W q th Ah nh ch) :
    AtV T b f caps g Ev zt za ta Aa na ca tt At nt ct k w W p q k' zl zh tl Al nl cl th Ah nh ch :=
  ⟨hne, h.stp, h.ms, h.r4, h.r5, hp, hq, vp, vq, h.z0, h.vl, h.vh⟩
abbrev st2 (W : World) (p : Nat) (t : Bool) (A : Option Addr) (n c : Nat) : World := (W.setCell ⟨p, 0, none⟩ (.bool t)).setCell ⟨p, 1, none⟩ (.slice A n c)
abbrev ob2 (t : Bool) (A : Option Addr) (n c : Nat) : Obj := .cells #[.bool t, .slice A n c] 58
theorem AtW.dd (h : AtW T b f caps g Ev zt za ta Aa na ca tt At nt ct k w W k' zl zh tl Al nl cl th Ah nh ch) : AtV T b f caps g Ev zt za ta Aa na ca tt At nt ct k w ((W.alloc (ob2 tl Al nl cl)).alloc (ob2 th Ah nh ch)) W.heap.size (W.heap.size + 1) k' zl zh tl Al nl cl th Ah nh ch := by
  have hz := h.hz
  exact ((h.alloc _).alloc _).v (by omega) hz (by omega) ((Vb.new w W tl Al nl cl (by omega)).below (below_alloc _ _)) (Vb.new1 w W _ th Ah nh ch (by omega))
theorem AtW.dd2 (h : AtW T b f caps g Ev zt za ta Aa na ca tt At nt ct k w W k' zl zh tl Al nl cl th Ah nh ch) : AtV T b f caps g Ev zt za ta Aa na ca tt At nt ct k w ((W.alloc (ob2 th Ah nh ch)).alloc (ob2 tl Al nl cl)) (W.heap.size + 1) W.heap.size k' zl zh tl Al nl cl th Ah nh ch := by
  have hz := h.hz
  exact ((h.alloc _).alloc _).v (by omega) (by omega) hz (Vb.new1 w W _ tl Al nl cl (by omega)) ((Vb.new w W th Ah nh ch (by omega)).below (below_alloc _ _))
theorem AtW.de (h : AtW T b f caps g Ev zt za ta Aa na ca tt At nt ct k w W k' zl zh tl Al nl cl th Ah nh ch) {x : Bool} {a : Option Addr} {i j : Nat} (hp : w.heap.size + 2 ≤ p) (v : Vb w W p x a i j) : AtV T b f caps g Ev zt za ta Aa na ca tt At nt ct k w ((st2 W p tl Al nl cl).alloc (ob2 th Ah nh ch)) p W.heap.size k' zl zh tl Al nl cl th Ah nh ch := by
  have hz := h.hz
  have hl := v.lt
  have e := size_pair W p (.bool tl) (.slice Al nl cl)
  refine ((h.two hp v _ _).alloc _).v (by omega) hp hz ((v.put _ _ _ _).below (below_alloc _ _)) ?_
  have := Vb.new w (st2 W p tl Al nl cl) th Ah nh ch (by rw [e]; omega)
  rwa [e] at this
theorem AtW.ed (h : AtW T b f caps g Ev zt za ta Aa na ca tt At nt ct k w W k' zl zh tl Al nl cl th Ah nh ch) {x : Bool} {a : Option Addr} {i j : Nat} (hq : w.heap.size + 2 ≤ q) (v : Vb w W q x a i j) : AtV T b f caps g Ev zt za ta Aa na ca tt At nt ct k w ((st2 W q th Ah nh ch).alloc (ob2 tl Al nl cl)) W.heap.size q k' zl zh tl Al nl cl th Ah nh ch := by
  have hz := h.hz
  have hl := v.lt
  have e := size_pair W q (.bool th) (.slice Ah nh ch)
  refine ((h.two hq v _ _).alloc _).v (by omega) hz hq ?_ ((v.put _ _ _ _).below (below_alloc _ _))
  have := Vb.new w (st2 W q th Ah nh ch) tl Al nl cl (by rw [e]; omega)
  rwa [e] at this
theorem AtW.ee (h : AtW T b f caps g Ev zt za ta Aa na ca tt At nt ct k w W k' zl zh tl Al nl cl th Ah nh ch) {x : Bool} {a : Option Addr} {i j : Nat} {x' : Bool} {a' : Option Addr} {i' j' : Nat} (hne : p ≠ q) (hp : w.heap.size + 2 ≤ p) (hq : w.heap.size + 2 ≤ q) (v : Vb w W p x a i j) (v' : Vb w W q x' a' i' j') : AtV T b f caps g Ev zt za ta Aa na ca tt At nt ct k w (st2 (st2 W p tl Al nl cl) q th Ah nh ch) p q k' zl zh tl Al nl cl th Ah nh ch :=
  ((h.two hp v _ _).two hq (v'.far hne _ _) _ _).v hne hp hq ((v.put _ _ _ _).far (Ne.symm hne) _ _) ((v'.far hne _ _).put _ _ _ _)
theorem AtW.ee2 (h : AtW T b f caps g Ev zt za ta Aa na ca tt At nt ct k w W k' zl zh tl Al nl cl th Ah nh ch) {x : Bool} {a : Option Addr} {i j : Nat} {x' : Bool} {a' : Option Addr} {i' j' : Nat} (hne : p ≠ q) (hp : w.heap.size + 2 ≤ p) (hq : w.heap.size + 2 ≤ q) (v : Vb w W p x a i j) (v' : Vb w W q x' a' i' j') : AtV T b f caps g Ev zt za ta Aa na ca tt At nt ct k w (st2 (st2 W q th Ah nh ch) p tl Al nl cl) p q k' zl zh tl Al nl cl th Ah nh ch :=
  ((h.two hq v' _ _).two hp (v.far (Ne.symm hne) _ _) _ _).v hne hp hq ((v.far (Ne.symm hne) _ _).put _ _ _ _) ((v'.put _ _ _ _).far hne _ _)
end
section
variable {p q : Nat} {zl zh z1 z2 : Int} {tl : Bool} {Al : Option Addr} {nl cl : Nat} {th : Bool} {Ah : Option Addr} {nh ch : Nat} {t1 : Bool} {A1 : Option Addr} {n1 c1 : Nat} {t2 : Bool} {A2 : Option Addr} {n2 c2 : Nat}
theorem AtV.mid (h : AtV T b f caps g Ev zt za ta Aa na ca tt At nt ct k w W p q k' zl zh tl Al nl cl th Ah nh ch) (m0 : Ms T b f caps g Ev zt za ta Aa na ca tt At nt ct w k) (v1 : Vn W k' z1 t1 A1 n1 c1) (v2 : Vn W k' z2 t2 A2 n2 c2) : AtW T b f caps g Ev zt za ta Aa na ca tt At nt ct k w W k' z1 z2 t1 A1 n1 c1 t2 A2 n2 c2 :=
  ⟨m0, by have := h.gp; have := h.vp.lt; omega, h.stp, h.ms, h.r4, h.r5, h.z0, v1, v2⟩
/-- both variables are written, in either order -/
theorem AtV.put (h : AtV T b f caps g Ev zt za ta Aa na ca tt At nt ct k w W p q k' zl zh tl Al nl cl th Ah nh ch) (m0 : Ms T b f caps g Ev zt za ta Aa na ca tt At nt ct w k) (v1 : Vn W k' z1 t1 A1 n1 c1) (v2 : Vn W k' z2 t2 A2 n2 c2) :
    AtV T b f caps g Ev zt za ta Aa na ca tt At nt ct k w (st2 (st2 W p t1 A1 n1 c1) q t2 A2 n2 c2) p q k' z1 z2 t1 A1 n1 c1 t2 A2 n2 c2 := (h.mid m0 v1 v2).ee h.ne h.gp h.gq h.vp h.vq
theorem AtV.put' (h : AtV T b f caps g Ev zt za ta Aa na ca tt At nt ct k w W p q k' zl zh tl Al nl cl th Ah nh ch) (m0 : Ms T b f caps g Ev zt za ta Aa na ca tt At nt ct w k) (v1 : Vn W k' z1 t1 A1 n1 c1) (v2 : Vn W k' z2 t2 A2 n2 c2) :
    AtV T b f caps g Ev zt za ta Aa na ca tt At nt ct k w (st2 (st2 W q t2 A2 n2 c2) p t1 A1 n1 c1) p q k' z1 z2 t1 A1 n1 c1 t2 A2 n2 c2 := (h.mid m0 v1 v2).ee2 h.ne h.gp h.gq h.vp h.vq
end
theorem bit_at2 {K : Int} {k i : Nat} (h : K = (k : Int)) (hk : k < 9223372036854775808) : bits BinOp.and IntKind.i64 (K / 2 ^ i) 1 = ((k / 2 ^ i % 2 : Nat) : Int) := by
  have e : K / 2 ^ i = ((k / 2 ^ i : Nat) : Int) := by rw [h, Int.natCast_ediv, Int.natCast_pow]; rfl
  rw [e, and_one _ (Nat.lt_of_le_of_lt (Nat.div_le_self _ _) hk)]
/-- a sequence that a walker walks along, up to N and N + 1 -/
structure Sq (T : Nat) (g : Int → Int) (zt : Int) (P : Nat → Int) (N : Nat) : Prop where
  p0 : P 0 = g 0
  p1 : P 1 = g 1
  ev : ∀ j, 2 * j ≤ N → g (P j * (P (j + 1) - (zt * P j - P (j + 1)))) = P (2 * j)
  od : ∀ j, 2 * j ≤ N → g ((P (j + 1) - P j) * (P (j + 1) + P j)) = P (2 * j + 1)
  nx : ∀ j, 2 * j + 1 ≤ N → g (zt * P (2 * j + 1) - P (2 * j)) = P (2 * j + 2)
  a1 : ∀ j, 2 * j ≤ N → (zt * P j).natAbs ≤ T
  a2 : ∀ j, 2 * j ≤ N → (zt * P j - P (j + 1)).natAbs ≤ T
  a3 : ∀ j, 2 * j ≤ N → (P (j + 1) - (zt * P j - P (j + 1))).natAbs ≤ T
  a4 : ∀ j, 2 * j ≤ N → (P j * (P (j + 1) - (zt * P j - P (j + 1)))).natAbs ≤ T
  b1 : ∀ j, 2 * j ≤ N → (P (j + 1) - P j).natAbs ≤ T
  b2 : ∀ j, 2 * j ≤ N → (P (j + 1) + P j).natAbs ≤ T
  b3 : ∀ j, 2 * j ≤ N → ((P (j + 1) - P j) * (P (j + 1) + P j)).natAbs ≤ T
  c1 : ∀ j, 2 * j + 1 ≤ N → (zt * P (2 * j + 1)).natAbs ≤ T
  c2 : ∀ j, 2 * j + 1 ≤ N → (zt * P (2 * j + 1) - P (2 * j)).natAbs ≤ T
section
variable {p q : Nat} {zl zh z1 z2 : Int} {tl : Bool} {Al : Option Addr} {nl cl : Nat} {th : Bool} {Ah : Option Addr} {nh ch : Nat}
/-- the results are written -/
theorem AtV.fin (h : AtV T b f caps g Ev zt za ta Aa na ca tt At nt ct k w W p q k' zl zh tl Al nl cl th Ah nh ch) (m0 : Ms T b f caps g Ev zt za ta Aa na ca tt At nt ct w k) {X : World} (hX : (st2 (st2 W w.heap.size tl Al nl cl) (w.heap.size + 1) th Ah nh ch).drew = X) :
    X.cell? ⟨w.heap.size, 0, none⟩ = some (.bool tl) ∧ X.cell? ⟨w.heap.size, 1, none⟩ = some (.slice Al nl cl) ∧ X.cell? ⟨w.heap.size + 1, 0, none⟩ = some (.bool th) ∧ X.cell? ⟨w.heap.size + 1, 1, none⟩ = some (.slice Ah nh ch) ∧
    Stp b w X ∧ Ms T b f caps g Ev zt za ta Aa na ca tt At nt ct X k' ∧ Vn X k' zl tl Al nl cl ∧ Vn X k' zh th Ah nh ch := by
  have hl := m0.cc.lt
  have hg := h.gp
  have hpl := h.vp.lt
  have s1 := h.stp.two (g := w.heap.size) (Nat.le_refl _) (by omega) (.bool tl) (.slice Al nl cl)
  have r5 := h.r5.far (g' := w.heap.size) (by omega) (.bool tl) (.slice Al nl cl)
  have m1 := h.ms.two (p := w.heap.size) (by omega) h.r4.c0 h.r4.c1 (m0.ea.stp _ _ _ m0.ev m0.cc s1)
  have s2 := s1.two (g := w.heap.size + 1) (by omega) (by omega) (.bool th) (.slice Ah nh ch)
  have m2 := m1.two (p := w.heap.size + 1) (by omega) r5.c0 r5.c1 (m0.ea.stp _ _ _ m0.ev m0.cc s2)
  have y4 := (h.r4.put tl Al nl cl).far (g' := w.heap.size + 1) (by simp) (.bool th) (.slice Ah nh ch)
  have y5 := r5.put th Ah nh ch
  have v1 := (h.vl.two h.r4.c0 h.r4.c1 (.bool tl) (.slice Al nl cl)).two r5.c0 r5.c1 (.bool th) (.slice Ah nh ch)
  have v2 := (h.vh.two h.r4.c0 h.r4.c1 (.bool tl) (.slice Al nl cl)).two r5.c0 r5.c1 (.bool th) (.slice Ah nh ch)
  subst hX
  exact ⟨cell_dr y4.c0, cell_dr y4.c1, cell_dr y5.c0, cell_dr y5.c1, s2.trans (Stp.of_below (m2.cc.lt) (Below.refl _ _).drew), m2.below (Below.refl _ _).drew, v1.below (Below.refl _ _).drew, v2.below (Below.refl _ _).drew⟩
end
end
end Go.Proofs.YteabokkofoomkaaGreat
/- comparing numbers of a computation -/
set_option maxRecDepth 100000
namespace Go.Proofs.YteabokkofoomkaaGreat
open Go.RowKit Go.Shelf
theorem Valid_i {w : World} {z : Int} {t : Bool} {A : Option Addr} {n c : Nat} (h : Iv w z t A n c) : Calls Tryz.prog 74 #[.agg #[.bool t, .slice A n c]] w fun e w' => e = .returned (.bool true) ∧ Below w.heap.size w w' := by
  obtain ⟨r, v, _, _, _⟩ := h.is.raw h.sz (Nat.le_refl _)
  have := valid_c t A n c _ w r
  rwa [v] at this
def IsB (x : Bool) (w : World) (e : Ending) (w' : World) : Prop := e = .returned (.bool x) ∧ Below w.heap.size w w'
theorem ord_cases (z z' : Int) : (ord z z' = -1 ∧ z < z') ∨ (ord z z' = 0 ∧ z = z') ∨ (ord z z' = 1 ∧ z' < z) := by
  rcases Int.lt_trichotomy z z' with h | h | h
  · exact .inl ⟨ord_lt h, h⟩
  · exact .inr (.inl ⟨ord_eq h, h⟩)
  · exact .inr (.inr ⟨ord_gt h, h⟩)
set_option maxHeartbeats 1000000 in
theorem Less_c {w : World} {z z' : Int} {t t' : Bool} {A A' : Option Addr} {n c n' c' : Nat} (h : Iv w z t A n c) (h' : Iv w z' t' A' n' c') :
    Calls Tryz.prog 117 #[.agg #[.bool t, .slice A n c], .agg #[.bool t', .slice A' n' c']] w (IsB (decide (z < z')) w) := by
  have E := Env2.start w t t' A A' n c n' c'
  have HC := Lib.hid (Cmp_is (k := 4096) (h.is.below E.below) (h'.is.below E.below) h.sz h'.sz (Nat.le_refl _))
  have HB := Lib.hid E.below
  rcases ord_cases z z' with ⟨o, hz⟩ | ⟨o, hz⟩ | ⟨o, hz⟩
  all_goals
    rw [o] at HC
    have HD := Lib.hid (show decide (z < z') = _ from by first | exact decide_eq_true hz | exact decide_eq_false (by omega))
    clear h h' E o hz
    go_enter Tryz.func117, Tryz.ntmps117
    go_wp2_with (refine HC.out.mono ?_; rintro e w1 ⟨rfl, hb⟩; have HB1 := Lib.hid (HB.out.trans (hb.mono HB.out.size)); clear hb)
    go_ret
    exact ⟨by rw [HD.out]; rfl, HB1.out⟩
set_option maxHeartbeats 1000000 in
theorem Equal_c {w : World} {z z' : Int} {t t' : Bool} {A A' : Option Addr} {n c n' c' : Nat} (h : Iv w z t A n c) (h' : Iv w z' t' A' n' c') :
    Calls Tryz.prog 118 #[.agg #[.bool t, .slice A n c], .agg #[.bool t', .slice A' n' c']] w (IsB (decide (z = z')) w) := by
  have E := Env2.start w t t' A A' n c n' c'
  have HC := Lib.hid (Cmp_is (k := 4096) (h.is.below E.below) (h'.is.below E.below) h.sz h'.sz (Nat.le_refl _))
  have HB := Lib.hid E.below
  rcases ord_cases z z' with ⟨o, hz⟩ | ⟨o, hz⟩ | ⟨o, hz⟩
  all_goals
    rw [o] at HC
    have HD := Lib.hid (show decide (z = z') = _ from by first | exact decide_eq_true hz | exact decide_eq_false (by omega))
    clear h h' E o hz
    go_enter Tryz.func118, Tryz.ntmps118
    go_wp2_with (refine HC.out.mono ?_; rintro e w1 ⟨rfl, hb⟩; have HB1 := Lib.hid (HB.out.trans (hb.mono HB.out.size)); clear hb)
    go_ret
    exact ⟨by rw [HD.out]; rfl, HB1.out⟩
end Go.Proofs.YteabokkofoomkaaGreat
