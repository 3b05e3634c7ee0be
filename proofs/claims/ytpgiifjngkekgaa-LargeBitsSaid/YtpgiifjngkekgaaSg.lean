import Derived.Test.YtpgiifjngkekgaaSa
namespace Go.Proofs.Ytpgiifjngkekgaa
open Go.RowKit

theorem len_i (x : Int) (w : World) (h0 : 0 ≤ x) (h1 : x ≤ 18446744073709551615) : Calls Try.prog 67 #[.int .u64 x] w fun e w' => e = .returned (.int .i64 (Lib.bitLen x.toNat)) ∧ w' = w := by
  have H := Lib.hid (len64_i x w h0 h1)
  go_enter Try.func67, Try.ntmps67
  go_wp2_with fail
  refine H.out.mono ?_
  rintro e w' ⟨rfl, rfl⟩
  go_wp2
  go_ret
  exact ⟨rfl, rfl⟩

/-- the power so far, in a box -/
structure PowAt (w W : World) (z : Int) (t : Bool) (A : Option Addr) (n c g q : Nat) (t' : Bool) (B : Option Addr) (m d : Nat) : Prop where
  env : Env1r w W t A n c
  hg : w.heap.size + 2 ≤ g
  box : Box W g (z ^ q) t' B m d
  f0 : W.frozen? ⟨g, 0, none⟩ = false
  f1 : W.frozen? ⟨g, 1, none⟩ = false
  sz : m ≤ 4096
theorem PowAt.next {w W w1 : World} {z : Int} {t : Bool} {A : Option Addr} {n c g q : Nat} {t' : Bool} {B : Option Addr} {m d : Nat} (h : PowAt w W z t A n c g q t' B m d) (hb : Below W.heap.size W w1) : PowAt w w1 z t A n c g q t' B m d :=
  ⟨h.env.next hb, h.hg, h.box.next hb, (hb.frozen (p := ⟨g, 0, none⟩) h.box.lt).trans h.f0, (hb.frozen (p := ⟨g, 1, none⟩) h.box.lt).trans h.f1, h.sz⟩
theorem frozen_two (W : World) (g : Nat) (u v : Value) (p : Addr) : ((W.setCell ⟨g, 0, none⟩ u).setCell ⟨g, 1, none⟩ v).frozen? p = W.frozen? p := by
  rw [World.frozen?_setCell, World.frozen?_setCell]
theorem size_two (W : World) (g : Nat) (u v : Value) : ((W.setCell ⟨g, 0, none⟩ u).setCell ⟨g, 1, none⟩ v).heap.size = W.heap.size := by simp [World.setCell]
theorem own_two {W : World} {g : Nat} {x y u v : Value} (h0 : W.cell? ⟨g, 0, none⟩ = some x) (h1 : W.cell? ⟨g, 1, none⟩ = some y) :
    ((W.setCell ⟨g, 0, none⟩ u).setCell ⟨g, 1, none⟩ v).cell? ⟨g, 0, none⟩ = some u ∧ ((W.setCell ⟨g, 0, none⟩ u).setCell ⟨g, 1, none⟩ v).cell? ⟨g, 1, none⟩ = some v := by
  have e : (W.setCell ⟨g, 0, none⟩ u).cell? ⟨g, 1, none⟩ = some y := by rw [World.cell?_setCell_other _ _ _ _ (by simp)]; exact h1
  exact ⟨by rw [World.cell?_setCell_other _ _ _ _ (by simp)]; exact World.cell?_setCell_same _ _ _ h0, World.cell?_setCell_same _ _ _ e⟩
theorem Res.two {W : World} {b g : Nat} (h : Res W b) (hne : g ≠ b) (u v : Value) : Res ((W.setCell ⟨g, 0, none⟩ u).setCell ⟨g, 1, none⟩ v) b :=
  ⟨by rw [size_two]; exact h.lt, cell_two hne h.r0, cell_two hne h.r1, by rw [frozen_two]; exact h.f0, by rw [frozen_two]; exact h.f1⟩
theorem Env1r.two {w W : World} {s : Bool} {A : Option Addr} {n c g : Nat} (h : Env1r w W s A n c) (hg : w.heap.size + 2 ≤ g) (u v : Value) : Env1r w ((W.setCell ⟨g, 0, none⟩ u).setCell ⟨g, 1, none⟩ v) s A n c :=
  ⟨by rw [size_two]; exact h.size, cell_two (by omega) h.a0, cell_two (by omega) h.a1, h.res.two (by omega) u v, below_store h.below (by omega) u v⟩
/-- a box is given another number -/
theorem Box.put {W : World} {b : Nat} {z z' : Int} {t t' : Bool} {A B : Option Addr} {n c m d : Nat} (h : Box W b z t A n c) (hi : Is W z' t' B m d) : Box ((W.setCell ⟨b, 0, none⟩ (.bool t')).setCell ⟨b, 1, none⟩ (.slice B m d)) b z' t' B m d :=
  ⟨by rw [size_two]; exact h.lt, (own_two h.c0 h.c1).1, (own_two h.c0 h.c1).2, hi.store h.c0 h.c1 _ _⟩
theorem PowAt.put {w W : World} {z : Int} {t : Bool} {A : Option Addr} {n c g q : Nat} {t' : Bool} {B : Option Addr} {m d : Nat} (h : PowAt w W z t A n c g q t' B m d) {q' : Nat} {t2 : Bool} {B2 : Option Addr} {m2 d2 : Nat}
    (hi : Is W (z ^ q') t2 B2 m2 d2) (hl : m2 ≤ 4096) : PowAt w ((W.setCell ⟨g, 0, none⟩ (.bool t2)).setCell ⟨g, 1, none⟩ (.slice B2 m2 d2)) z t A n c g q' t2 B2 m2 d2 :=
  ⟨h.env.two h.hg _ _, h.hg, h.box.put hi, by rw [frozen_two]; exact h.f0, by rw [frozen_two]; exact h.f1, hl⟩
theorem Is.numIs {w : World} {z : Int} {t : Bool} {A : Option Addr} {n c : Nat} (h : Is w z t A n c) (hn : n ≤ 4096) : NumIs w z t A n c 0 :=
  ⟨fun _ => ⟨rfl, h.1, h.2.1, h.2.2.1, h.2.2.2⟩, fun hl => absurd (by rw [← h.2.1]; exact hn) hl⟩
theorem sz_of_len {z : Int} (h : (words z.natAbs).length ≤ 4096) : Sz z 4096 := words_len_le.1 h
theorem pow_len {z : Int} {p k : Nat} (hz : z ≠ 0) (hp : p ≤ k) (h : ¬ (words (z ^ p).natAbs).length ≤ 4096) : ¬ (words (z ^ k).natAbs).length ≤ 4096 := by
  intro hl
  apply h
  refine Nat.le_trans (words_mono ?_) hl
  rw [Int.natAbs_pow, Int.natAbs_pow]
  exact Nat.pow_le_pow_right (by omega) hp

theorem and_one (x : Nat) (h : x < 9223372036854775808) : bits BinOp.and IntKind.i64 (x : Int) 1 = ((x % 2 : Nat) : Int) := by
  show IntKind.i64.wrap ((BitVec.ofInt 64 (x : Int) &&& BitVec.ofInt 64 1).toNat : Int) = _
  rw [BitVec.toNat_and, BitVec.toNat_ofInt, BitVec.toNat_ofInt]
  rw [show (((x : Int) % ((2 ^ 64 : Nat) : Int)).toNat) = x by omega, show ((1 : Int) % ((2 ^ 64 : Nat) : Int)).toNat = 1 by decide, Nat.and_one_is_mod]
  exact IntWalk.i64_in _ (by omega)
theorem bit_at {K : Int} {k i : Nat} (h : K = (k : Int)) (hk : k < 131072) : bits BinOp.and IntKind.i64 (K / 2 ^ i) 1 = ((k / 2 ^ i % 2 : Nat) : Int) := by
  have e : K / 2 ^ i = ((k / 2 ^ i : Nat) : Int) := by rw [h, Int.natCast_ediv, Int.natCast_pow]; rfl
  rw [e, and_one _ (Nat.lt_of_le_of_lt (Nat.div_le_self _ _) (by omega))]

set_option maxHeartbeats 1000000 in
set_option maxRecDepth 100000 in
theorem Power_loop {w : World} {z : Int} {t : Bool} {A : Option Addr} {n c : Nat} (h : Is w z t A n c) (hn : n ≤ 4096) (hz : 1 < blen z.natAbs) (k : Nat) (hk0 : 0 < k) (hk : k < 131072) :
    Calls Try.prog 32 #[.agg #[.bool t, .slice A n c], .int .i64 (k : Int)] w (Num w (z ^ k)) := by
  have S : Sz z 4096 := by show z.natAbs < pw 4096; exact words_len_le.1 (by rw [← h.2.1]; exact hn)
  obtain ⟨r, v, s, hc, hc2⟩ := h.raw S (Nat.le_refl _)
  have hbl2 := blen_sz S
  have HV := Lib.hid v
  have HI := Lib.hid h
  have HR := Lib.hid r
  have E := Lib.hid (Env1r.start w t A n c)
  clear v r h s
  obtain ⟨K, hK⟩ : ∃ K : Int, K = (k : Int) := ⟨_, rfl⟩
  have hK0 : 0 < K := by omega
  have hK1 : K < 131072 := by omega
  rw [← hK]
  have HKk := Lib.hid hK
  clear hK hk0
  have t0 : (K == 0) = false := by rw [beq_eq_false_iff_ne]; omega
  have HK := Lib.hid hk
  clear hk
  go_enter Try.func32, Try.ntmps32
  go_wp2_with fail
  generalize (w.alloc (.cells #[.bool t, .slice A n c] 24)).alloc (.cells #[.bool false, .slice none 0 0] 24) = W at E ⊢
  refine (valid_c t A n c _ W (HR.out.below E.out.below)).mono ?_
  rintro e w1 ⟨rfl, hb⟩
  rw [HV.out]
  replace E := Lib.hid (E.out.next hb)
  clear hb
  have a0 := E.out.a0
  have a1 := E.out.a1
  go_wp2_with fail
  refine (Bits_c (HI.out.below E.out.below) hn).mono ?_
  rintro e w2 ⟨rfl, hb⟩
  replace E := Lib.hid (E.out.next hb)
  clear hb
  replace a0 := E.out.a0
  replace a1 := E.out.a1
  obtain ⟨b, hb0⟩ : ∃ b, b = blen z.natAbs := ⟨_, rfl⟩
  rw [← hb0]
  rw [← hb0] at hz
  have HSz := Lib.hid S
  have hz0 : z ≠ 0 := by rintro rfl; simp [blen] at hb0; omega
  have HZ := Lib.hid hz0
  clear hb0 S hbl2 hz0
  go_wp2_with fail
  refine (of_nat 1 _ (by omega)).mono ?_
  rintro e w3 ⟨B, d, rfl, o1, o2, o3, o4⟩
  replace E := Lib.hid (E.out.next o4)
  replace a0 := E.out.a0
  replace a1 := E.out.a1
  clear o4
  go_wp2_with fail
  refine (len_i K _ (by omega) (by omega)).mono ?_
  rintro e w4 ⟨rfl, rfl⟩
  have hL : Lib.bitLen K.toNat = blen k := by rw [HKk.out, Int.toNat_natCast, bitLen_blen k (by have := HK.out; omega)]
  rw [hL]
  clear hL
  have hL1 : blen k ≤ 17 := blen_le.2 (Nat.lt_of_lt_of_le HK.out (by decide))
  have hL0 := blen_pos (v := k) (by have := HKk.out; omega)
  have hL2 := blen_lt k
  obtain ⟨L, hL⟩ : ∃ L, L = blen k := ⟨_, rfl⟩
  rw [← hL]
  rw [← hL] at hL0 hL1 hL2
  have HL2 := Lib.hid hL2
  clear hL hL2
  have P : PowAt w (w3.alloc (.cells #[.bool false, .slice B (words 1).length d] 24)) z t A n c w3.heap.size (k / 2 ^ L) false B (words 1).length d := by
    rw [Nat.div_eq_of_lt HL2.out]
    refine ⟨E.out.next (below_alloc _ _), E.out.size, ?_, by go_simp, by go_simp, by rw [words_one (by omega) (by omega)]; decide⟩
    rw [Int.pow_zero]
    exact Box.new (z := 1) ⟨rfl, rfl, o1, o2, o3⟩
  have HP := Lib.hid P
  obtain ⟨g, hg⟩ : ∃ g, g = w3.heap.size := ⟨_, rfl⟩
  rw [← hg]
  rw [← hg] at HP
  obtain ⟨m, hm⟩ : ∃ m, m = (words 1).length := ⟨_, rfl⟩
  rw [← hm] at HP ⊢
  clear P o1 o2 o3 hm a0 a1 E hg
  go_wp2_with fail
  generalize w3.alloc (.cells #[.bool false, .slice B m d] 24) = W at HP ⊢
  go_loopw [8] (fun i wr => ∃ j : Nat, j ≤ L ∧ i = .int .i64 ((j : Int) - 1) ∧ ∃ t' B m d, PowAt w wr z t A n c g (k / 2 ^ j) t' B m d) (fun i _ => (intOf i + 1).toNat)
  case atStart => exact ⟨L, Nat.le_refl _, rfl, _, _, _, _, HP.out⟩
  case round =>
    obtain ⟨j, hj, rfl, t', B', m', d', hP⟩ := hrel
    clear HP
    have HP := Lib.hid hP
    clear hP
    rcases Nat.eq_zero_or_pos j with hj0 | hj0
    · subst hj0
      have hg2 := HP.out.hg
      have g1 : ¬ g = w.heap.size := by omega
      have g2 : ¬ w.heap.size = g := by omega
      have g3 : ¬ g = w.heap.size + 1 := by omega
      have g4 : ¬ w.heap.size + 1 = g := by omega
      clear hg2
      have c0 := HP.out.box.c0
      have c1 := HP.out.box.c1
      have r0 := HP.out.env.res.r0
      have r1 := HP.out.env.res.r1
      have q0 := HP.out.env.res.f0
      have q1 := HP.out.env.res.f1
      have hi := HP.out.box.is
      rw [Nat.pow_zero, Nat.div_one] at hi
      have HNI := Lib.hid (Is.numIs hi HP.out.sz)
      have HB := Lib.hid (HP.out.env.below)
      clear hi HP g1 g2 g3 g4
      go_wp2
      refine bodyPost_ret (v := .tuple #[.agg #[.bool t', .slice B' m' d'], .int .i64 0]) (by simp [results, Try.results32, go_sem, r0, r1]) rfl ?_
      exact ⟨t', B', m', d', 0, rfl, HNI.out.store r0 r1 _ _, below_store HB.out (by omega) _ _⟩
    · obtain ⟨i, rfl⟩ : ∃ i, j = i + 1 := ⟨j - 1, by omega⟩
      have c0 := HP.out.box.c0
      have c1 := HP.out.box.c1
      have S1 := Lib.hid (sz_of_len (by rw [← HP.out.box.is.2.1]; exact HP.out.sz) : Sz (z ^ (k / 2 ^ (i + 1))) 4096)
      go_wp2_with fail
      refine (Mul_is HP.out.box.is HP.out.box.is S1.out S1.out (Nat.le_refl _)).mono ?_
      rintro e w5 ⟨t2, B2, m2, d2, k2, rfl, hn2, hb⟩
      replace HP := Lib.hid (HP.out.next hb)
      have HN := Lib.hid hn2
      clear hn2 hb
      replace c0 := HP.out.box.c0
      replace c1 := HP.out.box.c1
      have f0 := HP.out.f0
      have f1 := HP.out.f1
      have a0 := HP.out.env.a0
      have a1 := HP.out.env.a1
      have hg2 := HP.out.hg
      have g1 : ¬ g = w.heap.size := by omega
      have g2 : ¬ w.heap.size = g := by omega
      have g3 : ¬ g = w.heap.size + 1 := by omega
      have g4 : ¬ w.heap.size + 1 = g := by omega
      clear hg2
      by_cases hl : (words (z ^ (k / 2 ^ (i + 1)) * z ^ (k / 2 ^ (i + 1))).natAbs).length ≤ 4096
      · obtain ⟨rfl, hi2⟩ := HN.out.is_ hl
        have HI2 := Lib.hid hi2
        have HL := Lib.hid hl
        clear hi2 hl HN
        by_cases hb : k / 2 ^ i % 2 = 0
        · have tb : (bits BinOp.and IntKind.i64 (K / 2 ^ i) 1 == 0) = true := by rw [bit_at HKk.out HK.out, hb]; rfl
          have hq : z ^ (k / 2 ^ (i + 1)) * z ^ (k / 2 ^ (i + 1)) = z ^ (k / 2 ^ i) := by
            rw [← Int.pow_add]; congr 1; rw [Nat.pow_succ, ← Nat.div_div_eq_div_mul]; omega
          rw [hq] at HI2 HL
          have HP2 := Lib.hid (HP.out.put HI2.out (by rw [HI2.out.2.1]; exact HL.out))
          clear hq hb HP a0 a1 g1 g2 g3 g4 hn hc hc2
          go_wp2
          go_roundw
          case measure => simp [intOf]
          case rel => exact ⟨i, by omega, by simp, _, _, _, _, HP2.out⟩
        · have tb : (bits BinOp.and IntKind.i64 (K / 2 ^ i) 1 == 0) = false := by rw [bit_at HKk.out HK.out, show k / 2 ^ i % 2 = 1 by omega]; rfl
          have HQ := Lib.hid (show z ^ (k / 2 ^ (i + 1)) * z ^ (k / 2 ^ (i + 1)) = z ^ (k / 2 ^ (i + 1) + k / 2 ^ (i + 1)) by rw [Int.pow_add])
          have HQ2 := Lib.hid (show z ^ (k / 2 ^ (i + 1) + k / 2 ^ (i + 1)) * z = z ^ (k / 2 ^ i) by
            rw [← Int.pow_succ]; congr 1; rw [Nat.pow_succ, ← Nat.div_div_eq_div_mul]; omega)
          rw [HQ.out] at HI2 HL
          have HP2 := Lib.hid (HP.out.put HI2.out (by rw [HI2.out.2.1]; exact HL.out))
          have S2 := Lib.hid (sz_of_len HL.out)
          clear hb HP HQ hn hc hc2
          go_wp2_with fail
          generalize (w5.setCell ⟨g, 0, none⟩ (.bool t2)).setCell ⟨g, 1, none⟩ (.slice B2 m2 d2) = W6 at HP2 ⊢
          refine (Mul_is HP2.out.box.is (HI.out.below HP2.out.env.below) S2.out HSz.out (Nat.le_refl _)).mono ?_
          rintro e w7 ⟨t3, B3, m3, d3, k3, rfl, hn3, hb⟩
          rw [HQ2.out] at hn3
          replace HP2 := Lib.hid (HP2.out.next hb)
          clear hb HI2 a0 a1 f0 f1 c0 c1
          have c0 := HP2.out.box.c0
          have c1 := HP2.out.box.c1
          have f0 := HP2.out.f0
          have f1 := HP2.out.f1
          by_cases hl : (words (z ^ (k / 2 ^ i)).natAbs).length ≤ 4096
          · obtain ⟨rfl, hi3⟩ := hn3.is_ hl
            have HP3 := Lib.hid (HP2.out.put hi3 (by rw [hi3.2.1]; exact hl))
            clear hi3 hl hn3 HP2
            go_wp2
            go_roundw
            case measure => simp [intOf]
            case rel => exact ⟨i, by omega, by simp, _, _, _, _, HP3.out⟩
          · obtain ⟨rfl, rfl, rfl, rfl, rfl⟩ := hn3.2 hl
            have HL3 := Lib.hid (pow_len HZ.out (Nat.div_le_self k (2 ^ i)) hl)
            clear hl hn3
            have r0 := HP2.out.env.res.r0
            have r1 := HP2.out.env.res.r1
            have q0 := HP2.out.env.res.f0
            have q1 := HP2.out.env.res.f1
            have B7 := Lib.hid (below_store (below_store HP2.out.env.below (by have := HP2.out.hg; omega : w.heap.size ≤ g) (.bool false) (.slice none 0 0)) (by omega : w.heap.size ≤ w.heap.size + 1) (.bool false) (.slice none 0 0))
            go_wp2
            refine bodyPost_ret (v := .tuple #[.agg #[.bool false, .slice none 0 0], .int .i64 4]) (by simp [results, Try.results32, go_sem, r0, r1]) rfl ?_
            exact Bad.num ⟨rfl, B7.out⟩ HL3.out
      · obtain ⟨rfl, rfl, rfl, rfl, rfl⟩ := HN.out.2 hl
        have HL := Lib.hid hl
        clear hl HN
        have r0 := HP.out.env.res.r0
        have r1 := HP.out.env.res.r1
        have q0 := HP.out.env.res.f0
        have q1 := HP.out.env.res.f1
        have HL3 := Lib.hid (pow_len HZ.out (show k / 2 ^ (i + 1) + k / 2 ^ (i + 1) ≤ k by rw [Nat.pow_succ, ← Nat.div_div_eq_div_mul]; have := Nat.div_le_self k (2 ^ i); omega) (by rw [Int.pow_add]; exact HL.out))
        have B7 := Lib.hid (below_store (below_store HP.out.env.below (by have := HP.out.hg; omega : w.heap.size ≤ g) (.bool false) (.slice none 0 0)) (by omega : w.heap.size ≤ w.heap.size + 1) (.bool false) (.slice none 0 0))
        go_wp2
        refine bodyPost_ret (v := .tuple #[.agg #[.bool false, .slice none 0 0], .int .i64 4]) (by simp [results, Try.results32, go_sem, r0, r1]) rfl ?_
        exact Bad.num ⟨rfl, B7.out⟩ HL3.out
end Go.Proofs.Ytpgiifjngkekgaa
