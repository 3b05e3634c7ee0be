import Derived.Test.YteabokkofoomkaaGreatCao
import Derived.Test.YteabokkofoomkaaGreatCac
import Derived.Test.YteabokkofoomkaaGreatCai
import Derived.Deep.RegionHeld3
import Derived.Deep.LoopGhost
import Derived.Deep.QuietTactic
import Derived.BigQuiet
/- degrees and the order of exponents, of both sides -/
set_option maxRecDepth 100000
namespace Go.Proofs.YteabokkofoomkaaGreat
open Go.RowKit
theorem exps_at {l : List Int} (h : ExpsIn l) {k : Nat} (hk : k < l.length) : 0 ≤ l.getD k 0 ∧ l.getD k 0 ≤ 120 := h k hk
set_option maxHeartbeats 2000000 in
theorem degree_c (B : Option Addr) (m d : Nat) (es : List Int) (w : World) (h : RdI w B m es) (he : ExpsIn es) (hm : m ≤ 1000000) :
    Calls Tryz.prog 73 #[.slice B m d] w fun e w' => e = .returned (.int .i64 (sumI es)) ∧ w' = w := by
  have HR := Lib.hid h
  have HE := Lib.hid he
  have HL := Lib.hid h.len
  clear h he
  go_enter Tryz.func73, Tryz.ntmps73
  go_wp2
  go_loopw [3, 8] (fun vs vi wr => ∃ k : Nat, vs = .int .i64 (sumI (es.take k)) ∧ vi = .int .i64 (k : Int) ∧ k ≤ m ∧ wr = w) (fun _ vi _ => m - (intOf vi).toNat)
  case atStart => exact ⟨0, rfl, rfl, Nat.zero_le _, rfl⟩
  case round =>
    obtain ⟨k, rfl, rfl, hk, rfl⟩ := hrel
    have hb := sumI_bound es HE.out k (by rw [HL.out]; exact hk)
    rcases Nat.lt_or_ge k m with hkm | hkm
    · have t1 : decide ((k : Int) < (m : Int)) = true := decide_eq_true (by omega)
      have t1n : decide (k < m) = true := decide_eq_true hkm
      have hkI : (k : Int) < (m : Int) := by omega
      obtain ⟨b, o, hB, _, hc⟩ := HR.out.at_ (by omega)
      have c0 := hc k hkm
      have hz := exps_at HE.out (k := k) (by rw [HL.out]; exact hkm)
      have HT := Lib.hid (sumI_take es k (by rw [HL.out]; exact hkm))
      generalize sumI (es.take k) = sv at hb HT ⊢
      generalize es.getD k 0 = z at c0 hz HT
      subst hB
      clear hc
      go_wp2
      go_roundw
      case measure => simp [intOf]; omega
      case rel => exact ⟨k + 1, (by rw [HT.out] <;> (try go_num)), by go_num, by omega, (by first | rfl | trivial)⟩
    · have t1 : decide ((k : Int) < (m : Int)) = false := decide_eq_false (by omega)
      have t1n : decide (k < m) = false := decide_eq_false (by omega)
      have HT := Lib.hid (show es.take k = es from List.take_of_length_le (by rw [HL.out]; omega))
      rw [HT.out]
      go_wp2
      go_ret
      exact ⟨rfl, rfl⟩
set_option maxHeartbeats 2000000 in
theorem refDegree_c (B : Option Addr) (m d : Nat) (es : List Int) (w : World) (h : RdI w B m es) (he : ExpsIn es) (hm : m ≤ 1000000) :
    Calls Tryz.prog 61 #[.slice B m d] w fun e w' => e = .returned (.int .i64 (sumI es)) ∧ w' = w := by
  have HR := Lib.hid h
  have HE := Lib.hid he
  have HL := Lib.hid h.len
  clear h he
  go_enter Tryz.func61, Tryz.ntmps61
  go_wp2
  go_loopw [3, 4] (fun vs vi wr => ∃ k : Nat, vs = .int .i64 (sumI (es.take k)) ∧ vi = .int .i64 (k : Int) ∧ k ≤ m ∧ wr = w) (fun _ vi _ => m - (intOf vi).toNat)
  case atStart => exact ⟨0, rfl, rfl, Nat.zero_le _, rfl⟩
  case round =>
    obtain ⟨k, rfl, rfl, hk, rfl⟩ := hrel
    have hb := sumI_bound es HE.out k (by rw [HL.out]; exact hk)
    rcases Nat.lt_or_ge k m with hkm | hkm
    · have t1 : decide ((k : Int) < (m : Int)) = true := decide_eq_true (by omega)
      have t1n : decide (k < m) = true := decide_eq_true hkm
      have hkI : (k : Int) < (m : Int) := by omega
      obtain ⟨b, o, hB, _, hc⟩ := HR.out.at_ (by omega)
      have c0 := hc k hkm
      have hz := exps_at HE.out (k := k) (by rw [HL.out]; exact hkm)
      have HT := Lib.hid (sumI_take es k (by rw [HL.out]; exact hkm))
      generalize sumI (es.take k) = sv at hb HT ⊢
      generalize es.getD k 0 = z at c0 hz HT
      subst hB
      clear hc
      go_wp2
      go_roundw
      case measure => simp [intOf]; omega
      case rel => exact ⟨k + 1, (by rw [HT.out] <;> (try go_num)), by go_num, by omega, (by first | rfl | trivial)⟩
    · have t1 : decide ((k : Int) < (m : Int)) = false := decide_eq_false (by omega)
      have t1n : decide (k < m) = false := decide_eq_false (by omega)
      have HT := Lib.hid (show es.take k = es from List.take_of_length_le (by rw [HL.out]; omega))
      rw [HT.out]
      go_wp2
      go_ret
      exact ⟨rfl, rfl⟩
set_option maxHeartbeats 1000000 in
theorem isNaI_c (z : Int) (w : World) : Calls Tryz.prog 149 #[.int .i64 z] w fun e w' => e = .returned (.bool false) ∧ w' = w := by
  have t : (z != z) = false := by simp
  go_enter Tryz.func149, Tryz.ntmps149
  go_wp2
  go_ret
  exact ⟨rfl, rfl⟩
set_option maxHeartbeats 2000000 in
theorem cmpI_c (a b : Int) (w : World) : Calls Tryz.prog 132 #[.int .i64 a, .int .i64 b] w fun e w' => e = .returned (.int .i64 (sgnI a b)) ∧ w' = w := by
  have H1 := Lib.hid (isNaI_c a)
  have H2 := Lib.hid (isNaI_c b)
  have HS := Lib.hid (show sgnI a b = if a < b then -1 else if b < a then 1 else 0 from rfl)
  generalize sgnI a b = sg at HS ⊢
  go_enter Tryz.func132, Tryz.ntmps132
  go_wp2_with fail
  refine (H1.out _).mono ?_
  rintro e w1 ⟨rfl, hw⟩
  subst hw
  go_wp2_with fail
  refine (H2.out _).mono ?_
  rintro e w1 ⟨rfl, hw⟩
  subst hw
  by_cases h1 : a < b
  · have t1 : decide (a < b) = true := decide_eq_true h1
    have hs := HS.out
    rw [if_pos h1] at hs
    subst hs
    go_wp2
    go_ret
    exact ⟨rfl, rfl⟩
  · have t1 : decide (a < b) = false := decide_eq_false h1
    by_cases h2 : b < a
    · have t2 : decide (b < a) = true := decide_eq_true h2
      have hs := HS.out
      rw [if_neg h1, if_pos h2] at hs
      subst hs
      go_wp2
      go_ret
      exact ⟨rfl, rfl⟩
    · have t2 : decide (b < a) = false := decide_eq_false h2
      have hs := HS.out
      rw [if_neg h1, if_neg h2] at hs
      subst hs
      go_wp2
      go_ret
      exact ⟨rfl, rfl⟩
set_option maxHeartbeats 2000000 in
theorem cmpSlice_c (A B : Option Addr) (m c d : Nat) (ps qs : List Int) (w : World) (h : RdI w A m ps) (h' : RdI w B m qs) (hm : m ≤ 1000000) :
    Calls Tryz.prog 133 #[.slice A m c, .slice B m d] w fun e w' => e = .returned (.int .i64 (lexI ps qs)) ∧ w' = w := by
  have HA := Lib.hid h
  have HB := Lib.hid h'
  have HL := Lib.hid (And.intro h.len h'.len)
  clear h h'
  go_enter Tryz.func133, Tryz.ntmps133
  go_wp2
  go_loopw [11] (fun v wr => ∃ k : Nat, v = .int .i64 (k : Int) ∧ k ≤ m ∧ wr = w ∧ ∀ i, i < k → ps.getD i 0 = qs.getD i 0) (fun v _ => m - (intOf v).toNat)
  case atStart => exact ⟨0, rfl, Nat.zero_le _, rfl, fun i hi => by omega⟩
  case round =>
    obtain ⟨k, rfl, hk, rfl, hv⟩ := hrel
    have HV := Lib.hid hv
    clear hv
    rcases Nat.lt_or_ge k m with hkm | hkm
    · have t1 : decide ((k : Int) < (m : Int)) = true := decide_eq_true (by omega)
      have t1n : decide (k < m) = true := decide_eq_true hkm
      have t2 : decide ((m : Int) ≤ (k : Int)) = false := decide_eq_false (by omega)
      have t2n : decide (m ≤ k) = false := decide_eq_false (by omega)
      have hkI : (k : Int) < (m : Int) := by omega
      obtain ⟨b1, o1, hA, _, hc1⟩ := HA.out.at_ (by omega)
      obtain ⟨b2, o2, hB, _, hc2⟩ := HB.out.at_ (by omega)
      have c1 := hc1 k hkm
      have c2 := hc2 k hkm
      have HX := Lib.hid (lexI_at ps qs k (by rw [HL.out.1]; exact hkm) (by rw [HL.out.2]; exact hkm) HV.out)
      obtain ⟨x, hx⟩ : ∃ x, x = ps.getD k 0 := ⟨_, rfl⟩
      obtain ⟨y, hy⟩ : ∃ y, y = qs.getD k 0 := ⟨_, rfl⟩
      rw [← hx] at c1 HX
      rw [← hy] at c2 HX
      have HE := Lib.hid (And.intro hx hy)
      subst hA hB
      clear hc1 hc2 hx hy
      go_wp2_with fail
      refine (cmpI_c x y _).mono ?_
      rintro e w1 ⟨rfl, hw⟩
      subst hw
      by_cases h1 : x < y
      · have hs : sgnI x y = -1 := if_pos h1
        rw [hs]
        have HQ := Lib.hid (HX.out.1 h1)
        clear hs
        go_wp2
        go_ret
        exact ⟨by rw [HQ.out] <;> rfl, rfl⟩
      · by_cases h2 : y < x
        · have hs : sgnI x y = 1 := by unfold sgnI; rw [if_neg h1, if_pos h2]
          rw [hs]
          have HQ := Lib.hid (HX.out.2 h2)
          clear hs
          go_wp2
          go_ret
          exact ⟨by rw [HQ.out] <;> rfl, rfl⟩
        · have hs : sgnI x y = 0 := by unfold sgnI; rw [if_neg h1, if_neg h2]
          rw [hs]
          have HQ := Lib.hid (show ps.getD k 0 = qs.getD k 0 by rw [← HE.out.1, ← HE.out.2]; omega)
          clear hs
          go_wp2
          go_roundw
          case measure => simp [intOf]; omega
          case rel => exact ⟨k + 1, by go_num, by omega, (by first | rfl | trivial), fun i hi => by
            by_cases e : i = k
            · subst e; exact HQ.out
            · exact HV.out i (by omega)⟩
    · have t1 : decide ((k : Int) < (m : Int)) = false := decide_eq_false (by omega)
      have t1n : decide (k < m) = false := decide_eq_false (by omega)
      have HQ := Lib.hid (lexI_self ps qs (by rw [HL.out.1, HL.out.2]) (fun i hi => HV.out i (by rw [HL.out.1] at hi; omega)))
      have t3 : decide ((m : Int) < (m : Int)) = false := decide_eq_false (by omega)
      go_wp2
      go_ret
      exact ⟨by rw [HQ.out] <;> rfl, rfl⟩
end Go.Proofs.YteabokkofoomkaaGreat
namespace Go.Proofs.YteabokkofoomkaaGreat
open Go.RowKit
set_option maxHeartbeats 400000 in
set_option maxRecDepth 100000 in
theorem refValid_c (s : Bool) (A : Option Addr) (n c : Nat) (xs : List Nat) (w : World) (h : Rd w A n xs) :
    Calls Tryz.prog 31 #[.agg #[.bool s, .slice A n c]] w fun e w' => e = .returned (.bool (validB s xs)) ∧ Below w.heap.size w w' := by
  have hl := h.len
  rcases Nat.eq_zero_or_pos n with h0 | h0
  · subst h0
    have H := Lib.hid (show validB s xs = !s by unfold validB; rw [if_pos hl])
    clear hl
    go_enter Tryz.func31, Tryz.ntmps31
    go_wp2
    go_ret
    exact ⟨by rw [H.out]; rfl, (Below.refl _ _).alloc (Nat.le_refl _) _⟩
  · obtain ⟨b, o, rfl, hb, hcell⟩ := h.of h0
    have t0 : ((n : Int) == 0) = false := by rw [beq_eq_false_iff_ne]; omega
    by_cases hn : n ≤ 4096
    · obtain ⟨j, rfl⟩ : ∃ j, n = j + 1 := ⟨n - 1, by omega⟩
      clear t0
      have t0 : ((j : Int) + 1 == 0) = false := by rw [beq_eq_false_iff_ne]; omega
      have hcj := hcell j (by omega)
      have hx1 := small_get h.sm j
      obtain ⟨x, hx⟩ : ∃ x, x = xs.getD j 0 := ⟨_, rfl⟩
      rw [← hx] at hcj hx1
      have hcj2 : ∀ o1, (w.alloc o1).cell? ⟨b, o + j, none⟩ = some (.int .u32 (x : Int)) := fun o1 => (World.cell?_alloc_lt w o1 ⟨b, o + j, none⟩ hb).trans hcj
      have HV := Lib.hid (show validB s xs = decide (x ≠ 0) by unfold validB; rw [if_neg (by omega), hl, Nat.add_sub_cancel, ← hx]; simp [hn])
      clear hx hl hcell hcj
      by_cases hx0 : x = 0
      · have t : ((x : Int) != 0) = false := by subst hx0; rfl
        have HV2 := Lib.hid (show decide (x ≠ 0) = false by simp [hx0])
        clear hx0
        go_enter Tryz.func31, Tryz.ntmps31
        go_wp2
        go_ret
        exact ⟨by rw [HV.out, HV2.out]; rfl, (Below.refl _ _).alloc (Nat.le_refl _) _⟩
      · have t : ((x : Int) != 0) = true := by rw [bne_iff_ne]; omega
        have HV2 := Lib.hid (show decide (x ≠ 0) = true by simp [hx0])
        clear hx0
        go_enter Tryz.func31, Tryz.ntmps31
        go_wp2
        go_ret
        exact ⟨by rw [HV.out, HV2.out]; rfl, (Below.refl _ _).alloc (Nat.le_refl _) _⟩
    · have HV := Lib.hid (show validB s xs = false by unfold validB; rw [if_neg (by omega), hl]; simp; omega)
      clear hl hcell
      go_enter Tryz.func31, Tryz.ntmps31
      go_wp2
      go_ret
      exact ⟨by rw [HV.out]; rfl, (Below.refl _ _).alloc (Nat.le_refl _) _⟩
/-- the numbers of a list in block g -/
structure Numbers (w : World) (g N : Nat) (s : Nat → Bool) (A : Nat → Option Addr) (n c : Nat → Nat) (xs : Nat → List Nat) : Prop where
  lt : g < w.heap.size
  c0 : ∀ i, i < N → w.cell? ⟨g, i * 2, none⟩ = some (.bool (s i))
  c1 : ∀ i, i < N → w.cell? ⟨g, i * 2 + 1, none⟩ = some (.slice (A i) (n i) (c i))
  rd : ∀ i, i < N → Rd w (A i) (n i) (xs i)
theorem Numbers.next {w w' : World} {g N : Nat} {s : Nat → Bool} {A : Nat → Option Addr} {n c : Nat → Nat} {xs : Nat → List Nat} (h : Numbers w g N s A n c xs) (hb : Below w.heap.size w w') : Numbers w' g N s A n c xs :=
  ⟨Nat.lt_of_lt_of_le h.lt hb.size, fun i hi => (hb.cell (p := ⟨g, i * 2, none⟩) h.lt).trans (h.c0 i hi), fun i hi => (hb.cell (p := ⟨g, i * 2 + 1, none⟩) h.lt).trans (h.c1 i hi), fun i hi => (h.rd i hi).below hb⟩
end Go.Proofs.YteabokkofoomkaaGreat
/- the order of terms, and whether a term is valid: both sides -/
set_option maxRecDepth 100000
namespace Go.Proofs.YteabokkofoomkaaGreat
open Go.RowKit Go.Deep
theorem cell_drq {w : World} {a : Addr} {v : Value} (h : w.cell? a = some v) : w.drew.cell? a = some v := h
abbrev aggT (s : Bool) (A : Option Addr) (n c : Nat) (B : Option Addr) (m d : Nat) : Value := .agg #[.bool s, .slice A n c, .slice B m d]
abbrev boxT (s : Bool) (A : Option Addr) (n c : Nat) (B : Option Addr) (m d : Nat) : Obj := .cells #[.bool s, .slice A n c, .slice B m d] 70
/-- the cells of a term's variable -/
structure BxT (W : World) (g : Nat) (s : Bool) (A : Option Addr) (n c : Nat) (B : Option Addr) (m d : Nat) : Prop where
  lt : g < W.heap.size
  c0 : W.cell? ⟨g, 0, none⟩ = some (.bool s)
  c1 : W.cell? ⟨g, 1, none⟩ = some (.slice A n c)
  c2 : W.cell? ⟨g, 2, none⟩ = some (.slice B m d)
theorem BxT.next {W W' : World} {g : Nat} {s : Bool} {A : Option Addr} {n c : Nat} {B : Option Addr} {m d : Nat} (h : BxT W g s A n c B m d) (hb : Below W.heap.size W W') : BxT W' g s A n c B m d :=
  ⟨Nat.lt_of_lt_of_le h.lt hb.size, (hb.cell (p := ⟨g, 0, none⟩) h.lt).trans h.c0, (hb.cell (p := ⟨g, 1, none⟩) h.lt).trans h.c1, (hb.cell (p := ⟨g, 2, none⟩) h.lt).trans h.c2⟩
theorem BxT.new (W : World) (s : Bool) (A : Option Addr) (n c : Nat) (B : Option Addr) (m d : Nat) : BxT (W.alloc (boxT s A n c B m d)) W.heap.size s A n c B m d :=
  ⟨by simp, by go_simp, by go_simp, by go_simp⟩
theorem ordT_lt {a b : List Int} (h : sumI a < sumI b) : ordT a b = -1 := if_pos h
theorem ordT_gt {a b : List Int} (h : sumI b < sumI a) : ordT a b = 1 := by unfold ordT; rw [if_neg (by omega), if_pos h]
theorem ordT_eq {a b : List Int} (h : sumI a = sumI b) : ordT a b = lexI a b := by unfold ordT; rw [if_neg (by omega), if_neg (by omega)]
set_option maxHeartbeats 2000000 in
theorem compareTerms_c (s : Bool) (A : Option Addr) (n c : Nat) (B : Option Addr) (m d : Nat) (s' : Bool) (A' : Option Addr) (n' c' : Nat) (B' : Option Addr) (d' : Nat) (ps qs : List Int) (w : World)
    (h : RdI w B m ps) (h' : RdI w B' m qs) (he : ExpsIn ps) (he' : ExpsIn qs) (hm : m ≤ 1000000) :
    Calls Tryz.prog 112 #[aggT s A n c B m d, aggT s' A' n' c' B' m d'] w fun e w' => e = .returned (.int .i64 (ordT ps qs)) ∧ Below w.heap.size w w' := by
  have k0 := bel_alloc w (boxT s A n c B m d)
  have k1 := bel_alloc (w.alloc (boxT s A n c B m d)) (boxT s' A' n' c' B' m d')
  have P := Lib.hid (k0.trans (k1.mono k0.size))
  have R1 := Lib.hid ((h.below k0).below k1)
  have R2 := Lib.hid ((h'.below k0).below k1)
  have X1 := Lib.hid ((BxT.new w s A n c B m d).next k1)
  have X2 := Lib.hid (BxT.new (w.alloc (boxT s A n c B m d)) s' A' n' c' B' m d')
  rw [World.size_alloc] at X2
  have HE := Lib.hid (And.intro he (And.intro he' hm))
  clear h h' he he' hm k0 k1
  go_enter Tryz.func112, Tryz.ntmps112
  go_upto_region 1 with (fail)
  generalize (w.alloc (boxT s A n c B m d)).alloc (boxT s' A' n' c' B' m d') = W0 at P R1 R2 X1 X2 ⊢
  obtain ⟨g, hg⟩ : ∃ g, g = w.heap.size := ⟨_, rfl⟩
  rw [← hg] at X1 X2 ⊢
  clear hg
  have GD1 := Lib.hid (fun W h => degree_c B m d ps W h HE.out.1 HE.out.2.2)
  have GD2 := Lib.hid (fun W h => degree_c B' m d' qs W h HE.out.2.1 HE.out.2.2)
  have HO := Lib.hid (show (sumI ps < sumI qs → ordT ps qs = -1) ∧ (sumI qs < sumI ps → ordT ps qs = 1) ∧ (sumI ps = sumI qs → ordT ps qs = lexI ps qs) from ⟨ordT_lt, ordT_gt, ordT_eq⟩)
  generalize sumI ps = sp at HO GD1
  generalize sumI qs = sq at HO GD2
  have HC := Lib.hid (cmpI_c sp sq)
  have HS := Lib.hid (show sgnI sp sq = if sp < sq then -1 else if sq < sp then 1 else 0 from rfl)
  generalize sgnI sp sq = sg at HC HS
  refine wp_region_held_drew (S := (fun w' => w'.cell? ⟨g, 2, none⟩ = some (.slice B m d) ∧ w'.cell? ⟨g + 1, 2, none⟩ = some (.slice B' m d'))) (by kernel_rfl) (⟨cell_drq X1.out.c2, cell_drq X2.out.c2⟩) (fun hHeld => ?_)
  replace P := Lib.hid (P.out.trans ((Below.refl W0.heap.size W0).drew.mono P.out.size))
  replace R1 := Lib.hid (R1.out.below (Below.refl W0.heap.size W0).drew)
  replace R2 := Lib.hid (R2.out.below (Below.refl W0.heap.size W0).drew)
  replace X1 := Lib.hid (X1.out.next (Below.refl W0.heap.size W0).drew)
  replace X2 := Lib.hid (X2.out.next (Below.refl W0.heap.size W0).drew)
  generalize W0.drew = D1 at P R1 R2 X1 X2 hHeld ⊢
  refine take_on (i := 0) (d := (some 6)) (v := ?v1) rfl rfl (by kernel_rfl) (by kernel_rfl) (by kernel_rfl) (fun c a w h => h) (by rfl) ?h1 (by assumption) ?r1
  case h1 => intro w hSw; obtain ⟨h0, h1⟩ := hSw; go_simp; rfl
  simp only [Act.put, List.setIfInBounds_toArray, List.set_cons_zero, List.set_cons_succ]
  refine take_on (i := 1) (d := (some 7)) (v := ?v2) rfl rfl (by kernel_rfl) (by kernel_rfl) (by kernel_rfl) (fun c a w h => h) (by rfl) ?h2 (by assumption) ?r2
  case h2 => intro w hSw; obtain ⟨h0, h1⟩ := hSw; go_simp; rfl
  simp only [Act.put, List.setIfInBounds_toArray, List.set_cons_zero, List.set_cons_succ]
  refine take_on (i := 3) (d := (some 9)) (v := ?v3) rfl rfl (by kernel_rfl) (by kernel_rfl) (by kernel_rfl) (fun c a w h => h) (by rfl) ?h3 (by assumption) ?r3
  case h3 => intro w hSw; obtain ⟨h0, h1⟩ := hSw; go_simp; rfl
  simp only [Act.put, List.setIfInBounds_toArray, List.set_cons_zero, List.set_cons_succ]
  refine take_on (i := 4) (d := (some 10)) (v := ?v4) rfl rfl (by kernel_rfl) (by kernel_rfl) (by kernel_rfl) (fun c a w h => h) (by rfl) ?h4 (by assumption) ?r4
  case h4 => intro w hSw; obtain ⟨h0, h1⟩ := hSw; go_simp; rfl
  simp only [Act.put, List.setIfInBounds_toArray, List.set_cons_zero, List.set_cons_succ]
  refine wpAnyH_ready (rs := [2]) (by kernel_rfl) (by simp) ?_
  refine AllReadyH.cons rfl (fun K hK => ?_) AllReadyH.nil
  go_simp
  refine (GD1.out D1 R1.out).mono ?_
  rintro e v2 ⟨rfl, hw⟩
  subst hw
  clear hHeld
  refine hK.out _ _ (⟨X1.out.c2, X2.out.c2⟩) (fun hHeld => ?_)
  clear hK K
  refine wpAnyH_ready (rs := [5]) (by kernel_rfl) (by simp) ?_
  refine AllReadyH.cons rfl (fun K hK => ?_) AllReadyH.nil
  go_simp
  refine (GD2.out v2 R2.out).mono ?_
  rintro e v3 ⟨rfl, hw⟩
  subst hw
  clear hHeld
  refine hK.out _ _ (⟨X1.out.c2, X2.out.c2⟩) (fun hHeld => ?_)
  clear hK K
  refine wpAnyH_ready (rs := [6]) (by kernel_rfl) (by simp) ?_
  refine AllReadyH.cons rfl (fun K hK => ?_) AllReadyH.nil
  go_simp
  refine (HC.out v3).mono ?_
  rintro e v4 ⟨rfl, hw⟩
  subst hw
  clear hHeld
  refine hK.out _ _ (⟨X1.out.c2, X2.out.c2⟩) (fun hHeld => ?_)
  clear hK K
  refine take_on (i := 7) (d := (some 5)) (v := ?v5) rfl rfl (by kernel_rfl) (by kernel_rfl) (by kernel_rfl) (fun c a w h => h) (by rfl) ?h5 (by assumption) ?r5
  case h5 => intro w hSw; obtain ⟨h0, h1⟩ := hSw; go_simp; rfl
  simp only [Act.put, List.setIfInBounds_toArray]
  clear hHeld
  refine wpAnyH_done (by kernel_rfl) ?_ _
  rcases Int.lt_trichotomy sp sq with q | q | q
  · have e := HS.out
    rw [if_pos q] at e
    subst e
    have HF := Lib.hid (HO.out.1 q)
    go_wp2
    go_ret
    exact ⟨by rw [HF.out] <;> rfl, P.out⟩
  · have e := HS.out
    rw [if_neg (by omega), if_neg (by omega)] at e
    subst e
    have HF := Lib.hid (HO.out.2.2 q)
    have a1 := X1.out.c2
    have a2 := X2.out.c2
    clear q
    go_wp2_with fail
    refine (cmpSlice_c B B' m d d' ps qs _ R1.out R2.out HE.out.2.2).mono ?_
    rintro e w1 ⟨rfl, hw⟩
    subst hw
    go_wp2
    go_ret
    exact ⟨by rw [HF.out] <;> rfl, P.out⟩
  · have e := HS.out
    rw [if_neg (by omega), if_pos q] at e
    subst e
    have HF := Lib.hid (HO.out.2.1 q)
    go_wp2
    go_ret
    exact ⟨by rw [HF.out] <;> rfl, P.out⟩
/-- what the reference's order holds at the head of its round -/
structure OrdS (ps qs : List Int) (k : Nat) (f s : Int) : Prop where
  z : k = 0 → f = sumI ps ∧ s = sumI qs
  p : 0 < k → f = ps.getD (k - 1) 0 ∧ s = qs.getD (k - 1) 0 ∧ sumI ps = sumI qs ∧ ∀ i, i < k - 1 → ps.getD i 0 = qs.getD i 0
theorem OrdS.next {ps qs : List Int} {k : Nat} {f s : Int} (h : OrdS ps qs k f s) (he : f = s) : OrdS ps qs (k + 1) (ps.getD k 0) (qs.getD k 0) := by
  refine ⟨fun h0 => by omega, fun _ => ⟨rfl, rfl, ?_, ?_⟩⟩
  · rcases Nat.eq_zero_or_pos k with h0 | h0
    · have := h.z h0; omega
    · exact (h.p h0).2.2.1
  · intro i hi
    have h0 : 0 < k := by omega
    have hp := h.p h0
    by_cases e : i = k - 1
    · subst e; omega
    · exact hp.2.2.2 i (by omega)
theorem OrdS.lt {ps qs : List Int} {m k : Nat} {f s : Int} (h : OrdS ps qs k f s) (l1 : ps.length = m) (l2 : qs.length = m) (hk : k ≤ m) (hl : f < s) : ordT ps qs = -1 := by
  rcases Nat.eq_zero_or_pos k with h0 | h0
  · have := h.z h0; exact ordT_lt (by omega)
  · have hp := h.p h0
    rw [ordT_eq hp.2.2.1]
    exact (lexI_at ps qs (k - 1) (by omega) (by omega) hp.2.2.2).1 (by omega)
theorem OrdS.gt {ps qs : List Int} {m k : Nat} {f s : Int} (h : OrdS ps qs k f s) (l1 : ps.length = m) (l2 : qs.length = m) (hk : k ≤ m) (hl : s < f) : ordT ps qs = 1 := by
  rcases Nat.eq_zero_or_pos k with h0 | h0
  · have := h.z h0; exact ordT_gt (by omega)
  · have hp := h.p h0
    rw [ordT_eq hp.2.2.1]
    exact (lexI_at ps qs (k - 1) (by omega) (by omega) hp.2.2.2).2 (by omega)
theorem OrdS.eq {ps qs : List Int} {m : Nat} {f s : Int} (h : OrdS ps qs m f s) (l1 : ps.length = m) (l2 : qs.length = m) (he : f = s) : ordT ps qs = 0 := by
  have hn := h.next he
  have hp := hn.p (by omega)
  rw [ordT_eq hp.2.2.1]
  exact lexI_self ps qs (by omega) fun i hi => hp.2.2.2 i (by omega)
set_option maxHeartbeats 4000000 in
theorem refOrder_c (B : Option Addr) (m d : Nat) (B' : Option Addr) (d' : Nat) (ps qs : List Int) (w : World) (h : RdI w B m ps) (h' : RdI w B' m qs) (he : ExpsIn ps) (he' : ExpsIn qs) (hm : m ≤ 1000000) :
    Calls Tryz.prog 104 #[.slice B m d, .slice B' m d'] w fun e w' => e = .returned (.int .i64 (ordT ps qs)) ∧ Below w.heap.size w w' := by
  have D1 := Lib.hid (refDegree_c B m d ps w h he hm)
  have D2 := Lib.hid (refDegree_c B' m d' qs w h' he' hm)
  have HA := Lib.hid h
  have HB := Lib.hid h'
  have HL := Lib.hid (And.intro h.len h'.len)
  have HM := Lib.hid hm
  have HZ := Lib.hid (show OrdS ps qs 0 (sumI ps) (sumI qs) from ⟨fun _ => ⟨rfl, rfl⟩, fun h0 => absurd h0 (by omega)⟩)
  clear h h' he he' hm
  generalize sumI ps = sp at D1 HZ
  generalize sumI qs = sq at D2 HZ
  go_enter Tryz.func104, Tryz.ntmps104
  go_wp2_with fail
  refine D1.out.mono ?_
  rintro e w1 ⟨rfl, hw⟩
  subst hw
  go_wp2_with fail
  refine D2.out.mono ?_
  rintro e w1 ⟨rfl, hw⟩
  subst hw
  clear D1 D2
  go_wp2
  go_loopw [5, 6, 7] (fun v5 v6 v7 wr => ∃ (k : Nat) (f s : Int), v5 = .int .i64 f ∧ v6 = .int .i64 s ∧ v7 = .int .i64 (k : Int) ∧ k ≤ m ∧ OrdS ps qs k f s ∧ Below w1.heap.size w1 wr) (fun _ _ v _ => m - (intOf v).toNat)
  case atStart => exact ⟨0, _, _, rfl, rfl, rfl, Nat.zero_le _, HZ.out, Below.refl _ _⟩
  case round =>
    obtain ⟨k, f, s, rfl, rfl, rfl, hk, hO, hp⟩ := hrel
    have hM := HM.out
    have P := Lib.hid hp
    have OS := Lib.hid hO
    replace HA := Lib.hid (HA.out.below hp)
    replace HB := Lib.hid (HB.out.below hp)
    clear hp hO HZ
    by_cases hkm : k < m
    · have t1 : decide ((k : Int) < (m : Int)) = true := decide_eq_true (by omega)
      have t1n : decide (k < m) = true := decide_eq_true hkm
      have hkI : (k : Int) < (m : Int) := by omega
      by_cases hfs : f = s
      · have t2 : (f == s) = true := by rw [hfs]; exact beq_self_eq_true _
        obtain ⟨b1, o1, hA, _, hc1⟩ := HA.out.at_ (by omega)
        obtain ⟨b2, o2, hB, _, hc2⟩ := HB.out.at_ (by omega)
        have c1 := hc1 k hkm
        have c2 := hc2 k hkm
        have HN := Lib.hid (OS.out.next hfs)
        obtain ⟨x, hx⟩ : ∃ x, x = ps.getD k 0 := ⟨_, rfl⟩
        obtain ⟨y, hy⟩ : ∃ y, y = qs.getD k 0 := ⟨_, rfl⟩
        rw [← hx] at c1 HN
        rw [← hy] at c2 HN
        subst hA hB
        clear hc1 hc2 hx hy hfs
        go_upto_region 5 with (fail)
        go_quiet (fail)
        have hb := below_drewN (Below.refl wr.heap.size wr) nq
        replace P := Lib.hid (P.out.trans (hb.mono P.out.size))
        clear c1 c2 hb
        generalize wr.drewN nq = W1 at P ⊢
        go_wp2
        go_roundw
        case measure => simp [intOf]; omega
        case rel => exact ⟨k + 1, x, y, rfl, rfl, by go_num, by omega, HN.out, P.out⟩
      · have t2 : (f == s) = false := by rw [beq_eq_false_iff_ne]; exact hfs
        by_cases hl : f < s
        · have t3 : decide (s < f) = false := decide_eq_false (by omega)
          have t4 : decide (f < s) = true := decide_eq_true hl
          have HF := Lib.hid (OS.out.lt HL.out.1 HL.out.2 hk hl)
          go_wp2
          go_ret
          exact ⟨by rw [HF.out] <;> rfl, P.out⟩
        · have t3 : decide (s < f) = true := decide_eq_true (by omega)
          have HF := Lib.hid (OS.out.gt HL.out.1 HL.out.2 hk (by omega))
          go_wp2
          go_ret
          exact ⟨by rw [HF.out] <;> rfl, P.out⟩
    · have t1 : decide ((k : Int) < (m : Int)) = false := decide_eq_false (by omega)
      have t1n : decide (k < m) = false := decide_eq_false hkm
      rcases Int.lt_trichotomy f s with q | q | q
      · have t3 : decide (s < f) = false := decide_eq_false (by omega)
        have t4 : decide (f < s) = true := decide_eq_true q
        have HF := Lib.hid (OS.out.lt HL.out.1 HL.out.2 hk q)
        go_wp2
        go_ret
        exact ⟨by rw [HF.out] <;> rfl, P.out⟩
      · have t3 : decide (s < f) = false := decide_eq_false (by omega)
        have t4 : decide (f < s) = false := decide_eq_false (by omega)
        obtain rfl : k = m := by omega
        have HF := Lib.hid (OS.out.eq HL.out.1 HL.out.2 q)
        go_wp2
        go_ret
        exact ⟨by rw [HF.out] <;> rfl, P.out⟩
      · have t3 : decide (s < f) = true := decide_eq_true q
        have HF := Lib.hid (OS.out.gt HL.out.1 HL.out.2 hk q)
        go_wp2
        go_ret
        exact ⟨by rw [HF.out] <;> rfl, P.out⟩
end Go.Proofs.YteabokkofoomkaaGreat
