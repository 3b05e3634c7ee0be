import Derived.Test.YtpgiifjngkekgaaRi
namespace Go.Proofs.Ytpgiifjngkekgaa
open Go.RowKit

theorem refAdd_c {w : World} {z z' : Int} {t u : Bool} {A A' : Option Addr} {n c n' c' : Nat} (h : Is w z t A n c) (h' : Is w z' u A' n' c') (hn : n ≤ 8796093022208) (hn' : n' ≤ 8796093022208) :
    Calls Try.prog 20 #[.agg #[.bool t, .slice A n c], .agg #[.bool u, .slice A' n' c']] w (NumI w (z + z')) := by
  by_cases e : t = u
  · subst e; exact refAdd_same h h' hn hn'
  · exact refAdd_diff h h' e hn hn'

set_option maxHeartbeats 1000000 in
set_option maxRecDepth 100000 in
theorem refSub_c {w : World} {z z' : Int} {t u : Bool} {A A' : Option Addr} {n c n' c' : Nat} (h : Is w z t A n c) (h' : Is w z' u A' n' c') (hn : n ≤ 8796093022208) (hn' : n' ≤ 8796093022208) :
    Calls Try.prog 21 #[.agg #[.bool t, .slice A n c], .agg #[.bool u, .slice A' n' c']] w (NumI w (z - z')) := by
  have HM := Lib.hid (show (words (-z').natAbs).length ≤ 8796093022208 by rw [Int.natAbs_neg, ← h'.2.1]; exact hn')
  have E := Env.start w t u A A' n c n' c'
  have HE := Lib.hid E
  have HI := Lib.hid (h.below E.below)
  have HJ := Lib.hid (h'.below E.below)
  clear E h h'
  have a0 := HE.out.a0
  have a1 := HE.out.a1
  have b0 := HE.out.b0
  have b1 := HE.out.b1
  go_enter Try.func21, Try.ntmps21
  go_wp2_with fail
  generalize ((w.alloc (.cells #[.bool t, .slice A n c] 24)).alloc (.cells #[.bool u, .slice A' n' c'] 24)).alloc (.cells #[.bool false, .slice none 0 0] 24) = W at HE HI HJ a0 a1 b0 b1 ⊢
  have E0 := Lib.hid (HE.out.next (Below.refl _ _).drew)
  have I0 := Lib.hid (HI.out.below (Below.refl _ _).drew)
  have J0 := Lib.hid (HJ.out.below (Below.refl _ _).drew)
  go_region_held3 (fun w' => w'.cell? ⟨w.heap.size, 0, none⟩ = some (.bool t) ∧ w'.cell? ⟨w.heap.size, 1, none⟩ = some (.slice A n c) ∧ w'.cell? ⟨w.heap.size + 1, 0, none⟩ = some (.bool u) ∧ w'.cell? ⟨w.heap.size + 1, 1, none⟩ = some (.slice A' n' c')) (first | exact ⟨a0, a1, b0, b1⟩ | exact ⟨cell_two (by omega) a0, cell_two (by omega) a1, cell_two (by omega) b0, cell_two (by omega) b1⟩)
    (first
      | (go_at_call 57
         refine (refNeg_c J0.out (by omega)).mono ?_
         rintro e w1 ⟨t1, B1, m1, d1, rfl, hi, hb⟩
         have E1 := Lib.hid (E0.out.next hb)
         have I1 := Lib.hid (I0.out.below hb)
         have a0 := E1.out.a0
         have a1 := E1.out.a1
         have b0 := E1.out.b0
         have b1 := E1.out.b1
         have N1 := Lib.hid hi
         have hm1 : m1 ≤ 8796093022208 := by rw [hi.2.1]; exact HM.out
         clear hi hb)
      | (go_at_call 20
         refine (refAdd_c I1.out N1.out hn hm1).mono ?_
         rintro e w2 ⟨t', B, m', d', rfl, hi, hb⟩
         have E2 := Lib.hid (E1.out.next hb)
         have a0 := E2.out.a0
         have a1 := E2.out.a1
         have b0 := E2.out.b0
         have b1 := E2.out.b1
         have HH := Lib.hid hi
         have r0 := E2.out.r0
         have r1 := E2.out.r1
         have f0 := E2.out.f0
         have f1 := E2.out.f1
         clear hb hi))
  rw [← Int.sub_eq_add_neg] at HH
  go_wp2
  refine bodyPost_ret (v := .agg #[.bool t', .slice B m' d']) (by simp [results, Try.results21, go_sem, r0, r1]) rfl ?_
  exact ⟨t', B, m', d', rfl, HH.out.store r0 r1 _ _, below_store E2.out.below (by omega) _ _⟩

set_option maxHeartbeats 1000000 in
set_option maxRecDepth 100000 in
theorem refMul_c {w : World} {z z' : Int} {t u : Bool} {A A' : Option Addr} {n c n' c' : Nat} (h : Is w z t A n c) (h' : Is w z' u A' n' c') (hn : n ≤ 8796093022208) (hn' : n' ≤ 8796093022208) :
    Calls Try.prog 22 #[.agg #[.bool t, .slice A n c], .agg #[.bool u, .slice A' n' c']] w (NumI w (z * z')) := by
  have hmk : ∀ w : World, (Instr.makeSlice 22 (.int .i64 ((n : Int) + n')) (.int .i64 ((n : Int) + n'))).run Try.prog w = .ok (.slice (some ⟨w.heap.size, 0, none⟩) (n + n') (n + n')) (w.alloc (row (List.replicate (n + n') 0))) := mk_words (n + n') (by omega)
  have E := Env.start w t u A A' n c n' c'
  have HE := Lib.hid E
  have HI := Lib.hid (h.below E.below)
  have HJ := Lib.hid (h'.below E.below)
  clear E h h'
  have a0 := HE.out.a0
  have a1 := HE.out.a1
  have b0 := HE.out.b0
  have b1 := HE.out.b1
  go_enter Try.func22, Try.ntmps22
  go_wp2
  have hsz : ((((w.alloc (.cells #[.bool t, .slice A n c] 24)).alloc (.cells #[.bool u, .slice A' n' c'] 24)).alloc (.cells #[.bool false, .slice none 0 0] 24))).heap.size = w.heap.size + 1 + 1 + 1 := by simp
  generalize ((w.alloc (.cells #[.bool t, .slice A n c] 24)).alloc (.cells #[.bool u, .slice A' n' c'] 24)).alloc (.cells #[.bool false, .slice none 0 0] 24) = W at HE HI HJ hsz ⊢
  clear a0 a1 b0 b1
  obtain ⟨xs, hxs⟩ : ∃ xs, xs = words z.natAbs := ⟨_, rfl⟩
  obtain ⟨ys, hys⟩ : ∃ ys, ys = words z'.natAbs := ⟨_, rfl⟩
  have ra := HI.out.2.2.1
  have rb := HJ.out.2.2.1
  rw [← hxs] at ra
  rw [← hys] at rb
  have HZ := Lib.hid (show sgn (t != u) (val ys * val xs) = z * z' by rw [Nat.mul_comm, sgn_mul, hxs, hys, HI.out.pos_sgn, HJ.out.pos_sgn])
  clear hxs hys
  have HX := Lib.hid ra.len
  have HY := Lib.hid rb.len
  have RA := Lib.hid ra
  have RB := Lib.hid rb
  have hsx := ra.sm
  have hsy := rb.sm
  have K0 := Bk.new0 W (n + n')
  rw [hsz] at K0
  have HK := Lib.hid K0
  have HB := Lib.hid (below_alloc W (row (List.replicate (n + n') 0)))
  clear ra rb K0 HI HJ
  generalize W.alloc (row (List.replicate (n + n') 0)) = V at HK HB ⊢
  go_loopw [6] (fun v wr => ∃ i : Nat, ∃ cs, v = .int .i64 i ∧ i ≤ n ∧ RowAt ys xs i 0 cs 0 ∧ Bk wr (w.heap.size + 1 + 1 + 1) cs ∧ Below W.heap.size W wr) (fun v _ => n - (intOf v).toNat)
  case atStart => exact ⟨0, _, rfl, Nat.zero_le _, RowAt.start ys xs, by rw [HX.out, HY.out, Nat.add_comm n' n]; exact HK.out, HB.out⟩
  case round =>
    obtain ⟨i, cs, rfl, hi, hR, hK, hG⟩ := hrel
    have EN := Lib.hid (HE.out.next hG)
    have a1 := EN.out.a1
    have b1 := EN.out.b1
    by_cases hin : i < n
    · have H0 := Lib.hid hR
      have H1 := Lib.hid hK
      have H2 := Lib.hid hG
      clear hR hK hG
      go_wp2
      obtain ⟨wo, hwo⟩ : ∃ wo : World, wo = wr := ⟨_, rfl⟩
      rw [← hwo]
      rw [← hwo] at H1 H2
      clear hwo a1 b1 EN
      go_loopw [7, 8] (fun cy v wr => ∃ j y' : Nat, ∃ cs', cy = .int .u64 y' ∧ v = .int .i64 j ∧ j ≤ n' ∧ y' < 4294967296 ∧ RowAt ys xs i j cs' y' ∧ Bk wr (w.heap.size + 1 + 1 + 1) cs' ∧ Below W.heap.size W wr) (fun _ v _ => n' - (intOf v).toNat)
      case atStart => exact ⟨0, 0, cs, rfl, rfl, Nat.zero_le _, by omega, H0.out, H1.out, H2.out⟩
      case round =>
        obtain ⟨j, y', cs', rfl, rfl, hj, hy', hR, hK, hG⟩ := hrel
        have EN := Lib.hid (HE.out.next hG)
        have a1 := EN.out.a1
        have b1 := EN.out.b1
        have hl : cs'.length = n' + n := by rw [hR.len, HX.out, HY.out]
        by_cases hjn : j < n'
        · obtain ⟨p1, q1, hAe, _, hca⟩ := (RA.out.below hG).of (by omega)
          obtain ⟨p2, q2, hBe, _, hcb⟩ := (RB.out.below hG).of (by omega)
          subst hAe hBe
          have hci := hca i hin
          have hcj := hcb j hjn
          have hcx := hK.cell (i + j) (by omega)
          have hfx := hK.frozen (i + j)
          have hx1 := small_get hsx i
          have hy1 := small_get hsy j
          have hr1 := small_get hK.1 (i + j)
          have hnx := hR.next hsy hsx (by rw [HY.out]; exact hjn) (by rw [HX.out]; exact hin)
          obtain ⟨x, hx2⟩ : ∃ x, x = xs.getD i 0 := ⟨_, rfl⟩
          obtain ⟨y, hy2⟩ : ∃ y, y = ys.getD j 0 := ⟨_, rfl⟩
          obtain ⟨r, hr2⟩ : ∃ r, r = cs'.getD (i + j) 0 := ⟨_, rfl⟩
          rw [← hx2] at hci hx1 hnx
          rw [← hy2] at hcj hy1 hnx
          rw [← hr2] at hcx hr1 hnx
          have hml := mul_word_le hx1 hy1
          have hmul : ((x : Int) * (y : Int)) = ((x * y : Nat) : Int) := by simp
          obtain ⟨P, hP⟩ : ∃ P, P = x * y := ⟨_, rfl⟩
          rw [← hP] at hml hmul hnx
          obtain ⟨T, hT⟩ : ∃ T, T = P + r + y' := ⟨_, rfl⟩
          rw [← hT] at hnx
          obtain ⟨D, hD⟩ : ∃ D, D = T / 4294967296 := ⟨_, rfl⟩
          obtain ⟨R, hR0⟩ : ∃ R, R = T % 4294967296 := ⟨_, rfl⟩
          rw [← hD, ← hR0] at hnx
          have hR2 : R < 4294967296 := by omega
          have hD2 : D < 4294967296 := by omega
          have hTB : T < 18446744073709551616 := by omega
          have hT2 : (y' : Int) + ((P : Int) + (r : Int)) = (T : Int) := by omega
          have hmask : bits .and .u64 (T : Int) 4294967295 = (R : Int) := by rw [u64_mask (by omega) (by omega)]; omega
          have hdv : (T : Int) / 4294967296 = (D : Int) := by omega
          have G1 := Lib.hid hnx
          have G2 := Lib.hid hK
          have G3 := Lib.hid hG
          clear hT hP hx2 hy2 hr2 hnx hca hcb hR hK hG hl hsx hsy hD hR0
          go_wp2
          go_quiet (fail)
          have K2 := G2.out.drewN nq
          have B2 := below_drewN G3.out nq
          have hlc := G1.out.len
          rw [List.length_set, HX.out, HY.out] at hlc
          have hcx := K2.cell (i + j) (by omega)
          have hfx := K2.frozen (i + j)
          have hbn := K2.set_ (i + j) R hR2
          have hgn := B2.setCell (p := ⟨w.heap.size + 1 + 1 + 1, i + j, none⟩) (Nat.le_of_eq hsz) (.int .u32 (R : Int))
          generalize wr.drewN nq = v2 at hcx hfx hbn hgn ⊢
          have G4 := Lib.hid hbn
          have G5 := Lib.hid hgn
          clear K2 B2 hbn hgn hlc G2 G3 a1 b1
          go_wp2
          go_roundw
          case measure => simp [intOf]; omega
          case rel => exact ⟨j + 1, D, _, by go_num, by go_num, by omega, hD2, G1.out, G4.out, G5.out⟩
        · obtain rfl : j = n' := by omega
          have hcx := hK.cell (i + j) (by omega)
          have hfx := hK.frozen (i + j)
          have hbn := hK.set_ (i + j) y' hy'
          have hgn := hG.setCell (p := ⟨w.heap.size + 1 + 1 + 1, i + j, none⟩) (Nat.le_of_eq hsz) (.int .u32 (y' : Int))
          have hrn := (show RowAt ys xs i ys.length cs' y' by rw [HY.out]; exact hR).row (by rw [HX.out]; exact hin)
          rw [HY.out] at hrn
          have G1 := Lib.hid hrn
          have G2 := Lib.hid hbn
          have G3 := Lib.hid hgn
          clear hrn hbn hgn hR hK hG hl hsx hsy
          go_wp2
          go_roundw
          case measure => simp [intOf]; omega
          case rel => exact ⟨i + 1, _, by go_num, by omega, G1.out, G2.out, G3.out⟩
    · have hd := hR.done (by rw [HX.out]; omega)
      have hl : cs.length = n + n' := by rw [hR.len, HX.out, HY.out, Nat.add_comm]
      have RK := Lib.hid (show Rd wr (some ⟨w.heap.size + 1 + 1 + 1, 0, none⟩) (n + n') cs by rw [← hl]; exact hK.rd)
      have HD := Lib.hid hd
      have a0 := EN.out.a0
      have b0 := EN.out.b0
      have E1 := EN
      clear hd hl hR hK hG hsx hsy
      go_wp2_with fail
      refine (Make_i (s := t != u) (xs := cs) RK.out (Nat.le_refl _) (by omega) (by omega)).mono ?_
      rintro e w2 ⟨t', B, m', d', rfl, hi2, hb⟩
      rw [HD.out, HZ.out] at hi2
      have E2 := Lib.hid (E1.out.next hb)
      have HH := Lib.hid hi2
      have r0 := E2.out.r0
      have r1 := E2.out.r1
      have f0 := E2.out.f0
      have f1 := E2.out.f1
      clear hb hi2 a0 a1 b0 b1
      go_wp2
      refine bodyPost_ret (v := .agg #[.bool t', .slice B m' d']) (by simp [results, Try.results22, go_sem, r0, r1]) rfl ?_
      exact ⟨t', B, m', d', rfl, HH.out.store r0 r1 _ _, below_store E2.out.below (by omega) _ _⟩
end Go.Proofs.Ytpgiifjngkekgaa
