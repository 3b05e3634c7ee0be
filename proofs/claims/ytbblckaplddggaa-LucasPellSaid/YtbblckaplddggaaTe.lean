import Derived.Test.YtbblckaplddggaaTd
import Derived.IntWalk
namespace Go.Proofs.Ytbblckaplddggaa
open Go.RowKit

theorem words_exact {v k : Nat} (h1 : v < pw (k + 1)) (h2 : pw k ≤ v) : (words v).length = k + 1 :=
  Nat.le_antisymm (words_len_le.2 h1) (words_len_lt.2 h2)
set_option maxHeartbeats 4000000 in
set_option maxRecDepth 100000 in
theorem divide_long (A B : Option Addr) (n c m d : Nat) (xs ys : List Nat) (w : World) (ha : Rd w A n xs) (hb : Rd w B (m + 2) ys) (cx : canon xs) (cy : canon ys) (hn : n ≤ 17592186044416) (hm : m ≤ 17592186044416) (hle : val ys ≤ val xs) :
    Calls Try.prog 79 #[.slice A n c, .slice B (m + 2) d] w (Out2 w (val xs / val ys) (val xs % val ys)) := by
  have hxl := ha.len
  have hyl := hb.len
  have hmn : m + 2 ≤ n := by
    rcases Nat.lt_or_ge n (m + 2) with h1 | h1
    · have := cmp_len cx.1 cy (by rw [hxl, hyl]; exact h1); omega
    · exact h1
  have CM := Lib.hid (fun w' hx hy => compare_c A B n c (m + 2) d xs ys w' hx hy cx cy (by omega) (by omega))
  have ho : 0 ≤ ord (val xs) (val ys) := by
    rcases Nat.lt_or_ge (val ys) (val xs) with h1 | h1
    · rw [ord_gt (by omega)]; omega
    · rw [ord_eq (by omega)]; exact Int.le_refl _
  obtain ⟨od, hod⟩ : ∃ od, od = ord (val xs) (val ys) := ⟨_, rfl⟩
  rw [← hod] at ho CM
  clear hod
  have hlast := canon_last cy (by omega)
  rw [hyl, show m + 2 - 1 = m + 1 from rfl] at hlast
  obtain ⟨b', o', rfl, hlb, hcy⟩ := hb.of (by omega)
  have hc1 := hcy (m + 1) (by omega)
  have hy1 := small_get cy.1 (m + 1)
  have hnd := norm_div cy.1 hyl (by omega)
  obtain ⟨hs1, hs2, hs3⟩ := norm_word (x := ys.getD (m + 1) 0) (by omega) hy1
  have LZ := Lib.hid (fun w => lz_c (ys.getD (m + 1) 0) w hy1)
  obtain ⟨s, hs⟩ : ∃ s, s = 32 - blen (ys.getD (m + 1) 0) := ⟨_, rfl⟩
  rw [← hs] at hnd hs1 LZ
  clear hs2 hs3 hs
  obtain ⟨y1, hy1d⟩ : ∃ y1, y1 = ys.getD (m + 1) 0 := ⟨_, rfl⟩
  rw [← hy1d] at hc1 hy1 LZ
  clear hy1d hcy hlast
  obtain ⟨V, hV⟩ : ∃ V, V = val ys * 2 ^ s := ⟨_, rfl⟩
  rw [← hV] at hnd
  have HVd := Lib.hid hV
  have hVl := words_exact (v := V) (k := m + 1) hnd.1 (by have := pw_succ (m + 1); rw [show m + 1 + 1 = m + 2 from rfl] at this; omega)
  have HVl := Lib.hid (show (words V).length = m + 2 from hVl)
  have HV2 := Lib.hid hnd
  have HA := Lib.hid ha
  have HB := Lib.hid hb
  have HXl := Lib.hid hxl
  have e1 : (m : Int) + 2 - 1 = (m : Int) + 1 := by omega
  have t1 : ((m : Int) + 2 == 1) = false := by rw [beq_eq_false_iff_ne]; omega
  obtain ⟨K, hK⟩ : ∃ K, K = n - (m + 2) := ⟨_, rfl⟩
  have HK := Lib.hid (show n = K + (m + 2) by omega)
  have eK : (n : Int) - ((m : Int) + 2) = (K : Int) := by omega
  have hK1 : K ≤ 17592186044416 := by omega
  clear hK
  have hmk1 := mk_words (n + 1) (by omega)
  rw [show ((n + 1 : Nat) : Int) = (n : Int) + 1 from rfl] at hmk1
  have hmk2 := mk_words (K + 1) (by omega)
  rw [show ((K + 1 : Nat) : Int) = (K : Int) + 1 from rfl] at hmk2
  clear hV hVl hnd hxl hyl ha hb
  go_enter Try.func79, Try.ntmps79
  go_wp2_with fail
  refine (CM.out w HA.out HB.out).mono ?_
  rintro e w1 ⟨rfl, k, rfl⟩
  have W1 := Lib.hid (below_drewN (Below.refl w.heap.size w) k)
  go_wp2_with fail
  refine (LZ.out _).mono ?_
  rintro e w1 ⟨rfl, rfl⟩
  go_wp2_with fail
  refine (shiftUp_c _ (m + 2) d s ys _ (HB.out.below W1.out) (by omega) (by omega)).mono ?_
  rw [← HVd.out]
  rintro e w2 ⟨D, dc, rfl, d1, d2, d3, d4, -⟩
  rw [HVl.out] at d1 d2 ⊢
  have W2 := Lib.hid (W1.out.trans (d4.mono W1.out.size))
  have D1 := Lib.hid d1
  clear d1 d4 hc1
  go_wp2_with fail
  have W3 := Lib.hid (W2.out.trans (((Below.refl w2.heap.size w2).alloc (Nat.le_refl _) (row (List.replicate (n + 1) 0))).mono W2.out.size))
  refine (shiftUp_c A n c s xs _ (HA.out.below W3.out) (by omega) (by omega)).mono ?_
  rintro e w3 ⟨S, sc, rfl, s1, s2, s3, s4, -⟩
  have W4 := Lib.hid (W3.out.trans (s4.mono W3.out.size))
  obtain ⟨X, hX⟩ : ∃ X, X = val xs * 2 ^ s := ⟨_, rfl⟩
  rw [← hX] at s1 s2 ⊢
  have HXd := Lib.hid hX
  have hXlt : 2 * X < pw (n + 1) := by
    have h1 := val_lt cx.1
    rw [HXl.out] at h1
    have h2 := two_le hs1
    have h3 : val xs * 2 ^ s ≤ val xs * 2147483648 := Nat.mul_le_mul_left _ h2
    rw [pw_succ, hX]
    omega
  have hSl : (words X).length ≤ n + 1 := words_len_le.2 (by omega)
  have BR := Lib.hid ((Bk.new0 w2 (n + 1)).below s4 (by simp))
  have DR := Lib.hid ((D1.out.alloc (row (List.replicate (n + 1) 0))).below s4)
  have hOff : Off D w2.heap.size := fun a ha e => by
    have := D1.out.blk (by omega) a ha
    omega
  have hDblk := Lib.hid (fun a (ha : D = some a) => D1.out.blk (by omega) a ha)
  have hgR : w.heap.size ≤ w2.heap.size := W2.out.size
  have hz23 := Lib.hid s4.size
  have HO := Lib.hid hOff
  obtain ⟨gR, hgRd⟩ : ∃ gR, gR = w2.heap.size := ⟨_, rfl⟩
  rw [← hgRd] at BR HO hgR ⊢
  have S1 := Lib.hid s1
  have V0 := Lib.hid (show val (splice (List.replicate (n + 1) 0) 0 (words X)) = X by
    have := val_splice (L := List.replicate (n + 1) 0) (cs := words X) (o := 0) (by simp; exact hSl)
    rw [val_zeros, val_replicate, pw_zero, val_words] at this
    omega)
  have V1 := Lib.hid (show (splice (List.replicate (n + 1) 0) 0 (words X)).length = n + 1 by rw [splice_len (by simp; exact hSl)]; simp)
  have HXlt := Lib.hid hXlt
  clear hX hXlt s1 s4 hOff hgRd W3
  clear hmk1
  go_wp2_with (with_reducible refine wpList_copy_words rfl (.tmp 48) (.tmp 51) rfl _ _ _ _ _ _ rfl rfl gR 0 _ (words X) BR.out S1.out rfl hSl (by simp; exact hSl) ?_; intro w4 b4 g4)
  obtain ⟨R0, hR0⟩ : ∃ R0, R0 = splice (List.replicate (n + 1) 0) 0 (words X) := ⟨_, rfl⟩
  rw [← hR0] at V0 V1 b4
  have hgR4 : gR < w3.heap.size := BR.out.lt
  have W5 := Lib.hid (W4.out.trans (below_of_grown g4 W4.out.size hgR))
  have hgz := g4.size
  have DR4 := Lib.hid ((DR.out.grown g4 (fun _ => HO.out)).alloc (row (List.replicate (K + 1) 0)))
  have BR4 := Lib.hid (b4.alloc (row (List.replicate (K + 1) 0)))
  have BQ4 := Lib.hid (Bk.new0 w4 (K + 1))
  have W6 := Lib.hid (W5.out.alloc W5.out.size (row (List.replicate (K + 1) 0)))
  have hne : gR ≠ w4.heap.size := by omega
  have HO2 := Lib.hid (show Off D w4.heap.size from fun a ha e => by
    have h1 := hDblk.out a ha
    have h2 := hz23.out
    rw [World.size_alloc] at h2
    omega)
  have hgQ : w.heap.size ≤ w4.heap.size := W5.out.size
  have hq0 := Lib.hid (show QuoAt X V (n + 1) (K + 1) R0 (List.replicate (K + 1) 0) from
    ⟨V1.out, b4.1, fun x hx => by have := List.eq_of_mem_replicate hx; omega, by
      rw [V0.out]
      have h1 := HXlt.out
      have h2 := HV2.out.2
      have h3 : pw (n + 1) = pw (K + 1) * pw (m + 2) := by rw [← pw_add]; congr 1; have := HK.out; omega
      have h4 : pw (K + 1) * pw (m + 2) ≤ pw (K + 1) * (2 * V) := Nat.mul_le_mul_left _ h2
      have h5 : pw (K + 1) * (2 * V) = 2 * (pw (K + 1) * V) := Nat.mul_left_comm _ _ _
      omega, by rw [val_replicate, Nat.mul_zero, Nat.add_zero]; exact V0.out, fun j _ => getD_replicate _ _⟩)
  have hVpos := Lib.hid (show 0 < V by
    have := HV2.out.2
    have := pw_pos (m + 2)
    omega)
  have hVtop := Lib.hid (show 0 < (words V).getD (m + 1) 0 by
    have := canon_last (words_canon V) (by rw [HVl.out]; omega)
    rw [HVl.out] at this
    exact Nat.pos_of_ne_zero this)
  clear hR0 b4 g4 BR DR S1 hmk2 hgz t1 e1 eK
  obtain ⟨gQ, hgQd⟩ : ∃ gQ, gQ = w4.heap.size := ⟨_, rfl⟩
  rw [← hgQd] at BQ4 hne hgQ HO2 ⊢
  clear hgQd
  generalize w4.alloc (row (List.replicate (K + 1) 0)) = W at DR4 BR4 BQ4 W6 ⊢
  go_loopw [12] (fun v wr => ∃ i : Nat, ∃ R Q, v = .int .i64 ((i : Int) - 1) ∧ i ≤ K + 1 ∧ QuoAt X V (n + 1) i R Q ∧ Q.length = K + 1 ∧ Bk wr gR R ∧ Bk wr gQ Q ∧ Rd wr D (m + 2) (words V) ∧ Below w.heap.size w wr) (fun v _ => (intOf v + 1).toNat)
  case atStart => exact ⟨K + 1, R0, _, by go_num, Nat.le_refl _, hq0.out, by simp, BR4.out, BQ4.out, DR4.out, W6.out⟩
  case round =>
    obtain ⟨i, R, Q, rfl, hi, hq, hQl, hbR, hbQ, hD, hW⟩ := hrel
    clear hq0 DR4 BR4 BQ4 W6
    rcases Nat.eq_zero_or_pos i with hi0 | hi0
    · subst hi0
      obtain ⟨f1, f2⟩ := hq.done hVpos.out
      obtain ⟨u1, u2⟩ := quo_shift (val xs) (val ys) s
      rw [HXd.out, HVd.out, u1] at f1
      have f3 : val R / 2 ^ s = val xs % val ys := by rw [f2, HXd.out, HVd.out, u2]
      have F1 := Lib.hid f1
      have F3 := Lib.hid f3
      have hRl := hq.rl
      have HRd := Lib.hid hbR.rd
      rw [hRl] at HRd
      have HQd := Lib.hid hbQ.rd
      rw [hQl] at HQd
      have HQ := Lib.hid hbQ
      have HQl := Lib.hid hQl
      have HWr := Lib.hid hW
      clear f1 f2 f3 u1 u2 hbR hbQ hD hW hq hQl hRl
      go_wp2_with fail
      refine (trim_c _ (K + 1) (K + 1) Q wr HQd.out (Nat.le_refl _) (by omega)).mono ?_
      intro e w5 h5
      obtain ⟨k5, hk5⟩ : ∃ k5, w5 = wr.drewN k5 := by
        obtain ⟨_, _, _, k5, hk5⟩ := h5
        exact ⟨k5, hk5⟩
      obtain ⟨A5, c5, rfl, r1, r2, r3, r4, -⟩ := out_of_trim (w := w) HQ.out hgQ F1.out HWr.out (by rw [HQl.out]; omega) h5
      have HR5 := Lib.hid (show Rd w5 (some ⟨gR, 0, none⟩) (n + 1) R by rw [hk5]; exact HRd.out.drewN k5)
      have R1 := Lib.hid r1
      have R4 := Lib.hid r4
      clear h5 hk5 r1 r4
      go_wp2_with fail
      refine (trim_q _ (n + 1) (n + 1) R w5 HR5.out (Nat.le_refl _) (by omega)).mono ?_
      rintro e w6 ⟨rfl, k6, rfl⟩
      have T6 := Lib.hid (HR5.out.trim.drewN k6)
      have hTl := Lib.hid (show (words (val R)).length ≤ n + 1 by
        have := HR5.out.len
        rw [← this]; exact (take_words HR5.out.sm).2)
      have R6 := Lib.hid (R1.out.drewN k6)
      go_wp2_with fail
      refine (shiftDown_c _ _ _ s (words (val R)) _ T6.out (by have := hTl.out; omega) (by omega)).mono ?_
      rw [val_words, F3.out]
      rintro e w7 ⟨A7, c7, rfl, z1, z2, z3, z4, -⟩
      have R7 := Lib.hid (R6.out.below z4)
      have Z1 := Lib.hid z1
      have W7 := Lib.hid ((below_drewN R4.out k6).trans (z4.mono (below_drewN R4.out k6).size))
      clear z1 z4
      go_wp2
      go_ret2
      exact ⟨A5, c5, A7, c7, rfl, R7.out, r2, r3, Z1.out, z2, z3, W7.out⟩
    · obtain ⟨j, rfl⟩ : ∃ j, i = j + 1 := ⟨i - 1, by omega⟩
      obtain ⟨g1, g2⟩ := hq.digit (m := m) (by have := HK.out; omega) HV2.out.1
      have hd : val ((R.drop j).take (m + 3)) / V < 4294967296 := Nat.div_lt_of_lt_mul (by rw [Nat.mul_comm]; exact g1)
      have HN := Lib.hid (fun cs (hc : cs.length = m + 3) (hcs : small cs) (hv : val cs = val ((R.drop j).take (m + 3)) % V) => hq.next (by have := HK.out; omega) HV2.out.1 hVpos.out (by omega) hc hcs hv hd)
      have once := fun c2 => divideOnce_c gR j m c2 R D dc (words V) wr hbR (by rw [hq.rl]; have := HK.out; omega) hD HO.out hm hVtop.out (by rw [val_words]; exact g1)
      rw [val_words] at once
      have HOnce := Lib.hid once
      have hjn : j + (m + 3) ≤ n + 1 := by have := HK.out; omega
      have hfq := hbQ.frozen j
      have HQ := Lib.hid hbQ
      have HD := Lib.hid hD
      have HW := Lib.hid hW
      have HQl := Lib.hid hQl
      have Hd := Lib.hid hd
      clear g1 g2 hq hbR hbQ hD hW once hQl hd
      go_wp2_with fail
      rw [show j + (m + 2) + 1 - j = m + 3 by omega]
      refine (HOnce.out _).mono ?_
      rintro e w5 ⟨rfl, og, cs, o1, o2, o3, o4⟩
      obtain ⟨q, hqd⟩ : ∃ q, q = val ((R.drop j).take (m + 3)) / V := ⟨_, rfl⟩
      have hnext := HN.out cs o1 o2 o3
      rw [← hqd] at hnext Hd ⊢
      have hbq := (HQ.out.grown og (Ne.symm hne)).set_ j q Hd.out
      have hcq := (HQ.out.grown og (Ne.symm hne)).cell j (by have := HQl.out; omega)
      have hfq2 := (HQ.out.grown og (Ne.symm hne)).frozen j
      have hW5 := (HW.out.trans (below_of_grown og HW.out.size hgR)).setCell (p := ⟨gQ, j, none⟩) hgQ (.int .u32 (q : Int))
      have hD5 := (HD.out.grown og (fun _ => HO.out))
      have hbr := o4.far (p := ⟨gQ, j, none⟩) hne (.int .u32 (q : Int))
      have hrl := hnext.rl
      have hD6 : Rd (w5.setCell ⟨gQ, j, none⟩ (.int .u32 (q : Int))) D (m + 2) (words V) :=
        hD5.keep (by simp) (fun a ha hn => Below.heap_setCell w5 ⟨gQ, j, none⟩ _ a.block (HO2.out a ha))
      have N1 := Lib.hid hnext
      have N2 := Lib.hid hbq
      have N3 := Lib.hid hW5
      have N4 := Lib.hid hbr
      have N5 := Lib.hid hD6
      clear hqd hnext hbq hW5 hD5 hbr hD6 og o4 HN HOnce HQ HD HW hrl
      go_wp2
      go_roundw
      case measure => simp [intOf]
      case rel => exact ⟨j, _, _, rfl, by omega, N1.out, by rw [List.length_set]; exact HQl.out, N4.out, N2.out, N5.out, N3.out⟩
end Go.Proofs.Ytbblckaplddggaa
