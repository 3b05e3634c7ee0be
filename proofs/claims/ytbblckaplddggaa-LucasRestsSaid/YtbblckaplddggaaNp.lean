import Derived.Test.YtbblckaplddggaaNl
set_option maxRecDepth 100000
namespace Go.Proofs.Ytbblckaplddggaa
open Go.RowKit Go.Shelf
set_option maxHeartbeats 1000000 in
theorem IsZero_c (s : Bool) (A : Option Addr) (n c : Nat) (w : World) : Calls Try.prog 72 #[.agg #[.bool s, .slice A n c]] w (IsB (decide (n = 0)) w) := by
  by_cases h : n = 0
  · subst h
    go_enter Try.func72, Try.ntmps72
    go_wp2
    go_ret
    exact ⟨rfl, below_alloc _ _⟩
  · have H := Lib.hid (show decide (n = 0) = false from decide_eq_false h)
    have t0 : ((n : Int) == 0) = false := by rw [beq_eq_false_iff_ne]; omega
    clear h
    go_enter Try.func72, Try.ntmps72
    go_wp2
    go_ret
    exact ⟨by rw [H.out]; rfl, below_alloc _ _⟩
set_option maxHeartbeats 2000000 in
theorem Copy_pos {w : World} {z : Int} {t : Bool} {A : Option Addr} {n c : Nat} (h : Iv w z t A n c) (hn : ¬ n = 0) :
    Calls Try.prog 57 #[.agg #[.bool t, .slice A n c]] w (NumV w z) := by
  have E := Lib.hid (Ar.start h.is)
  have HI := Lib.hid h
  have HL := Lib.hid h.is.2.2.1.len
  have hn4 : n ≤ 4096 := by rw [h.is.2.1]; exact words_len_le.2 h.sz
  have hmk := mk_words n (by omega)
  have HD := Lib.hid (show decide (n = 0) = false from decide_eq_false hn)
  clear h hn
  go_enter Try.func57, Try.ntmps57
  go_wp2_with fail
  generalize (w.alloc (.cells #[.bool t, .slice A n c] 24)).alloc (.cells #[.bool false, .slice none 0 0] 24) = W0 at E ⊢
  refine (IsZero_c t A n c W0).mono ?_
  rintro e w1 ⟨rfl, hb⟩
  rw [HD.out]
  replace E := Lib.hid (E.out.next hb)
  clear hb
  have a0 := E.out.bx.c0
  have a1 := E.out.bx.c1
  have hlt := E.out.bx.lt
  have hvl : w.heap.size + 1 < w1.heap.size := E.out.vb.lt
  go_upto_region 3 with (fail)
  go_region
  · have HK : Hid (Bk (((w1.alloc (row (List.replicate n 0))).alloc (.cells #[.bool t, .slice (some ⟨w1.heap.size, 0, none⟩) n n] 24)).drew) (w1.heap.size) (List.replicate n 0)) := (((Bk.new0 w1 n).alloc _).drewN 1)
    have hb1 : Below w1.heap.size w1 (((w1.alloc (row (List.replicate n 0))).alloc (.cells #[.bool t, .slice (some ⟨w1.heap.size, 0, none⟩) n n] 24)).drew) := (((Below.refl _ _).alloc (Nat.le_refl _) _).alloc (by simp) _).drew
    have v0 : (((w1.alloc (row (List.replicate n 0))).alloc (.cells #[.bool t, .slice (some ⟨w1.heap.size, 0, none⟩) n n] 24)).drew).cell? ⟨w1.heap.size + 1, 0, none⟩ = some (.bool t) := by go_simp
    have v1 : (((w1.alloc (row (List.replicate n 0))).alloc (.cells #[.bool t, .slice (some ⟨w1.heap.size, 0, none⟩) n n] 24)).drew).cell? ⟨w1.heap.size + 1, 1, none⟩ = some (.slice (some ⟨w1.heap.size, 0, none⟩) n n) := by go_simp
    have hps : w1.heap.size + 1 < (((w1.alloc (row (List.replicate n 0))).alloc (.cells #[.bool t, .slice (some ⟨w1.heap.size, 0, none⟩) n n] 24)).drew).heap.size := by first | (simp; done) | (simp; omega)
    have HR := Lib.hid ((E.out.next hb1).bx.is.2.2.1)
    replace E := Lib.hid (E.out.next hb1)
    clear a0 a1 hb1 hmk
    have a0 := E.out.bx.c0
    have a1 := E.out.bx.c1
    go_upto_region 4 with (fail)
    generalize ((w1.alloc (row (List.replicate n 0))).alloc (.cells #[.bool t, .slice (some ⟨w1.heap.size, 0, none⟩) n n] 24)).drew = W2 at HK HR E v0 v1 hps a0 a1 ⊢
    go_wp2_with (with_reducible refine wpList_copy_words rfl (.tmp 17) (.tmp 19) rfl _ _ _ _ _ _ rfl rfl (w1.heap.size) 0 _ (words z.natAbs) HK.out HR.out rfl (Nat.le_refl _) (by simp) ?_; intro w2 hb hg; have HB := Lib.hid hb; have HG := Lib.hid hg; have x0 := (World.cell?_of_block (w := W2) (a := ⟨w1.heap.size + 1, 0, none⟩) (hg.block (w1.heap.size + 1) hps (fun e => by injection e with e; omega))).trans v0; have x1 := (World.cell?_of_block (w := W2) (a := ⟨w1.heap.size + 1, 1, none⟩) (hg.block (w1.heap.size + 1) hps (fun e => by injection e with e; omega))).trans v1; have VR := Lib.hid (Vb.mk (w := w) E.out.vb.ge (Nat.lt_of_lt_of_le E.out.vb.lt hg.size) ((World.cell?_of_block (w := W2) (a := ⟨w.heap.size + 1, 0, none⟩) (hg.block (w.heap.size + 1) E.out.vb.lt (fun e => by injection e with e; omega))).trans E.out.vb.c0) ((World.cell?_of_block (w := W2) (a := ⟨w.heap.size + 1, 1, none⟩) (hg.block (w.heap.size + 1) E.out.vb.lt (fun e => by injection e with e; omega))).trans E.out.vb.c1) (by have := hg.block (w.heap.size + 1) E.out.vb.lt (fun e => by injection e with e; omega); have := E.out.vb.f0; simp_all [World.frozen?]) (by have := hg.block (w.heap.size + 1) E.out.vb.lt (fun e => by injection e with e; omega); have := E.out.vb.f1; simp_all [World.frozen?])); have r0 := VR.out.c0; have r1 := VR.out.c1; have f0 := VR.out.f0; have f1 := VR.out.f1; clear hb hg)
    refine bodyPost_ret (v := .agg #[.bool t, .slice (some ⟨w1.heap.size, 0, none⟩) n n]) (by simp [results, Try.results57, go_sem, r0, r1]) rfl ?_
    have hk := HB.out
    rw [splice_all (by rw [HL.out]; simp)] at hk
    have hrd := hk.rd
    rw [HL.out] at hrd
    have hi : Is _ z t (some ⟨w1.heap.size, 0, none⟩) n n := ⟨HI.out.is.1, HI.out.is.2.1, hrd, Nat.le_refl _, by omega⟩
    exact ⟨t, _, n, n, rfl, ⟨hi.store r0 r1 _ _, HI.out.sz⟩, below_store (E.out.below.trans (below_of_grown HG.out E.out.below.size (by omega))) (by omega) _ _⟩
  · have HK : Hid (Bk (((w1.alloc (.cells #[.bool t, .slice (some ⟨w1.heap.size + 1, 0, none⟩) n n] 24)).alloc (row (List.replicate n 0))).drew) (w1.heap.size + 1) (List.replicate n 0)) := (by have := (Bk.new0 (w1.alloc (.cells #[.bool t, .slice (some ⟨w1.heap.size + 1, 0, none⟩) n n] 24)) n).drewN 1; rw [World.size_alloc] at this; exact this)
    have hb1 : Below w1.heap.size w1 (((w1.alloc (.cells #[.bool t, .slice (some ⟨w1.heap.size + 1, 0, none⟩) n n] 24)).alloc (row (List.replicate n 0))).drew) := (((Below.refl _ _).alloc (Nat.le_refl _) _).alloc (by simp) _).drew
    have v0 : (((w1.alloc (.cells #[.bool t, .slice (some ⟨w1.heap.size + 1, 0, none⟩) n n] 24)).alloc (row (List.replicate n 0))).drew).cell? ⟨w1.heap.size, 0, none⟩ = some (.bool t) := by go_simp
    have v1 : (((w1.alloc (.cells #[.bool t, .slice (some ⟨w1.heap.size + 1, 0, none⟩) n n] 24)).alloc (row (List.replicate n 0))).drew).cell? ⟨w1.heap.size, 1, none⟩ = some (.slice (some ⟨w1.heap.size + 1, 0, none⟩) n n) := by go_simp
    have hps : w1.heap.size < (((w1.alloc (.cells #[.bool t, .slice (some ⟨w1.heap.size + 1, 0, none⟩) n n] 24)).alloc (row (List.replicate n 0))).drew).heap.size := by first | (simp; done) | (simp; omega)
    have HR := Lib.hid ((E.out.next hb1).bx.is.2.2.1)
    replace E := Lib.hid (E.out.next hb1)
    clear a0 a1 hb1 hmk
    have a0 := E.out.bx.c0
    have a1 := E.out.bx.c1
    go_upto_region 4 with (fail)
    generalize ((w1.alloc (.cells #[.bool t, .slice (some ⟨w1.heap.size + 1, 0, none⟩) n n] 24)).alloc (row (List.replicate n 0))).drew = W2 at HK HR E v0 v1 hps a0 a1 ⊢
    go_wp2_with (with_reducible refine wpList_copy_words rfl (.tmp 17) (.tmp 19) rfl _ _ _ _ _ _ rfl rfl (w1.heap.size + 1) 0 _ (words z.natAbs) HK.out HR.out rfl (Nat.le_refl _) (by simp) ?_; intro w2 hb hg; have HB := Lib.hid hb; have HG := Lib.hid hg; have x0 := (World.cell?_of_block (w := W2) (a := ⟨w1.heap.size, 0, none⟩) (hg.block (w1.heap.size) hps (fun e => by injection e with e; omega))).trans v0; have x1 := (World.cell?_of_block (w := W2) (a := ⟨w1.heap.size, 1, none⟩) (hg.block (w1.heap.size) hps (fun e => by injection e with e; omega))).trans v1; have VR := Lib.hid (Vb.mk (w := w) E.out.vb.ge (Nat.lt_of_lt_of_le E.out.vb.lt hg.size) ((World.cell?_of_block (w := W2) (a := ⟨w.heap.size + 1, 0, none⟩) (hg.block (w.heap.size + 1) E.out.vb.lt (fun e => by injection e with e; omega))).trans E.out.vb.c0) ((World.cell?_of_block (w := W2) (a := ⟨w.heap.size + 1, 1, none⟩) (hg.block (w.heap.size + 1) E.out.vb.lt (fun e => by injection e with e; omega))).trans E.out.vb.c1) (by have := hg.block (w.heap.size + 1) E.out.vb.lt (fun e => by injection e with e; omega); have := E.out.vb.f0; simp_all [World.frozen?]) (by have := hg.block (w.heap.size + 1) E.out.vb.lt (fun e => by injection e with e; omega); have := E.out.vb.f1; simp_all [World.frozen?])); have r0 := VR.out.c0; have r1 := VR.out.c1; have f0 := VR.out.f0; have f1 := VR.out.f1; clear hb hg)
    refine bodyPost_ret (v := .agg #[.bool t, .slice (some ⟨w1.heap.size + 1, 0, none⟩) n n]) (by simp [results, Try.results57, go_sem, r0, r1]) rfl ?_
    have hk := HB.out
    rw [splice_all (by rw [HL.out]; simp)] at hk
    have hrd := hk.rd
    rw [HL.out] at hrd
    have hi : Is _ z t (some ⟨w1.heap.size + 1, 0, none⟩) n n := ⟨HI.out.is.1, HI.out.is.2.1, hrd, Nat.le_refl _, by omega⟩
    exact ⟨t, _, n, n, rfl, ⟨hi.store r0 r1 _ _, HI.out.sz⟩, below_store (E.out.below.trans (below_of_grown HG.out E.out.below.size (by omega))) (by omega) _ _⟩
set_option maxHeartbeats 1000000 in
theorem Copy_zero {w : World} {z : Int} {t : Bool} {A : Option Addr} {n c : Nat} (h : Iv w z t A n c) (hn : n = 0) :
    Calls Try.prog 57 #[.agg #[.bool t, .slice A n c]] w (NumV w z) := by
  have hz : z = 0 := by have := h.is.2.1; rw [hn] at this; have := words_nil.1 (List.eq_nil_of_length_eq_zero this.symm); omega
  have ht : t = false := by rw [h.is.1, hz]; rfl
  have E := Lib.hid (Ar.start h.is)
  have HD := Lib.hid (show decide (n = 0) = true from decide_eq_true hn)
  have HZ := Lib.hid hz
  subst ht
  clear h hn hz
  go_enter Try.func57, Try.ntmps57
  go_wp2_with fail
  generalize (w.alloc (.cells #[.bool false, .slice A n c] 24)).alloc (.cells #[.bool false, .slice none 0 0] 24) = W0 at E ⊢
  refine (IsZero_c false A n c W0).mono ?_
  rintro e w1 ⟨rfl, hb⟩
  rw [HD.out]
  replace E := Lib.hid (E.out.next hb)
  clear hb
  have a0 := E.out.bx.c0
  have a1 := E.out.bx.c1
  have r0 := E.out.vb.c0
  have r1 := E.out.vb.c1
  have f0 := E.out.vb.f0
  have f1 := E.out.vb.f1
  go_wp2
  refine bodyPost_ret (v := .agg #[.bool false, .slice none 0 0]) (by simp [results, Try.results57, go_sem, r0, r1]) rfl ?_
  have hi : Is w1 z false none 0 0 := ⟨by rw [HZ.out]; rfl, by rw [HZ.out]; exact words_zero ▸ rfl, by rw [HZ.out]; exact words_zero ▸ Rd.nil _, Nat.le_refl _, by omega⟩
  exact ⟨false, none, 0, 0, rfl, ⟨hi.store r0 r1 _ _, by rw [HZ.out]; exact sz_zero⟩, below_store E.out.below (by omega) _ _⟩
theorem Copy_c {w : World} {z : Int} {t : Bool} {A : Option Addr} {n c : Nat} (h : Iv w z t A n c) : Calls Try.prog 57 #[.agg #[.bool t, .slice A n c]] w (NumV w z) := by
  by_cases hn : n = 0
  · exact Copy_zero h hn
  · exact Copy_pos h hn
end Go.Proofs.Ytbblckaplddggaa
set_option maxRecDepth 100000
namespace Go.Proofs.Ytbblckaplddggaa
open Go.RowKit Go.Shelf
set_option maxHeartbeats 4000000 in
theorem Chi_zero {w : World} {a : Int} {t : Bool} {A : Option Addr} {n c : Nat} (h : Iv w a t A n c) (ha : 2 ≤ a)  :
    Calls Try.prog 17 #[.agg #[.bool t, .slice A n c], .int .i64 0] w (Num w (chi a 0)) := by
  have E := Lib.hid (Ar.start h.is)
  have HSz := Lib.hid h.sz
  have HA := Lib.hid ha
  have HP := Lib.hid (show chi a 0 = 1 from rfl)
  rw [HP.out]
  clear h ha HP
  go_enter Try.func17, Try.ntmps17
  go_wp2_with fail
  generalize (w.alloc (.cells #[.bool t, .slice A n c] 24)).alloc (.cells #[.bool false, .slice none 0 0] 24) = W0 at E ⊢
  refine (check_ok (Is.iv_of E.out.bx.is HSz.out) _ (oth_nil _) 0 (.inl ⟨HA.out, rfl⟩)).mono ?_
  rintro e w1 ⟨rfl, hb⟩
  replace E := Lib.hid (E.out.next hb)
  clear hb
  have a0 := E.out.bx.c0
  have a1 := E.out.bx.c1
  go_wp2_with fail
  refine (OfV 1 _ (by omega) (by omega)).mono ?_
  rintro e w2 ⟨t2, A2, n2, c2, rfl, i2, hb⟩
  replace E := Lib.hid (E.out.next hb)
  have I2 := Lib.hid i2
  clear hb i2 a0 a1
  have r0 := E.out.vb.c0
  have r1 := E.out.vb.c1
  have f0 := E.out.vb.f0
  have f1 := E.out.vb.f1
  go_wp2
  refine bodyPost_ret (v := .tuple #[.agg #[.bool t2, .slice A2 n2 c2], .int .i64 0]) (by simp [results, Try.results17, go_sem, r0, r1]) rfl ?_
  exact ⟨t2, A2, n2, c2, 0, rfl, (Is.nums I2.out.is (by rw [I2.out.is.2.1]; exact words_len_le.2 I2.out.sz)).vb E.out.vb _ _, below_store E.out.below (by omega) _ _⟩
set_option maxHeartbeats 4000000 in
theorem Chi_one {w : World} {a : Int} {t : Bool} {A : Option Addr} {n c : Nat} (h : Iv w a t A n c) (ha : 2 ≤ a)  :
    Calls Try.prog 17 #[.agg #[.bool t, .slice A n c], .int .i64 1] w (Num w (chi a 1)) := by
  have E := Lib.hid (Ar.start h.is)
  have HSz := Lib.hid h.sz
  have HA := Lib.hid ha
  have HP := Lib.hid (show chi a 1 = a from rfl)
  rw [HP.out]
  clear h ha HP
  go_enter Try.func17, Try.ntmps17
  go_wp2_with fail
  generalize (w.alloc (.cells #[.bool t, .slice A n c] 24)).alloc (.cells #[.bool false, .slice none 0 0] 24) = W0 at E ⊢
  refine (check_ok (Is.iv_of E.out.bx.is HSz.out) _ (oth_nil _) 0 (.inl ⟨HA.out, rfl⟩)).mono ?_
  rintro e w1 ⟨rfl, hb⟩
  replace E := Lib.hid (E.out.next hb)
  clear hb
  have a0 := E.out.bx.c0
  have a1 := E.out.bx.c1
  go_wp2_with fail
  refine (Copy_c (Is.iv_of E.out.bx.is HSz.out)).mono ?_
  rintro e w2 ⟨t2, A2, n2, c2, rfl, i2, hb⟩
  replace E := Lib.hid (E.out.next hb)
  have I2 := Lib.hid i2
  clear hb i2 a0 a1
  have r0 := E.out.vb.c0
  have r1 := E.out.vb.c1
  have f0 := E.out.vb.f0
  have f1 := E.out.vb.f1
  go_wp2
  refine bodyPost_ret (v := .tuple #[.agg #[.bool t2, .slice A2 n2 c2], .int .i64 0]) (by simp [results, Try.results17, go_sem, r0, r1]) rfl ?_
  exact ⟨t2, A2, n2, c2, 0, rfl, (Is.nums I2.out.is (by rw [I2.out.is.2.1]; exact words_len_le.2 I2.out.sz)).vb E.out.vb _ _, below_store E.out.below (by omega) _ _⟩
set_option maxHeartbeats 4000000 in
theorem Chi_even {w : World} {a : Int} {t : Bool} {A : Option Addr} {n c : Nat} (h : Iv w a t A n c) (ha : 2 ≤ a) (N : Nat) (hN : N < 9223372036854775808) (hs : 2 ≤ N) (hp : N % 2 = 0) :
    Calls Try.prog 17 #[.agg #[.bool t, .slice A n c], .int .i64 (N : Int)] w (Num w (chi a N)) := by
  have E := Lib.hid (Ar.start h.is)
  have HSz := Lib.hid h.sz
  have HA := Lib.hid ha
  have HN := Lib.hid hN
  obtain ⟨m, hm⟩ : ∃ m, m = N / 2 := ⟨_, rfl⟩
  have hm1 : 1 ≤ m := by omega
  have e2 : 2 * m = N := by omega
  have hpc := psi_le_chi ha (Nat.le_of_eq e2)
  have hcn := chi_ge ha N
  have hps := psi_two_le ha (2 * m) (by omega)
  have hcm := chi_ge ha m
  have HT := Lib.hid (show (a + a).natAbs ≤ (chi a N).natAbs by omega)
  have HQ := Lib.hid (sq_exact ha (m := m) (n := 2 * m) (T := (chi a N).natAbs) hm1 (Nat.le_refl _) (by omega))
  have HO := Lib.hid (show id (psi a (m + 1) - a * psi a m) = chi a m from (chi_of a m).symm)
  have hap := a_psi_le ha m
  have hap0 := Int.mul_nonneg (show 0 ≤ a by omega) (psi_nn ha m)
  have Q1 := Lib.hid (show (a * psi a m).natAbs ≤ (chi a N).natAbs by omega)
  have hc2 := chi_le_psi ha hm1
  have Q2 := Lib.hid (show (psi a (m + 1) - a * psi a m).natAbs ≤ (chi a N).natAbs by rw [← chi_of]; omega)
  have hsq := chi_sq_le ha m
  have hsq0 := Int.mul_le_mul_of_nonneg_right hcm (show 0 ≤ chi a m by omega)
  rw [e2] at hsq
  have Q5 := Lib.hid (show (chi a m * chi a m).natAbs ≤ (chi a N).natAbs by omega)
  have Q6 := Lib.hid (show (chi a m * chi a m - 1).natAbs ≤ (chi a N).natAbs by omega)
  have hv := chi_even a m
  rw [e2] at hv
  have Q7 := Lib.hid (show (chi a m * chi a m + (chi a m * chi a m - 1)).natAbs ≤ (chi a N).natAbs by rw [← hv]; exact Nat.le_refl _)
  have HV := Lib.hid hv
  have HM := Lib.hid hm
  have HP := Lib.hid hp
  have t0 : ((N : Int) == 0) = false := by rw [beq_eq_false_iff_ne]; omega
  have t1 : ((N : Int) == 1) = false := by rw [beq_eq_false_iff_ne]; omega
  obtain ⟨K, hK⟩ : ∃ K : Int, K = (N : Int) := ⟨_, rfl⟩
  rw [← hK]
  rw [← hK] at t0 t1
  have hK0 : 0 ≤ K := by omega
  have HKN := Lib.hid hK
  clear h ha hN hs hp hm hm1 e2 hpc hcn hps hcm hap hap0 hc2 hsq hsq0 hv hK
  go_enter Try.func17, Try.ntmps17
  go_wp2_with fail
  generalize (w.alloc (.cells #[.bool t, .slice A n c] 24)).alloc (.cells #[.bool false, .slice none 0 0] 24) = W0 at E ⊢
  refine (check_ok (Is.iv_of E.out.bx.is HSz.out) _ (oth_nil _) 0 (.inl ⟨HA.out, rfl⟩)).mono ?_
  rintro e w1 ⟨rfl, hb⟩
  replace E := Lib.hid (E.out.next hb)
  clear hb
  have a0 := E.out.bx.c0
  have a1 := E.out.bx.c1
  go_wp2_with fail
  refine (exact_c _ a t A n c w1 (Is.iv_of E.out.bx.is HSz.out) HT.out).mono ?_
  rintro e w3 ⟨b, tt, At, nt, ct, k, rfl, hb1, hb2, hm⟩
  have HB := Lib.hid hb1
  have HX := Lib.hid hb2
  have HM2 := Lib.hid hm
  clear hb1 hb2 hm a0 a1
  go_wp2_with fail
  rw [HKN.out]
  rw [HM.out] at HQ HO Q1 Q2 Q5 Q6 Q7 HV
  refine (chi_e HM2.out N HN.out HP.out (psi a) HQ.out (chi a (N / 2)) HO.out Q1.out Q2.out Q5.out Q6.out Q7.out).mono ?_
  rintro e w4 ⟨t4, B4, m4, d4, k4, rfl, s4, ms4, z4, v4⟩
  have HS4 := Lib.hid (Stp.fresh HX.out HB.out s4)
  rw [← HV.out] at v4
  have HV4 := Lib.hid v4
  have HC4 := Lib.hid ms4.cc
  have HK4 := Lib.hid ms4.st
  clear s4 ms4 z4 v4
  go_wp2_with fail
  refine (result_c _ k4 _ t4 B4 m4 d4 w4 HC4.out HV4.out).mono ?_
  rintro e w5 ⟨hb5, h1, h2⟩
  replace E := Lib.hid (E.out.next (HS4.out.trans (hb5.mono HS4.out.size)))
  have r0 := E.out.vb.c0
  have r1 := E.out.vb.c1
  have f0 := E.out.vb.f0
  have f1 := E.out.vb.f1
  by_cases hk : k4 = 0
  · obtain ⟨t6, B6, m6, d6, rfl, i6⟩ := h1 hk
    have H6 := Lib.hid i6
    clear h1 h2 hk hb5 i6 HX HB HS4 HV4 HC4 HK4
    go_wp2
    refine bodyPost_ret (v := .tuple #[.agg #[.bool t6, .slice B6 m6 d6], .int .i64 0]) (by simp [results, Try.results17, go_sem, r0, r1]) rfl ?_
    exact ⟨t6, B6, m6, d6, 0, rfl, (Is.nums H6.out.is (by rw [H6.out.is.2.1]; exact words_len_le.2 H6.out.sz)).vb E.out.vb _ _, below_store E.out.below (by omega) _ _⟩
  · obtain rfl := h2 hk
    have H6 : Hid (k4 = 4 ∧ pw 4096 ≤ _) := (HK4.out).resolve_left hk
    obtain ⟨rfl, h7⟩ := H6
    have H7 := Lib.hid (not_fits h7)
    clear h1 h2 hk hb5 HX HB HS4 HV4 HC4 HK4 h7
    go_wp2
    refine bodyPost_ret (v := .tuple #[.agg #[.bool false, .slice none 0 0], .int .i64 4]) (by simp [results, Try.results17, go_sem, r0, r1]) rfl ?_
    exact ⟨false, none, 0, 0, 4, rfl, (NumIs.bad H7.out).vb E.out.vb _ _, below_store E.out.below (by omega) _ _⟩
set_option maxHeartbeats 4000000 in
theorem Chi_odd {w : World} {a : Int} {t : Bool} {A : Option Addr} {n c : Nat} (h : Iv w a t A n c) (ha : 2 ≤ a) (N : Nat) (hN : N < 9223372036854775808) (hs : 2 ≤ N) (hp : N % 2 = 1) :
    Calls Try.prog 17 #[.agg #[.bool t, .slice A n c], .int .i64 (N : Int)] w (Num w (chi a N)) := by
  have E := Lib.hid (Ar.start h.is)
  have HSz := Lib.hid h.sz
  have HA := Lib.hid ha
  have HN := Lib.hid hN
  obtain ⟨m, hm⟩ : ∃ m, m = N / 2 := ⟨_, rfl⟩
  have hm1 : 1 ≤ m := by omega
  have e2 : 2 * m + 1 = N := by omega
  have hpc := psi_le_chi ha (show 2 * m ≤ N by omega)
  have hcn := chi_ge ha N
  have hps := psi_two_le ha (2 * m) (by omega)
  have hcm := chi_ge ha m
  have HT := Lib.hid (show (a + a).natAbs ≤ (chi a N).natAbs by omega)
  have HQ := Lib.hid (sq_exact ha (m := m) (n := 2 * m) (T := (chi a N).natAbs) hm1 (Nat.le_refl _) (by omega))
  have HO := Lib.hid (show id (psi a (m + 1) - a * psi a m) = chi a m from (chi_of a m).symm)
  have hap := a_psi_le ha m
  have hap0 := Int.mul_nonneg (show 0 ≤ a by omega) (psi_nn ha m)
  have Q1 := Lib.hid (show (a * psi a m).natAbs ≤ (chi a N).natAbs by omega)
  have hc2 := chi_le_psi ha hm1
  have Q2 := Lib.hid (show (psi a (m + 1) - a * psi a m).natAbs ≤ (chi a N).natAbs by rw [← chi_of]; omega)
  have hq3 := a_psi_succ_le ha hm1
  rw [e2] at hq3
  have hq30 := Int.mul_nonneg (show 0 ≤ a by omega) (psi_nn ha (m + 1))
  have Q3 := Lib.hid (show (a * psi a (m + 1)).natAbs ≤ (chi a N).natAbs by omega)
  have hcs := chi_le ha (show m + 1 ≤ N by omega)
  have hcs0 := chi_ge ha (m + 1)
  have Q4 := Lib.hid (show (a * psi a (m + 1) - psi a m).natAbs ≤ (chi a N).natAbs by rw [← chi_next]; omega)
  have hpr := chi_pr_le ha hm1
  rw [e2] at hpr
  have Q5 := Lib.hid (show (chi a m * (a * psi a (m + 1) - psi a m)).natAbs ≤ (chi a N).natAbs by rw [← chi_next]; omega)
  have Q6 := Lib.hid (show (chi a m * (a * psi a (m + 1) - psi a m) - a).natAbs ≤ (chi a N).natAbs by rw [← chi_next]; omega)
  have hv := chi_odd a m
  rw [e2, chi_next] at hv
  have Q7 := Lib.hid (show (chi a m * (a * psi a (m + 1) - psi a m) + (chi a m * (a * psi a (m + 1) - psi a m) - a)).natAbs ≤ (chi a N).natAbs by rw [← hv]; exact Nat.le_refl _)
  have HV := Lib.hid hv
  have HM := Lib.hid hm
  have HP := Lib.hid hp
  have t0 : ((N : Int) == 0) = false := by rw [beq_eq_false_iff_ne]; omega
  have t1 : ((N : Int) == 1) = false := by rw [beq_eq_false_iff_ne]; omega
  obtain ⟨K, hK⟩ : ∃ K : Int, K = (N : Int) := ⟨_, rfl⟩
  rw [← hK]
  rw [← hK] at t0 t1
  have hK0 : 0 ≤ K := by omega
  have HKN := Lib.hid hK
  clear h ha hN hs hp hm hm1 e2 hpc hcn hps hcm hap hap0 hc2 hv hK hq3 hq30 hcs hcs0 hpr
  go_enter Try.func17, Try.ntmps17
  go_wp2_with fail
  generalize (w.alloc (.cells #[.bool t, .slice A n c] 24)).alloc (.cells #[.bool false, .slice none 0 0] 24) = W0 at E ⊢
  refine (check_ok (Is.iv_of E.out.bx.is HSz.out) _ (oth_nil _) 0 (.inl ⟨HA.out, rfl⟩)).mono ?_
  rintro e w1 ⟨rfl, hb⟩
  replace E := Lib.hid (E.out.next hb)
  clear hb
  have a0 := E.out.bx.c0
  have a1 := E.out.bx.c1
  go_wp2_with fail
  refine (exact_c _ a t A n c w1 (Is.iv_of E.out.bx.is HSz.out) HT.out).mono ?_
  rintro e w3 ⟨b, tt, At, nt, ct, k, rfl, hb1, hb2, hm⟩
  have HB := Lib.hid hb1
  have HX := Lib.hid hb2
  have HM2 := Lib.hid hm
  clear hb1 hb2 hm a0 a1
  go_wp2_with fail
  rw [HKN.out]
  rw [HM.out] at HQ HO Q1 Q2 Q3 Q4 Q5 Q6 Q7 HV
  refine (chi_o HM2.out N HN.out HP.out (psi a) HQ.out (chi a (N / 2)) HO.out Q1.out Q2.out Q3.out Q4.out Q5.out Q6.out Q7.out).mono ?_
  rintro e w4 ⟨t4, B4, m4, d4, k4, rfl, s4, ms4, z4, v4⟩
  have HS4 := Lib.hid (Stp.fresh HX.out HB.out s4)
  rw [← HV.out] at v4
  have HV4 := Lib.hid v4
  have HC4 := Lib.hid ms4.cc
  have HK4 := Lib.hid ms4.st
  clear s4 ms4 z4 v4
  go_wp2_with fail
  refine (result_c _ k4 _ t4 B4 m4 d4 w4 HC4.out HV4.out).mono ?_
  rintro e w5 ⟨hb5, h1, h2⟩
  replace E := Lib.hid (E.out.next (HS4.out.trans (hb5.mono HS4.out.size)))
  have r0 := E.out.vb.c0
  have r1 := E.out.vb.c1
  have f0 := E.out.vb.f0
  have f1 := E.out.vb.f1
  by_cases hk : k4 = 0
  · obtain ⟨t6, B6, m6, d6, rfl, i6⟩ := h1 hk
    have H6 := Lib.hid i6
    clear h1 h2 hk hb5 i6 HX HB HS4 HV4 HC4 HK4
    go_wp2
    refine bodyPost_ret (v := .tuple #[.agg #[.bool t6, .slice B6 m6 d6], .int .i64 0]) (by simp [results, Try.results17, go_sem, r0, r1]) rfl ?_
    exact ⟨t6, B6, m6, d6, 0, rfl, (Is.nums H6.out.is (by rw [H6.out.is.2.1]; exact words_len_le.2 H6.out.sz)).vb E.out.vb _ _, below_store E.out.below (by omega) _ _⟩
  · obtain rfl := h2 hk
    have H6 : Hid (k4 = 4 ∧ pw 4096 ≤ _) := (HK4.out).resolve_left hk
    obtain ⟨rfl, h7⟩ := H6
    have H7 := Lib.hid (not_fits h7)
    clear h1 h2 hk hb5 HX HB HS4 HV4 HC4 HK4 h7
    go_wp2
    refine bodyPost_ret (v := .tuple #[.agg #[.bool false, .slice none 0 0], .int .i64 4]) (by simp [results, Try.results17, go_sem, r0, r1]) rfl ?_
    exact ⟨false, none, 0, 0, 4, rfl, (NumIs.bad H7.out).vb E.out.vb _ _, below_store E.out.below (by omega) _ _⟩
theorem Chi_ok {w : World} {a : Int} {t : Bool} {A : Option Addr} {n c : Nat} (h : Iv w a t A n c) (ha : 2 ≤ a) (N : Nat) (hN : N < 9223372036854775808) :
    Calls Try.prog 17 #[.agg #[.bool t, .slice A n c], .int .i64 (N : Int)] w (Num w (chi a N)) := by
  by_cases h0 : N = 0
  · subst h0; exact Chi_zero h ha
  · by_cases h1 : N = 1
    · subst h1; exact Chi_one h ha
    · by_cases hp : N % 2 = 0
      · exact Chi_even h ha N hN (by omega) hp
      · exact Chi_odd h ha N hN (by omega) (by omega)
end Go.Proofs.Ytbblckaplddggaa
