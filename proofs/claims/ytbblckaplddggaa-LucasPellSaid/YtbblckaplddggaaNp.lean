import Derived.Test.YtbblckaplddggaaNo
set_option maxRecDepth 100000
namespace Go.Proofs.Ytbblckaplddggaa
open Go.RowKit Go.Shelf
set_option maxHeartbeats 1000000 in
theorem IsZero_c (s : Bool) (A : Option Addr) (n c : Nat) (w : World) : Calls Try.prog 72 #[.agg #[.bool s, .slice A n c]] w (IsB (decide (n = 0)) w) := by
  by_cases h : n = 0
  · subst h
    go_enter Try.func72, Try.ntmps72
    go_wp2
    go_ret
    exact ⟨rfl, below_alloc _ _⟩
  · have H := Lib.hid (show decide (n = 0) = false from decide_eq_false h)
    have t0 : ((n : Int) == 0) = false := by rw [beq_eq_false_iff_ne]; omega
    clear h
    go_enter Try.func72, Try.ntmps72
    go_wp2
    go_ret
    exact ⟨by rw [H.out]; rfl, below_alloc _ _⟩
set_option maxHeartbeats 2000000 in
theorem Copy_pos {w : World} {z : Int} {t : Bool} {A : Option Addr} {n c : Nat} (h : Iv w z t A n c) (hn : ¬ n = 0) :
    Calls Try.prog 57 #[.agg #[.bool t, .slice A n c]] w (NumV w z) := by
  have E := Lib.hid (Ar.start h.is)
  have HI := Lib.hid h
  have HL := Lib.hid h.is.2.2.1.len
  have hn4 : n ≤ 4096 := by rw [h.is.2.1]; exact words_len_le.2 h.sz
  have hmk := mk_words n (by omega)
  have HD := Lib.hid (show decide (n = 0) = false from decide_eq_false hn)
  clear h hn
  go_enter Try.func57, Try.ntmps57
  go_wp2_with fail
  generalize (w.alloc (.cells #[.bool t, .slice A n c] 24)).alloc (.cells #[.bool false, .slice none 0 0] 24) = W0 at E ⊢
  refine (IsZero_c t A n c W0).mono ?_
  rintro e w1 ⟨rfl, hb⟩
  rw [HD.out]
  replace E := Lib.hid (E.out.next hb)
  clear hb
  have a0 := E.out.bx.c0
  have a1 := E.out.bx.c1
  have hlt := E.out.bx.lt
  have hvl : w.heap.size + 1 < w1.heap.size := E.out.vb.lt
  go_upto_region 3 with (fail)
  go_region
  · have HK : Hid (Bk (((w1.alloc (row (List.replicate n 0))).alloc (.cells #[.bool t, .slice (some ⟨w1.heap.size, 0, none⟩) n n] 24)).drew) (w1.heap.size) (List.replicate n 0)) := (((Bk.new0 w1 n).alloc _).drewN 1)
    have hb1 : Below w1.heap.size w1 (((w1.alloc (row (List.replicate n 0))).alloc (.cells #[.bool t, .slice (some ⟨w1.heap.size, 0, none⟩) n n] 24)).drew) := (((Below.refl _ _).alloc (Nat.le_refl _) _).alloc (by simp) _).drew
    have v0 : (((w1.alloc (row (List.replicate n 0))).alloc (.cells #[.bool t, .slice (some ⟨w1.heap.size, 0, none⟩) n n] 24)).drew).cell? ⟨w1.heap.size + 1, 0, none⟩ = some (.bool t) := by go_simp
    have v1 : (((w1.alloc (row (List.replicate n 0))).alloc (.cells #[.bool t, .slice (some ⟨w1.heap.size, 0, none⟩) n n] 24)).drew).cell? ⟨w1.heap.size + 1, 1, none⟩ = some (.slice (some ⟨w1.heap.size, 0, none⟩) n n) := by go_simp
    have hps : w1.heap.size + 1 < (((w1.alloc (row (List.replicate n 0))).alloc (.cells #[.bool t, .slice (some ⟨w1.heap.size, 0, none⟩) n n] 24)).drew).heap.size := by first | (simp; done) | (simp; omega)
    have HR := Lib.hid ((E.out.next hb1).bx.is.2.2.1)
    replace E := Lib.hid (E.out.next hb1)
    clear a0 a1 hb1 hmk
    have a0 := E.out.bx.c0
    have a1 := E.out.bx.c1
    go_upto_region 4 with (fail)
    generalize ((w1.alloc (row (List.replicate n 0))).alloc (.cells #[.bool t, .slice (some ⟨w1.heap.size, 0, none⟩) n n] 24)).drew = W2 at HK HR E v0 v1 hps a0 a1 ⊢
    go_wp2_with (with_reducible refine wpList_copy_words rfl (.tmp 17) (.tmp 19) rfl _ _ _ _ _ _ rfl rfl (w1.heap.size) 0 _ (words z.natAbs) HK.out HR.out rfl (Nat.le_refl _) (by simp) ?_; intro w2 hb hg; have HB := Lib.hid hb; have HG := Lib.hid hg; have x0 := (World.cell?_of_block (w := W2) (a := ⟨w1.heap.size + 1, 0, none⟩) (hg.block (w1.heap.size + 1) hps (fun e => by injection e with e; omega))).trans v0; have x1 := (World.cell?_of_block (w := W2) (a := ⟨w1.heap.size + 1, 1, none⟩) (hg.block (w1.heap.size + 1) hps (fun e => by injection e with e; omega))).trans v1; have VR := Lib.hid (Vb.mk (w := w) E.out.vb.ge (Nat.lt_of_lt_of_le E.out.vb.lt hg.size) ((World.cell?_of_block (w := W2) (a := ⟨w.heap.size + 1, 0, none⟩) (hg.block (w.heap.size + 1) E.out.vb.lt (fun e => by injection e with e; omega))).trans E.out.vb.c0) ((World.cell?_of_block (w := W2) (a := ⟨w.heap.size + 1, 1, none⟩) (hg.block (w.heap.size + 1) E.out.vb.lt (fun e => by injection e with e; omega))).trans E.out.vb.c1) (by have := hg.block (w.heap.size + 1) E.out.vb.lt (fun e => by injection e with e; omega); have := E.out.vb.f0; simp_all [World.frozen?]) (by have := hg.block (w.heap.size + 1) E.out.vb.lt (fun e => by injection e with e; omega); have := E.out.vb.f1; simp_all [World.frozen?])); have r0 := VR.out.c0; have r1 := VR.out.c1; have f0 := VR.out.f0; have f1 := VR.out.f1; clear hb hg)
    refine bodyPost_ret (v := .agg #[.bool t, .slice (some ⟨w1.heap.size, 0, none⟩) n n]) (by simp [results, Try.results57, go_sem, r0, r1]) rfl ?_
    have hk := HB.out
    rw [splice_all (by rw [HL.out]; simp)] at hk
    have hrd := hk.rd
    rw [HL.out] at hrd
    have hi : Is _ z t (some ⟨w1.heap.size, 0, none⟩) n n := ⟨HI.out.is.1, HI.out.is.2.1, hrd, Nat.le_refl _, by omega⟩
    exact ⟨t, _, n, n, rfl, ⟨hi.store r0 r1 _ _, HI.out.sz⟩, below_store (E.out.below.trans (below_of_grown HG.out E.out.below.size (by omega))) (by omega) _ _⟩
  · have HK : Hid (Bk (((w1.alloc (.cells #[.bool t, .slice (some ⟨w1.heap.size + 1, 0, none⟩) n n] 24)).alloc (row (List.replicate n 0))).drew) (w1.heap.size + 1) (List.replicate n 0)) := (by have := (Bk.new0 (w1.alloc (.cells #[.bool t, .slice (some ⟨w1.heap.size + 1, 0, none⟩) n n] 24)) n).drewN 1; rw [World.size_alloc] at this; exact this)
    have hb1 : Below w1.heap.size w1 (((w1.alloc (.cells #[.bool t, .slice (some ⟨w1.heap.size + 1, 0, none⟩) n n] 24)).alloc (row (List.replicate n 0))).drew) := (((Below.refl _ _).alloc (Nat.le_refl _) _).alloc (by simp) _).drew
    have v0 : (((w1.alloc (.cells #[.bool t, .slice (some ⟨w1.heap.size + 1, 0, none⟩) n n] 24)).alloc (row (List.replicate n 0))).drew).cell? ⟨w1.heap.size, 0, none⟩ = some (.bool t) := by go_simp
    have v1 : (((w1.alloc (.cells #[.bool t, .slice (some ⟨w1.heap.size + 1, 0, none⟩) n n] 24)).alloc (row (List.replicate n 0))).drew).cell? ⟨w1.heap.size, 1, none⟩ = some (.slice (some ⟨w1.heap.size + 1, 0, none⟩) n n) := by go_simp
    have hps : w1.heap.size < (((w1.alloc (.cells #[.bool t, .slice (some ⟨w1.heap.size + 1, 0, none⟩) n n] 24)).alloc (row (List.replicate n 0))).drew).heap.size := by first | (simp; done) | (simp; omega)
    have HR := Lib.hid ((E.out.next hb1).bx.is.2.2.1)
    replace E := Lib.hid (E.out.next hb1)
    clear a0 a1 hb1 hmk
    have a0 := E.out.bx.c0
    have a1 := E.out.bx.c1
    go_upto_region 4 with (fail)
    generalize ((w1.alloc (.cells #[.bool t, .slice (some ⟨w1.heap.size + 1, 0, none⟩) n n] 24)).alloc (row (List.replicate n 0))).drew = W2 at HK HR E v0 v1 hps a0 a1 ⊢
    go_wp2_with (with_reducible refine wpList_copy_words rfl (.tmp 17) (.tmp 19) rfl _ _ _ _ _ _ rfl rfl (w1.heap.size + 1) 0 _ (words z.natAbs) HK.out HR.out rfl (Nat.le_refl _) (by simp) ?_; intro w2 hb hg; have HB := Lib.hid hb; have HG := Lib.hid hg; have x0 := (World.cell?_of_block (w := W2) (a := ⟨w1.heap.size, 0, none⟩) (hg.block (w1.heap.size) hps (fun e => by injection e with e; omega))).trans v0; have x1 := (World.cell?_of_block (w := W2) (a := ⟨w1.heap.size, 1, none⟩) (hg.block (w1.heap.size) hps (fun e => by injection e with e; omega))).trans v1; have VR := Lib.hid (Vb.mk (w := w) E.out.vb.ge (Nat.lt_of_lt_of_le E.out.vb.lt hg.size) ((World.cell?_of_block (w := W2) (a := ⟨w.heap.size + 1, 0, none⟩) (hg.block (w.heap.size + 1) E.out.vb.lt (fun e => by injection e with e; omega))).trans E.out.vb.c0) ((World.cell?_of_block (w := W2) (a := ⟨w.heap.size + 1, 1, none⟩) (hg.block (w.heap.size + 1) E.out.vb.lt (fun e => by injection e with e; omega))).trans E.out.vb.c1) (by have := hg.block (w.heap.size + 1) E.out.vb.lt (fun e => by injection e with e; omega); have := E.out.vb.f0; simp_all [World.frozen?]) (by have := hg.block (w.heap.size + 1) E.out.vb.lt (fun e => by injection e with e; omega); have := E.out.vb.f1; simp_all [World.frozen?])); have r0 := VR.out.c0; have r1 := VR.out.c1; have f0 := VR.out.f0; have f1 := VR.out.f1; clear hb hg)
    refine bodyPost_ret (v := .agg #[.bool t, .slice (some ⟨w1.heap.size + 1, 0, none⟩) n n]) (by simp [results, Try.results57, go_sem, r0, r1]) rfl ?_
    have hk := HB.out
    rw [splice_all (by rw [HL.out]; simp)] at hk
    have hrd := hk.rd
    rw [HL.out] at hrd
    have hi : Is _ z t (some ⟨w1.heap.size + 1, 0, none⟩) n n := ⟨HI.out.is.1, HI.out.is.2.1, hrd, Nat.le_refl _, by omega⟩
    exact ⟨t, _, n, n, rfl, ⟨hi.store r0 r1 _ _, HI.out.sz⟩, below_store (E.out.below.trans (below_of_grown HG.out E.out.below.size (by omega))) (by omega) _ _⟩
set_option maxHeartbeats 1000000 in
theorem Copy_zero {w : World} {z : Int} {t : Bool} {A : Option Addr} {n c : Nat} (h : Iv w z t A n c) (hn : n = 0) :
    Calls Try.prog 57 #[.agg #[.bool t, .slice A n c]] w (NumV w z) := by
  have hz : z = 0 := by have := h.is.2.1; rw [hn] at this; have := words_nil.1 (List.eq_nil_of_length_eq_zero this.symm); omega
  have ht : t = false := by rw [h.is.1, hz]; rfl
  have E := Lib.hid (Ar.start h.is)
  have HD := Lib.hid (show decide (n = 0) = true from decide_eq_true hn)
  have HZ := Lib.hid hz
  subst ht
  clear h hn hz
  go_enter Try.func57, Try.ntmps57
  go_wp2_with fail
  generalize (w.alloc (.cells #[.bool false, .slice A n c] 24)).alloc (.cells #[.bool false, .slice none 0 0] 24) = W0 at E ⊢
  refine (IsZero_c false A n c W0).mono ?_
  rintro e w1 ⟨rfl, hb⟩
  rw [HD.out]
  replace E := Lib.hid (E.out.next hb)
  clear hb
  have a0 := E.out.bx.c0
  have a1 := E.out.bx.c1
  have r0 := E.out.vb.c0
  have r1 := E.out.vb.c1
  have f0 := E.out.vb.f0
  have f1 := E.out.vb.f1
  go_wp2
  refine bodyPost_ret (v := .agg #[.bool false, .slice none 0 0]) (by simp [results, Try.results57, go_sem, r0, r1]) rfl ?_
  have hi : Is w1 z false none 0 0 := ⟨by rw [HZ.out]; rfl, by rw [HZ.out]; exact words_zero ▸ rfl, by rw [HZ.out]; exact words_zero ▸ Rd.nil _, Nat.le_refl _, by omega⟩
  exact ⟨false, none, 0, 0, rfl, ⟨hi.store r0 r1 _ _, by rw [HZ.out]; exact sz_zero⟩, below_store E.out.below (by omega) _ _⟩
theorem Copy_c {w : World} {z : Int} {t : Bool} {A : Option Addr} {n c : Nat} (h : Iv w z t A n c) : Calls Try.prog 57 #[.agg #[.bool t, .slice A n c]] w (NumV w z) := by
  by_cases hn : n = 0
  · exact Copy_zero h hn
  · exact Copy_pos h hn
end Go.Proofs.Ytbblckaplddggaa
