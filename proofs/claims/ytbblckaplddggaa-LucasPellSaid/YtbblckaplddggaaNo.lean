import Derived.Test.YtbblckaplddggaaNn
set_option maxRecDepth 100000
namespace Go.Proofs.Ytbblckaplddggaa
open Go.RowKit Go.Shelf
theorem not_fits {z : Int} (h : pw 4096 ≤ z.natAbs) : ¬ (words z.natAbs).length ≤ 4096 := fun hl => by
  have := words_len_le.1 hl
  omega
theorem NumIs.bad {w : World} {z : Int} (h : ¬ (words z.natAbs).length ≤ 4096) : NumIs w z false none 0 0 4 := ⟨fun hl => absurd hl h, fun _ => ⟨rfl, rfl, rfl, rfl, rfl⟩⟩
theorem NumIs.vb {w0 w : World} {z k : Int} {t : Bool} {B : Option Addr} {m d : Nat} (h : NumIs w z t B m d k) {g : Nat} {x : Bool} {a : Option Addr} {i j : Nat} (v : Vb w0 w g x a i j) (u1 u2 : Value) : NumIs ((w.setCell ⟨g, 0, none⟩ u1).setCell ⟨g, 1, none⟩ u2) z t B m d k := h.store v.c0 v.c1 u1 u2
/-- the argument's box and the result's cells -/
structure Ar (w W : World) (z : Int) (t : Bool) (A : Option Addr) (n c : Nat) : Prop where
  below : Below w.heap.size w W
  bx : Box W w.heap.size z t A n c
  vb : Vb w W (w.heap.size + 1) false none 0 0
theorem Ar.start {w : World} {z : Int} {t : Bool} {A : Option Addr} {n c : Nat} (h : Is w z t A n c) : Ar w ((w.alloc (.cells #[.bool t, .slice A n c] 24)).alloc (.cells #[.bool false, .slice none 0 0] 24)) z t A n c :=
  ⟨((Below.refl _ _).alloc (Nat.le_refl _) _).alloc (by simp) _, (Box.new h).alloc _, Vb.new1 w w _ false none 0 0 (Nat.le_refl _)⟩
theorem Ar.next {w W W' : World} {z : Int} {t : Bool} {A : Option Addr} {n c : Nat} (h : Ar w W z t A n c) (hb : Below W.heap.size W W') : Ar w W' z t A n c :=
  ⟨h.below.trans (hb.mono h.below.size), h.bx.next hb, h.vb.below hb⟩
/-- what was made by a walker that is new -/
theorem Stp.fresh {w2 w3 w4 : World} {b : Nat} (hb : Below w2.heap.size w2 w3) (h : w2.heap.size ≤ b) (hs : Stp b w3 w4) : Below w2.heap.size w2 w4 := hb.trans (hs.below hb.size h)
theorem Is.iv_of {w : World} {z : Int} {t : Bool} {A : Option Addr} {n c : Nat} (h : Is w z t A n c) (hs : Sz z 4096) : Iv w z t A n c := ⟨h, hs⟩
set_option maxHeartbeats 4000000 in
theorem Psi_small {w : World} {a : Int} {t : Bool} {A : Option Addr} {n c : Nat} (h : Iv w a t A n c) (ha : 2 ≤ a) (N : Nat) (hN : N < 9223372036854775808) (hs : N < 2) :
    Calls Try.prog 16 #[.agg #[.bool t, .slice A n c], .int .i64 (N : Int)] w (Num w (psi a N)) := by
  have E := Lib.hid (Ar.start h.is)
  have HSz := Lib.hid h.sz
  have HA := Lib.hid ha
  have HN := Lib.hid hN
  have hs2 : (N : Int) < 2 := by omega
  have HP := Lib.hid (show psi a N = (N : Int) by rcases (show N = 0 ∨ N = 1 by omega) with rfl | rfl <;> rfl)
  rw [HP.out]
  obtain ⟨K, hK⟩ : ∃ K : Int, K = (N : Int) := ⟨_, rfl⟩
  rw [← hK]
  rw [← hK] at hs2
  have hK0 : 0 ≤ K := by omega
  clear h ha hN hs HP hK
  go_enter Try.func16, Try.ntmps16
  go_wp2_with fail
  generalize (w.alloc (.cells #[.bool t, .slice A n c] 24)).alloc (.cells #[.bool false, .slice none 0 0] 24) = W0 at E ⊢
  refine (check_ok (Is.iv_of E.out.bx.is HSz.out) _ (oth_nil _) 0 (.inl ⟨HA.out, rfl⟩)).mono ?_
  rintro e w1 ⟨rfl, hb⟩
  replace E := Lib.hid (E.out.next hb)
  clear hb
  have a0 := E.out.bx.c0
  have a1 := E.out.bx.c1
  go_wp2_with fail
  refine (OfV K _ (by omega) (by omega)).mono ?_
  rintro e w2 ⟨t2, A2, n2, c2, rfl, i2, hb⟩
  replace E := Lib.hid (E.out.next hb)
  have I2 := Lib.hid i2
  clear hb i2 a0 a1
  have r0 := E.out.vb.c0
  have r1 := E.out.vb.c1
  have f0 := E.out.vb.f0
  have f1 := E.out.vb.f1
  go_wp2
  refine bodyPost_ret (v := .tuple #[.agg #[.bool t2, .slice A2 n2 c2], .int .i64 0]) (by simp [results, Try.results16, go_sem, r0, r1]) rfl ?_
  exact ⟨t2, A2, n2, c2, 0, rfl, (Is.nums I2.out.is (by rw [I2.out.is.2.1]; exact words_len_le.2 I2.out.sz)).vb E.out.vb _ _, below_store E.out.below (by omega) _ _⟩
set_option maxHeartbeats 4000000 in
theorem Psi_big {w : World} {a : Int} {t : Bool} {A : Option Addr} {n c : Nat} (h : Iv w a t A n c) (ha : 2 ≤ a) (N : Nat) (hN : N < 9223372036854775808) (hs : 2 ≤ N) :
    Calls Try.prog 16 #[.agg #[.bool t, .slice A n c], .int .i64 (N : Int)] w (Num w (psi a N)) := by
  have E := Lib.hid (Ar.start h.is)
  have HSz := Lib.hid h.sz
  have HA := Lib.hid ha
  have HN := Lib.hid hN
  have HT := Lib.hid (show (a + a).natAbs ≤ (psi a N).natAbs by have := psi_two_le ha N hs; omega)
  have HQ := Lib.hid (sq_exact ha (m := N / 2) (n := N) (by omega) (by omega) (Nat.le_refl _))
  have HE := Lib.hid (fun (hp : N % 2 = 0) => ev_exact ha (j := N / 2) (n := N) (by omega) hs (Nat.le_refl (psi a N).natAbs))
  have HO := Lib.hid (fun (hp : N % 2 = 1) => od_exact ha (j := N / 2) (n := N) (by omega) (Nat.le_refl (psi a N).natAbs))
  have hs2 : ¬ (N : Int) < 2 := by omega
  obtain ⟨K, hK⟩ : ∃ K : Int, K = (N : Int) := ⟨_, rfl⟩
  rw [← hK]
  rw [← hK] at hs2
  have hK0 : 0 ≤ K := by omega
  have HKN := Lib.hid hK
  clear h ha hN hs hK
  go_enter Try.func16, Try.ntmps16
  go_wp2_with fail
  generalize (w.alloc (.cells #[.bool t, .slice A n c] 24)).alloc (.cells #[.bool false, .slice none 0 0] 24) = W0 at E ⊢
  refine (check_ok (Is.iv_of E.out.bx.is HSz.out) _ (oth_nil _) 0 (.inl ⟨HA.out, rfl⟩)).mono ?_
  rintro e w1 ⟨rfl, hb⟩
  replace E := Lib.hid (E.out.next hb)
  clear hb
  have a0 := E.out.bx.c0
  have a1 := E.out.bx.c1
  go_wp2_with fail
  refine (exact_c _ a t A n c w1 (Is.iv_of E.out.bx.is HSz.out) HT.out).mono ?_
  rintro e w3 ⟨b, tt, At, nt, ct, k, rfl, hb1, hb2, hm⟩
  have HB := Lib.hid hb1
  have HX := Lib.hid hb2
  have HM := Lib.hid hm
  clear hb1 hb2 hm a0 a1
  go_wp2_with fail
  rw [HKN.out]
  refine (psi_c HM.out N HN.out (psi a) HQ.out HE.out HO.out).mono ?_
  rintro e w4 ⟨t4, B4, m4, d4, k4, rfl, s4, ms4, z4, v4⟩
  have HS4 := Lib.hid (Stp.fresh HX.out HB.out s4)
  have HV4 := Lib.hid v4
  have HC4 := Lib.hid ms4.cc
  have HK4 := Lib.hid ms4.st
  clear s4 ms4 z4 v4
  go_wp2_with fail
  refine (result_c _ k4 _ t4 B4 m4 d4 w4 HC4.out HV4.out).mono ?_
  rintro e w5 ⟨hb5, h1, h2⟩
  replace E := Lib.hid (E.out.next (HS4.out.trans (hb5.mono HS4.out.size)))
  have r0 := E.out.vb.c0
  have r1 := E.out.vb.c1
  have f0 := E.out.vb.f0
  have f1 := E.out.vb.f1
  by_cases hk : k4 = 0
  · obtain ⟨t6, B6, m6, d6, rfl, i6⟩ := h1 hk
    have H6 := Lib.hid i6
    clear h1 h2 hk hb5 i6 HX HB HS4 HV4 HC4 HK4
    go_wp2
    refine bodyPost_ret (v := .tuple #[.agg #[.bool t6, .slice B6 m6 d6], .int .i64 0]) (by simp [results, Try.results16, go_sem, r0, r1]) rfl ?_
    exact ⟨t6, B6, m6, d6, 0, rfl, (Is.nums H6.out.is (by rw [H6.out.is.2.1]; exact words_len_le.2 H6.out.sz)).vb E.out.vb _ _, below_store E.out.below (by omega) _ _⟩
  · obtain rfl := h2 hk
    have H6 : Hid (k4 = 4 ∧ pw 4096 ≤ _) := (HK4.out).resolve_left hk
    obtain ⟨rfl, h7⟩ := H6
    have H7 := Lib.hid (not_fits h7)
    clear h1 h2 hk hb5 HX HB HS4 HV4 HC4 HK4 h7
    go_wp2
    refine bodyPost_ret (v := .tuple #[.agg #[.bool false, .slice none 0 0], .int .i64 4]) (by simp [results, Try.results16, go_sem, r0, r1]) rfl ?_
    exact ⟨false, none, 0, 0, 4, rfl, (NumIs.bad H7.out).vb E.out.vb _ _, below_store E.out.below (by omega) _ _⟩
theorem Psi_ok {w : World} {a : Int} {t : Bool} {A : Option Addr} {n c : Nat} (h : Iv w a t A n c) (ha : 2 ≤ a) (N : Nat) (hN : N < 9223372036854775808) :
    Calls Try.prog 16 #[.agg #[.bool t, .slice A n c], .int .i64 (N : Int)] w (Num w (psi a N)) := by
  by_cases hs : N < 2
  · exact Psi_small h ha N hN hs
  · exact Psi_big h ha N hN (by omega)
end Go.Proofs.Ytbblckaplddggaa
