import Derived.Test.YteabokkofoomkaaCbc
import Derived.Test.YteabokkofoomkaaCan
import Derived.Test.YteabokkofoomkaaCbd
import Derived.Test.YteabokkofoomkaaCao
import Derived.Test.YteabokkofoomkaaCaz
import Derived.Test.YteabokkofoomkaaCat
import Derived.Test.YteabokkofoomkaaCba
import Derived.BigQuiet
set_option maxRecDepth 100000
namespace Go.Proofs.Yteabokkofoomkaa
open Go.RowKit Go.Shelf
structure Rb (W : World) (g : Nat) (s : Bool) (A : Option Addr) (n c : Nat) (xs : List Nat) : Prop where
 lt : g < W.heap.size
 c0 : W.cell? ⟨g, 0, none⟩ = some (.bool s)
 c1 : W.cell? ⟨g, 1, none⟩ = some (.slice A n c)
 rd : Rd W A n xs
theorem Rb.next {W w1 : World} {b : Nat} {s : Bool} {A : Option Addr} {n c : Nat} {xs : List Nat} (h : Rb W b s A n c xs) (hb : Below W.heap.size W w1) : Rb w1 b s A n c xs :=
 ⟨Nat.lt_of_lt_of_le h.lt hb.size, (hb.cell (p := ⟨b, 0, none⟩) h.lt).trans h.c0, (hb.cell (p := ⟨b, 1, none⟩) h.lt).trans h.c1, h.rd.below hb⟩
theorem Rb.new {W : World} {s : Bool} {A : Option Addr} {n c : Nat} {xs : List Nat} (h : Rd W A n xs) : Rb (W.alloc (.cells #[.bool s, .slice A n c] 24)) W.heap.size s A n c xs :=
 ⟨by simp, by go_simp, by go_simp, h.below (below_alloc _ _)⟩
theorem Rb.alloc {W : World} {b : Nat} {s : Bool} {A : Option Addr} {n c : Nat} {xs : List Nat} (h : Rb W b s A n c xs) (o : Obj) : Rb (W.alloc o) b s A n c xs := h.next (below_alloc _ _)
set_option maxHeartbeats 2000000 in
theorem Valid1_raw {W : World} {g : Nat} {s : Bool} {A : Option Addr} {n c : Nat} {xs : List Nat} (h : Rb W g s A n c xs) :
 Calls Try.prog 25 #[.slice (some ⟨g, 0, none⟩) 1 1] W (IsB (validB s xs) W) := by
 have HV := Lib.hid h.rd
 have c0 := h.c0
 have c1 := h.c1
 clear h
 go_enter Try.func25, Try.ntmps25
 go_wp2_with fail
 refine wp_loop_rounds 2 ?_
 rw [rounds_succ]
 go_wp2_with fail
 refine (valid_c s A n c xs _ (HV.out.below (below_alloc _ _))).mono ?_
 rintro e w1 ⟨rfl, hb⟩
 have HB := Lib.hid ((below_alloc W (.cells #[.bool s, .slice A n c] 24)).trans (hb.mono (by simp)))
 clear hb
 cases hv : validB s xs with
 | true =>
   go_wp2_with fail
   rw [rounds_succ]
   go_wp2
   go_ret
   exact ⟨by rw [hv]; rfl, HB.out⟩
 | false =>
   go_wp2
   go_ret
   exact ⟨by rw [hv]; rfl, HB.out⟩
theorem oth1_raw {W : World} {g : Nat} {s : Bool} {A : Option Addr} {n c : Nat} {xs : List Nat} (h : Rb W g s A n c xs) : Oth W (.slice (some ⟨g, 0, none⟩) 1 1) (validB s xs) := fun _ hb =>
 Valid1_raw (h.next hb)
def codeV (s : Bool) (xs : List Nat) (vo : Bool) : Int := if validB s xs = false ∨ vo = false then 1 else if sgn s (val xs) < 2 then 2 else 0
set_option maxHeartbeats 2000000 in
theorem check_bad {w : World} {s : Bool} {A : Option Addr} {n c : Nat} {xs : List Nat} (h : Rd w A n xs) (o : Value) (vo : Bool) (ho : Oth w o vo) (hv : validB s xs = false ∨ vo = false) :
 Calls Try.prog 55 #[.agg #[.bool s, .slice A n c], o] w fun e w' => e = .returned (.int .i64 1) ∧ Below w.heap.size w w' := by
 have b0 := below_alloc w (.cells #[.bool s, .slice A n c] 24)
 have B0 := Lib.hid (Rb.new (s := s) (c := c) h)
 have HB := Lib.hid b0
 have HO := Lib.hid ho
 obtain ⟨va, hva⟩ : ∃ va, va = validB s xs := ⟨_, rfl⟩
 rw [← hva] at hv
 have HVA := Lib.hid hva
 clear h b0 ho hva
 go_enter Try.func55, Try.ntmps55
 go_wp2_with fail
 generalize w.alloc (.cells #[.bool s, .slice A n c] 24) = W0 at B0 HB ⊢
 refine (valid_c s A n c xs _ B0.out.rd).mono ?_
 rw [← HVA.out]
 rintro e w1 ⟨rfl, hb⟩
 replace HB := Lib.hid (HB.out.trans (hb.mono HB.out.size))
 clear hb B0
 cases va with
 | false =>
   go_wp2
   go_ret
   exact ⟨rfl, HB.out⟩
 | true =>
   have hvo : vo = false := by
    rcases hv with h | h
    · cases h
    · exact h
   subst hvo
   go_wp2_with fail
   refine (HO.out _ HB.out).mono ?_
   rintro e w2 ⟨rfl, hb⟩
   replace HB := Lib.hid (HB.out.trans (hb.mono HB.out.size))
   clear hb
   go_wp2
   go_ret
   exact ⟨rfl, HB.out⟩
theorem check_raw {w : World} {s : Bool} {A : Option Addr} {n c : Nat} {xs : List Nat} (h : Rd w A n xs) (hn : n ≤ c) (hc : c ≤ 9223372036854775807) (o : Value) (vo : Bool) (ho : Oth w o vo) :
 Calls Try.prog 55 #[.agg #[.bool s, .slice A n c], o] w fun e w' => e = .returned (.int .i64 (codeV s xs vo)) ∧ Below w.heap.size w w' := by
 by_cases hv : validB s xs = false ∨ vo = false
 · have := check_bad (s := s) (c := c) h o vo ho hv
   unfold codeV
   rw [if_pos hv]
   exact this
 · have h1 : validB s xs = true := by
    cases hb : validB s xs
    · exact absurd (.inl hb) hv
    · rfl
   have h2 : vo = true := by
    cases vo
    · exact absurd (.inr rfl) hv
    · rfl
   subst h2
   have i := Is.of_valid h h1 hn hc
   have hl : n ≤ 4096 := by
    rw [i.2.1]
    have := i.2.1
    unfold validB at h1
    rw [h.len] at h1
    split at h1
    · omega
    · simp at h1; omega
   have hz : Sz (sgn s (val xs)) 4096 := sz_valid h hl
   unfold codeV
   rw [if_neg hv]
   split
   · exact check_ok (i.iv_of hz) o ho 2 (.inr ⟨by assumption, rfl⟩)
   · exact check_ok (i.iv_of hz) o ho 0 (.inl ⟨by omega, rfl⟩)
structure Rb2 (w W : World) (s : Bool) (A : Option Addr) (n c : Nat) (xs : List Nat) (s' : Bool) (A' : Option Addr) (n' c' : Nat) (ys : List Nat) : Prop where
 below : Below w.heap.size w W
 ba : Rb W w.heap.size s A n c xs
 bb : Rb W (w.heap.size + 1) s' A' n' c' ys
theorem Rb2.next {w W W' : World} {s : Bool} {A : Option Addr} {n c : Nat} {xs : List Nat} {s' : Bool} {A' : Option Addr} {n' c' : Nat} {ys : List Nat} (h : Rb2 w W s A n c xs s' A' n' c' ys) (hb : Below W.heap.size W W') : Rb2 w W' s A n c xs s' A' n' c' ys :=
 ⟨h.below.trans (hb.mono h.below.size), h.ba.next hb, h.bb.next hb⟩
theorem Rb2.start {w : World} {s : Bool} {A : Option Addr} {n c : Nat} {xs : List Nat} {s' : Bool} {A' : Option Addr} {n' c' : Nat} {ys : List Nat} (h : Rd w A n xs) (h' : Rd w A' n' ys) : Rb2 w ((w.alloc (.cells #[.bool s, .slice A n c] 24)).alloc (.cells #[.bool s', .slice A' n' c'] 24)) s A n c xs s' A' n' c' ys := by
 refine ⟨((Below.refl _ _).alloc (Nat.le_refl _) _).alloc (by simp) _, (Rb.new h).alloc _, ?_⟩
 have := Rb.new (s := s') (c := c') (h'.below (below_alloc w (.cells #[.bool s, .slice A n c] 24)))
 rwa [World.size_alloc] at this
set_option maxHeartbeats 4000000 in
theorem Index_err {w : World} {s : Bool} {A : Option Addr} {n c : Nat} {xs : List Nat} {s' : Bool} {A' : Option Addr} {n' c' : Nat} {ys : List Nat} (h : Rd w A n xs) (h' : Rd w A' n' ys) (hn : n ≤ c) (hc : c ≤ 9223372036854775807) (k : Int) (hk : codeV s xs (validB s' ys) = k) (hk0 : k ≠ 0) :
 Calls Try.prog 40 #[.agg #[.bool s, .slice A n c], .agg #[.bool s', .slice A' n' c']] w fun e w' => e = .returned (.tuple #[.int .i64 0, .int .i64 k]) ∧ Below w.heap.size w w' := by
 have E := Lib.hid (Rb2.start (s := s) (c := c) (s' := s') (c' := c') h h')
 have HN := Lib.hid (And.intro hn hc)
 have t1 : (k == 0) = false := by rw [beq_eq_false_iff_ne]; exact hk0
 have HK := Lib.hid hk
 clear h h' hn hc hk hk0
 go_enter Try.func40, Try.ntmps40
 go_upto_region 1 with (fail)
 generalize (w.alloc (.cells #[.bool s, .slice A n c] 24)).alloc (.cells #[.bool s', .slice A' n' c'] 24) = W0 at E ⊢
 have a0 := E.out.ba.c0
 have a1 := E.out.ba.c1
 have b0 := E.out.bb.c0
 have b1 := E.out.bb.c1
 go_wp2_with fail
 have hb := below_alloc W0 (.cells #[.bool s', .slice A' n' c'] 24)
 have O1 := Lib.hid (oth1_raw (Rb.new (s := s') (c := c') E.out.bb.rd))
 replace E := Lib.hid (E.out.next hb)
 clear hb a0 a1 b0 b1
 generalize W0.alloc (.cells #[.bool s', .slice A' n' c'] 24) = W1 at E O1 ⊢
 refine (check_raw E.out.ba.rd HN.out.1 HN.out.2 _ _ O1.out).mono ?_
 rw [HK.out]
 rintro e w1 ⟨rfl, hb⟩
 replace E := Lib.hid (E.out.next hb)
 clear hb O1
 go_wp2
 go_ret2
 exact ⟨rfl, E.out.below⟩
end Go.Proofs.Yteabokkofoomkaa
set_option maxRecDepth 100000
namespace Go.Proofs.Yteabokkofoomkaa
open Go.RowKit Go.Shelf Go.Deep
def linkZ (kind : Int) (a b c : Int) : Bool :=
 if kind = 1 then decide (2 ≤ a ∧ 1 ≤ b ∧ psi a b.toNat = c)
 else if kind = 2 then decide (1 ≤ a ∧ 0 ≤ b ∧ a ^ b.toNat = c)
 else if kind = 3 then decide (0 ≤ a ∧ 0 ≤ b ∧ a.natAbs &&& b.natAbs = a.natAbs)
 else decide (a = 0)
structure NE (W : World) (b o : Nat) (z : Int) (t : Bool) (A : Option Addr) (n c : Nat) : Prop where
 lt : b < W.heap.size
 c0 : W.cell? ⟨b, o, none⟩ = some (.bool t)
 c1 : W.cell? ⟨b, o + 1, none⟩ = some (.slice A n c)
 iv : Iv W z t A n c
theorem NE.next {W W' : World} {b o : Nat} {z : Int} {t : Bool} {A : Option Addr} {n c : Nat} (h : NE W b o z t A n c) (hb : Below W.heap.size W W') : NE W' b o z t A n c :=
 ⟨Nat.lt_of_lt_of_le h.lt hb.size, (hb.cell (p := ⟨b, o, none⟩) h.lt).trans h.c0, (hb.cell (p := ⟨b, o + 1, none⟩) h.lt).trans h.c1, h.iv.below hb⟩
theorem zs_at {W : World} {A : Option Addr} {n : Nat} {zs : List Int} (h : RdN W A n (zs.map nmOf)) (hz : ∀ i, i < zs.length → Sz (zs.getD i 0) 4096) (hn : 0 < n) :
 ∃ b o, A = some ⟨b, o, none⟩ ∧ ∀ i, i < n → ∃ t A1 n1 c1, NE W b (o + i * 2) (zs.getD i 0) t A1 n1 c1 := by
 have hl := h.len
 rw [List.length_map] at hl
 obtain ⟨b, o, e, hlt, hc⟩ := h.at_ hn
 refine ⟨b, o, e, fun i hi => ?_⟩
 obtain ⟨A1, n1, c1, hN⟩ := hc i hi
 have e1 : nmAt (zs.map nmOf) i = nmOf (zs.getD i 0) := by
  simp [nmAt, List.getD_eq_getElem?_getD, List.getElem?_eq_getElem (show i < zs.length by omega)]
 rw [e1] at hN
 have hr := hN.rd
 have c0 := hN.c0
 exact ⟨_, A1, n1, c1, hlt, c0, hN.c1, ⟨rfl, hr.len.symm, hr, hN.nc, hN.cm⟩, hz i (by omega)⟩
theorem psi_inj {a : Int} (ha : 2 ≤ a) {m n : Nat} (h : psi a m = psi a n) : m = n := by
 rcases Nat.lt_trichotomy m n with q | q | q
 · have := psi_lt ha q; omega
 · exact q
 · have := psi_lt ha q; omega
theorem psi_never {a b c : Int} (ha : 2 ≤ a) (hb : 9223372036854775808 ≤ b) (hc : Sz c 4096) : ¬ psi a b.toNat = c := by
 intro e
 have h := psi_lt ha (show b.toNat - 1 < b.toNat by omega)
 rw [e] at h
 have := idx_bound ha hc h
 omega
theorem psi_says {a b c : Int} (hc : Sz c 4096) {u : Bool} {sv : Int} (hu : u = decide (-9223372036854775808 ≤ b ∧ b < 9223372036854775808)) (hs : u = true → sv = b) {r k : Int}
 (h : (a < 2 ∧ k = 2) ∨ (2 ≤ a ∧ ((k = 0 ∧ ∃ n : Nat, r = (n : Int) ∧ psi a n = c) ∨ (k = 6 ∧ r = 0 ∧ ∀ n, psi a n ≠ c)))) :
 linkZ 1 a b c = (u && decide (1 ≤ sv) && (k == 0) && (r == sv)) := by
 unfold linkZ
 rw [if_pos rfl]
 rcases h with ⟨h1, rfl⟩ | ⟨h1, ⟨rfl, n, rfl, hn⟩ | ⟨rfl, rfl, hn⟩⟩
 · rw [decide_eq_false (fun q => by omega)]
   cases u <;> simp
 · by_cases hb : 9223372036854775808 ≤ b
   · rw [decide_eq_false (fun q => psi_never h1 hb hc q.2.2), hu, decide_eq_false (fun q => by omega)]
     rfl
   · by_cases hb2 : 1 ≤ b
     · have e : u = true := by rw [hu]; exact decide_eq_true ⟨by omega, by omega⟩
       rw [e, hs e, decide_eq_true hb2]
       simp only [Bool.true_and, beq_self_eq_true]
       by_cases e2 : (n : Int) = b
       · rw [decide_eq_true ⟨h1, hb2, by rw [← e2, Int.toNat_natCast]; exact hn⟩, e2]
         simp
       · rw [decide_eq_false (fun q => e2 (by
          have := psi_inj h1 (q.2.2.trans hn.symm)
          omega))]
         symm
         rw [beq_eq_false_iff_ne]
         exact e2
     · rw [decide_eq_false (fun q => hb2 q.2.1)]
       cases u with
       | false => rfl
       | true =>
         rw [hs rfl, decide_eq_false hb2]
         rfl
 · rw [decide_eq_false (fun q => hn _ q.2.2)]
   cases u <;> simp
theorem Index_all {w : World} {a : Int} {t : Bool} {A : Option Addr} {n c : Nat} {y : Int} {t' : Bool} {A' : Option Addr} {n' c' : Nat} (h : Iv w a t A n c) (h' : Iv w y t' A' n' c') :
 Calls Try.prog 40 #[.agg #[.bool t, .slice A n c], .agg #[.bool t', .slice A' n' c']] w fun e w' => ∃ r k : Int, e = .returned (.tuple #[.int .i64 r, .int .i64 k]) ∧ Below w.heap.size w w' ∧ ((a < 2 ∧ k = 2) ∨ (2 ≤ a ∧ ((k = 0 ∧ ∃ n : Nat, r = (n : Int) ∧ psi a n = y) ∨ (k = 6 ∧ r = 0 ∧ ∀ n, psi a n ≠ y)))) := by
 by_cases ha : 2 ≤ a
 · refine (Index_c h h' ha).mono ?_
   rintro e w' ⟨r, k, e1, hb, h2⟩
   exact ⟨r, k, e1, hb, .inr ⟨ha, h2⟩⟩
 · obtain ⟨r1, v1, s1, n1, c1⟩ := h.is.raw h.sz (Nat.le_refl _)
   obtain ⟨r2, v2, s2, n2, c2⟩ := h'.is.raw h'.sz (Nat.le_refl _)
   refine (Index_err r1 r2 n1 c1 2 (by
    rw [v2]
    unfold codeV
    rw [if_neg (by rw [v1]; simp), if_pos (by rw [s1]; omega)]) (by omega)).mono ?_
   rintro e w' ⟨e1, hb⟩
   exact ⟨0, 2, e1, hb, .inl ⟨by omega, rfl⟩⟩
theorem Under_all {w : World} {a : Int} {t : Bool} {A : Option Addr} {n c : Nat} {b : Int} {t' : Bool} {A' : Option Addr} {n' c' : Nat} (h : Iv w a t A n c) (h' : Iv w b t' A' n' c') :
 Calls Try.prog 42 #[.agg #[.bool t, .slice A n c], .agg #[.bool t', .slice A' n' c']] w fun e w' => ∃ (x : Bool) (k : Int), e = .returned (.tuple #[.bool x, .int .i64 k]) ∧ decide (0 ≤ a ∧ 0 ≤ b ∧ a.natAbs &&& b.natAbs = a.natAbs) = (x && (k == 0)) ∧ Below w.heap.size w w' := by
 obtain ⟨r1, v1, s1, n1, c1⟩ := h.is.raw h.sz (Nat.le_refl _)
 obtain ⟨r2, v2, s2, n2, c2⟩ := h'.is.raw h'.sz (Nat.le_refl _)
 have e1 := h.is.1
 have e2 := h'.is.1
 by_cases q1 : a < 0
 · refine (Under_neg t t' A A' n c n' c' _ _ w r1 r2 (by rw [v1, v2]; rfl) (by rw [e1, decide_eq_true q1]; rfl)).mono ?_
   rintro e w' ⟨rfl, hb⟩
   exact ⟨false, 2, rfl, by rw [decide_eq_false (fun q => by omega)]; rfl, hb⟩
 · by_cases q2 : b < 0
   · refine (Under_neg t t' A A' n c n' c' _ _ w r1 r2 (by rw [v1, v2]; rfl) (by rw [e2, decide_eq_true q2]; exact Bool.or_true _)).mono ?_
     rintro e w' ⟨rfl, hb⟩
     exact ⟨false, 2, rfl, by rw [decide_eq_false (fun q => by omega)]; rfl, hb⟩
   · rw [decide_eq_false q1] at e1
     rw [decide_eq_false q2] at e2
     subst e1 e2
     refine (Under_ok A A' n c n' c' _ _ w r1 r2 v1 v2).mono ?_
     rintro e w' ⟨rfl, hb⟩
     refine ⟨_, 0, rfl, ?_, hb⟩
     rw [val_words, val_words]
     by_cases q : a.natAbs &&& b.natAbs = a.natAbs
     · rw [decide_eq_true q, decide_eq_true ⟨by omega, by omega, q⟩]; rfl
     · rw [decide_eq_false q, decide_eq_false (fun z => q z.2.2)]; rfl
set_option maxHeartbeats 8000000 in
theorem linkHolds1_c (A : Option Addr) (n c : Nat) (zs : List Int) (w : World) (h : RdN w A n (zs.map nmOf)) (hz : ∀ i, i < zs.length → Sz (zs.getD i 0) 4096) (hn : zs.length = 3) :
 Calls Try.prog 28 #[.int .i64 1, .slice A n c] w (IsB (linkZ 1 (zs.getD 0 0) (zs.getD 1 0) (zs.getD 2 0)) w) := by
 obtain rfl : n = 3 := by have := h.len; rw [List.length_map] at this; omega
 obtain ⟨b, o, rfl, hE⟩ := zs_at h hz (by omega)
 obtain ⟨ta, Aa, na, ca, ha⟩ := hE 0 (by omega)
 obtain ⟨tb, Ab, nb, cb, hb⟩ := hE 1 (by omega)
 obtain ⟨tc, Ac, nc, cc, hc⟩ := hE 2 (by omega)
 generalize zs.getD 0 0 = za at ha ⊢
 generalize zs.getD 1 0 = zb at hb ⊢
 generalize zs.getD 2 0 = zc at hc ⊢
 have EA := Lib.hid (show NE w b (o) za ta Aa na ca from ha)
 have EB := Lib.hid (show NE w b (o + 2) zb tb Ab nb cb from hb)
 have EC := Lib.hid (show NE w b (o + 4) zc tc Ac nc cc from hc)
 have P := Lib.hid (Below.refl w.heap.size w)
 clear h hz hn hE ha hb hc
 go_enter Try.func28, Try.ntmps28
 have b0 := EB.out.c0
 have b1 := EB.out.c1
 obtain ⟨V, hV⟩ : ∃ V, V = zb.natAbs := ⟨_, rfl⟩
 have hraw := EB.out.iv.is.raw EB.out.iv.sz (Nat.le_refl _)
 rw [← hV] at hraw
 have HRAW := Lib.hid hraw
 have HVB := Lib.hid hV
 have HTB := Lib.hid EB.out.iv.is.1
 clear hraw hV
 go_wp2_with fail
 refine (Small_c tb Ab nb cb V _ HRAW.out.1 HRAW.out.2.1).mono ?_
 rintro e w1 ⟨rfl, hb⟩
 replace EA := Lib.hid (EA.out.next hb)
 replace EC := Lib.hid (EC.out.next hb)
 replace P := Lib.hid (P.out.trans (hb.mono P.out.size))
 have hsg : sgn tb V = zb := by
  have h1 := HTB.out
  have h2 := HVB.out
  rw [h2, h1]
  exact sgn_self zb
 have HU2 := Lib.hid (show smallB tb V = decide (-9223372036854775808 ≤ zb ∧ zb < 9223372036854775808) by
  rw [← hsg]
  cases e : smallB tb V with
  | true => exact (decide_eq_true (smallB_iff.1 e)).symm
  | false => exact (decide_eq_false (fun q => by rw [smallB_iff.2 q] at e; cases e)).symm)
 clear hb b0 b1 HRAW EB
 obtain ⟨u, hu⟩ : ∃ u, u = smallB tb V := ⟨_, rfl⟩
 rw [← hu] at HU2 ⊢
 rw [hsg]
 obtain ⟨sv, hsv⟩ : ∃ sv, sv = if u = true then zb else 0 := ⟨_, rfl⟩
 rw [← hsv]
 have HSV := Lib.hid (show u = true → sv = zb from fun e => by rw [hsv, if_pos e])
 clear hu hsv hsg HVB HTB
 go_upto_region 4 with (fail)
 refine wp_region_held_drew (S := (fun w' => w'.cell? ⟨b, o, none⟩ = some (.bool ta) ∧ w'.cell? ⟨b, (o + 1), none⟩ = some (.slice Aa na ca) ∧ w'.cell? ⟨b, (o + 4), none⟩ = some (.bool tc) ∧ w'.cell? ⟨b, (o + 5), none⟩ = some (.slice Ac nc cc))) (by kernel_rfl) (⟨cell_drq EA.out.c0, cell_drq EA.out.c1, cell_drq EC.out.c0, cell_drq EC.out.c1⟩) (fun hHeld => ?_)
 replace EA := Lib.hid (EA.out.next (Below.refl w1.heap.size w1).drew)
 replace EC := Lib.hid (EC.out.next (Below.refl w1.heap.size w1).drew)
 replace P := Lib.hid (P.out.trans ((Below.refl w1.heap.size w1).drew.mono P.out.size))
 generalize w1.drew = D1 at EA EC P hHeld ⊢
 refine tkk 0 22 rfl rfl (by kernel_rfl) (fun _ _ _ _ h => h) (by rfl) (fun w h => by obtain ⟨h0, h1, h2, h3⟩ := h; go_simp; rfl) (by assumption) ?_
 simp only [set0, set1]
 refine tkk 1 23 rfl rfl (by kernel_rfl) (fun _ _ _ _ h => h) (by rfl) (fun w h => by obtain ⟨h0, h1, h2, h3⟩ := h; go_simp; rfl) (by assumption) ?_
 simp only [set0, set1]
 refine tkk 2 24 rfl rfl (by kernel_rfl) (fun _ _ _ _ h => h) (by rfl) (fun w h => by obtain ⟨h0, h1, h2, h3⟩ := h; go_simp; rfl) (by assumption) ?_
 simp only [set0, set1]
 refine tkk 3 25 rfl rfl (by kernel_rfl) (fun _ _ _ _ h => h) (by rfl) (fun w h => by obtain ⟨h0, h1, h2, h3⟩ := h; go_simp; rfl) (by assumption) ?_
 simp only [set0, set1]
 refine tkk 4 26 rfl rfl (by kernel_rfl) (fun _ _ _ _ h => h) (by rfl) (fun w h => by obtain ⟨h0, h1, h2, h3⟩ := h; go_simp; rfl) (by assumption) ?_
 simp only [set0, set1]
 refine tkk 5 27 rfl rfl (by kernel_rfl) (fun _ _ _ _ h => h) (by rfl) (fun w h => by obtain ⟨h0, h1, h2, h3⟩ := h; go_simp; rfl) (by assumption) ?_
 simp only [set0, set1]
 refine wpAnyH_ready (rs := [6]) (by kernel_rfl) (by simp) ?_
 refine AllReadyH.cons rfl (fun K hK => ?_) AllReadyH.nil
 go_simp
 refine (Index_all EA.out.iv EC.out.iv).mono ?_
 rintro e v2 ⟨r, ke, rfl, hb, hd⟩
 have HD := Lib.hid hd
 replace EA := Lib.hid (EA.out.next hb)
 replace EC := Lib.hid (EC.out.next hb)
 replace P := Lib.hid (P.out.trans (hb.mono P.out.size))
 clear hHeld hb hd
 refine hK.out _ _ (⟨EA.out.c0, EA.out.c1, EC.out.c0, EC.out.c1⟩) (fun hHeld => ?_)
 clear hK K
 refine tkk 7 21 rfl rfl (by kernel_rfl) (fun _ _ _ _ h => h) (by rfl) (fun w h => by obtain ⟨h0, h1, h2, h3⟩ := h; go_simp; rfl) (by assumption) ?_
 simp only [set0, set1]
 refine tkk 8 29 rfl rfl (by kernel_rfl) (fun _ _ _ _ h => h) (by rfl) (fun w h => by obtain ⟨h0, h1, h2, h3⟩ := h; go_simp; rfl) (by assumption) ?_
 simp only [set0, set1]
 refine tkk 9 30 rfl rfl (by kernel_rfl) (fun _ _ _ _ h => h) (by rfl) (fun w h => by obtain ⟨h0, h1, h2, h3⟩ := h; go_simp; rfl) (by assumption) ?_
 simp only [set0, set1]
 refine tkk 10 7 rfl rfl (by kernel_rfl) (fun _ _ _ _ h => h) (by rfl) (fun w h => by obtain ⟨h0, h1, h2, h3⟩ := h; go_simp; rfl) (by assumption) ?_
 simp only [set0, set1]
 refine tkk 11 8 rfl rfl (by kernel_rfl) (fun _ _ _ _ h => h) (by rfl) (fun w h => by obtain ⟨h0, h1, h2, h3⟩ := h; go_simp; rfl) (by assumption) ?_
 clear hHeld
 refine wpAnyH_done (by kernel_rfl) ?_ _
 have HF := Lib.hid (psi_says EC.out.iv.sz HU2.out HSV.out HD.out)
 clear HU2 HSV HD EA EC
 cases u with
 | false =>
   go_wp2
   go_ret
   exact ⟨by rw [HF.out] <;> rfl, P.out⟩
 | true =>
 by_cases q1 : 1 ≤ sv
 case neg =>
  have t1 : decide (1 ≤ sv) = false := decide_eq_false q1
  go_wp2
  go_ret
  exact ⟨by rw [HF.out, t1] <;> rfl, P.out⟩
 have t1 : decide (1 ≤ sv) = true := decide_eq_true q1
 rw [t1] at HF
 by_cases q2 : ke = 0
 case neg =>
  have t2 : (ke == 0) = false := by rw [beq_eq_false_iff_ne]; exact q2
  rw [t2] at HF
  go_wp2
  go_ret
  exact ⟨by rw [HF.out] <;> rfl, P.out⟩
 have t2 : (ke == 0) = true := by rw [q2]; rfl
 rw [t2] at HF
 clear q2
 have HF2 := Lib.hid (show linkZ 1 za zb zc = (r == sv) from HF.out)
 clear HF
 generalize hrs : (r == sv) = x at HF2
 go_wp2
 go_ret
 exact ⟨by rw [HF2.out] <;> rfl, P.out⟩
set_option maxHeartbeats 8000000 in
theorem linkHolds2_c (A : Option Addr) (n c : Nat) (zs : List Int) (w : World) (h : RdN w A n (zs.map nmOf)) (hz : ∀ i, i < zs.length → Sz (zs.getD i 0) 4096) (hn : zs.length = 3) :
 Calls Try.prog 28 #[.int .i64 2, .slice A n c] w (IsB (linkZ 2 (zs.getD 0 0) (zs.getD 1 0) (zs.getD 2 0)) w) := by
 obtain rfl : n = 3 := by have := h.len; rw [List.length_map] at this; omega
 obtain ⟨b, o, rfl, hE⟩ := zs_at h hz (by omega)
 obtain ⟨ta, Aa, na, ca, ha⟩ := hE 0 (by omega)
 obtain ⟨tb, Ab, nb, cb, hb⟩ := hE 1 (by omega)
 obtain ⟨tc, Ac, nc, cc, hc⟩ := hE 2 (by omega)
 generalize zs.getD 0 0 = za at ha ⊢
 generalize zs.getD 1 0 = zb at hb ⊢
 generalize zs.getD 2 0 = zc at hc ⊢
 have EA := Lib.hid (show NE w b (o) za ta Aa na ca from ha)
 have EB := Lib.hid (show NE w b (o + 2) zb tb Ab nb cb from hb)
 have EC := Lib.hid (show NE w b (o + 4) zc tc Ac nc cc from hc)
 have P := Lib.hid (Below.refl w.heap.size w)
 clear h hz hn hE ha hb hc
 go_enter Try.func28, Try.ntmps28
 go_upto_region 7 with (fail)
 refine wp_region_held_drew (S := (fun w' => w'.cell? ⟨b, o, none⟩ = some (.bool ta) ∧ w'.cell? ⟨b, (o + 1), none⟩ = some (.slice Aa na ca) ∧ w'.cell? ⟨b, (o + 2), none⟩ = some (.bool tb) ∧ w'.cell? ⟨b, (o + 3), none⟩ = some (.slice Ab nb cb) ∧ w'.cell? ⟨b, (o + 4), none⟩ = some (.bool tc) ∧ w'.cell? ⟨b, (o + 5), none⟩ = some (.slice Ac nc cc))) (by kernel_rfl) (⟨cell_drq EA.out.c0, cell_drq EA.out.c1, cell_drq EB.out.c0, cell_drq EB.out.c1, cell_drq EC.out.c0, cell_drq EC.out.c1⟩) (fun hHeld => ?_)
 replace EA := Lib.hid (EA.out.next (Below.refl w.heap.size w).drew)
 replace EB := Lib.hid (EB.out.next (Below.refl w.heap.size w).drew)
 replace EC := Lib.hid (EC.out.next (Below.refl w.heap.size w).drew)
 replace P := Lib.hid (P.out.trans ((Below.refl w.heap.size w).drew.mono P.out.size))
 generalize w.drew = D3 at EA EB EC P hHeld ⊢
 refine tkk 0 47 rfl rfl (by kernel_rfl) (fun _ _ _ _ h => h) (by rfl) (fun w h => by obtain ⟨h0, h1, h2, h3, h4, h5⟩ := h; go_simp; rfl) (by assumption) ?_
 simp only [set0, set1]
 refine tkk 1 48 rfl rfl (by kernel_rfl) (fun _ _ _ _ h => h) (by rfl) (fun w h => by obtain ⟨h0, h1, h2, h3, h4, h5⟩ := h; go_simp; rfl) (by assumption) ?_
 simp only [set0, set1]
 refine tkk 2 49 rfl rfl (by kernel_rfl) (fun _ _ _ _ h => h) (by rfl) (fun w h => by obtain ⟨h0, h1, h2, h3, h4, h5⟩ := h; go_simp; rfl) (by assumption) ?_
 simp only [set0, set1]
 refine tkk 3 50 rfl rfl (by kernel_rfl) (fun _ _ _ _ h => h) (by rfl) (fun w h => by obtain ⟨h0, h1, h2, h3, h4, h5⟩ := h; go_simp; rfl) (by assumption) ?_
 simp only [set0, set1]
 refine tkk 4 51 rfl rfl (by kernel_rfl) (fun _ _ _ _ h => h) (by rfl) (fun w h => by obtain ⟨h0, h1, h2, h3, h4, h5⟩ := h; go_simp; rfl) (by assumption) ?_
 simp only [set0, set1]
 refine tkk 5 52 rfl rfl (by kernel_rfl) (fun _ _ _ _ h => h) (by rfl) (fun w h => by obtain ⟨h0, h1, h2, h3, h4, h5⟩ := h; go_simp; rfl) (by assumption) ?_
 simp only [set0, set1]
 refine tkk 6 53 rfl rfl (by kernel_rfl) (fun _ _ _ _ h => h) (by rfl) (fun w h => by obtain ⟨h0, h1, h2, h3, h4, h5⟩ := h; go_simp; rfl) (by assumption) ?_
 simp only [set0, set1]
 refine tkk 7 54 rfl rfl (by kernel_rfl) (fun _ _ _ _ h => h) (by rfl) (fun w h => by obtain ⟨h0, h1, h2, h3, h4, h5⟩ := h; go_simp; rfl) (by assumption) ?_
 simp only [set0, set1]
 refine tkk 8 55 rfl rfl (by kernel_rfl) (fun _ _ _ _ h => h) (by rfl) (fun w h => by obtain ⟨h0, h1, h2, h3, h4, h5⟩ := h; go_simp; rfl) (by assumption) ?_
 simp only [set0, set1]
 refine wpAnyH_ready (rs := [9]) (by kernel_rfl) (by simp) ?_
 refine AllReadyH.cons rfl (fun K hK => ?_) AllReadyH.nil
 go_simp
 refine (isPower_c EA.out.iv EB.out.iv EC.out.iv).mono ?_
 rintro e v4 ⟨rfl, hb⟩
 replace EA := Lib.hid (EA.out.next hb)
 replace EB := Lib.hid (EB.out.next hb)
 replace EC := Lib.hid (EC.out.next hb)
 replace P := Lib.hid (P.out.trans (hb.mono P.out.size))
 have HF := Lib.hid (show linkZ 2 za zb zc = decide (1 ≤ za ∧ 0 ≤ zb ∧ za ^ zb.toNat = zc) from rfl)
 generalize decide (1 ≤ za ∧ 0 ≤ zb ∧ za ^ zb.toNat = zc) = x at HF ⊢
 clear hHeld hb
 refine hK.out _ _ (⟨EA.out.c0, EA.out.c1, EB.out.c0, EB.out.c1, EC.out.c0, EC.out.c1⟩) (fun hHeld => ?_)
 clear hK K
 refine tkk 10 4 rfl rfl (by kernel_rfl) (fun _ _ _ _ h => h) (by rfl) (fun w h => by obtain ⟨h0, h1, h2, h3, h4, h5⟩ := h; go_simp; rfl) (by assumption) ?_
 clear hHeld
 refine wpAnyH_done (by kernel_rfl) ?_ _
 go_wp2
 go_ret
 exact ⟨by rw [HF.out] <;> rfl, P.out⟩
set_option maxHeartbeats 8000000 in
theorem linkHolds3_c (A : Option Addr) (n c : Nat) (zs : List Int) (w : World) (h : RdN w A n (zs.map nmOf)) (hz : ∀ i, i < zs.length → Sz (zs.getD i 0) 4096) (hn : zs.length = 2) :
 Calls Try.prog 28 #[.int .i64 3, .slice A n c] w (IsB (linkZ 3 (zs.getD 0 0) (zs.getD 1 0) (zs.getD 2 0)) w) := by
 obtain rfl : n = 2 := by have := h.len; rw [List.length_map] at this; omega
 obtain ⟨b, o, rfl, hE⟩ := zs_at h hz (by omega)
 obtain ⟨ta, Aa, na, ca, ha⟩ := hE 0 (by omega)
 obtain ⟨tb, Ab, nb, cb, hb⟩ := hE 1 (by omega)
 generalize zs.getD 0 0 = za at ha ⊢
 generalize zs.getD 1 0 = zb at hb ⊢
 generalize zs.getD 2 0 = zc 
 have EA := Lib.hid (show NE w b (o) za ta Aa na ca from ha)
 have EB := Lib.hid (show NE w b (o + 2) zb tb Ab nb cb from hb)
 have P := Lib.hid (Below.refl w.heap.size w)
 clear h hz hn hE ha hb
 go_enter Try.func28, Try.ntmps28
 have HU := Lib.hid (Under_all EA.out.iv EB.out.iv)
 clear HU
 go_upto_region 9 with (fail)
 refine wp_region_held_drew (S := (fun w' => w'.cell? ⟨b, o, none⟩ = some (.bool ta) ∧ w'.cell? ⟨b, (o + 1), none⟩ = some (.slice Aa na ca) ∧ w'.cell? ⟨b, (o + 2), none⟩ = some (.bool tb) ∧ w'.cell? ⟨b, (o + 3), none⟩ = some (.slice Ab nb cb))) (by kernel_rfl) (⟨cell_drq EA.out.c0, cell_drq EA.out.c1, cell_drq EB.out.c0, cell_drq EB.out.c1⟩) (fun hHeld => ?_)
 replace EA := Lib.hid (EA.out.next (Below.refl w.heap.size w).drew)
 replace EB := Lib.hid (EB.out.next (Below.refl w.heap.size w).drew)
 replace P := Lib.hid (P.out.trans ((Below.refl w.heap.size w).drew.mono P.out.size))
 generalize w.drew = D5 at EA EB P hHeld ⊢
 refine tkk 0 60 rfl rfl (by kernel_rfl) (fun _ _ _ _ h => h) (by rfl) (fun w h => by obtain ⟨h0, h1, h2, h3⟩ := h; go_simp; rfl) (by assumption) ?_
 simp only [set0, set1]
 refine tkk 1 61 rfl rfl (by kernel_rfl) (fun _ _ _ _ h => h) (by rfl) (fun w h => by obtain ⟨h0, h1, h2, h3⟩ := h; go_simp; rfl) (by assumption) ?_
 simp only [set0, set1]
 refine tkk 2 62 rfl rfl (by kernel_rfl) (fun _ _ _ _ h => h) (by rfl) (fun w h => by obtain ⟨h0, h1, h2, h3⟩ := h; go_simp; rfl) (by assumption) ?_
 simp only [set0, set1]
 refine tkk 3 63 rfl rfl (by kernel_rfl) (fun _ _ _ _ h => h) (by rfl) (fun w h => by obtain ⟨h0, h1, h2, h3⟩ := h; go_simp; rfl) (by assumption) ?_
 simp only [set0, set1]
 refine tkk 4 64 rfl rfl (by kernel_rfl) (fun _ _ _ _ h => h) (by rfl) (fun w h => by obtain ⟨h0, h1, h2, h3⟩ := h; go_simp; rfl) (by assumption) ?_
 simp only [set0, set1]
 refine tkk 5 65 rfl rfl (by kernel_rfl) (fun _ _ _ _ h => h) (by rfl) (fun w h => by obtain ⟨h0, h1, h2, h3⟩ := h; go_simp; rfl) (by assumption) ?_
 simp only [set0, set1]
 refine wpAnyH_ready (rs := [6]) (by kernel_rfl) (by simp) ?_
 refine AllReadyH.cons rfl (fun K hK => ?_) AllReadyH.nil
 go_simp
 refine (Under_all EA.out.iv EB.out.iv).mono ?_
 rintro e v6 ⟨x, ke, rfl, hx, hb⟩
 replace EA := Lib.hid (EA.out.next hb)
 replace EB := Lib.hid (EB.out.next hb)
 replace P := Lib.hid (P.out.trans (hb.mono P.out.size))
 have HF := Lib.hid (show linkZ 3 za zb zc = (x && (ke == 0)) from hx)
 clear hHeld hb hx
 refine hK.out _ _ (⟨EA.out.c0, EA.out.c1, EB.out.c0, EB.out.c1⟩) (fun hHeld => ?_)
 clear hK K
 refine tkk 7 59 rfl rfl (by kernel_rfl) (fun _ _ _ _ h => h) (by rfl) (fun w h => by obtain ⟨h0, h1, h2, h3⟩ := h; go_simp; rfl) (by assumption) ?_
 simp only [set0, set1]
 refine tkk 8 67 rfl rfl (by kernel_rfl) (fun _ _ _ _ h => h) (by rfl) (fun w h => by obtain ⟨h0, h1, h2, h3⟩ := h; go_simp; rfl) (by assumption) ?_
 simp only [set0, set1]
 refine tkk 9 68 rfl rfl (by kernel_rfl) (fun _ _ _ _ h => h) (by rfl) (fun w h => by obtain ⟨h0, h1, h2, h3⟩ := h; go_simp; rfl) (by assumption) ?_
 simp only [set0, set1]
 refine tkk 10 9 rfl rfl (by kernel_rfl) (fun _ _ _ _ h => h) (by rfl) (fun w h => by obtain ⟨h0, h1, h2, h3⟩ := h; go_simp; rfl) (by assumption) ?_
 simp only [set0, set1]
 refine tkk 11 10 rfl rfl (by kernel_rfl) (fun _ _ _ _ h => h) (by rfl) (fun w h => by obtain ⟨h0, h1, h2, h3⟩ := h; go_simp; rfl) (by assumption) ?_
 clear hHeld
 refine wpAnyH_done (by kernel_rfl) ?_ _
 clear EA EB
 cases x with
 | false =>
   go_wp2
   go_ret
   exact ⟨by rw [HF.out] <;> rfl, P.out⟩
 | true =>
 have HF2 := Lib.hid (show linkZ 3 za zb zc = (ke == 0) from HF.out)
 clear HF
 generalize hk : (ke == 0) = x at HF2
 go_wp2
 go_ret
 exact ⟨by rw [HF2.out] <;> rfl, P.out⟩
set_option maxHeartbeats 8000000 in
theorem linkHolds0_c (A : Option Addr) (n c : Nat) (zs : List Int) (w : World) (h : RdN w A n (zs.map nmOf)) (hz : ∀ i, i < zs.length → Sz (zs.getD i 0) 4096) (hn : zs.length = 1) :
 Calls Try.prog 28 #[.int .i64 0, .slice A n c] w (IsB (linkZ 0 (zs.getD 0 0) (zs.getD 1 0) (zs.getD 2 0)) w) := by
 obtain rfl : n = 1 := by have := h.len; rw [List.length_map] at this; omega
 obtain ⟨b, o, rfl, hE⟩ := zs_at h hz (by omega)
 obtain ⟨ta, Aa, na, ca, ha⟩ := hE 0 (by omega)
 generalize zs.getD 0 0 = za at ha ⊢
 generalize zs.getD 1 0 = zb 
 generalize zs.getD 2 0 = zc 
 have EA := Lib.hid (show NE w b (o) za ta Aa na ca from ha)
 have P := Lib.hid (Below.refl w.heap.size w)
 clear h hz hn hE ha
 go_enter Try.func28, Try.ntmps28
 have a0 := EA.out.c0
 have a1 := EA.out.c1
 have HF := Lib.hid (show linkZ 0 za zb zc = decide (na = 0) by
  have h1 := zero_iff EA.out.iv.is
  show decide (za = 0) = _
  by_cases h : za = 0
  · rw [decide_eq_true h, decide_eq_true (h1.2 h)]
  · rw [decide_eq_false h, decide_eq_false (fun q => h (h1.1 q))])
 go_wp2_with fail
 refine (czero_c ta Aa na ca w).mono ?_
 rintro e w1 ⟨rfl, hb⟩
 replace P := Lib.hid (P.out.trans (hb.mono P.out.size))
 clear hb a0 a1 EA
 generalize decide (na = 0) = x at HF ⊢
 go_wp2
 go_ret
 exact ⟨by rw [HF.out] <;> rfl, P.out⟩
theorem linkHolds_c (kind : Int) (A : Option Addr) (n c : Nat) (zs : List Int) (w : World) (h0 : 0 ≤ kind) (h4 : kind < 4) (h : RdN w A n (zs.map nmOf)) (hz : ∀ i, i < zs.length → Sz (zs.getD i 0) 4096) (hn : (zs.length : Int) = polysOf kind) :
 Calls Try.prog 28 #[.int .i64 kind, .slice A n c] w (IsB (linkZ kind (zs.getD 0 0) (zs.getD 1 0) (zs.getD 2 0)) w) := by
 rcases (show kind = 0 ∨ kind = 1 ∨ kind = 2 ∨ kind = 3 by omega) with rfl | rfl | rfl | rfl
 · exact linkHolds0_c A n c zs w h hz (by have e : polysOf 0 = 1 := (by decide); omega)
 · exact linkHolds1_c A n c zs w h hz (by have e : polysOf 1 = 3 := (by decide); omega)
 · exact linkHolds2_c A n c zs w h hz (by have e : polysOf 2 = 3 := (by decide); omega)
 · exact linkHolds3_c A n c zs w h hz (by have e : polysOf 3 = 2 := (by decide); omega)
end Go.Proofs.Yteabokkofoomkaa
