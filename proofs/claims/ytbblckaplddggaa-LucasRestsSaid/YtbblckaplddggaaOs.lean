import Derived.Test.YtbblckaplddggaaNl
import Derived.Test.YtbblckaplddggaaOq
import Derived.Test.YtbblckaplddggaaRc
import Derived.BigQuiet
import Derived.Test.YtbblckaplddggaaOc
set_option maxRecDepth 100000
namespace Go.Proofs.Ytbblckaplddggaa
open Go.RowKit Go.Shelf
/-- a variable that holds whatever words -/
structure Rb (W : World) (g : Nat) (s : Bool) (A : Option Addr) (n c : Nat) (xs : List Nat) : Prop where
  lt : g < W.heap.size
  c0 : W.cell? ⟨g, 0, none⟩ = some (.bool s)
  c1 : W.cell? ⟨g, 1, none⟩ = some (.slice A n c)
  rd : Rd W A n xs
theorem Rb.next {W w1 : World} {b : Nat} {s : Bool} {A : Option Addr} {n c : Nat} {xs : List Nat} (h : Rb W b s A n c xs) (hb : Below W.heap.size W w1) : Rb w1 b s A n c xs :=
  ⟨Nat.lt_of_lt_of_le h.lt hb.size, (hb.cell (p := ⟨b, 0, none⟩) h.lt).trans h.c0, (hb.cell (p := ⟨b, 1, none⟩) h.lt).trans h.c1, h.rd.below hb⟩
theorem Rb.new {W : World} {s : Bool} {A : Option Addr} {n c : Nat} {xs : List Nat} (h : Rd W A n xs) : Rb (W.alloc (.cells #[.bool s, .slice A n c] 24)) W.heap.size s A n c xs :=
  ⟨by simp, by go_simp, by go_simp, h.below (below_alloc _ _)⟩
theorem Rb.alloc {W : World} {b : Nat} {s : Bool} {A : Option Addr} {n c : Nat} {xs : List Nat} (h : Rb W b s A n c xs) (o : Obj) : Rb (W.alloc o) b s A n c xs := h.next (below_alloc _ _)
set_option maxHeartbeats 2000000 in
theorem Valid1_raw {W : World} {g : Nat} {s : Bool} {A : Option Addr} {n c : Nat} {xs : List Nat} (h : Rb W g s A n c xs) :
    Calls Try.prog 88 #[.slice (some ⟨g, 0, none⟩) 1 1] W (IsB (validB s xs) W) := by
  have HV := Lib.hid h.rd
  have c0 := h.c0
  have c1 := h.c1
  clear h
  go_enter Try.func88, Try.ntmps88
  go_wp2_with fail
  refine wp_loop_rounds 2 ?_
  rw [rounds_succ]
  go_wp2_with fail
  refine (valid_c s A n c xs _ (HV.out.below (below_alloc _ _))).mono ?_
  rintro e w1 ⟨rfl, hb⟩
  have HB := Lib.hid ((below_alloc W (.cells #[.bool s, .slice A n c] 24)).trans (hb.mono (by simp)))
  clear hb
  cases hv : validB s xs with
  | true =>
    go_wp2_with fail
    rw [rounds_succ]
    go_wp2
    go_ret
    exact ⟨by rw [hv]; rfl, HB.out⟩
  | false =>
    go_wp2
    go_ret
    exact ⟨by rw [hv]; rfl, HB.out⟩
theorem oth1_raw {W : World} {g : Nat} {s : Bool} {A : Option Addr} {n c : Nat} {xs : List Nat} (h : Rb W g s A n c xs) : Oth W (.slice (some ⟨g, 0, none⟩) 1 1) (validB s xs) := fun _ hb =>
  Valid1_raw (h.next hb)
/-- the error of a number of the sequences, beside others -/
def codeV (s : Bool) (xs : List Nat) (vo : Bool) : Int := if validB s xs = false ∨ vo = false then 1 else if sgn s (val xs) < 2 then 2 else 0
set_option maxHeartbeats 2000000 in
theorem check_bad {w : World} {s : Bool} {A : Option Addr} {n c : Nat} {xs : List Nat} (h : Rd w A n xs) (o : Value) (vo : Bool) (ho : Oth w o vo) (hv : validB s xs = false ∨ vo = false) :
    Calls Try.prog 52 #[.agg #[.bool s, .slice A n c], o] w fun e w' => e = .returned (.int .i64 1) ∧ Below w.heap.size w w' := by
  have b0 := below_alloc w (.cells #[.bool s, .slice A n c] 24)
  have B0 := Lib.hid (Rb.new (s := s) (c := c) h)
  have HB := Lib.hid b0
  have HO := Lib.hid ho
  obtain ⟨va, hva⟩ : ∃ va, va = validB s xs := ⟨_, rfl⟩
  rw [← hva] at hv
  have HVA := Lib.hid hva
  clear h b0 ho hva
  go_enter Try.func52, Try.ntmps52
  go_wp2_with fail
  generalize w.alloc (.cells #[.bool s, .slice A n c] 24) = W0 at B0 HB ⊢
  refine (valid_c s A n c xs _ B0.out.rd).mono ?_
  rw [← HVA.out]
  rintro e w1 ⟨rfl, hb⟩
  replace HB := Lib.hid (HB.out.trans (hb.mono HB.out.size))
  clear hb B0
  cases va with
  | false =>
    go_wp2
    go_ret
    exact ⟨rfl, HB.out⟩
  | true =>
    have hvo : vo = false := by
      rcases hv with h | h
      · cases h
      · exact h
    subst hvo
    go_wp2_with fail
    refine (HO.out _ HB.out).mono ?_
    rintro e w2 ⟨rfl, hb⟩
    replace HB := Lib.hid (HB.out.trans (hb.mono HB.out.size))
    clear hb
    go_wp2
    go_ret
    exact ⟨rfl, HB.out⟩
theorem check_raw {w : World} {s : Bool} {A : Option Addr} {n c : Nat} {xs : List Nat} (h : Rd w A n xs) (hn : n ≤ c) (hc : c ≤ 9223372036854775807) (o : Value) (vo : Bool) (ho : Oth w o vo) :
    Calls Try.prog 52 #[.agg #[.bool s, .slice A n c], o] w fun e w' => e = .returned (.int .i64 (codeV s xs vo)) ∧ Below w.heap.size w w' := by
  by_cases hv : validB s xs = false ∨ vo = false
  · have := check_bad (s := s) (c := c) h o vo ho hv
    unfold codeV
    rw [if_pos hv]
    exact this
  · have h1 : validB s xs = true := by
      cases hb : validB s xs
      · exact absurd (.inl hb) hv
      · rfl
    have h2 : vo = true := by
      cases vo
      · exact absurd (.inr rfl) hv
      · rfl
    subst h2
    have i := Is.of_valid h h1 hn hc
    have hl : n ≤ 4096 := by
      rw [i.2.1]
      have := i.2.1
      unfold validB at h1
      rw [h.len] at h1
      split at h1
      · omega
      · simp at h1; omega
    have hz : Sz (sgn s (val xs)) 4096 := sz_valid h hl
    unfold codeV
    rw [if_neg hv]
    split
    · exact check_ok (i.iv_of hz) o ho 2 (.inr ⟨by assumption, rfl⟩)
    · exact check_ok (i.iv_of hz) o ho 0 (.inl ⟨by omega, rfl⟩)
/-- no number and an error -/
def NumZ (k : Int) (w : World) (e : Ending) (w' : World) : Prop := e = .returned (.tuple #[.agg #[.bool false, .slice none 0 0], .int .i64 k]) ∧ Below w.heap.size w w'
structure Rr (w W : World) (s : Bool) (A : Option Addr) (n c : Nat) (xs : List Nat) : Prop where
  below : Below w.heap.size w W
  bx : Rb W w.heap.size s A n c xs
  vb : Vb w W (w.heap.size + 1) false none 0 0
theorem Rr.start {w : World} {s : Bool} {A : Option Addr} {n c : Nat} {xs : List Nat} (h : Rd w A n xs) : Rr w ((w.alloc (.cells #[.bool s, .slice A n c] 24)).alloc (.cells #[.bool false, .slice none 0 0] 24)) s A n c xs :=
  ⟨((Below.refl _ _).alloc (Nat.le_refl _) _).alloc (by simp) _, (Rb.new h).alloc _, Vb.new1 w w _ false none 0 0 (Nat.le_refl _)⟩
theorem Rr.next {w W W' : World} {s : Bool} {A : Option Addr} {n c : Nat} {xs : List Nat} (h : Rr w W s A n c xs) (hb : Below W.heap.size W W') : Rr w W' s A n c xs :=
  ⟨h.below.trans (hb.mono h.below.size), h.bx.next hb, h.vb.below hb⟩
set_option maxHeartbeats 4000000 in
theorem Psi_err {w : World} {s : Bool} {A : Option Addr} {n c : Nat} {xs : List Nat} (h : Rd w A n xs) (hn : n ≤ c) (hc : c ≤ 9223372036854775807) (K : Int) (k : Int) (hk : (codeV s xs true = k ∧ k ≠ 0) ∨ (codeV s xs true = 0 ∧ K < 0 ∧ k = 2)) :
    Calls Try.prog 16 #[.agg #[.bool s, .slice A n c], .int .i64 K] w (NumZ k w) := by
  have E := Lib.hid (Rr.start (s := s) (c := c) h)
  have HN := Lib.hid (And.intro hn hc)
  obtain ⟨v, hv⟩ : ∃ v, v = codeV s xs true := ⟨_, rfl⟩
  rw [← hv] at hk
  have HV := Lib.hid hv
  clear h hn hc hv
  go_enter Try.func16, Try.ntmps16
  go_wp2_with fail
  generalize (w.alloc (.cells #[.bool s, .slice A n c] 24)).alloc (.cells #[.bool false, .slice none 0 0] 24) = W0 at E ⊢
  refine (check_raw E.out.bx.rd HN.out.1 HN.out.2 _ true (oth_nil _)).mono ?_
  rw [← HV.out]
  rintro e w1 ⟨rfl, hb⟩
  replace E := Lib.hid (E.out.next hb)
  clear hb HV
  have r0 := E.out.vb.c0
  have r1 := E.out.vb.c1
  have f0 := E.out.vb.f0
  have f1 := E.out.vb.f1
  rcases hk with ⟨rfl, hk⟩ | ⟨rfl, hK, rfl⟩
  · have t1 : (v == 0) = false := by rw [beq_eq_false_iff_ne]; exact hk
    go_wp2
    refine bodyPost_ret (v := .tuple #[.agg #[.bool false, .slice none 0 0], .int .i64 v]) (by simp [results, Try.results16, go_sem, r0, r1]) rfl ?_
    exact ⟨rfl, below_store E.out.below (by omega) _ _⟩
  · go_wp2
    refine bodyPost_ret (v := .tuple #[.agg #[.bool false, .slice none 0 0], .int .i64 2]) (by simp [results, Try.results16, go_sem, r0, r1]) rfl ?_
    exact ⟨rfl, below_store E.out.below (by omega) _ _⟩
set_option maxHeartbeats 4000000 in
theorem Chi_err {w : World} {s : Bool} {A : Option Addr} {n c : Nat} {xs : List Nat} (h : Rd w A n xs) (hn : n ≤ c) (hc : c ≤ 9223372036854775807) (K : Int) (k : Int) (hk : (codeV s xs true = k ∧ k ≠ 0) ∨ (codeV s xs true = 0 ∧ K < 0 ∧ k = 2)) :
    Calls Try.prog 17 #[.agg #[.bool s, .slice A n c], .int .i64 K] w (NumZ k w) := by
  have E := Lib.hid (Rr.start (s := s) (c := c) h)
  have HN := Lib.hid (And.intro hn hc)
  obtain ⟨v, hv⟩ : ∃ v, v = codeV s xs true := ⟨_, rfl⟩
  rw [← hv] at hk
  have HV := Lib.hid hv
  clear h hn hc hv
  go_enter Try.func17, Try.ntmps17
  go_wp2_with fail
  generalize (w.alloc (.cells #[.bool s, .slice A n c] 24)).alloc (.cells #[.bool false, .slice none 0 0] 24) = W0 at E ⊢
  refine (check_raw E.out.bx.rd HN.out.1 HN.out.2 _ true (oth_nil _)).mono ?_
  rw [← HV.out]
  rintro e w1 ⟨rfl, hb⟩
  replace E := Lib.hid (E.out.next hb)
  clear hb HV
  have r0 := E.out.vb.c0
  have r1 := E.out.vb.c1
  have f0 := E.out.vb.f0
  have f1 := E.out.vb.f1
  rcases hk with ⟨rfl, hk⟩ | ⟨rfl, hK, rfl⟩
  · have t1 : (v == 0) = false := by rw [beq_eq_false_iff_ne]; exact hk
    go_wp2
    refine bodyPost_ret (v := .tuple #[.agg #[.bool false, .slice none 0 0], .int .i64 v]) (by simp [results, Try.results17, go_sem, r0, r1]) rfl ?_
    exact ⟨rfl, below_store E.out.below (by omega) _ _⟩
  · go_wp2
    refine bodyPost_ret (v := .tuple #[.agg #[.bool false, .slice none 0 0], .int .i64 2]) (by simp [results, Try.results17, go_sem, r0, r1]) rfl ?_
    exact ⟨rfl, below_store E.out.below (by omega) _ _⟩
theorem sz_two : Sz 2 1 := by
  show (2 : Int).natAbs < pw 1
  rw [show pw 1 = 4294967296 by unfold pw; decide]
  decide
set_option maxHeartbeats 1000000 in
/-- the law's word for a number's error -/
theorem Right_c {w : World} {z : Int} {t : Bool} {A : Option Addr} {n c : Nat} (h : Is w z t A n c) (hn : n ≤ 8796093022208) : Calls Try.prog 59 #[.agg #[.bool t, .slice A n c]] w (IsB (decide (2 ≤ z)) w) := by
  have B0 := Lib.hid (Box.new h)
  have HB := Lib.hid (below_alloc w (.cells #[.bool t, .slice A n c] 24))
  clear h
  go_enter Try.func59, Try.ntmps59
  go_upto_region 1 with (fail)
  generalize w.alloc (.cells #[.bool t, .slice A n c] 24) = W0 at B0 HB ⊢
  have a0 := B0.out.c0
  have a1 := B0.out.c1
  go_region_held3 (fun w' => w'.cell? ⟨w.heap.size, 0, none⟩ = some (.bool t) ∧ w'.cell? ⟨w.heap.size, 1, none⟩ = some (.slice A n c)) (first | (with_reducible exact ⟨a0, a1⟩) | (with_reducible exact ⟨cell_dr a0, cell_dr a1⟩) | fail)
    (first
      | (go_at_call 25; (with_reducible refine (refOf_c 2 _ (by omega) (by omega)).mono ?_); rintro e w3 h3; obtain ⟨t2, A2, n2, c2, rfl, i2, hb⟩ := h3.numI; have hb' := (Below.refl W0.heap.size W0).drew.trans hb; replace B0 := Lib.hid (B0.out.next hb'); replace HB := Lib.hid (HB.out.trans (hb'.mono HB.out.size)); have I2 := Lib.hid i2; clear a0 a1 hb hb' i2 h3; have a0 := B0.out.c0; have a1 := B0.out.c1)
      | (go_at_call 24; (with_reducible refine (refCmp_c B0.out.is I2.out (by omega) (Nat.le_trans (I2.out.len sz_two) (by omega))).mono ?_); rintro e w4 ⟨rfl, hb⟩; replace B0 := Lib.hid (B0.out.next hb); replace HB := Lib.hid (HB.out.trans (hb.mono HB.out.size)); clear a0 a1 hb; have a0 := B0.out.c0; have a1 := B0.out.c1)
      | fail "no arm")
  rcases ord_cases z 2 with ⟨ho, hz⟩ | ⟨ho, hz⟩ | ⟨ho, hz⟩
  · have hd : decide (2 ≤ z) = false := decide_eq_false (by omega)
    rw [ho]
    go_wp2
    go_ret
    exact ⟨by rw [hd]; rfl, HB.out⟩
  · have hd : decide (2 ≤ z) = true := decide_eq_true (by omega)
    rw [ho]
    go_wp2
    go_ret
    exact ⟨by rw [hd]; rfl, HB.out⟩
  · have hd : decide (2 ≤ z) = true := decide_eq_true (by omega)
    rw [ho]
    go_wp2
    go_ret
    exact ⟨by rw [hd]; rfl, HB.out⟩
end Go.Proofs.Ytbblckaplddggaa
set_option maxRecDepth 100000
namespace Go.Proofs.Ytbblckaplddggaa
open Go.RowKit Go.Shelf
theorem raw_len {w : World} {s : Bool} {A : Option Addr} {n : Nat} {xs : List Nat} (h : Rd w A n xs) (h1 : validB s xs = true) : n ≤ 4096 := by
  unfold validB at h1
  rw [h.len] at h1
  split at h1
  · omega
  · simp at h1; omega
theorem raw_iv {w : World} {s : Bool} {A : Option Addr} {n c : Nat} {xs : List Nat} (h : Rd w A n xs) (h1 : validB s xs = true) (hn : n ≤ c) (hc : c ≤ 9223372036854775807) : Iv w (sgn s (val xs)) s A n c :=
  (Is.of_valid h h1 hn hc).iv_of (sz_valid h (raw_len h h1))
theorem codeV_bad {s : Bool} {xs : List Nat} {vo : Bool} (h : validB s xs = false ∨ vo = false) : codeV s xs vo = 1 := if_pos h
theorem codeV_zero {s : Bool} {xs : List Nat} {vo : Bool} (h : codeV s xs vo = 0) : validB s xs = true ∧ vo = true ∧ 2 ≤ sgn s (val xs) := by
  unfold codeV at h
  split at h
  · omega
  · rename_i hv
    split at h
    · omega
    · refine ⟨?_, ?_, by omega⟩
      · cases hb : validB s xs
        · exact absurd (.inl hb) hv
        · rfl
      · cases vo
        · exact absurd (.inr rfl) hv
        · rfl
set_option maxHeartbeats 2000000 in
theorem code_c {w : World} {s : Bool} {A : Option Addr} {n c : Nat} {xs : List Nat} (h : Rd w A n xs) (hn : n ≤ c) (hc : c ≤ 9223372036854775807) :
    Calls Try.prog 18 #[.agg #[.bool s, .slice A n c]] w fun e w' => e = .returned (.int .i64 (codeV s xs true)) ∧ Below w.heap.size w w' := by
  have b0 := below_alloc w (.cells #[.bool s, .slice A n c] 24)
  have B0 := Lib.hid (Rb.new (s := s) (c := c) h)
  have HB := Lib.hid b0
  have HN := Lib.hid (And.intro hn hc)
  obtain ⟨va, hva⟩ : ∃ va, va = validB s xs := ⟨_, rfl⟩
  have HVA := Lib.hid hva
  clear h b0 hn hc hva
  go_enter Try.func18, Try.ntmps18
  go_wp2_with fail
  generalize w.alloc (.cells #[.bool s, .slice A n c] 24) = W0 at B0 HB ⊢
  refine (refValid_c s A n c xs _ B0.out.rd).mono ?_
  rw [← HVA.out]
  rintro e w1 ⟨rfl, hb⟩
  replace HB := Lib.hid (HB.out.trans (hb.mono HB.out.size))
  replace B0 := Lib.hid (B0.out.next hb)
  clear hb
  cases va with
  | false =>
    go_wp2
    go_ret
    exact ⟨by rw [codeV_bad (.inl HVA.out.symm)]; rfl, HB.out⟩
  | true =>
    have a0 := B0.out.c0
    have a1 := B0.out.c1
    go_wp2_with fail
    refine (Right_c (Is.of_valid B0.out.rd HVA.out.symm HN.out.1 HN.out.2) (Nat.le_trans (raw_len B0.out.rd HVA.out.symm) (by omega))).mono ?_
    rintro e w2 ⟨rfl, hb⟩
    replace HB := Lib.hid (HB.out.trans (hb.mono HB.out.size))
    clear hb a0 a1 B0
    by_cases hz : 2 ≤ sgn s (val xs)
    · have HV := Lib.hid (show codeV s xs true = 0 by unfold codeV; rw [if_neg (by rw [← HVA.out]; simp), if_neg (by omega)])
      rw [decide_eq_true hz]
      clear hz
      go_wp2
      go_ret
      exact ⟨by rw [HV.out]; rfl, HB.out⟩
    · have HV := Lib.hid (show codeV s xs true = 2 by unfold codeV; rw [if_neg (by rw [← HVA.out]; simp), if_pos (by omega)])
      rw [decide_eq_false hz]
      clear hz
      go_wp2
      go_ret
      exact ⟨by rw [HV.out]; rfl, HB.out⟩
set_option maxHeartbeats 2000000 in
theorem number_err (k : Int) (hk : k ≠ 0) (t' : Bool) (A' : Option Addr) (n' c' : Nat) (w : World) :
    Calls Try.prog 19 #[.agg #[.bool false, .slice none 0 0], .int .i64 k, .agg #[.bool t', .slice A' n' c'], .int .i64 k] w (IsB true w) := by
  have HB := Lib.hid ((below_alloc w (.cells #[.bool false, .slice none 0 0] 24)).alloc (by simp) (.cells #[.bool t', .slice A' n' c'] 24))
  have t1 : (k == 0) = false := by rw [beq_eq_false_iff_ne]; exact hk
  go_enter Try.func19, Try.ntmps19
  go_wp2_with fail
  refine (zero_c false none 0 0 _).mono ?_
  rintro e w2 ⟨rfl, hb⟩
  replace HB := Lib.hid (HB.out.trans (hb.mono HB.out.size))
  clear hb
  go_wp2
  go_ret
  exact ⟨rfl, HB.out⟩
set_option maxHeartbeats 2000000 in
theorem number_ok {w : World} {z : Int} {t t' : Bool} {A A' : Option Addr} {n c n' c' : Nat} (h : Is w z t A n c) (h' : Is w z t' A' n' c') (hz : Sz z 4096) :
    Calls Try.prog 19 #[.agg #[.bool t, .slice A n c], .int .i64 0, .agg #[.bool t', .slice A' n' c'], .int .i64 0] w (IsB true w) := by
  have hb := (below_alloc w (.cells #[.bool t, .slice A n c] 24)).alloc (by simp) (.cells #[.bool t', .slice A' n' c'] 24)
  have HI := Lib.hid (h.below hb)
  have HJ := Lib.hid (h'.below hb)
  have HZ := Lib.hid hz
  have HB := Lib.hid hb
  clear h h' hz hb
  go_enter Try.func19, Try.ntmps19
  go_wp2_with fail
  refine (same_eq (k := 4096) HI.out HJ.out HZ.out (Nat.le_refl _) rfl).mono ?_
  rintro e w2 ⟨rfl, hb⟩
  replace HB := Lib.hid (HB.out.trans (hb.mono HB.out.size))
  clear hb
  go_wp2
  go_ret
  exact ⟨rfl, HB.out⟩
/-- two variables of whatever words -/
structure Rb2 (w W : World) (s : Bool) (A : Option Addr) (n c : Nat) (xs : List Nat) (s' : Bool) (A' : Option Addr) (n' c' : Nat) (ys : List Nat) : Prop where
  below : Below w.heap.size w W
  ba : Rb W w.heap.size s A n c xs
  bb : Rb W (w.heap.size + 1) s' A' n' c' ys
theorem Rb2.next {w W W' : World} {s : Bool} {A : Option Addr} {n c : Nat} {xs : List Nat} {s' : Bool} {A' : Option Addr} {n' c' : Nat} {ys : List Nat} (h : Rb2 w W s A n c xs s' A' n' c' ys) (hb : Below W.heap.size W W') : Rb2 w W' s A n c xs s' A' n' c' ys :=
  ⟨h.below.trans (hb.mono h.below.size), h.ba.next hb, h.bb.next hb⟩
theorem Rb2.start {w : World} {s : Bool} {A : Option Addr} {n c : Nat} {xs : List Nat} {s' : Bool} {A' : Option Addr} {n' c' : Nat} {ys : List Nat} (h : Rd w A n xs) (h' : Rd w A' n' ys) : Rb2 w ((w.alloc (.cells #[.bool s, .slice A n c] 24)).alloc (.cells #[.bool s', .slice A' n' c'] 24)) s A n c xs s' A' n' c' ys := by
  refine ⟨((Below.refl _ _).alloc (Nat.le_refl _) _).alloc (by simp) _, (Rb.new h).alloc _, ?_⟩
  have := Rb.new (s := s') (c := c') (h'.below (below_alloc w (.cells #[.bool s, .slice A n c] 24)))
  rwa [World.size_alloc] at this
end Go.Proofs.Ytbblckaplddggaa
