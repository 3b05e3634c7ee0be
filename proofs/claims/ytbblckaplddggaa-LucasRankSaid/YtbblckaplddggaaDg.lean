import Derived.Test.YtbblckaplddggaaNz
import Derived.Test.YtbblckaplddggaaOs
set_option maxRecDepth 100000
namespace Go.Proofs.Ytbblckaplddggaa
open Go.RowKit Go.Shelf
set_option maxHeartbeats 2000000 in
theorem isModulus_no {w : World} {m : Int} {t : Bool} {A : Option Addr} {n c : Nat} (h : Iv w m t A n c) (hm : ¬ (0 < m ∧ blen m.natAbs ≤ 4000)) :
    Calls Try.prog 60 #[.agg #[.bool t, .slice A n c]] w (IsB false w) := by
  have b0 := below_alloc w (.cells #[.bool t, .slice A n c] 24)
  have B0 := Lib.hid (Box.new h.is)
  have HB := Lib.hid b0
  rcases (show m < 0 ∨ m = 0 ∨ (0 < m ∧ ¬ blen m.natAbs ≤ 4000) by omega) with (h1 | h1 | ⟨h1, h2⟩)
  · have ht : t = true := by rw [h.is.1]; exact decide_eq_true h1
    subst ht
    clear h b0 hm h1
    go_enter Try.func60, Try.ntmps60
    go_upto_region 1 with (fail)
    generalize w.alloc (.cells #[.bool true, .slice A n c] 24) = W0 at B0 HB ⊢
    have a0 := B0.out.c0
    have a1 := B0.out.c1
    go_wp2
    go_ret
    exact ⟨rfl, HB.out⟩
  · have ht : t = false := by rw [h.is.1]; exact decide_eq_false (by omega)
    have hn : n = 0 := by rw [h.is.2.1, h1, show (0 : Int).natAbs = 0 from rfl, words_zero]; rfl
    subst ht
    subst hn
    clear h b0 hm h1
    go_enter Try.func60, Try.ntmps60
    go_upto_region 1 with (fail)
    generalize w.alloc (.cells #[.bool false, .slice A 0 c] 24) = W0 at B0 HB ⊢
    have a0 := B0.out.c0
    have a1 := B0.out.c1
    go_wp2_with fail
    refine (IsZero_c _ _ _ _ _).mono ?_
    rw [show decide ((0 : Nat) = 0) = true from rfl]
    rintro e w1 ⟨rfl, hb1⟩
    replace HB := Lib.hid (HB.out.trans (hb1.mono HB.out.size))
    clear hb1 a0 a1
    go_wp2
    go_ret
    exact ⟨rfl, HB.out⟩
  · have ht : t = false := by rw [h.is.1]; exact decide_eq_false (by omega)
    subst ht
    have hn : decide (n = 0) = false := decide_eq_false (by
      rw [h.is.2.1]
      intro e
      have := words_len_le.1 (Nat.le_of_eq e)
      simp [pw] at this
      omega)
    have hl : n ≤ 4096 := by rw [h.is.2.1]; exact words_len_le.2 h.sz
    have HN := Lib.hid hn
    have HL := Lib.hid hl
    have hd : decide ((blen m.natAbs : Int) ≤ 4000) = false := decide_eq_false (by omega)
    clear h b0 hn hl hm h1 h2
    go_enter Try.func60, Try.ntmps60
    go_upto_region 1 with (fail)
    generalize w.alloc (.cells #[.bool false, .slice A n c] 24) = W0 at B0 HB ⊢
    have a0 := B0.out.c0
    have a1 := B0.out.c1
    go_wp2_with fail
    refine (IsZero_c _ _ _ _ _).mono ?_
    rw [HN.out]
    rintro e w1 ⟨rfl, hb1⟩
    replace B0 := Lib.hid (B0.out.next hb1)
    replace HB := Lib.hid (HB.out.trans (hb1.mono HB.out.size))
    clear hb1 a0 a1
    have a0 := B0.out.c0
    have a1 := B0.out.c1
    go_wp2_with fail
    refine (Bits_c B0.out.is HL.out).mono ?_
    rintro e w2 ⟨rfl, hb1⟩
    replace HB := Lib.hid (HB.out.trans (hb1.mono HB.out.size))
    clear hb1 a0 a1
    go_wp2
    go_ret
    exact ⟨rfl, HB.out⟩
/-- Rank's variables, whatever the words -/
structure Rq (w W : World) (s : Bool) (A : Option Addr) (n c : Nat) (xs : List Nat) (s' : Bool) (A' : Option Addr) (n' c' : Nat) (ys : List Nat) (K : Int) : Prop where
  below : Below w.heap.size w W
  ba : Rb W w.heap.size s A n c xs
  bb : Rb W (w.heap.size + 1) s' A' n' c' ys
  c2 : W.cell? ⟨w.heap.size + 1 + 1, 0, none⟩ = some (.int .i64 K)
  c3 : W.cell? ⟨w.heap.size + 1 + 1 + 1, 0, none⟩ = some (.int .i64 0)
  f3 : W.frozen? ⟨w.heap.size + 1 + 1 + 1, 0, none⟩ = false
  c4 : W.cell? ⟨w.heap.size + 1 + 1 + 1 + 1, 0, none⟩ = some (.int .i64 0)
  f4 : W.frozen? ⟨w.heap.size + 1 + 1 + 1 + 1, 0, none⟩ = false
  sz : w.heap.size + 5 ≤ W.heap.size
theorem Rq.next {w W W' : World} {s : Bool} {A : Option Addr} {n c : Nat} {xs : List Nat} {s' : Bool} {A' : Option Addr} {n' c' : Nat} {ys : List Nat} {K : Int} (h : Rq w W s A n c xs s' A' n' c' ys K) (hb : Below W.heap.size W W') : Rq w W' s A n c xs s' A' n' c' ys K := by
  have hs := h.sz
  exact ⟨h.below.trans (hb.mono h.below.size), h.ba.next hb, h.bb.next hb, (hb.cell (p := ⟨_, 0, none⟩) (by simp; omega)).trans h.c2, (hb.cell (p := ⟨_, 0, none⟩) (by simp; omega)).trans h.c3, (hb.frozen (p := ⟨_, 0, none⟩) (by simp; omega)).trans h.f3, (hb.cell (p := ⟨_, 0, none⟩) (by simp; omega)).trans h.c4, (hb.frozen (p := ⟨_, 0, none⟩) (by simp; omega)).trans h.f4, Nat.le_trans hs hb.size⟩
theorem Rq.start {w : World} {s : Bool} {A : Option Addr} {n c : Nat} {xs : List Nat} {s' : Bool} {A' : Option Addr} {n' c' : Nat} {ys : List Nat} (K : Int) (h : Rd w A n xs) (h' : Rd w A' n' ys) : Rq w (((((w.alloc (.cells #[.bool s, .slice A n c] 24)).alloc (.cells #[.bool s', .slice A' n' c'] 24)).alloc (.cells #[.int .i64 K] 3)).alloc (.cells #[.int .i64 0] 3)).alloc (.cells #[.int .i64 0] 27)) s A n c xs s' A' n' c' ys K := by
  have k0 := below_alloc w (.cells #[.bool s, .slice A n c] 24)
  have hb : Below w.heap.size w (((((w.alloc (.cells #[.bool s, .slice A n c] 24)).alloc (.cells #[.bool s', .slice A' n' c'] 24)).alloc (.cells #[.int .i64 K] 3)).alloc (.cells #[.int .i64 0] 3)).alloc (.cells #[.int .i64 0] 27)) :=
    (((((Below.refl _ _).alloc (Nat.le_refl _) _).alloc (by simp) _).alloc (by simp; omega) _).alloc (by simp; omega) _).alloc (by simp; omega) _
  have r2 := Rb.new (s := s') (c := c') (h'.below k0)
  rw [World.size_alloc] at r2
  exact ⟨hb, ((((Rb.new h).alloc _).alloc _).alloc _).alloc _, ((r2.alloc _).alloc _).alloc _, by go_simp, by go_simp, by go_simp, by go_simp, by go_simp, by simp⟩
/-- no index and an error -/
def IdxZ (k : Int) (w : World) (e : Ending) (w' : World) : Prop := e = .returned (.tuple #[.int .i64 0, .int .i64 k]) ∧ Below w.heap.size w w'
theorem Rq.put {w W : World} {s : Bool} {A : Option Addr} {n c : Nat} {xs : List Nat} {s' : Bool} {A' : Option Addr} {n' c' : Nat} {ys : List Nat} {K : Int} (h : Rq w W s A n c xs s' A' n' c' ys K) (k : Int) {X : World} (hX : (W.setCell ⟨w.heap.size + 1 + 1 + 1, 0, none⟩ (.int .i64 0)).setCell ⟨w.heap.size + 1 + 1 + 1 + 1, 0, none⟩ (.int .i64 k) = X) :
    Below w.heap.size w X ∧ X.cell? ⟨w.heap.size + 1 + 1 + 1, 0, none⟩ = some (.int .i64 0) ∧ X.cell? ⟨w.heap.size + 1 + 1 + 1 + 1, 0, none⟩ = some (.int .i64 k) := by
  subst hX
  have e : (W.setCell ⟨w.heap.size + 1 + 1 + 1, 0, none⟩ (.int .i64 0)).cell? ⟨w.heap.size + 1 + 1 + 1 + 1, 0, none⟩ = some (.int .i64 0) := by rw [World.cell?_setCell_other _ _ _ _ (by simp)]; exact h.c4
  exact ⟨(h.below.setCell (p := ⟨_, 0, none⟩) (by simp; omega) _).setCell (p := ⟨_, 0, none⟩) (by simp; omega) _, by rw [World.cell?_setCell_other _ _ _ _ (by simp)]; exact World.cell?_setCell_same _ _ _ h.c3, World.cell?_setCell_same _ _ _ e⟩
set_option maxHeartbeats 8000000 in
theorem Rank_err {w : World} {s : Bool} {A : Option Addr} {n c : Nat} {xs : List Nat} {s' : Bool} {A' : Option Addr} {n' c' : Nat} {ys : List Nat} (h : Rd w A n xs) (h' : Rd w A' n' ys) (hn : n ≤ c) (hc : c ≤ 9223372036854775807) (K k : Int) (hk : codeV s xs (validB s' ys) = k) (hk0 : k ≠ 0) :
    Calls Try.prog 32 #[.agg #[.bool s, .slice A n c], .agg #[.bool s', .slice A' n' c'], .int .i64 K] w (IdxZ k w) := by
  have E := Lib.hid (Rq.start (s := s) (c := c) (s' := s') (c' := c') K h h')
  have HN := Lib.hid (And.intro hn hc)
  have t1 : (k == 0) = false := by rw [beq_eq_false_iff_ne]; exact hk0
  have HK := Lib.hid hk
  clear h h' hn hc hk hk0
  refine callsIn_wide.1 (callsIn_of_wp_marks (F := Fence.wide) (n := 3) Try.func32 rfl trivial ((wpIn_wide (n := 3)).2 ?_) rfl)
  simp only [Try.ntmps32, List.size_toArray, List.length_cons, List.length_nil, Nat.reduceAdd, Nat.reduceSub, Array.replicate_succ, Array.replicate_zero, List.push_toArray, List.append_toArray, List.nil_append, List.cons_append]
  go_upto_region 1 with (fail)
  generalize ((((w.alloc (.cells #[.bool s, .slice A n c] 24)).alloc (.cells #[.bool s', .slice A' n' c'] 24)).alloc (.cells #[.int .i64 K] 3)).alloc (.cells #[.int .i64 0] 3)).alloc (.cells #[.int .i64 0] 27) = W0 at E ⊢
  have a0 := E.out.ba.c0
  have a1 := E.out.ba.c1
  have b0 := E.out.bb.c0
  have b1 := E.out.bb.c1
  go_wp2_with fail
  have hb := below_alloc W0 (.cells #[.bool s', .slice A' n' c'] 24)
  have O1 := Lib.hid (oth1_raw (Rb.new (s := s') (c := c') E.out.bb.rd))
  replace E := Lib.hid (E.out.next hb)
  clear hb a0 a1 b0 b1
  generalize W0.alloc (.cells #[.bool s', .slice A' n' c'] 24) = W1 at E O1 ⊢
  refine (check_raw E.out.ba.rd HN.out.1 HN.out.2 _ _ O1.out).mono ?_
  rw [HK.out]
  rintro e w1 ⟨rfl, hb⟩
  replace E := Lib.hid (E.out.next hb)
  clear hb O1
  have c3 := E.out.c3
  have f3 := E.out.f3
  have c4 := E.out.c4
  have f4 := E.out.f4
  go_wp2
  generalize hX : (w1.setCell ⟨w.heap.size + 1 + 1 + 1, 0, none⟩ (.int .i64 0)).setCell ⟨w.heap.size + 1 + 1 + 1 + 1, 0, none⟩ (.int .i64 k) = X
  obtain ⟨y1, y2, y3⟩ := E.out.put k hX
  refine ⟨.tuple #[.int .i64 0, .int .i64 k], ?_, rfl, y1⟩
  simp [results, Try.results32, go_sem, y2, y3]
set_option maxHeartbeats 8000000 in
theorem Rank_arg {w : World} {s : Bool} {A : Option Addr} {n c : Nat} {xs : List Nat} {s' : Bool} {A' : Option Addr} {n' c' : Nat} {ys : List Nat} (h : Rd w A n xs) (h' : Rd w A' n' ys) (hn : n ≤ c) (hc : c ≤ 9223372036854775807) (hn' : n' ≤ c') (hc' : c' ≤ 9223372036854775807) (K : Int) (hk : codeV s xs (validB s' ys) = 0)
    (hbad : ¬ (0 < sgn s' (val ys) ∧ blen (sgn s' (val ys)).natAbs ≤ 4000) ∨ K < 1 ∨ 20000 < K) :
    Calls Try.prog 32 #[.agg #[.bool s, .slice A n c], .agg #[.bool s', .slice A' n' c'], .int .i64 K] w (IdxZ 2 w) := by
  have E := Lib.hid (Rq.start (s := s) (c := c) (s' := s') (c' := c') K h h')
  have HN := Lib.hid (And.intro (And.intro hn hc) (And.intro hn' hc'))
  have HK := Lib.hid hk
  have HV := Lib.hid (codeV_zero hk).2.1
  have HBAD := Lib.hid hbad
  clear h h' hn hc hn' hc' hk hbad
  refine callsIn_wide.1 (callsIn_of_wp_marks (F := Fence.wide) (n := 3) Try.func32 rfl trivial ((wpIn_wide (n := 3)).2 ?_) rfl)
  simp only [Try.ntmps32, List.size_toArray, List.length_cons, List.length_nil, Nat.reduceAdd, Nat.reduceSub, Array.replicate_succ, Array.replicate_zero, List.push_toArray, List.append_toArray, List.nil_append, List.cons_append]
  go_upto_region 1 with (fail)
  generalize ((((w.alloc (.cells #[.bool s, .slice A n c] 24)).alloc (.cells #[.bool s', .slice A' n' c'] 24)).alloc (.cells #[.int .i64 K] 3)).alloc (.cells #[.int .i64 0] 3)).alloc (.cells #[.int .i64 0] 27) = W0 at E ⊢
  have a0 := E.out.ba.c0
  have a1 := E.out.ba.c1
  have b0 := E.out.bb.c0
  have b1 := E.out.bb.c1
  go_wp2_with fail
  have hb := below_alloc W0 (.cells #[.bool s', .slice A' n' c'] 24)
  have O1 := Lib.hid (oth1_raw (Rb.new (s := s') (c := c') E.out.bb.rd))
  replace E := Lib.hid (E.out.next hb)
  clear hb a0 a1 b0 b1
  generalize W0.alloc (.cells #[.bool s', .slice A' n' c'] 24) = W1 at E O1 ⊢
  refine (check_raw E.out.ba.rd HN.out.1.1 HN.out.1.2 _ _ O1.out).mono ?_
  rw [HK.out]
  rintro e w1 ⟨rfl, hb⟩
  replace E := Lib.hid (E.out.next hb)
  clear hb O1
  have b0 := E.out.bb.c0
  have b1 := E.out.bb.c1
  have c2 := E.out.c2
  by_cases hm : 0 < sgn s' (val ys) ∧ blen (sgn s' (val ys)).natAbs ≤ 4000
  · have HMD := Lib.hid hm
    clear hm
    go_wp2_with fail
    refine (isModulus_c (raw_iv E.out.bb.rd HV.out HN.out.2.1 HN.out.2.2) HMD.out.1 HMD.out.2).mono ?_
    rintro e w2 ⟨rfl, hb⟩
    replace E := Lib.hid (E.out.next hb)
    clear hb b0 b1 c2
    have c2 := E.out.c2
    have c3 := E.out.c3
    have f3 := E.out.f3
    have c4 := E.out.c4
    have f4 := E.out.f4
    by_cases h1 : K < 1
    · go_wp2
      generalize hX : (w2.setCell ⟨w.heap.size + 1 + 1 + 1, 0, none⟩ (.int .i64 0)).setCell ⟨w.heap.size + 1 + 1 + 1 + 1, 0, none⟩ (.int .i64 2) = X
      obtain ⟨y1, y2, y3⟩ := E.out.put 2 hX
      refine ⟨.tuple #[.int .i64 0, .int .i64 2], ?_, rfl, y1⟩
      simp [results, Try.results32, go_sem, y2, y3]
    · have h2 : 20000 < K := by
        rcases HBAD.out with (h3 | h3 | h3)
        · exact absurd HMD.out h3
        · exact absurd h3 h1
        · exact h3
      go_wp2
      generalize hX : (w2.setCell ⟨w.heap.size + 1 + 1 + 1, 0, none⟩ (.int .i64 0)).setCell ⟨w.heap.size + 1 + 1 + 1 + 1, 0, none⟩ (.int .i64 2) = X
      obtain ⟨y1, y2, y3⟩ := E.out.put 2 hX
      refine ⟨.tuple #[.int .i64 0, .int .i64 2], ?_, rfl, y1⟩
      simp [results, Try.results32, go_sem, y2, y3]
  · have HMD := Lib.hid hm
    clear hm
    go_wp2_with fail
    refine (isModulus_no (raw_iv E.out.bb.rd HV.out HN.out.2.1 HN.out.2.2) HMD.out).mono ?_
    rintro e w2 ⟨rfl, hb⟩
    replace E := Lib.hid (E.out.next hb)
    clear hb b0 b1 c2
    have c3 := E.out.c3
    have f3 := E.out.f3
    have c4 := E.out.c4
    have f4 := E.out.f4
    go_wp2
    generalize hX : (w2.setCell ⟨w.heap.size + 1 + 1 + 1, 0, none⟩ (.int .i64 0)).setCell ⟨w.heap.size + 1 + 1 + 1 + 1, 0, none⟩ (.int .i64 2) = X
    obtain ⟨y1, y2, y3⟩ := E.out.put 2 hX
    refine ⟨.tuple #[.int .i64 0, .int .i64 2], ?_, rfl, y1⟩
    simp [results, Try.results32, go_sem, y2, y3]
end Go.Proofs.Ytbblckaplddggaa
