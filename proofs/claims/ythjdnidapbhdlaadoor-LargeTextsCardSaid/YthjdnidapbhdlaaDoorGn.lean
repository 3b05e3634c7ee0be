/- decimal texts: the reference's Parse -/
import Derived.Deep.QuietTactic
import Derived.BigQuiet
import Derived.Test.YthjdnidapbhdlaaDoorGk
import Derived.Test.YthjdnidapbhdlaaDoorGm
import Derived.Test.YthjdnidapbhdlaaDoorGl
set_option maxRecDepth 100000
namespace Go.Proofs.YthjdnidapbhdlaaDoor
open Go.RowKit Go.Sort
theorem own_rd {w : World} {B n : Nat} {sv : Value} {ws : List Nat} (h : w.ownsRow B 86 1 sv n (ws.map enc32)) (hs : small ws) :
    ∃ A cap, sv = .slice A n cap ∧ Rd w A n ws ∧ n ≤ cap ∧ cap ≤ 9223372036854775807 ∧ (0 < n → ∃ g, A = some ⟨g, 0, none⟩) := by
  have hl : ws.length = n := by simpa using h.1
  by_cases hv : sv = .slice none 0 0
  · subst hv
    rcases h.2 with ⟨_, h0⟩ | ⟨g, cap, cur, h1, _⟩
    · subst h0
      have : ws = [] := List.eq_nil_of_length_eq_zero hl
      subst this
      exact ⟨none, 0, rfl, Rd.nil _, Nat.le_refl _, by omega, fun h => by omega⟩
    · cases h1
  · obtain ⟨g2, cap, rfl, hBg, hlt, hc1, hc2, _, hH⟩ := Lib.holds_of_ownsRow h hv
    refine ⟨some ⟨g2, 0, none⟩, cap, rfl, ⟨hl, hs, fun _ => ⟨g2, 0, rfl, hlt, fun j hj => ?_⟩⟩, hc1, by simpa [maxLen] using hc2, fun _ => ⟨g2, rfl⟩⟩
    have hj' : j < ws.length := by omega
    rw [(hH j (by simpa using hj')).1]
    simp only [enc32, List.getElem!_toArray]
    rw [getElem!_pos _ j hj', List.getD_eq_getElem?_getD, List.getElem?_eq_getElem hj']
    rfl
/-- what Parse keeps between the groups -/
structure PI (W0 wr : World) (D : List UInt8) (i : Nat) (sv : Value) : Prop where
  le : i ≤ D.length
  dig : Digits (D.take i)
  own : wr.ownsRow W0.heap.size 86 1 sv (words (val10 (D.take i))).length ((words (val10 (D.take i))).map enc32)
  below : Below W0.heap.size W0 wr
theorem PI.start (W0 : World) (D : List UInt8) : PI W0 W0 D 0 (.slice none 0 0) := by
  refine ⟨Nat.zero_le _, by simp [Digits], ?_, Below.refl _ _⟩
  rw [List.take_zero, show val10 [] = 0 from rfl, words_zero]
  exact ⟨rfl, .inl ⟨rfl, rfl⟩⟩
def RefNo (w : World) (e : Ending) (w' : World) : Prop := e = .returned (.tuple #[.agg #[.bool false, .slice none 0 0], .bool false]) ∧ Below w.heap.size w w'
def RefYes (z : Int) (w : World) (e : Ending) (w' : World) : Prop :=
  ∃ A c, e = .returned (.tuple #[.agg #[.bool (decide (z < 0)), .slice A (words z.natAbs).length c], .bool true]) ∧ Rd w' A (words z.natAbs).length (words z.natAbs) ∧ (words z.natAbs).length ≤ c ∧ c ≤ 9223372036854775807 ∧ Below w.heap.size w w'
/-- what the reference's Parse says -/
def RefParse (s : ByteArray) (w : World) (e : Ending) (w' : World) : Prop :=
  (s.size ≤ 60000 ∧ IsText s.data.toList → RefYes (sgn (negT s.data.toList) (val10 (digT s.data.toList))) w e w') ∧
  (¬ (s.size ≤ 60000 ∧ IsText s.data.toList) → RefNo w e w')
theorem RefParse.no {s : ByteArray} {w w' : World} {e : Ending} (h : ¬ (s.size ≤ 60000 ∧ IsText s.data.toList)) (hr : RefNo w e w') : RefParse s w e w' := ⟨fun h' => absurd h' h, fun _ => hr⟩
theorem RefParse.yes {s : ByteArray} {w w' : World} {e : Ending} (h : s.size ≤ 60000 ∧ IsText s.data.toList) (hr : RefYes (sgn (negT s.data.toList) (val10 (digT s.data.toList))) w e w') : RefParse s w e w' := ⟨fun _ => hr, fun h' => absurd h h'⟩
theorem PI.drewN {W0 wr : World} {D : List UInt8} {i : Nat} {sv : Value} (h : PI W0 wr D i sv) (n : Nat) : PI W0 (wr.drewN n) D i sv := ⟨h.le, h.dig, h.own, ⟨h.below.os, h.below.tape, h.below.output, h.below.size, h.below.block⟩⟩
theorem neg_yes {l : List UInt8} (h : l.head? = some 45) : negT l = true ∧ digT l = l.drop 1 := by
  rcases l with _ | ⟨c, r⟩
  · simp at h
  · simp only [List.head?_cons, Option.some.injEq] at h
    subst h
    exact ⟨rfl, rfl⟩
theorem neg_no {l : List UInt8} (h : l.head? ≠ some 45) : negT l = false ∧ digT l = l := by
  have e : negT l = false := by
    rcases l with _ | ⟨c, r⟩
    · rfl
    · have hc : (45 == c) = false := by
        rw [beq_eq_false_iff_ne]
        intro e
        exact h (by rw [← e]; rfl)
      simp [negT, Lib.hasPrefix, List.isPrefixOf, hc]
  refine ⟨e, ?_⟩
  unfold digT Lib.trimPrefix
  rw [if_neg (by rw [show Lib.hasPrefix l [45] = false from e]; simp)]
set_option maxHeartbeats 16000000 in
theorem refParse_c (s : ByteArray) (w : World) (hs : s.size ≤ 9223372036854775807) :
    Calls Tryd.prog 15 #[.string s] w (RefParse s w) := by
  go_enter Tryd.func15, Tryd.ntmps15
  go_upto_region 1 with (fail)
  have B := Lib.hid (below_alloc w (.cells #[.bool false, .slice none 0 0] 24))
  have r0 : (w.alloc (.cells #[.bool false, .slice none 0 0] 24)).cell? ⟨w.heap.size, 0, none⟩ = some (.bool false) := by go_simp
  have r1 : (w.alloc (.cells #[.bool false, .slice none 0 0] 24)).cell? ⟨w.heap.size, 1, none⟩ = some (.slice none 0 0) := by go_simp
  have f0 : (w.alloc (.cells #[.bool false, .slice none 0 0] 24)).frozen? ⟨w.heap.size, 0, none⟩ = false := by go_simp
  have f1 : (w.alloc (.cells #[.bool false, .slice none 0 0] 24)).frozen? ⟨w.heap.size, 1, none⟩ = false := by go_simp
  have HLT := Lib.hid (show w.heap.size < (w.alloc (.cells #[.bool false, .slice none 0 0] 24)).heap.size by simp)
  generalize w.alloc (.cells #[.bool false, .slice none 0 0] 24) = W0 at B r0 r1 f0 f1 HLT ⊢
  by_cases h0 : s.size = 0
  · have HE := Lib.hid (show ¬ (s.size ≤ 60000 ∧ IsText s.data.toList) by
      have e : s.data.toList = [] := List.eq_nil_of_length_eq_zero h0
      rw [e]
      exact fun h => h.2.1.2.1 rfl)
    go_wp2
    refine bodyPost_ret (v := .tuple #[.agg #[.bool false, .slice none 0 0], .bool false]) (by simp [results, Tryd.results15, go_sem, r0, r1]) rfl ?_
    exact RefParse.no HE.out ⟨rfl, below_store B.out (Nat.le_refl _) _ _⟩
  · have hsp : 0 < s.size := by omega
    obtain ⟨x, hx⟩ : ∃ x, x = (s[0]'hsp).toNat := ⟨_, rfl⟩
    have hxs : (s[0]'hsp).toNat = x := hx.symm
    have hb0 : 0 ≤ (0 : Int) ∧ (0 : Int) < (s.size : Int) := ⟨by omega, by omega⟩
    have hhd : s.data.toList.head? = some (s[0]'hsp) := by
      rw [List.head?_eq_getElem?, List.getElem?_eq_getElem (show 0 < s.data.toList.length from hsp)]
      rfl
    have hss : (1 : Int) ≤ (s.size : Int) := by omega
    by_cases h45 : x = 45
    · have hN := neg_yes (l := s.data.toList) (by rw [hhd]; exact congrArg some (UInt8.toNat_inj.1 (by rw [hxs, h45]; rfl)))
      have HDD := Lib.hid (show digT s.data.toList = (s.extract 1 s.size).data.toList by rw [hN.2, ext_drop])
      have HNG := Lib.hid hN.1
      clear hN hhd hx
      go_upto_region 5 with (fail)
      clear hxs
      generalize s.extract 1 s.size = d at HDD ⊢
      have HDL := Lib.hid (show d.size = (digT s.data.toList).length by rw [HDD.out]; rfl)
      have HTX := Lib.hid (show s.size ≤ 60000 ∧ IsText s.data.toList → Numeral (digT s.data.toList) ∧ ¬ (true = true ∧ digT s.data.toList = [48]) from fun h => ⟨h.2.1, fun e => h.2.2 ⟨by rw [HNG.out], e.2⟩⟩)
      by_cases hd0 : d.size = 0
      · have HE := Lib.hid (show digT s.data.toList = [] by
          apply List.eq_nil_of_length_eq_zero
          rw [← HDL.out]
          exact hd0)
        skip
        go_wp2
        refine bodyPost_ret (v := .tuple #[.agg #[.bool false, .slice none 0 0], .bool false]) (by simp [results, Tryd.results15, go_sem, r0, r1]) rfl ?_
        exact RefParse.no (fun h => by have h1 := (HTX.out h).1.2.1; exact h1 HE.out) ⟨rfl, below_store B.out (Nat.le_refl _) _ _⟩
      · have hdp : 0 < d.size := by omega
        obtain ⟨x0, hxd⟩ : ∃ x0, x0 = (d[0]'hdp).toNat := ⟨_, rfl⟩
        have hxs2 : (d[0]'hdp).toNat = x0 := hxd.symm
        have hbd : 0 ≤ (0 : Int) ∧ (0 : Int) < (d.size : Int) := ⟨by omega, by omega⟩
        by_cases hs6 : 60000 < s.size
        · skip
          go_wp2
          refine bodyPost_ret (v := .tuple #[.agg #[.bool false, .slice none 0 0], .bool false]) (by simp [results, Tryd.results15, go_sem, r0, r1]) rfl ?_
          exact RefParse.no (fun h => by omega) ⟨rfl, below_store B.out (Nat.le_refl _) _ _⟩
        · have hhd2 : (digT s.data.toList).head? = some (d[0]'hdp) := by
            rw [HDD.out, List.head?_eq_getElem?, List.getElem?_eq_getElem (show 0 < d.data.toList.length from hdp)]
            rfl
          have HZ48 := Lib.hid (show x0 = 48 → Numeral (digT s.data.toList) → digT s.data.toList = [48] from fun h0 hn => by
            have e1 : (digT s.data.toList).head? = some 48 := by rw [hhd2]; exact congrArg some (UInt8.toNat_inj.1 (by rw [hxs2, h0]; rfl))
            have e2 := hn.2.2 e1
            rcases hl : digT s.data.toList with _ | ⟨c, r⟩
            · rw [hl] at e2; simp at e2
            · rw [hl] at e1 e2
              simp at e1 e2
              rw [e1, e2])
          have HNZ := Lib.hid (show x0 ≠ 48 → (digT s.data.toList).head? ≠ some 48 from fun h0 e => h0 (by rw [← hxs2]; rw [hhd2] at e; rw [Option.some.inj e]; rfl))
          clear hhd2
          have hs6' : ¬ (60000 : Int) < (s.size : Int) := by omega
          have hd1 : ((d.size : Int) == 0) = false := by rw [beq_eq_false_iff_ne]; omega
          by_cases hz : x0 = 48
          · replace HZ48 := Lib.hid (HZ48.out hz)
            clear HNZ
            rw [hz] at hxs2
            clear hxd
            · skip
              go_wp2
              refine bodyPost_ret (v := .tuple #[.agg #[.bool false, .slice none 0 0], .bool false]) (by simp [results, Tryd.results15, go_sem, r0, r1]) rfl ?_
              exact RefParse.no (fun h => by have h1 := HTX.out h; have h2 := HZ48.out h1.1; exact h1.2 ⟨by trivial, h2⟩) ⟨rfl, below_store B.out (Nat.le_refl _) _ _⟩
          · have HC := Lib.hid (show Digits (digT s.data.toList) → s.size ≤ 60000 ∧ IsText s.data.toList from fun h => ⟨by omega, ⟨h, by intro e; have h5 := HDL.out; rw [e] at h5; have h6 : d.size = 0 := h5; omega, fun e => absurd e (HNZ.out hz)⟩, by rintro ⟨_, e⟩; exact HNZ.out hz (by rw [e]; rfl)⟩)
            clear hxd HZ48 HNZ
            obtain ⟨D, hD⟩ : ∃ D, D = digT s.data.toList := ⟨_, rfl⟩
            have HDX := Lib.hid (show D = d.data.toList by rw [hD]; exact HDD.out)
            have HDLX := Lib.hid (show d.size = D.length by rw [hD]; exact HDL.out)
            have HDG := Lib.hid (show s.size ≤ 60000 ∧ IsText s.data.toList → Digits D from fun h => by rw [hD]; exact (HTX.out h).1.1)
            have HCX := Lib.hid (show Digits D → s.size ≤ 60000 ∧ IsText s.data.toList from fun h => HC.out (by rw [← hD]; exact h))
            have HSG := Lib.hid (show sgn (negT s.data.toList) (val10 (digT s.data.toList)) = sgn true (val10 D) by rw [HNG.out, hD])
            have hD6 : D.length ≤ 60000 := by
              have h1 := digT_le s.data.toList
              have h2 : s.data.toList.length = s.size := rfl
              rw [hD]
              omega
            clear hD HDD HDL HTX HC HNG
            go_wp2
            go_loopw [7, 6] (fun iv s6 wr' => ∃ (i : Nat) (sv : Value) (wr : World), wr = wr' ∧ iv = .int .i64 (i : Int) ∧ sv = s6 ∧ PI W0 wr D i sv) (fun iv _ _ => (D.length - intOf iv).toNat)
            case atStart => exact ⟨0, _, _, rfl, rfl, rfl, PI.start W0 D⟩
            case round =>
              obtain ⟨i, sv, wr, rfl, rfl, rfl, hS⟩ := hrel
              rcases Nat.lt_or_ge i D.length with hi | hi
              · have HS := Lib.hid hS
                have hiw : (i : Int) < (d.size : Int) := by have := HDLX.out; omega
                clear hS
                go_wp2
                go_loopw [10, 8, 9, 7] (fun kv bv mv iv wr' => ∃ (k' by' more i' : Nat) (w2 : World), w2 = wr' ∧ PI W0 w2 D i sv ∧ kv = .int .i64 (k' : Int) ∧ bv = .int .u64 (by' : Int) ∧ mv = .int .u64 (more : Int) ∧ iv = .int .i64 (i' : Int) ∧ i' = i + k' ∧ k' ≤ 9 ∧ i' ≤ D.length ∧ by' = 10 ^ k' ∧ more = val10 ((D.drop i).take k') ∧ Digits ((D.drop i).take k')) (fun kv _ _ _ _ => (9 - intOf kv).toNat)
                case atStart => exact ⟨0, 1, 0, i, _, rfl, HS.out, rfl, rfl, rfl, rfl, rfl, by omega, by omega, rfl, rfl, by simp [Digits]⟩
                case round =>
                  obtain ⟨k', by', more, i', wr, rfl, hS2, rfl, rfl, rfl, rfl, hi', hk9, hiD, hby, hmore, hdg⟩ := hrel
                  clear HS
                  have HS := Lib.hid hS2
                  clear hS2
                  have HIX := Lib.hid hi'
                  have HBY := Lib.hid hby
                  have HMO := Lib.hid hmore
                  have HDGR := Lib.hid hdg
                  clear hi' hby hmore hdg
                  have hik : i ≤ i' := by have := HIX.out; omega
                  by_cases hin : k' < 9 ∧ i' < D.length
                  · obtain ⟨hk, hil⟩ := hin
                    have hid : i' < d.size := by have := HDLX.out; omega
                    obtain ⟨x, hxd⟩ : ∃ x, x = (D[i']'hil).toNat := ⟨_, rfl⟩
                    have hxs : (d[i']'hid).toNat = x := by
                      rw [hxd]
                      have e := HDX.out
                      subst e
                      rfl
                    have hbi : 0 ≤ (i' : Int) ∧ (i' : Int) < (d.size : Int) := ⟨by omega, by omega⟩
                    by_cases h1 : x < 48
                    · skip
                      have r0' := (HS.out.below.cell (p := ⟨w.heap.size, 0, none⟩) HLT.out).trans r0
                      have r1' := (HS.out.below.cell (p := ⟨w.heap.size, 1, none⟩) HLT.out).trans r1
                      have f0' := (HS.out.below.frozen (p := ⟨w.heap.size, 0, none⟩) HLT.out).trans f0
                      have f1' := (HS.out.below.frozen (p := ⟨w.heap.size, 1, none⟩) HLT.out).trans f1
                      have hbad : ¬ Digits D := fun h => by
                        have h1 := h (D[i']'(by omega)) (List.getElem_mem _)
                        omega
                      have HBAD := Lib.hid hbad
                      clear hbad hxd
                      go_wp2
                      refine bodyPost_ret (v := .tuple #[.agg #[.bool false, .slice none 0 0], .bool false]) (by simp [results, Tryd.results15, go_sem, r0', r1']) rfl ?_
                      exact RefParse.no (fun h => HBAD.out (HDG.out h)) ⟨rfl, below_store (B.out.trans (HS.out.below.mono B.out.size)) (Nat.le_refl _) _ _⟩
                    · by_cases h2 : 57 < x
                      · skip
                        have r0' := (HS.out.below.cell (p := ⟨w.heap.size, 0, none⟩) HLT.out).trans r0
                        have r1' := (HS.out.below.cell (p := ⟨w.heap.size, 1, none⟩) HLT.out).trans r1
                        have f0' := (HS.out.below.frozen (p := ⟨w.heap.size, 0, none⟩) HLT.out).trans f0
                        have f1' := (HS.out.below.frozen (p := ⟨w.heap.size, 1, none⟩) HLT.out).trans f1
                        have hbad : ¬ Digits D := fun h => by
                          have h1 := h (D[i']'(by omega)) (List.getElem_mem _)
                          omega
                        have HBAD := Lib.hid hbad
                        clear hbad hxd
                        go_wp2
                        refine bodyPost_ret (v := .tuple #[.agg #[.bool false, .slice none 0 0], .bool false]) (by simp [results, Tryd.results15, go_sem, r0', r1']) rfl ?_
                        exact RefParse.no (fun h => HBAD.out (HDG.out h)) ⟨rfl, below_store (B.out.trans (HS.out.below.mono B.out.size)) (Nat.le_refl _) _ _⟩
                      · have hst : val10 ((D.drop i).take (k' + 1)) = 10 * more + (x - 48) := by
                          have hl : k' < (D.drop i).length := by rw [List.length_drop]; have := HIX.out; omega
                          rw [List.take_succ_eq_append_getElem hl, val10_snoc, ← HMO.out]
                          simp only [List.getElem_drop, ← HIX.out, ← hxd]
                        have hdn : Digits ((D.drop i).take (k' + 1)) := by
                          have hl : k' < (D.drop i).length := by rw [List.length_drop]; have := HIX.out; omega
                          refine digits_take_succ HDGR.out hl ?_ ?_ <;> simp only [List.getElem_drop, ← HIX.out, ← hxd] <;> omega
                        have hm8 : more < 100000000 := by
                          have h3 := val10_lt HDGR.out
                          have h4 : (10 : Nat) ^ ((D.drop i).take k').length ≤ 10 ^ 8 := Nat.pow_le_pow_right (by omega) (by rw [List.length_take]; omega)
                          have h5 := HMO.out
                          omega
                        have hb8 : by' ≤ 100000000 := by
                          rw [HBY.out]
                          have : (10 : Nat) ^ k' ≤ 10 ^ 8 := Nat.pow_le_pow_right (by omega) (by omega)
                          omega
                        have eb : 10 * (by' : Int) = ((10 * by' : Nat) : Int) := by omega
                        have em : 10 * (more : Int) + ((x : Int) - 48) = ((10 * more + (x - 48) : Nat) : Int) := by omega
                        have hbn : 10 * by' = 10 ^ (k' + 1) := by rw [HBY.out, Nat.pow_succ, Nat.mul_comm]
                        obtain ⟨bn, hbnd⟩ : ∃ bn, bn = 10 * by' := ⟨_, rfl⟩
                        obtain ⟨mn, hmn⟩ : ∃ mn, mn = 10 * more + (x - 48) := ⟨_, rfl⟩
                        rw [← hbnd] at eb hbn
                        rw [← hmn] at em hst
                        have H1 := Lib.hid hst
                        have H2 := Lib.hid hdn
                        have H3 := Lib.hid hbn
                        clear hst hdn hbn hbnd hmn hxd
                        go_wp2_with fail
                        go_quiet (fail)
                        go_wp2
                        go_roundw
                        case measure => simp [intOf]; omega
                        case rel => exact ⟨k' + 1, bn, mn, i' + 1, _, rfl, HS.out.drewN _, by simp, rfl, rfl, by simp, by have := HIX.out; omega, by omega, by omega, H3.out, H1.out.symm, H2.out⟩
                  · skip
                    rcases Nat.lt_or_ge k' 9 with hk | hk
                    · have hiw2 : ¬ (i' : Int) < (d.size : Int) := by have := HDLX.out; omega
                      clear hiw
                      have hi' := HIX.out
                      have hby := HBY.out
                      have hmore := HMO.out
                      have hdg := HDGR.out
                      have own5 := HS.out.own
                      obtain ⟨V0, hV0⟩ : ∃ v, v = val10 (D.take i) := ⟨_, rfl⟩
                      rw [← hV0] at own5
                      obtain ⟨W, hW⟩ : ∃ W, W = words V0 := ⟨_, rfl⟩
                      rw [← hW] at own5
                      obtain ⟨m, hm⟩ : ∃ m, m = W.length := ⟨_, rfl⟩
                      rw [← hm] at own5
                      have hsW : small W := by rw [hW]; exact words_small _
                      obtain ⟨A5, cap, rfl, _, _, _, hA5⟩ := own_rd own5 hsW
                      have hk0 : 0 < k' := by omega
                      have hM9 : 10 ^ k' ≤ 1000000000 := by
                        have : (10 : Nat) ^ k' ≤ 10 ^ 9 := Nat.pow_le_pow_right (by omega) hk9
                        omega
                      have hM1 : 0 < 10 ^ k' := Nat.pow_pos (by omega)
                      have hgl : ((D.drop i).take k').length = k' := by rw [List.length_take, List.length_drop]; omega
                      have hml : more < 10 ^ k' := by
                        have h := val10_lt hdg
                        rw [hgl, ← hmore] at h
                        exact h
                      have hm6 : m ≤ 60000 := by
                        rw [hm, hW, hV0]
                        have h1 := words_len_le.2 (show val10 (D.take i) < pw D.length by
                          have h1 := val10_lt HS.out.dig
                          have h2 : (10 : Nat) ^ (D.take i).length ≤ 10 ^ D.length := Nat.pow_le_pow_right (by omega) (by rw [List.length_take]; omega)
                          have h3 : (10 : Nat) ^ D.length ≤ pw D.length := by
                            unfold pw
                            exact Nat.pow_le_pow_left (by omega) _
                          omega)
                        omega
                      obtain ⟨M, hM⟩ : ∃ M, M = 10 ^ k' := ⟨_, rfl⟩
                      rw [← hM] at hM9 hM1 hml hby
                      have M0 := Lib.hid (MulAt.start (W := W) (M := M) (c := more) hsW hml)
                      have HO5 := Lib.hid own5
                      have HP5 := Lib.hid HS.out.below
                      have ev : V0 * M + more = val10 (D.take i') := by
                        rw [hi', List.take_add, val10_app, hgl, ← hV0, ← hmore, ← hM]
                      have hdn : Digits (D.take i') := by
                        rw [hi', List.take_add]
                        intro y hy
                        rcases List.mem_append.1 hy with h | h
                        · exact HS.out.dig y h
                        · exact hdg y h
                      have HEV := Lib.hid ev
                      have HDN := Lib.hid hdn
                      have HW := Lib.hid hW
                      have HMM := Lib.hid hm
                      have HII := Lib.hid (show i < i' by omega)
                      obtain rfl := hby
                      clear own5 hV0 hW hm hsW hM ev hdn hmore hdg hgl hml hi'
                      go_wp2
                      go_loopw [11, 9] (fun jv mv wr' => ∃ (j q : Nat) (L : List Nat) (w3 : World), w3 = wr' ∧ jv = .int .i64 (j : Int) ∧ mv = .int .u64 (q : Int) ∧ j ≤ m ∧ MulAt W by' more j L q ∧ w3.ownsRow W0.heap.size 86 1 (.slice A5 m cap) m (L.map enc32) ∧ Below W0.heap.size W0 w3) (fun jv _ _ => (m - intOf jv).toNat)
                      case atStart => exact ⟨0, more, W, _, rfl, rfl, rfl, Nat.zero_le _, M0.out, HO5.out, HP5.out⟩
                      case round =>
                        obtain ⟨j, q, L, w3, rfl, rfl, rfl, hj, hMu, hO, hP⟩ := hrel
                        clear M0 HO5 HP5
                        rcases Nat.lt_or_ge j m with hjm | hjm
                        · obtain ⟨g2, rfl⟩ := hA5 (by omega)
                          obtain ⟨oc, ofz, oB, olt⟩ := own_cell hO hjm
                          rw [hMu.get] at oc
                          have hsW : small W := by rw [HW.out]; exact words_small _
                          have hx := small_get hsW j
                          have hq := hMu.lt
                          obtain ⟨hnx, htl⟩ := hMu.next (by rw [← HMM.out]; exact hjm) hsW rfl
                          obtain ⟨x, hxd⟩ : ∃ x, x = W.getD j 0 := ⟨_, rfl⟩
                          rw [← hxd] at oc hx hnx htl
                          obtain ⟨p, hp⟩ : ∃ p, p = x * by' := ⟨_, rfl⟩
                          have hpi : (by' : Int) * (x : Int) = (p : Int) := by rw [hp, Int.mul_comm]; simp
                          have hpl : p ≤ 4294967295 * 1000000000 := by
                            rw [hp]
                            exact Nat.mul_le_mul (by omega) hM9
                          rw [← hp] at hnx htl
                          obtain ⟨t, htd⟩ : ∃ t, t = p + q := ⟨_, rfl⟩
                          rw [← htd] at hnx htl
                          have et : (q : Int) + (p : Int) = (t : Int) := by omega
                          have ht0 : t < 18446744073709551616 := by omega
                          have emk := u64_mask (z := (t : Int)) (by omega) (by omega)
                          have em : (t : Int) % 4294967296 = ((t % 4294967296 : Nat) : Int) := by omega
                          have ed : (t : Int) / 4294967296 = ((t / 4294967296 : Nat) : Int) := by omega
                          obtain ⟨y, hy⟩ : ∃ y, y = t % 4294967296 := ⟨_, rfl⟩
                          have hy4 : y < 4294967296 := by omega
                          obtain ⟨z, hz⟩ : ∃ z, z = t / 4294967296 := ⟨_, rfl⟩
                          rw [← hy] at em hnx
                          rw [← hz] at ed hnx
                          rw [em] at emk
                          have N1 := Lib.hid hnx
                          have N2 := Lib.hid (own_set (i := j) hO y)
                          have N3 := Lib.hid (hP.setCell (p := ⟨g2, j, none⟩) oB (.int .u32 (y : Int)))
                          clear hnx hO hP hMu hsW hxd hp htd hy hz olt hA5
                          go_wp2
                          go_roundw
                          case measure => simp [intOf]; omega
                          case rel => exact ⟨j + 1, z, _, _, rfl, by simp, rfl, by omega, N1.out, N2.out, N3.out⟩
                        · have e : j = m := by omega
                          subst e
                          have hMW : MulAt W by' more W.length L q := by rw [← HMM.out]; exact hMu
                          obtain ⟨d0, d1⟩ := hMW.done HW.out hM1 hM9
                          have hL : L.length = j := by rw [hMu.len, ← HMM.out]
                          have hq := hMu.lt
                          rw [HEV.out] at d0 d1
                          have HO := Lib.hid hO
                          have HP := Lib.hid hP
                          by_cases hq0 : q = 0
                          · have dd := d0 hq0
                            subst hq0
                            have R := Lib.hid (show PI W0 w3 D i' (.slice A5 j cap) from ⟨hiD, HDN.out, by rw [← dd, hL]; exact HO.out, HP.out⟩)
                            clear dd d0 d1 hMu hMW hO hP HO HP
                            go_wp2
                            go_roundw
                            case measure => have := HII.out; simp [intOf]; omega
                            case rel => exact ⟨i', _, _, rfl, rfl, rfl, R.out⟩
                          · have dd := d1 hq0
                            obtain ⟨i0, hi0, hz0, hz1, hz2⟩ := info_parts info32
                            have hqp : (0 : Int) < (q : Int) := by omega
                            have HD1 := Lib.hid dd
                            have HLJ := Lib.hid hL
                            have HWP := Lib.hid HP.out.size
                            have hO4 := HO.out
                            clear dd d0 d1 hMu hMW hO hP hL
                            go_wp2_with (at_builtin; refine wpList_append_own _ rfl _ _ 22 rfl W0.heap.size 86 i0 (.int .u32 0) 1 4 Tryd.underlying22 hi0 hz0 hz1 hz2 rfl (by decide) _ j _ rfl (hO4.alloc _) ⟨w3.heap.size, 0, none⟩ 1 1 [.int .u32 (q : Int)] rfl rfl ?c1 ?c2 ?c3 ?c4 ?c5 ?_)
                            case c1 =>
                              intro a u hj
                              match a, hj with
                              | 0, hj => simp at hj; subst hj; simp [Addr.add]
                            case c2 => intro u hu; simp at hu; subst hu; rfl
                            case c3 => simp only [maxLen]; omega
                            case c4 => omega
                            case c5 => have := HWP.out; simp; omega
                            intro v' w4 own4 gr4 nil4
                            have hb4 := below_app HP.out (Nat.le_refl _) HO.out gr4
                            have R := Lib.hid (show PI W0 w4 D i' v' from ⟨hiD, HDN.out, by
                              rw [← HD1.out, List.length_append, HLJ.out, List.map_append]
                              exact own4, hb4⟩)
                            clear own4 gr4 nil4 hb4 hO4 HO HP hi0 hz0 hz1 hz2
                            go_wp2
                            go_roundw
                            case measure => have := HII.out; simp [intOf]; omega
                            case rel => exact ⟨i', _, _, rfl, rfl, rfl, R.out⟩
                    · skip
                      have hi' := HIX.out
                      have hby := HBY.out
                      have hmore := HMO.out
                      have hdg := HDGR.out
                      have own5 := HS.out.own
                      obtain ⟨V0, hV0⟩ : ∃ v, v = val10 (D.take i) := ⟨_, rfl⟩
                      rw [← hV0] at own5
                      obtain ⟨W, hW⟩ : ∃ W, W = words V0 := ⟨_, rfl⟩
                      rw [← hW] at own5
                      obtain ⟨m, hm⟩ : ∃ m, m = W.length := ⟨_, rfl⟩
                      rw [← hm] at own5
                      have hsW : small W := by rw [hW]; exact words_small _
                      obtain ⟨A5, cap, rfl, _, _, _, hA5⟩ := own_rd own5 hsW
                      have hk0 : 0 < k' := by omega
                      have hM9 : 10 ^ k' ≤ 1000000000 := by
                        have : (10 : Nat) ^ k' ≤ 10 ^ 9 := Nat.pow_le_pow_right (by omega) hk9
                        omega
                      have hM1 : 0 < 10 ^ k' := Nat.pow_pos (by omega)
                      have hgl : ((D.drop i).take k').length = k' := by rw [List.length_take, List.length_drop]; omega
                      have hml : more < 10 ^ k' := by
                        have h := val10_lt hdg
                        rw [hgl, ← hmore] at h
                        exact h
                      have hm6 : m ≤ 60000 := by
                        rw [hm, hW, hV0]
                        have h1 := words_len_le.2 (show val10 (D.take i) < pw D.length by
                          have h1 := val10_lt HS.out.dig
                          have h2 : (10 : Nat) ^ (D.take i).length ≤ 10 ^ D.length := Nat.pow_le_pow_right (by omega) (by rw [List.length_take]; omega)
                          have h3 : (10 : Nat) ^ D.length ≤ pw D.length := by
                            unfold pw
                            exact Nat.pow_le_pow_left (by omega) _
                          omega)
                        omega
                      obtain ⟨M, hM⟩ : ∃ M, M = 10 ^ k' := ⟨_, rfl⟩
                      rw [← hM] at hM9 hM1 hml hby
                      have M0 := Lib.hid (MulAt.start (W := W) (M := M) (c := more) hsW hml)
                      have HO5 := Lib.hid own5
                      have HP5 := Lib.hid HS.out.below
                      have ev : V0 * M + more = val10 (D.take i') := by
                        rw [hi', List.take_add, val10_app, hgl, ← hV0, ← hmore, ← hM]
                      have hdn : Digits (D.take i') := by
                        rw [hi', List.take_add]
                        intro y hy
                        rcases List.mem_append.1 hy with h | h
                        · exact HS.out.dig y h
                        · exact hdg y h
                      have HEV := Lib.hid ev
                      have HDN := Lib.hid hdn
                      have HW := Lib.hid hW
                      have HMM := Lib.hid hm
                      have HII := Lib.hid (show i < i' by omega)
                      obtain rfl := hby
                      clear own5 hV0 hW hm hsW hM ev hdn hmore hdg hgl hml hi'
                      go_wp2
                      go_loopw [11, 9] (fun jv mv wr' => ∃ (j q : Nat) (L : List Nat) (w3 : World), w3 = wr' ∧ jv = .int .i64 (j : Int) ∧ mv = .int .u64 (q : Int) ∧ j ≤ m ∧ MulAt W by' more j L q ∧ w3.ownsRow W0.heap.size 86 1 (.slice A5 m cap) m (L.map enc32) ∧ Below W0.heap.size W0 w3) (fun jv _ _ => (m - intOf jv).toNat)
                      case atStart => exact ⟨0, more, W, _, rfl, rfl, rfl, Nat.zero_le _, M0.out, HO5.out, HP5.out⟩
                      case round =>
                        obtain ⟨j, q, L, w3, rfl, rfl, rfl, hj, hMu, hO, hP⟩ := hrel
                        clear M0 HO5 HP5
                        rcases Nat.lt_or_ge j m with hjm | hjm
                        · obtain ⟨g2, rfl⟩ := hA5 (by omega)
                          obtain ⟨oc, ofz, oB, olt⟩ := own_cell hO hjm
                          rw [hMu.get] at oc
                          have hsW : small W := by rw [HW.out]; exact words_small _
                          have hx := small_get hsW j
                          have hq := hMu.lt
                          obtain ⟨hnx, htl⟩ := hMu.next (by rw [← HMM.out]; exact hjm) hsW rfl
                          obtain ⟨x, hxd⟩ : ∃ x, x = W.getD j 0 := ⟨_, rfl⟩
                          rw [← hxd] at oc hx hnx htl
                          obtain ⟨p, hp⟩ : ∃ p, p = x * by' := ⟨_, rfl⟩
                          have hpi : (by' : Int) * (x : Int) = (p : Int) := by rw [hp, Int.mul_comm]; simp
                          have hpl : p ≤ 4294967295 * 1000000000 := by
                            rw [hp]
                            exact Nat.mul_le_mul (by omega) hM9
                          rw [← hp] at hnx htl
                          obtain ⟨t, htd⟩ : ∃ t, t = p + q := ⟨_, rfl⟩
                          rw [← htd] at hnx htl
                          have et : (q : Int) + (p : Int) = (t : Int) := by omega
                          have ht0 : t < 18446744073709551616 := by omega
                          have emk := u64_mask (z := (t : Int)) (by omega) (by omega)
                          have em : (t : Int) % 4294967296 = ((t % 4294967296 : Nat) : Int) := by omega
                          have ed : (t : Int) / 4294967296 = ((t / 4294967296 : Nat) : Int) := by omega
                          obtain ⟨y, hy⟩ : ∃ y, y = t % 4294967296 := ⟨_, rfl⟩
                          have hy4 : y < 4294967296 := by omega
                          obtain ⟨z, hz⟩ : ∃ z, z = t / 4294967296 := ⟨_, rfl⟩
                          rw [← hy] at em hnx
                          rw [← hz] at ed hnx
                          rw [em] at emk
                          have N1 := Lib.hid hnx
                          have N2 := Lib.hid (own_set (i := j) hO y)
                          have N3 := Lib.hid (hP.setCell (p := ⟨g2, j, none⟩) oB (.int .u32 (y : Int)))
                          clear hnx hO hP hMu hsW hxd hp htd hy hz olt hA5
                          go_wp2
                          go_roundw
                          case measure => simp [intOf]; omega
                          case rel => exact ⟨j + 1, z, _, _, rfl, by simp, rfl, by omega, N1.out, N2.out, N3.out⟩
                        · have e : j = m := by omega
                          subst e
                          have hMW : MulAt W by' more W.length L q := by rw [← HMM.out]; exact hMu
                          obtain ⟨d0, d1⟩ := hMW.done HW.out hM1 hM9
                          have hL : L.length = j := by rw [hMu.len, ← HMM.out]
                          have hq := hMu.lt
                          rw [HEV.out] at d0 d1
                          have HO := Lib.hid hO
                          have HP := Lib.hid hP
                          by_cases hq0 : q = 0
                          · have dd := d0 hq0
                            subst hq0
                            have R := Lib.hid (show PI W0 w3 D i' (.slice A5 j cap) from ⟨hiD, HDN.out, by rw [← dd, hL]; exact HO.out, HP.out⟩)
                            clear dd d0 d1 hMu hMW hO hP HO HP
                            go_wp2
                            go_roundw
                            case measure => have := HII.out; simp [intOf]; omega
                            case rel => exact ⟨i', _, _, rfl, rfl, rfl, R.out⟩
                          · have dd := d1 hq0
                            obtain ⟨i0, hi0, hz0, hz1, hz2⟩ := info_parts info32
                            have hqp : (0 : Int) < (q : Int) := by omega
                            have HD1 := Lib.hid dd
                            have HLJ := Lib.hid hL
                            have HWP := Lib.hid HP.out.size
                            have hO4 := HO.out
                            clear dd d0 d1 hMu hMW hO hP hL
                            go_wp2_with (at_builtin; refine wpList_append_own _ rfl _ _ 22 rfl W0.heap.size 86 i0 (.int .u32 0) 1 4 Tryd.underlying22 hi0 hz0 hz1 hz2 rfl (by decide) _ j _ rfl (hO4.alloc _) ⟨w3.heap.size, 0, none⟩ 1 1 [.int .u32 (q : Int)] rfl rfl ?c1 ?c2 ?c3 ?c4 ?c5 ?_)
                            case c1 =>
                              intro a u hj
                              match a, hj with
                              | 0, hj => simp at hj; subst hj; simp [Addr.add]
                            case c2 => intro u hu; simp at hu; subst hu; rfl
                            case c3 => simp only [maxLen]; omega
                            case c4 => omega
                            case c5 => have := HWP.out; simp; omega
                            intro v' w4 own4 gr4 nil4
                            have hb4 := below_app HP.out (Nat.le_refl _) HO.out gr4
                            have R := Lib.hid (show PI W0 w4 D i' v' from ⟨hiD, HDN.out, by
                              rw [← HD1.out, List.length_append, HLJ.out, List.map_append]
                              exact own4, hb4⟩)
                            clear own4 gr4 nil4 hb4 hO4 HO HP hi0 hz0 hz1 hz2
                            go_wp2
                            go_roundw
                            case measure => have := HII.out; simp [intOf]; omega
                            case rel => exact ⟨i', _, _, rfl, rfl, rfl, R.out⟩
              · have ei : i = D.length := by have := hS.le; omega
                have hniw : ¬ (i : Int) < (d.size : Int) := by have := HDLX.out; omega
                have hbel := hS.below
                have hown := hS.own
                rw [ei, List.take_of_length_le (Nat.le_refl _)] at hown
                obtain ⟨A6, cap6, rfl, rd6, h61, h62, _⟩ := own_rd hown (words_small _)
                have h63 : (words (val10 D)).length ≤ 60000 := by
                  have h := val10_words (l := D) (by have := hS.dig; rw [ei, List.take_of_length_le (Nat.le_refl _)] at this; exact this) D.length
                  rw [List.take_of_length_le (Nat.le_refl _)] at h
                  omega
                have HOK := Lib.hid (HCX.out (by have := hS.dig; rw [ei, List.take_of_length_le (Nat.le_refl _)] at this; exact this))
                have MK := Lib.hid (Make_c true A6 _ cap6 (words (val10 D)) wr rd6 h61 h62 (by omega))
                rw [val_words] at MK
                have r0' := (hbel.cell (p := ⟨w.heap.size, 0, none⟩) HLT.out).trans r0
                have r1' := (hbel.cell (p := ⟨w.heap.size, 1, none⟩) HLT.out).trans r1
                have f0' := (hbel.frozen (p := ⟨w.heap.size, 0, none⟩) HLT.out).trans f0
                have f1' := (hbel.frozen (p := ⟨w.heap.size, 1, none⟩) HLT.out).trans f1
                have HLT2 := Lib.hid (Nat.lt_of_lt_of_le HLT.out hbel.size)
                have B2 := Lib.hid (B.out.trans (hbel.mono B.out.size))
                clear hS hbel hown rd6 h61 h62 h63 r0 r1 f0 f1
                go_wp2_with fail
                refine MK.out.mono ?_
                rintro e w7 ⟨A7, c7, rfl, rd7, h71, h72, hb7⟩
                have r0 := (hb7.cell (p := ⟨w.heap.size, 0, none⟩) HLT2.out).trans r0'
                have r1 := (hb7.cell (p := ⟨w.heap.size, 1, none⟩) HLT2.out).trans r1'
                have f0 := (hb7.frozen (p := ⟨w.heap.size, 0, none⟩) HLT2.out).trans f0'
                have f1 := (hb7.frozen (p := ⟨w.heap.size, 1, none⟩) HLT2.out).trans f1'
                have B3 := Lib.hid (B2.out.trans (hb7.mono B2.out.size))
                have R7 := Lib.hid (rd7.store r0 r1 (.bool (decide (sgn true (val10 D) < 0))) (.slice A7 (words (sgn true (val10 D)).natAbs).length c7))
                have H7 := Lib.hid (And.intro h71 h72)
                clear MK hb7 rd7 h71 h72 r0' r1' f0' f1'
                go_wp2
                refine bodyPost_ret (v := .tuple #[.agg #[.bool (decide (sgn true (val10 D) < 0)), .slice A7 (words (sgn true (val10 D)).natAbs).length c7], .bool true]) (by simp [results, Tryd.results15, go_sem, r0, r1]) rfl ?_
                refine RefParse.yes HOK.out ?_
                rw [HSG.out]
                exact ⟨A7, c7, rfl, R7.out, H7.out.1, H7.out.2, below_store B3.out (Nat.le_refl _) _ _⟩
    · have hN := neg_no (l := s.data.toList) (by rw [hhd]; exact fun e => h45 (by rw [← hxs, Option.some.inj e]; rfl))
      have HDD := Lib.hid (show digT s.data.toList = s.data.toList from hN.2)
      have HNG := Lib.hid hN.1
      clear hN hhd hx
      go_upto_region 5 with (fail)
      clear hxs hb0
      have HDL := Lib.hid (show s.size = (digT s.data.toList).length by rw [HDD.out]; rfl)
      have HTX := Lib.hid (show s.size ≤ 60000 ∧ IsText s.data.toList → Numeral (digT s.data.toList) ∧ ¬ (false = true ∧ digT s.data.toList = [48]) from fun h => ⟨h.2.1, fun e => absurd e.1 (by simp)⟩)
      by_cases hd0 : s.size = 0
      · exact absurd hd0 h0
      · have hdp : 0 < s.size := by omega
        obtain ⟨x0, hxd⟩ : ∃ x0, x0 = (s[0]'hdp).toNat := ⟨_, rfl⟩
        have hxs2 : (s[0]'hdp).toNat = x0 := hxd.symm
        have hbd : 0 ≤ (0 : Int) ∧ (0 : Int) < (s.size : Int) := ⟨by omega, by omega⟩
        by_cases hs6 : 60000 < s.size
        · skip
          go_wp2
          refine bodyPost_ret (v := .tuple #[.agg #[.bool false, .slice none 0 0], .bool false]) (by simp [results, Tryd.results15, go_sem, r0, r1]) rfl ?_
          exact RefParse.no (fun h => by omega) ⟨rfl, below_store B.out (Nat.le_refl _) _ _⟩
        · have hhd2 : (digT s.data.toList).head? = some (s[0]'hdp) := by
            rw [HDD.out, List.head?_eq_getElem?, List.getElem?_eq_getElem (show 0 < s.data.toList.length from hdp)]
            rfl
          have HZ48 := Lib.hid (show x0 = 48 → Numeral (digT s.data.toList) → digT s.data.toList = [48] from fun h0 hn => by
            have e1 : (digT s.data.toList).head? = some 48 := by rw [hhd2]; exact congrArg some (UInt8.toNat_inj.1 (by rw [hxs2, h0]; rfl))
            have e2 := hn.2.2 e1
            rcases hl : digT s.data.toList with _ | ⟨c, r⟩
            · rw [hl] at e2; simp at e2
            · rw [hl] at e1 e2
              simp at e1 e2
              rw [e1, e2])
          have HNZ := Lib.hid (show x0 ≠ 48 → (digT s.data.toList).head? ≠ some 48 from fun h0 e => h0 (by rw [← hxs2]; rw [hhd2] at e; rw [Option.some.inj e]; rfl))
          clear hhd2
          have hs6' : ¬ (60000 : Int) < (s.size : Int) := by omega
          have hd1 : ((s.size : Int) == 0) = false := by rw [beq_eq_false_iff_ne]; omega
          by_cases hz : x0 = 48
          · replace HZ48 := Lib.hid (HZ48.out hz)
            clear HNZ
            rw [hz] at hxs2
            clear hxd
            · by_cases h1 : 1 < s.size
              · skip
                go_wp2
                refine bodyPost_ret (v := .tuple #[.agg #[.bool false, .slice none 0 0], .bool false]) (by simp [results, Tryd.results15, go_sem, r0, r1]) rfl ?_
                exact RefParse.no (fun h => by have h1' := (HTX.out h).1; have h2 := HZ48.out h1'; have h3 := congrArg List.length h2; have h4 := HDL.out; simp at h3; omega) ⟨rfl, below_store B.out (Nat.le_refl _) _ _⟩
              · have HC := Lib.hid (show Digits (digT s.data.toList) → s.size ≤ 60000 ∧ IsText s.data.toList from fun h => ⟨by omega, ⟨h, by intro e; have h5 := HDL.out; rw [e] at h5; have h6 : s.size = 0 := h5; omega, fun _ => by have h5 := HDL.out; omega⟩, by rw [HNG.out]; simp⟩)
                skip
                obtain ⟨D, hD⟩ : ∃ D, D = digT s.data.toList := ⟨_, rfl⟩
                have HDX := Lib.hid (show D = s.data.toList by rw [hD]; exact HDD.out)
                have HDLX := Lib.hid (show s.size = D.length by rw [hD]; exact HDL.out)
                have HDG := Lib.hid (show s.size ≤ 60000 ∧ IsText s.data.toList → Digits D from fun h => by rw [hD]; exact (HTX.out h).1.1)
                have HCX := Lib.hid (show Digits D → s.size ≤ 60000 ∧ IsText s.data.toList from fun h => HC.out (by rw [← hD]; exact h))
                have HSG := Lib.hid (show sgn (negT s.data.toList) (val10 (digT s.data.toList)) = sgn false (val10 D) by rw [HNG.out, hD])
                have hD6 : D.length ≤ 60000 := by
                  have h1 := digT_le s.data.toList
                  have h2 : s.data.toList.length = s.size := rfl
                  rw [hD]
                  omega
                clear hD HDD HDL HTX HC HNG
                go_wp2
                go_loopw [7, 6] (fun iv s6 wr' => ∃ (i : Nat) (sv : Value) (wr : World), wr = wr' ∧ iv = .int .i64 (i : Int) ∧ sv = s6 ∧ PI W0 wr D i sv) (fun iv _ _ => (D.length - intOf iv).toNat)
                case atStart => exact ⟨0, _, _, rfl, rfl, rfl, PI.start W0 D⟩
                case round =>
                  obtain ⟨i, sv, wr, rfl, rfl, rfl, hS⟩ := hrel
                  rcases Nat.lt_or_ge i D.length with hi | hi
                  · have HS := Lib.hid hS
                    have hiw : (i : Int) < (s.size : Int) := by have := HDLX.out; omega
                    clear hS
                    go_wp2
                    go_loopw [10, 8, 9, 7] (fun kv bv mv iv wr' => ∃ (k' by' more i' : Nat) (w2 : World), w2 = wr' ∧ PI W0 w2 D i sv ∧ kv = .int .i64 (k' : Int) ∧ bv = .int .u64 (by' : Int) ∧ mv = .int .u64 (more : Int) ∧ iv = .int .i64 (i' : Int) ∧ i' = i + k' ∧ k' ≤ 9 ∧ i' ≤ D.length ∧ by' = 10 ^ k' ∧ more = val10 ((D.drop i).take k') ∧ Digits ((D.drop i).take k')) (fun kv _ _ _ _ => (9 - intOf kv).toNat)
                    case atStart => exact ⟨0, 1, 0, i, _, rfl, HS.out, rfl, rfl, rfl, rfl, rfl, by omega, by omega, rfl, rfl, by simp [Digits]⟩
                    case round =>
                      obtain ⟨k', by', more, i', wr, rfl, hS2, rfl, rfl, rfl, rfl, hi', hk9, hiD, hby, hmore, hdg⟩ := hrel
                      clear HS
                      have HS := Lib.hid hS2
                      clear hS2
                      have HIX := Lib.hid hi'
                      have HBY := Lib.hid hby
                      have HMO := Lib.hid hmore
                      have HDGR := Lib.hid hdg
                      clear hi' hby hmore hdg
                      have hik : i ≤ i' := by have := HIX.out; omega
                      by_cases hin : k' < 9 ∧ i' < D.length
                      · obtain ⟨hk, hil⟩ := hin
                        have hid : i' < s.size := by have := HDLX.out; omega
                        obtain ⟨x, hxd⟩ : ∃ x, x = (D[i']'hil).toNat := ⟨_, rfl⟩
                        have hxs : (s[i']'hid).toNat = x := by
                          rw [hxd]
                          have e := HDX.out
                          subst e
                          rfl
                        have hbi : 0 ≤ (i' : Int) ∧ (i' : Int) < (s.size : Int) := ⟨by omega, by omega⟩
                        by_cases h1 : x < 48
                        · skip
                          have r0' := (HS.out.below.cell (p := ⟨w.heap.size, 0, none⟩) HLT.out).trans r0
                          have r1' := (HS.out.below.cell (p := ⟨w.heap.size, 1, none⟩) HLT.out).trans r1
                          have f0' := (HS.out.below.frozen (p := ⟨w.heap.size, 0, none⟩) HLT.out).trans f0
                          have f1' := (HS.out.below.frozen (p := ⟨w.heap.size, 1, none⟩) HLT.out).trans f1
                          have hbad : ¬ Digits D := fun h => by
                            have h1 := h (D[i']'(by omega)) (List.getElem_mem _)
                            omega
                          have HBAD := Lib.hid hbad
                          clear hbad hxd
                          go_wp2
                          refine bodyPost_ret (v := .tuple #[.agg #[.bool false, .slice none 0 0], .bool false]) (by simp [results, Tryd.results15, go_sem, r0', r1']) rfl ?_
                          exact RefParse.no (fun h => HBAD.out (HDG.out h)) ⟨rfl, below_store (B.out.trans (HS.out.below.mono B.out.size)) (Nat.le_refl _) _ _⟩
                        · by_cases h2 : 57 < x
                          · skip
                            have r0' := (HS.out.below.cell (p := ⟨w.heap.size, 0, none⟩) HLT.out).trans r0
                            have r1' := (HS.out.below.cell (p := ⟨w.heap.size, 1, none⟩) HLT.out).trans r1
                            have f0' := (HS.out.below.frozen (p := ⟨w.heap.size, 0, none⟩) HLT.out).trans f0
                            have f1' := (HS.out.below.frozen (p := ⟨w.heap.size, 1, none⟩) HLT.out).trans f1
                            have hbad : ¬ Digits D := fun h => by
                              have h1 := h (D[i']'(by omega)) (List.getElem_mem _)
                              omega
                            have HBAD := Lib.hid hbad
                            clear hbad hxd
                            go_wp2
                            refine bodyPost_ret (v := .tuple #[.agg #[.bool false, .slice none 0 0], .bool false]) (by simp [results, Tryd.results15, go_sem, r0', r1']) rfl ?_
                            exact RefParse.no (fun h => HBAD.out (HDG.out h)) ⟨rfl, below_store (B.out.trans (HS.out.below.mono B.out.size)) (Nat.le_refl _) _ _⟩
                          · have hst : val10 ((D.drop i).take (k' + 1)) = 10 * more + (x - 48) := by
                              have hl : k' < (D.drop i).length := by rw [List.length_drop]; have := HIX.out; omega
                              rw [List.take_succ_eq_append_getElem hl, val10_snoc, ← HMO.out]
                              simp only [List.getElem_drop, ← HIX.out, ← hxd]
                            have hdn : Digits ((D.drop i).take (k' + 1)) := by
                              have hl : k' < (D.drop i).length := by rw [List.length_drop]; have := HIX.out; omega
                              refine digits_take_succ HDGR.out hl ?_ ?_ <;> simp only [List.getElem_drop, ← HIX.out, ← hxd] <;> omega
                            have hm8 : more < 100000000 := by
                              have h3 := val10_lt HDGR.out
                              have h4 : (10 : Nat) ^ ((D.drop i).take k').length ≤ 10 ^ 8 := Nat.pow_le_pow_right (by omega) (by rw [List.length_take]; omega)
                              have h5 := HMO.out
                              omega
                            have hb8 : by' ≤ 100000000 := by
                              rw [HBY.out]
                              have : (10 : Nat) ^ k' ≤ 10 ^ 8 := Nat.pow_le_pow_right (by omega) (by omega)
                              omega
                            have eb : 10 * (by' : Int) = ((10 * by' : Nat) : Int) := by omega
                            have em : 10 * (more : Int) + ((x : Int) - 48) = ((10 * more + (x - 48) : Nat) : Int) := by omega
                            have hbn : 10 * by' = 10 ^ (k' + 1) := by rw [HBY.out, Nat.pow_succ, Nat.mul_comm]
                            obtain ⟨bn, hbnd⟩ : ∃ bn, bn = 10 * by' := ⟨_, rfl⟩
                            obtain ⟨mn, hmn⟩ : ∃ mn, mn = 10 * more + (x - 48) := ⟨_, rfl⟩
                            rw [← hbnd] at eb hbn
                            rw [← hmn] at em hst
                            have H1 := Lib.hid hst
                            have H2 := Lib.hid hdn
                            have H3 := Lib.hid hbn
                            clear hst hdn hbn hbnd hmn hxd
                            go_wp2_with fail
                            go_quiet (fail)
                            go_wp2
                            go_roundw
                            case measure => simp [intOf]; omega
                            case rel => exact ⟨k' + 1, bn, mn, i' + 1, _, rfl, HS.out.drewN _, by simp, rfl, rfl, by simp, by have := HIX.out; omega, by omega, by omega, H3.out, H1.out.symm, H2.out⟩
                      · skip
                        rcases Nat.lt_or_ge k' 9 with hk | hk
                        · have hiw2 : ¬ (i' : Int) < (s.size : Int) := by have := HDLX.out; omega
                          clear hiw
                          have hi' := HIX.out
                          have hby := HBY.out
                          have hmore := HMO.out
                          have hdg := HDGR.out
                          have own5 := HS.out.own
                          obtain ⟨V0, hV0⟩ : ∃ v, v = val10 (D.take i) := ⟨_, rfl⟩
                          rw [← hV0] at own5
                          obtain ⟨W, hW⟩ : ∃ W, W = words V0 := ⟨_, rfl⟩
                          rw [← hW] at own5
                          obtain ⟨m, hm⟩ : ∃ m, m = W.length := ⟨_, rfl⟩
                          rw [← hm] at own5
                          have hsW : small W := by rw [hW]; exact words_small _
                          obtain ⟨A5, cap, rfl, _, _, _, hA5⟩ := own_rd own5 hsW
                          have hk0 : 0 < k' := by omega
                          have hM9 : 10 ^ k' ≤ 1000000000 := by
                            have : (10 : Nat) ^ k' ≤ 10 ^ 9 := Nat.pow_le_pow_right (by omega) hk9
                            omega
                          have hM1 : 0 < 10 ^ k' := Nat.pow_pos (by omega)
                          have hgl : ((D.drop i).take k').length = k' := by rw [List.length_take, List.length_drop]; omega
                          have hml : more < 10 ^ k' := by
                            have h := val10_lt hdg
                            rw [hgl, ← hmore] at h
                            exact h
                          have hm6 : m ≤ 60000 := by
                            rw [hm, hW, hV0]
                            have h1 := words_len_le.2 (show val10 (D.take i) < pw D.length by
                              have h1 := val10_lt HS.out.dig
                              have h2 : (10 : Nat) ^ (D.take i).length ≤ 10 ^ D.length := Nat.pow_le_pow_right (by omega) (by rw [List.length_take]; omega)
                              have h3 : (10 : Nat) ^ D.length ≤ pw D.length := by
                                unfold pw
                                exact Nat.pow_le_pow_left (by omega) _
                              omega)
                            omega
                          obtain ⟨M, hM⟩ : ∃ M, M = 10 ^ k' := ⟨_, rfl⟩
                          rw [← hM] at hM9 hM1 hml hby
                          have M0 := Lib.hid (MulAt.start (W := W) (M := M) (c := more) hsW hml)
                          have HO5 := Lib.hid own5
                          have HP5 := Lib.hid HS.out.below
                          have ev : V0 * M + more = val10 (D.take i') := by
                            rw [hi', List.take_add, val10_app, hgl, ← hV0, ← hmore, ← hM]
                          have hdn : Digits (D.take i') := by
                            rw [hi', List.take_add]
                            intro y hy
                            rcases List.mem_append.1 hy with h | h
                            · exact HS.out.dig y h
                            · exact hdg y h
                          have HEV := Lib.hid ev
                          have HDN := Lib.hid hdn
                          have HW := Lib.hid hW
                          have HMM := Lib.hid hm
                          have HII := Lib.hid (show i < i' by omega)
                          obtain rfl := hby
                          clear own5 hV0 hW hm hsW hM ev hdn hmore hdg hgl hml hi'
                          go_wp2
                          go_loopw [11, 9] (fun jv mv wr' => ∃ (j q : Nat) (L : List Nat) (w3 : World), w3 = wr' ∧ jv = .int .i64 (j : Int) ∧ mv = .int .u64 (q : Int) ∧ j ≤ m ∧ MulAt W by' more j L q ∧ w3.ownsRow W0.heap.size 86 1 (.slice A5 m cap) m (L.map enc32) ∧ Below W0.heap.size W0 w3) (fun jv _ _ => (m - intOf jv).toNat)
                          case atStart => exact ⟨0, more, W, _, rfl, rfl, rfl, Nat.zero_le _, M0.out, HO5.out, HP5.out⟩
                          case round =>
                            obtain ⟨j, q, L, w3, rfl, rfl, rfl, hj, hMu, hO, hP⟩ := hrel
                            clear M0 HO5 HP5
                            rcases Nat.lt_or_ge j m with hjm | hjm
                            · obtain ⟨g2, rfl⟩ := hA5 (by omega)
                              obtain ⟨oc, ofz, oB, olt⟩ := own_cell hO hjm
                              rw [hMu.get] at oc
                              have hsW : small W := by rw [HW.out]; exact words_small _
                              have hx := small_get hsW j
                              have hq := hMu.lt
                              obtain ⟨hnx, htl⟩ := hMu.next (by rw [← HMM.out]; exact hjm) hsW rfl
                              obtain ⟨x, hxd⟩ : ∃ x, x = W.getD j 0 := ⟨_, rfl⟩
                              rw [← hxd] at oc hx hnx htl
                              obtain ⟨p, hp⟩ : ∃ p, p = x * by' := ⟨_, rfl⟩
                              have hpi : (by' : Int) * (x : Int) = (p : Int) := by rw [hp, Int.mul_comm]; simp
                              have hpl : p ≤ 4294967295 * 1000000000 := by
                                rw [hp]
                                exact Nat.mul_le_mul (by omega) hM9
                              rw [← hp] at hnx htl
                              obtain ⟨t, htd⟩ : ∃ t, t = p + q := ⟨_, rfl⟩
                              rw [← htd] at hnx htl
                              have et : (q : Int) + (p : Int) = (t : Int) := by omega
                              have ht0 : t < 18446744073709551616 := by omega
                              have emk := u64_mask (z := (t : Int)) (by omega) (by omega)
                              have em : (t : Int) % 4294967296 = ((t % 4294967296 : Nat) : Int) := by omega
                              have ed : (t : Int) / 4294967296 = ((t / 4294967296 : Nat) : Int) := by omega
                              obtain ⟨y, hy⟩ : ∃ y, y = t % 4294967296 := ⟨_, rfl⟩
                              have hy4 : y < 4294967296 := by omega
                              obtain ⟨z, hz⟩ : ∃ z, z = t / 4294967296 := ⟨_, rfl⟩
                              rw [← hy] at em hnx
                              rw [← hz] at ed hnx
                              rw [em] at emk
                              have N1 := Lib.hid hnx
                              have N2 := Lib.hid (own_set (i := j) hO y)
                              have N3 := Lib.hid (hP.setCell (p := ⟨g2, j, none⟩) oB (.int .u32 (y : Int)))
                              clear hnx hO hP hMu hsW hxd hp htd hy hz olt hA5
                              go_wp2
                              go_roundw
                              case measure => simp [intOf]; omega
                              case rel => exact ⟨j + 1, z, _, _, rfl, by simp, rfl, by omega, N1.out, N2.out, N3.out⟩
                            · have e : j = m := by omega
                              subst e
                              have hMW : MulAt W by' more W.length L q := by rw [← HMM.out]; exact hMu
                              obtain ⟨d0, d1⟩ := hMW.done HW.out hM1 hM9
                              have hL : L.length = j := by rw [hMu.len, ← HMM.out]
                              have hq := hMu.lt
                              rw [HEV.out] at d0 d1
                              have HO := Lib.hid hO
                              have HP := Lib.hid hP
                              by_cases hq0 : q = 0
                              · have dd := d0 hq0
                                subst hq0
                                have R := Lib.hid (show PI W0 w3 D i' (.slice A5 j cap) from ⟨hiD, HDN.out, by rw [← dd, hL]; exact HO.out, HP.out⟩)
                                clear dd d0 d1 hMu hMW hO hP HO HP
                                go_wp2
                                go_roundw
                                case measure => have := HII.out; simp [intOf]; omega
                                case rel => exact ⟨i', _, _, rfl, rfl, rfl, R.out⟩
                              · have dd := d1 hq0
                                obtain ⟨i0, hi0, hz0, hz1, hz2⟩ := info_parts info32
                                have hqp : (0 : Int) < (q : Int) := by omega
                                have HD1 := Lib.hid dd
                                have HLJ := Lib.hid hL
                                have HWP := Lib.hid HP.out.size
                                have hO4 := HO.out
                                clear dd d0 d1 hMu hMW hO hP hL
                                go_wp2_with (at_builtin; refine wpList_append_own _ rfl _ _ 22 rfl W0.heap.size 86 i0 (.int .u32 0) 1 4 Tryd.underlying22 hi0 hz0 hz1 hz2 rfl (by decide) _ j _ rfl (hO4.alloc _) ⟨w3.heap.size, 0, none⟩ 1 1 [.int .u32 (q : Int)] rfl rfl ?c1 ?c2 ?c3 ?c4 ?c5 ?_)
                                case c1 =>
                                  intro a u hj
                                  match a, hj with
                                  | 0, hj => simp at hj; subst hj; simp [Addr.add]
                                case c2 => intro u hu; simp at hu; subst hu; rfl
                                case c3 => simp only [maxLen]; omega
                                case c4 => omega
                                case c5 => have := HWP.out; simp; omega
                                intro v' w4 own4 gr4 nil4
                                have hb4 := below_app HP.out (Nat.le_refl _) HO.out gr4
                                have R := Lib.hid (show PI W0 w4 D i' v' from ⟨hiD, HDN.out, by
                                  rw [← HD1.out, List.length_append, HLJ.out, List.map_append]
                                  exact own4, hb4⟩)
                                clear own4 gr4 nil4 hb4 hO4 HO HP hi0 hz0 hz1 hz2
                                go_wp2
                                go_roundw
                                case measure => have := HII.out; simp [intOf]; omega
                                case rel => exact ⟨i', _, _, rfl, rfl, rfl, R.out⟩
                        · skip
                          have hi' := HIX.out
                          have hby := HBY.out
                          have hmore := HMO.out
                          have hdg := HDGR.out
                          have own5 := HS.out.own
                          obtain ⟨V0, hV0⟩ : ∃ v, v = val10 (D.take i) := ⟨_, rfl⟩
                          rw [← hV0] at own5
                          obtain ⟨W, hW⟩ : ∃ W, W = words V0 := ⟨_, rfl⟩
                          rw [← hW] at own5
                          obtain ⟨m, hm⟩ : ∃ m, m = W.length := ⟨_, rfl⟩
                          rw [← hm] at own5
                          have hsW : small W := by rw [hW]; exact words_small _
                          obtain ⟨A5, cap, rfl, _, _, _, hA5⟩ := own_rd own5 hsW
                          have hk0 : 0 < k' := by omega
                          have hM9 : 10 ^ k' ≤ 1000000000 := by
                            have : (10 : Nat) ^ k' ≤ 10 ^ 9 := Nat.pow_le_pow_right (by omega) hk9
                            omega
                          have hM1 : 0 < 10 ^ k' := Nat.pow_pos (by omega)
                          have hgl : ((D.drop i).take k').length = k' := by rw [List.length_take, List.length_drop]; omega
                          have hml : more < 10 ^ k' := by
                            have h := val10_lt hdg
                            rw [hgl, ← hmore] at h
                            exact h
                          have hm6 : m ≤ 60000 := by
                            rw [hm, hW, hV0]
                            have h1 := words_len_le.2 (show val10 (D.take i) < pw D.length by
                              have h1 := val10_lt HS.out.dig
                              have h2 : (10 : Nat) ^ (D.take i).length ≤ 10 ^ D.length := Nat.pow_le_pow_right (by omega) (by rw [List.length_take]; omega)
                              have h3 : (10 : Nat) ^ D.length ≤ pw D.length := by
                                unfold pw
                                exact Nat.pow_le_pow_left (by omega) _
                              omega)
                            omega
                          obtain ⟨M, hM⟩ : ∃ M, M = 10 ^ k' := ⟨_, rfl⟩
                          rw [← hM] at hM9 hM1 hml hby
                          have M0 := Lib.hid (MulAt.start (W := W) (M := M) (c := more) hsW hml)
                          have HO5 := Lib.hid own5
                          have HP5 := Lib.hid HS.out.below
                          have ev : V0 * M + more = val10 (D.take i') := by
                            rw [hi', List.take_add, val10_app, hgl, ← hV0, ← hmore, ← hM]
                          have hdn : Digits (D.take i') := by
                            rw [hi', List.take_add]
                            intro y hy
                            rcases List.mem_append.1 hy with h | h
                            · exact HS.out.dig y h
                            · exact hdg y h
                          have HEV := Lib.hid ev
                          have HDN := Lib.hid hdn
                          have HW := Lib.hid hW
                          have HMM := Lib.hid hm
                          have HII := Lib.hid (show i < i' by omega)
                          obtain rfl := hby
                          clear own5 hV0 hW hm hsW hM ev hdn hmore hdg hgl hml hi'
                          go_wp2
                          go_loopw [11, 9] (fun jv mv wr' => ∃ (j q : Nat) (L : List Nat) (w3 : World), w3 = wr' ∧ jv = .int .i64 (j : Int) ∧ mv = .int .u64 (q : Int) ∧ j ≤ m ∧ MulAt W by' more j L q ∧ w3.ownsRow W0.heap.size 86 1 (.slice A5 m cap) m (L.map enc32) ∧ Below W0.heap.size W0 w3) (fun jv _ _ => (m - intOf jv).toNat)
                          case atStart => exact ⟨0, more, W, _, rfl, rfl, rfl, Nat.zero_le _, M0.out, HO5.out, HP5.out⟩
                          case round =>
                            obtain ⟨j, q, L, w3, rfl, rfl, rfl, hj, hMu, hO, hP⟩ := hrel
                            clear M0 HO5 HP5
                            rcases Nat.lt_or_ge j m with hjm | hjm
                            · obtain ⟨g2, rfl⟩ := hA5 (by omega)
                              obtain ⟨oc, ofz, oB, olt⟩ := own_cell hO hjm
                              rw [hMu.get] at oc
                              have hsW : small W := by rw [HW.out]; exact words_small _
                              have hx := small_get hsW j
                              have hq := hMu.lt
                              obtain ⟨hnx, htl⟩ := hMu.next (by rw [← HMM.out]; exact hjm) hsW rfl
                              obtain ⟨x, hxd⟩ : ∃ x, x = W.getD j 0 := ⟨_, rfl⟩
                              rw [← hxd] at oc hx hnx htl
                              obtain ⟨p, hp⟩ : ∃ p, p = x * by' := ⟨_, rfl⟩
                              have hpi : (by' : Int) * (x : Int) = (p : Int) := by rw [hp, Int.mul_comm]; simp
                              have hpl : p ≤ 4294967295 * 1000000000 := by
                                rw [hp]
                                exact Nat.mul_le_mul (by omega) hM9
                              rw [← hp] at hnx htl
                              obtain ⟨t, htd⟩ : ∃ t, t = p + q := ⟨_, rfl⟩
                              rw [← htd] at hnx htl
                              have et : (q : Int) + (p : Int) = (t : Int) := by omega
                              have ht0 : t < 18446744073709551616 := by omega
                              have emk := u64_mask (z := (t : Int)) (by omega) (by omega)
                              have em : (t : Int) % 4294967296 = ((t % 4294967296 : Nat) : Int) := by omega
                              have ed : (t : Int) / 4294967296 = ((t / 4294967296 : Nat) : Int) := by omega
                              obtain ⟨y, hy⟩ : ∃ y, y = t % 4294967296 := ⟨_, rfl⟩
                              have hy4 : y < 4294967296 := by omega
                              obtain ⟨z, hz⟩ : ∃ z, z = t / 4294967296 := ⟨_, rfl⟩
                              rw [← hy] at em hnx
                              rw [← hz] at ed hnx
                              rw [em] at emk
                              have N1 := Lib.hid hnx
                              have N2 := Lib.hid (own_set (i := j) hO y)
                              have N3 := Lib.hid (hP.setCell (p := ⟨g2, j, none⟩) oB (.int .u32 (y : Int)))
                              clear hnx hO hP hMu hsW hxd hp htd hy hz olt hA5
                              go_wp2
                              go_roundw
                              case measure => simp [intOf]; omega
                              case rel => exact ⟨j + 1, z, _, _, rfl, by simp, rfl, by omega, N1.out, N2.out, N3.out⟩
                            · have e : j = m := by omega
                              subst e
                              have hMW : MulAt W by' more W.length L q := by rw [← HMM.out]; exact hMu
                              obtain ⟨d0, d1⟩ := hMW.done HW.out hM1 hM9
                              have hL : L.length = j := by rw [hMu.len, ← HMM.out]
                              have hq := hMu.lt
                              rw [HEV.out] at d0 d1
                              have HO := Lib.hid hO
                              have HP := Lib.hid hP
                              by_cases hq0 : q = 0
                              · have dd := d0 hq0
                                subst hq0
                                have R := Lib.hid (show PI W0 w3 D i' (.slice A5 j cap) from ⟨hiD, HDN.out, by rw [← dd, hL]; exact HO.out, HP.out⟩)
                                clear dd d0 d1 hMu hMW hO hP HO HP
                                go_wp2
                                go_roundw
                                case measure => have := HII.out; simp [intOf]; omega
                                case rel => exact ⟨i', _, _, rfl, rfl, rfl, R.out⟩
                              · have dd := d1 hq0
                                obtain ⟨i0, hi0, hz0, hz1, hz2⟩ := info_parts info32
                                have hqp : (0 : Int) < (q : Int) := by omega
                                have HD1 := Lib.hid dd
                                have HLJ := Lib.hid hL
                                have HWP := Lib.hid HP.out.size
                                have hO4 := HO.out
                                clear dd d0 d1 hMu hMW hO hP hL
                                go_wp2_with (at_builtin; refine wpList_append_own _ rfl _ _ 22 rfl W0.heap.size 86 i0 (.int .u32 0) 1 4 Tryd.underlying22 hi0 hz0 hz1 hz2 rfl (by decide) _ j _ rfl (hO4.alloc _) ⟨w3.heap.size, 0, none⟩ 1 1 [.int .u32 (q : Int)] rfl rfl ?c1 ?c2 ?c3 ?c4 ?c5 ?_)
                                case c1 =>
                                  intro a u hj
                                  match a, hj with
                                  | 0, hj => simp at hj; subst hj; simp [Addr.add]
                                case c2 => intro u hu; simp at hu; subst hu; rfl
                                case c3 => simp only [maxLen]; omega
                                case c4 => omega
                                case c5 => have := HWP.out; simp; omega
                                intro v' w4 own4 gr4 nil4
                                have hb4 := below_app HP.out (Nat.le_refl _) HO.out gr4
                                have R := Lib.hid (show PI W0 w4 D i' v' from ⟨hiD, HDN.out, by
                                  rw [← HD1.out, List.length_append, HLJ.out, List.map_append]
                                  exact own4, hb4⟩)
                                clear own4 gr4 nil4 hb4 hO4 HO HP hi0 hz0 hz1 hz2
                                go_wp2
                                go_roundw
                                case measure => have := HII.out; simp [intOf]; omega
                                case rel => exact ⟨i', _, _, rfl, rfl, rfl, R.out⟩
                  · have ei : i = D.length := by have := hS.le; omega
                    have hniw : ¬ (i : Int) < (s.size : Int) := by have := HDLX.out; omega
                    have hbel := hS.below
                    have hown := hS.own
                    rw [ei, List.take_of_length_le (Nat.le_refl _)] at hown
                    obtain ⟨A6, cap6, rfl, rd6, h61, h62, _⟩ := own_rd hown (words_small _)
                    have h63 : (words (val10 D)).length ≤ 60000 := by
                      have h := val10_words (l := D) (by have := hS.dig; rw [ei, List.take_of_length_le (Nat.le_refl _)] at this; exact this) D.length
                      rw [List.take_of_length_le (Nat.le_refl _)] at h
                      omega
                    have HOK := Lib.hid (HCX.out (by have := hS.dig; rw [ei, List.take_of_length_le (Nat.le_refl _)] at this; exact this))
                    have MK := Lib.hid (Make_c false A6 _ cap6 (words (val10 D)) wr rd6 h61 h62 (by omega))
                    rw [val_words] at MK
                    have r0' := (hbel.cell (p := ⟨w.heap.size, 0, none⟩) HLT.out).trans r0
                    have r1' := (hbel.cell (p := ⟨w.heap.size, 1, none⟩) HLT.out).trans r1
                    have f0' := (hbel.frozen (p := ⟨w.heap.size, 0, none⟩) HLT.out).trans f0
                    have f1' := (hbel.frozen (p := ⟨w.heap.size, 1, none⟩) HLT.out).trans f1
                    have HLT2 := Lib.hid (Nat.lt_of_lt_of_le HLT.out hbel.size)
                    have B2 := Lib.hid (B.out.trans (hbel.mono B.out.size))
                    clear hS hbel hown rd6 h61 h62 h63 r0 r1 f0 f1
                    go_wp2_with fail
                    refine MK.out.mono ?_
                    rintro e w7 ⟨A7, c7, rfl, rd7, h71, h72, hb7⟩
                    have r0 := (hb7.cell (p := ⟨w.heap.size, 0, none⟩) HLT2.out).trans r0'
                    have r1 := (hb7.cell (p := ⟨w.heap.size, 1, none⟩) HLT2.out).trans r1'
                    have f0 := (hb7.frozen (p := ⟨w.heap.size, 0, none⟩) HLT2.out).trans f0'
                    have f1 := (hb7.frozen (p := ⟨w.heap.size, 1, none⟩) HLT2.out).trans f1'
                    have B3 := Lib.hid (B2.out.trans (hb7.mono B2.out.size))
                    have R7 := Lib.hid (rd7.store r0 r1 (.bool (decide (sgn false (val10 D) < 0))) (.slice A7 (words (sgn false (val10 D)).natAbs).length c7))
                    have H7 := Lib.hid (And.intro h71 h72)
                    clear MK hb7 rd7 h71 h72 r0' r1' f0' f1'
                    go_wp2
                    refine bodyPost_ret (v := .tuple #[.agg #[.bool (decide (sgn false (val10 D) < 0)), .slice A7 (words (sgn false (val10 D)).natAbs).length c7], .bool true]) (by simp [results, Tryd.results15, go_sem, r0, r1]) rfl ?_
                    refine RefParse.yes HOK.out ?_
                    rw [HSG.out]
                    exact ⟨A7, c7, rfl, R7.out, H7.out.1, H7.out.2, below_store B3.out (Nat.le_refl _) _ _⟩

          · have HC := Lib.hid (show Digits (digT s.data.toList) → s.size ≤ 60000 ∧ IsText s.data.toList from fun h => ⟨by omega, ⟨h, by intro e; have h5 := HDL.out; rw [e] at h5; have h6 : s.size = 0 := h5; omega, fun e => absurd e (HNZ.out hz)⟩, by rintro ⟨_, e⟩; exact HNZ.out hz (by rw [e]; rfl)⟩)
            clear hxd HZ48 HNZ
            obtain ⟨D, hD⟩ : ∃ D, D = digT s.data.toList := ⟨_, rfl⟩
            have HDX := Lib.hid (show D = s.data.toList by rw [hD]; exact HDD.out)
            have HDLX := Lib.hid (show s.size = D.length by rw [hD]; exact HDL.out)
            have HDG := Lib.hid (show s.size ≤ 60000 ∧ IsText s.data.toList → Digits D from fun h => by rw [hD]; exact (HTX.out h).1.1)
            have HCX := Lib.hid (show Digits D → s.size ≤ 60000 ∧ IsText s.data.toList from fun h => HC.out (by rw [← hD]; exact h))
            have HSG := Lib.hid (show sgn (negT s.data.toList) (val10 (digT s.data.toList)) = sgn false (val10 D) by rw [HNG.out, hD])
            have hD6 : D.length ≤ 60000 := by
              have h1 := digT_le s.data.toList
              have h2 : s.data.toList.length = s.size := rfl
              rw [hD]
              omega
            clear hD HDD HDL HTX HC HNG
            go_wp2
            go_loopw [7, 6] (fun iv s6 wr' => ∃ (i : Nat) (sv : Value) (wr : World), wr = wr' ∧ iv = .int .i64 (i : Int) ∧ sv = s6 ∧ PI W0 wr D i sv) (fun iv _ _ => (D.length - intOf iv).toNat)
            case atStart => exact ⟨0, _, _, rfl, rfl, rfl, PI.start W0 D⟩
            case round =>
              obtain ⟨i, sv, wr, rfl, rfl, rfl, hS⟩ := hrel
              rcases Nat.lt_or_ge i D.length with hi | hi
              · have HS := Lib.hid hS
                have hiw : (i : Int) < (s.size : Int) := by have := HDLX.out; omega
                clear hS
                go_wp2
                go_loopw [10, 8, 9, 7] (fun kv bv mv iv wr' => ∃ (k' by' more i' : Nat) (w2 : World), w2 = wr' ∧ PI W0 w2 D i sv ∧ kv = .int .i64 (k' : Int) ∧ bv = .int .u64 (by' : Int) ∧ mv = .int .u64 (more : Int) ∧ iv = .int .i64 (i' : Int) ∧ i' = i + k' ∧ k' ≤ 9 ∧ i' ≤ D.length ∧ by' = 10 ^ k' ∧ more = val10 ((D.drop i).take k') ∧ Digits ((D.drop i).take k')) (fun kv _ _ _ _ => (9 - intOf kv).toNat)
                case atStart => exact ⟨0, 1, 0, i, _, rfl, HS.out, rfl, rfl, rfl, rfl, rfl, by omega, by omega, rfl, rfl, by simp [Digits]⟩
                case round =>
                  obtain ⟨k', by', more, i', wr, rfl, hS2, rfl, rfl, rfl, rfl, hi', hk9, hiD, hby, hmore, hdg⟩ := hrel
                  clear HS
                  have HS := Lib.hid hS2
                  clear hS2
                  have HIX := Lib.hid hi'
                  have HBY := Lib.hid hby
                  have HMO := Lib.hid hmore
                  have HDGR := Lib.hid hdg
                  clear hi' hby hmore hdg
                  have hik : i ≤ i' := by have := HIX.out; omega
                  by_cases hin : k' < 9 ∧ i' < D.length
                  · obtain ⟨hk, hil⟩ := hin
                    have hid : i' < s.size := by have := HDLX.out; omega
                    obtain ⟨x, hxd⟩ : ∃ x, x = (D[i']'hil).toNat := ⟨_, rfl⟩
                    have hxs : (s[i']'hid).toNat = x := by
                      rw [hxd]
                      have e := HDX.out
                      subst e
                      rfl
                    have hbi : 0 ≤ (i' : Int) ∧ (i' : Int) < (s.size : Int) := ⟨by omega, by omega⟩
                    by_cases h1 : x < 48
                    · skip
                      have r0' := (HS.out.below.cell (p := ⟨w.heap.size, 0, none⟩) HLT.out).trans r0
                      have r1' := (HS.out.below.cell (p := ⟨w.heap.size, 1, none⟩) HLT.out).trans r1
                      have f0' := (HS.out.below.frozen (p := ⟨w.heap.size, 0, none⟩) HLT.out).trans f0
                      have f1' := (HS.out.below.frozen (p := ⟨w.heap.size, 1, none⟩) HLT.out).trans f1
                      have hbad : ¬ Digits D := fun h => by
                        have h1 := h (D[i']'(by omega)) (List.getElem_mem _)
                        omega
                      have HBAD := Lib.hid hbad
                      clear hbad hxd
                      go_wp2
                      refine bodyPost_ret (v := .tuple #[.agg #[.bool false, .slice none 0 0], .bool false]) (by simp [results, Tryd.results15, go_sem, r0', r1']) rfl ?_
                      exact RefParse.no (fun h => HBAD.out (HDG.out h)) ⟨rfl, below_store (B.out.trans (HS.out.below.mono B.out.size)) (Nat.le_refl _) _ _⟩
                    · by_cases h2 : 57 < x
                      · skip
                        have r0' := (HS.out.below.cell (p := ⟨w.heap.size, 0, none⟩) HLT.out).trans r0
                        have r1' := (HS.out.below.cell (p := ⟨w.heap.size, 1, none⟩) HLT.out).trans r1
                        have f0' := (HS.out.below.frozen (p := ⟨w.heap.size, 0, none⟩) HLT.out).trans f0
                        have f1' := (HS.out.below.frozen (p := ⟨w.heap.size, 1, none⟩) HLT.out).trans f1
                        have hbad : ¬ Digits D := fun h => by
                          have h1 := h (D[i']'(by omega)) (List.getElem_mem _)
                          omega
                        have HBAD := Lib.hid hbad
                        clear hbad hxd
                        go_wp2
                        refine bodyPost_ret (v := .tuple #[.agg #[.bool false, .slice none 0 0], .bool false]) (by simp [results, Tryd.results15, go_sem, r0', r1']) rfl ?_
                        exact RefParse.no (fun h => HBAD.out (HDG.out h)) ⟨rfl, below_store (B.out.trans (HS.out.below.mono B.out.size)) (Nat.le_refl _) _ _⟩
                      · have hst : val10 ((D.drop i).take (k' + 1)) = 10 * more + (x - 48) := by
                          have hl : k' < (D.drop i).length := by rw [List.length_drop]; have := HIX.out; omega
                          rw [List.take_succ_eq_append_getElem hl, val10_snoc, ← HMO.out]
                          simp only [List.getElem_drop, ← HIX.out, ← hxd]
                        have hdn : Digits ((D.drop i).take (k' + 1)) := by
                          have hl : k' < (D.drop i).length := by rw [List.length_drop]; have := HIX.out; omega
                          refine digits_take_succ HDGR.out hl ?_ ?_ <;> simp only [List.getElem_drop, ← HIX.out, ← hxd] <;> omega
                        have hm8 : more < 100000000 := by
                          have h3 := val10_lt HDGR.out
                          have h4 : (10 : Nat) ^ ((D.drop i).take k').length ≤ 10 ^ 8 := Nat.pow_le_pow_right (by omega) (by rw [List.length_take]; omega)
                          have h5 := HMO.out
                          omega
                        have hb8 : by' ≤ 100000000 := by
                          rw [HBY.out]
                          have : (10 : Nat) ^ k' ≤ 10 ^ 8 := Nat.pow_le_pow_right (by omega) (by omega)
                          omega
                        have eb : 10 * (by' : Int) = ((10 * by' : Nat) : Int) := by omega
                        have em : 10 * (more : Int) + ((x : Int) - 48) = ((10 * more + (x - 48) : Nat) : Int) := by omega
                        have hbn : 10 * by' = 10 ^ (k' + 1) := by rw [HBY.out, Nat.pow_succ, Nat.mul_comm]
                        obtain ⟨bn, hbnd⟩ : ∃ bn, bn = 10 * by' := ⟨_, rfl⟩
                        obtain ⟨mn, hmn⟩ : ∃ mn, mn = 10 * more + (x - 48) := ⟨_, rfl⟩
                        rw [← hbnd] at eb hbn
                        rw [← hmn] at em hst
                        have H1 := Lib.hid hst
                        have H2 := Lib.hid hdn
                        have H3 := Lib.hid hbn
                        clear hst hdn hbn hbnd hmn hxd
                        go_wp2_with fail
                        go_quiet (fail)
                        go_wp2
                        go_roundw
                        case measure => simp [intOf]; omega
                        case rel => exact ⟨k' + 1, bn, mn, i' + 1, _, rfl, HS.out.drewN _, by simp, rfl, rfl, by simp, by have := HIX.out; omega, by omega, by omega, H3.out, H1.out.symm, H2.out⟩
                  · skip
                    rcases Nat.lt_or_ge k' 9 with hk | hk
                    · have hiw2 : ¬ (i' : Int) < (s.size : Int) := by have := HDLX.out; omega
                      clear hiw
                      have hi' := HIX.out
                      have hby := HBY.out
                      have hmore := HMO.out
                      have hdg := HDGR.out
                      have own5 := HS.out.own
                      obtain ⟨V0, hV0⟩ : ∃ v, v = val10 (D.take i) := ⟨_, rfl⟩
                      rw [← hV0] at own5
                      obtain ⟨W, hW⟩ : ∃ W, W = words V0 := ⟨_, rfl⟩
                      rw [← hW] at own5
                      obtain ⟨m, hm⟩ : ∃ m, m = W.length := ⟨_, rfl⟩
                      rw [← hm] at own5
                      have hsW : small W := by rw [hW]; exact words_small _
                      obtain ⟨A5, cap, rfl, _, _, _, hA5⟩ := own_rd own5 hsW
                      have hk0 : 0 < k' := by omega
                      have hM9 : 10 ^ k' ≤ 1000000000 := by
                        have : (10 : Nat) ^ k' ≤ 10 ^ 9 := Nat.pow_le_pow_right (by omega) hk9
                        omega
                      have hM1 : 0 < 10 ^ k' := Nat.pow_pos (by omega)
                      have hgl : ((D.drop i).take k').length = k' := by rw [List.length_take, List.length_drop]; omega
                      have hml : more < 10 ^ k' := by
                        have h := val10_lt hdg
                        rw [hgl, ← hmore] at h
                        exact h
                      have hm6 : m ≤ 60000 := by
                        rw [hm, hW, hV0]
                        have h1 := words_len_le.2 (show val10 (D.take i) < pw D.length by
                          have h1 := val10_lt HS.out.dig
                          have h2 : (10 : Nat) ^ (D.take i).length ≤ 10 ^ D.length := Nat.pow_le_pow_right (by omega) (by rw [List.length_take]; omega)
                          have h3 : (10 : Nat) ^ D.length ≤ pw D.length := by
                            unfold pw
                            exact Nat.pow_le_pow_left (by omega) _
                          omega)
                        omega
                      obtain ⟨M, hM⟩ : ∃ M, M = 10 ^ k' := ⟨_, rfl⟩
                      rw [← hM] at hM9 hM1 hml hby
                      have M0 := Lib.hid (MulAt.start (W := W) (M := M) (c := more) hsW hml)
                      have HO5 := Lib.hid own5
                      have HP5 := Lib.hid HS.out.below
                      have ev : V0 * M + more = val10 (D.take i') := by
                        rw [hi', List.take_add, val10_app, hgl, ← hV0, ← hmore, ← hM]
                      have hdn : Digits (D.take i') := by
                        rw [hi', List.take_add]
                        intro y hy
                        rcases List.mem_append.1 hy with h | h
                        · exact HS.out.dig y h
                        · exact hdg y h
                      have HEV := Lib.hid ev
                      have HDN := Lib.hid hdn
                      have HW := Lib.hid hW
                      have HMM := Lib.hid hm
                      have HII := Lib.hid (show i < i' by omega)
                      obtain rfl := hby
                      clear own5 hV0 hW hm hsW hM ev hdn hmore hdg hgl hml hi'
                      go_wp2
                      go_loopw [11, 9] (fun jv mv wr' => ∃ (j q : Nat) (L : List Nat) (w3 : World), w3 = wr' ∧ jv = .int .i64 (j : Int) ∧ mv = .int .u64 (q : Int) ∧ j ≤ m ∧ MulAt W by' more j L q ∧ w3.ownsRow W0.heap.size 86 1 (.slice A5 m cap) m (L.map enc32) ∧ Below W0.heap.size W0 w3) (fun jv _ _ => (m - intOf jv).toNat)
                      case atStart => exact ⟨0, more, W, _, rfl, rfl, rfl, Nat.zero_le _, M0.out, HO5.out, HP5.out⟩
                      case round =>
                        obtain ⟨j, q, L, w3, rfl, rfl, rfl, hj, hMu, hO, hP⟩ := hrel
                        clear M0 HO5 HP5
                        rcases Nat.lt_or_ge j m with hjm | hjm
                        · obtain ⟨g2, rfl⟩ := hA5 (by omega)
                          obtain ⟨oc, ofz, oB, olt⟩ := own_cell hO hjm
                          rw [hMu.get] at oc
                          have hsW : small W := by rw [HW.out]; exact words_small _
                          have hx := small_get hsW j
                          have hq := hMu.lt
                          obtain ⟨hnx, htl⟩ := hMu.next (by rw [← HMM.out]; exact hjm) hsW rfl
                          obtain ⟨x, hxd⟩ : ∃ x, x = W.getD j 0 := ⟨_, rfl⟩
                          rw [← hxd] at oc hx hnx htl
                          obtain ⟨p, hp⟩ : ∃ p, p = x * by' := ⟨_, rfl⟩
                          have hpi : (by' : Int) * (x : Int) = (p : Int) := by rw [hp, Int.mul_comm]; simp
                          have hpl : p ≤ 4294967295 * 1000000000 := by
                            rw [hp]
                            exact Nat.mul_le_mul (by omega) hM9
                          rw [← hp] at hnx htl
                          obtain ⟨t, htd⟩ : ∃ t, t = p + q := ⟨_, rfl⟩
                          rw [← htd] at hnx htl
                          have et : (q : Int) + (p : Int) = (t : Int) := by omega
                          have ht0 : t < 18446744073709551616 := by omega
                          have emk := u64_mask (z := (t : Int)) (by omega) (by omega)
                          have em : (t : Int) % 4294967296 = ((t % 4294967296 : Nat) : Int) := by omega
                          have ed : (t : Int) / 4294967296 = ((t / 4294967296 : Nat) : Int) := by omega
                          obtain ⟨y, hy⟩ : ∃ y, y = t % 4294967296 := ⟨_, rfl⟩
                          have hy4 : y < 4294967296 := by omega
                          obtain ⟨z, hz⟩ : ∃ z, z = t / 4294967296 := ⟨_, rfl⟩
                          rw [← hy] at em hnx
                          rw [← hz] at ed hnx
                          rw [em] at emk
                          have N1 := Lib.hid hnx
                          have N2 := Lib.hid (own_set (i := j) hO y)
                          have N3 := Lib.hid (hP.setCell (p := ⟨g2, j, none⟩) oB (.int .u32 (y : Int)))
                          clear hnx hO hP hMu hsW hxd hp htd hy hz olt hA5
                          go_wp2
                          go_roundw
                          case measure => simp [intOf]; omega
                          case rel => exact ⟨j + 1, z, _, _, rfl, by simp, rfl, by omega, N1.out, N2.out, N3.out⟩
                        · have e : j = m := by omega
                          subst e
                          have hMW : MulAt W by' more W.length L q := by rw [← HMM.out]; exact hMu
                          obtain ⟨d0, d1⟩ := hMW.done HW.out hM1 hM9
                          have hL : L.length = j := by rw [hMu.len, ← HMM.out]
                          have hq := hMu.lt
                          rw [HEV.out] at d0 d1
                          have HO := Lib.hid hO
                          have HP := Lib.hid hP
                          by_cases hq0 : q = 0
                          · have dd := d0 hq0
                            subst hq0
                            have R := Lib.hid (show PI W0 w3 D i' (.slice A5 j cap) from ⟨hiD, HDN.out, by rw [← dd, hL]; exact HO.out, HP.out⟩)
                            clear dd d0 d1 hMu hMW hO hP HO HP
                            go_wp2
                            go_roundw
                            case measure => have := HII.out; simp [intOf]; omega
                            case rel => exact ⟨i', _, _, rfl, rfl, rfl, R.out⟩
                          · have dd := d1 hq0
                            obtain ⟨i0, hi0, hz0, hz1, hz2⟩ := info_parts info32
                            have hqp : (0 : Int) < (q : Int) := by omega
                            have HD1 := Lib.hid dd
                            have HLJ := Lib.hid hL
                            have HWP := Lib.hid HP.out.size
                            have hO4 := HO.out
                            clear dd d0 d1 hMu hMW hO hP hL
                            go_wp2_with (at_builtin; refine wpList_append_own _ rfl _ _ 22 rfl W0.heap.size 86 i0 (.int .u32 0) 1 4 Tryd.underlying22 hi0 hz0 hz1 hz2 rfl (by decide) _ j _ rfl (hO4.alloc _) ⟨w3.heap.size, 0, none⟩ 1 1 [.int .u32 (q : Int)] rfl rfl ?c1 ?c2 ?c3 ?c4 ?c5 ?_)
                            case c1 =>
                              intro a u hj
                              match a, hj with
                              | 0, hj => simp at hj; subst hj; simp [Addr.add]
                            case c2 => intro u hu; simp at hu; subst hu; rfl
                            case c3 => simp only [maxLen]; omega
                            case c4 => omega
                            case c5 => have := HWP.out; simp; omega
                            intro v' w4 own4 gr4 nil4
                            have hb4 := below_app HP.out (Nat.le_refl _) HO.out gr4
                            have R := Lib.hid (show PI W0 w4 D i' v' from ⟨hiD, HDN.out, by
                              rw [← HD1.out, List.length_append, HLJ.out, List.map_append]
                              exact own4, hb4⟩)
                            clear own4 gr4 nil4 hb4 hO4 HO HP hi0 hz0 hz1 hz2
                            go_wp2
                            go_roundw
                            case measure => have := HII.out; simp [intOf]; omega
                            case rel => exact ⟨i', _, _, rfl, rfl, rfl, R.out⟩
                    · skip
                      have hi' := HIX.out
                      have hby := HBY.out
                      have hmore := HMO.out
                      have hdg := HDGR.out
                      have own5 := HS.out.own
                      obtain ⟨V0, hV0⟩ : ∃ v, v = val10 (D.take i) := ⟨_, rfl⟩
                      rw [← hV0] at own5
                      obtain ⟨W, hW⟩ : ∃ W, W = words V0 := ⟨_, rfl⟩
                      rw [← hW] at own5
                      obtain ⟨m, hm⟩ : ∃ m, m = W.length := ⟨_, rfl⟩
                      rw [← hm] at own5
                      have hsW : small W := by rw [hW]; exact words_small _
                      obtain ⟨A5, cap, rfl, _, _, _, hA5⟩ := own_rd own5 hsW
                      have hk0 : 0 < k' := by omega
                      have hM9 : 10 ^ k' ≤ 1000000000 := by
                        have : (10 : Nat) ^ k' ≤ 10 ^ 9 := Nat.pow_le_pow_right (by omega) hk9
                        omega
                      have hM1 : 0 < 10 ^ k' := Nat.pow_pos (by omega)
                      have hgl : ((D.drop i).take k').length = k' := by rw [List.length_take, List.length_drop]; omega
                      have hml : more < 10 ^ k' := by
                        have h := val10_lt hdg
                        rw [hgl, ← hmore] at h
                        exact h
                      have hm6 : m ≤ 60000 := by
                        rw [hm, hW, hV0]
                        have h1 := words_len_le.2 (show val10 (D.take i) < pw D.length by
                          have h1 := val10_lt HS.out.dig
                          have h2 : (10 : Nat) ^ (D.take i).length ≤ 10 ^ D.length := Nat.pow_le_pow_right (by omega) (by rw [List.length_take]; omega)
                          have h3 : (10 : Nat) ^ D.length ≤ pw D.length := by
                            unfold pw
                            exact Nat.pow_le_pow_left (by omega) _
                          omega)
                        omega
                      obtain ⟨M, hM⟩ : ∃ M, M = 10 ^ k' := ⟨_, rfl⟩
                      rw [← hM] at hM9 hM1 hml hby
                      have M0 := Lib.hid (MulAt.start (W := W) (M := M) (c := more) hsW hml)
                      have HO5 := Lib.hid own5
                      have HP5 := Lib.hid HS.out.below
                      have ev : V0 * M + more = val10 (D.take i') := by
                        rw [hi', List.take_add, val10_app, hgl, ← hV0, ← hmore, ← hM]
                      have hdn : Digits (D.take i') := by
                        rw [hi', List.take_add]
                        intro y hy
                        rcases List.mem_append.1 hy with h | h
                        · exact HS.out.dig y h
                        · exact hdg y h
                      have HEV := Lib.hid ev
                      have HDN := Lib.hid hdn
                      have HW := Lib.hid hW
                      have HMM := Lib.hid hm
                      have HII := Lib.hid (show i < i' by omega)
                      obtain rfl := hby
                      clear own5 hV0 hW hm hsW hM ev hdn hmore hdg hgl hml hi'
                      go_wp2
                      go_loopw [11, 9] (fun jv mv wr' => ∃ (j q : Nat) (L : List Nat) (w3 : World), w3 = wr' ∧ jv = .int .i64 (j : Int) ∧ mv = .int .u64 (q : Int) ∧ j ≤ m ∧ MulAt W by' more j L q ∧ w3.ownsRow W0.heap.size 86 1 (.slice A5 m cap) m (L.map enc32) ∧ Below W0.heap.size W0 w3) (fun jv _ _ => (m - intOf jv).toNat)
                      case atStart => exact ⟨0, more, W, _, rfl, rfl, rfl, Nat.zero_le _, M0.out, HO5.out, HP5.out⟩
                      case round =>
                        obtain ⟨j, q, L, w3, rfl, rfl, rfl, hj, hMu, hO, hP⟩ := hrel
                        clear M0 HO5 HP5
                        rcases Nat.lt_or_ge j m with hjm | hjm
                        · obtain ⟨g2, rfl⟩ := hA5 (by omega)
                          obtain ⟨oc, ofz, oB, olt⟩ := own_cell hO hjm
                          rw [hMu.get] at oc
                          have hsW : small W := by rw [HW.out]; exact words_small _
                          have hx := small_get hsW j
                          have hq := hMu.lt
                          obtain ⟨hnx, htl⟩ := hMu.next (by rw [← HMM.out]; exact hjm) hsW rfl
                          obtain ⟨x, hxd⟩ : ∃ x, x = W.getD j 0 := ⟨_, rfl⟩
                          rw [← hxd] at oc hx hnx htl
                          obtain ⟨p, hp⟩ : ∃ p, p = x * by' := ⟨_, rfl⟩
                          have hpi : (by' : Int) * (x : Int) = (p : Int) := by rw [hp, Int.mul_comm]; simp
                          have hpl : p ≤ 4294967295 * 1000000000 := by
                            rw [hp]
                            exact Nat.mul_le_mul (by omega) hM9
                          rw [← hp] at hnx htl
                          obtain ⟨t, htd⟩ : ∃ t, t = p + q := ⟨_, rfl⟩
                          rw [← htd] at hnx htl
                          have et : (q : Int) + (p : Int) = (t : Int) := by omega
                          have ht0 : t < 18446744073709551616 := by omega
                          have emk := u64_mask (z := (t : Int)) (by omega) (by omega)
                          have em : (t : Int) % 4294967296 = ((t % 4294967296 : Nat) : Int) := by omega
                          have ed : (t : Int) / 4294967296 = ((t / 4294967296 : Nat) : Int) := by omega
                          obtain ⟨y, hy⟩ : ∃ y, y = t % 4294967296 := ⟨_, rfl⟩
                          have hy4 : y < 4294967296 := by omega
                          obtain ⟨z, hz⟩ : ∃ z, z = t / 4294967296 := ⟨_, rfl⟩
                          rw [← hy] at em hnx
                          rw [← hz] at ed hnx
                          rw [em] at emk
                          have N1 := Lib.hid hnx
                          have N2 := Lib.hid (own_set (i := j) hO y)
                          have N3 := Lib.hid (hP.setCell (p := ⟨g2, j, none⟩) oB (.int .u32 (y : Int)))
                          clear hnx hO hP hMu hsW hxd hp htd hy hz olt hA5
                          go_wp2
                          go_roundw
                          case measure => simp [intOf]; omega
                          case rel => exact ⟨j + 1, z, _, _, rfl, by simp, rfl, by omega, N1.out, N2.out, N3.out⟩
                        · have e : j = m := by omega
                          subst e
                          have hMW : MulAt W by' more W.length L q := by rw [← HMM.out]; exact hMu
                          obtain ⟨d0, d1⟩ := hMW.done HW.out hM1 hM9
                          have hL : L.length = j := by rw [hMu.len, ← HMM.out]
                          have hq := hMu.lt
                          rw [HEV.out] at d0 d1
                          have HO := Lib.hid hO
                          have HP := Lib.hid hP
                          by_cases hq0 : q = 0
                          · have dd := d0 hq0
                            subst hq0
                            have R := Lib.hid (show PI W0 w3 D i' (.slice A5 j cap) from ⟨hiD, HDN.out, by rw [← dd, hL]; exact HO.out, HP.out⟩)
                            clear dd d0 d1 hMu hMW hO hP HO HP
                            go_wp2
                            go_roundw
                            case measure => have := HII.out; simp [intOf]; omega
                            case rel => exact ⟨i', _, _, rfl, rfl, rfl, R.out⟩
                          · have dd := d1 hq0
                            obtain ⟨i0, hi0, hz0, hz1, hz2⟩ := info_parts info32
                            have hqp : (0 : Int) < (q : Int) := by omega
                            have HD1 := Lib.hid dd
                            have HLJ := Lib.hid hL
                            have HWP := Lib.hid HP.out.size
                            have hO4 := HO.out
                            clear dd d0 d1 hMu hMW hO hP hL
                            go_wp2_with (at_builtin; refine wpList_append_own _ rfl _ _ 22 rfl W0.heap.size 86 i0 (.int .u32 0) 1 4 Tryd.underlying22 hi0 hz0 hz1 hz2 rfl (by decide) _ j _ rfl (hO4.alloc _) ⟨w3.heap.size, 0, none⟩ 1 1 [.int .u32 (q : Int)] rfl rfl ?c1 ?c2 ?c3 ?c4 ?c5 ?_)
                            case c1 =>
                              intro a u hj
                              match a, hj with
                              | 0, hj => simp at hj; subst hj; simp [Addr.add]
                            case c2 => intro u hu; simp at hu; subst hu; rfl
                            case c3 => simp only [maxLen]; omega
                            case c4 => omega
                            case c5 => have := HWP.out; simp; omega
                            intro v' w4 own4 gr4 nil4
                            have hb4 := below_app HP.out (Nat.le_refl _) HO.out gr4
                            have R := Lib.hid (show PI W0 w4 D i' v' from ⟨hiD, HDN.out, by
                              rw [← HD1.out, List.length_append, HLJ.out, List.map_append]
                              exact own4, hb4⟩)
                            clear own4 gr4 nil4 hb4 hO4 HO HP hi0 hz0 hz1 hz2
                            go_wp2
                            go_roundw
                            case measure => have := HII.out; simp [intOf]; omega
                            case rel => exact ⟨i', _, _, rfl, rfl, rfl, R.out⟩
              · have ei : i = D.length := by have := hS.le; omega
                have hniw : ¬ (i : Int) < (s.size : Int) := by have := HDLX.out; omega
                have hbel := hS.below
                have hown := hS.own
                rw [ei, List.take_of_length_le (Nat.le_refl _)] at hown
                obtain ⟨A6, cap6, rfl, rd6, h61, h62, _⟩ := own_rd hown (words_small _)
                have h63 : (words (val10 D)).length ≤ 60000 := by
                  have h := val10_words (l := D) (by have := hS.dig; rw [ei, List.take_of_length_le (Nat.le_refl _)] at this; exact this) D.length
                  rw [List.take_of_length_le (Nat.le_refl _)] at h
                  omega
                have HOK := Lib.hid (HCX.out (by have := hS.dig; rw [ei, List.take_of_length_le (Nat.le_refl _)] at this; exact this))
                have MK := Lib.hid (Make_c false A6 _ cap6 (words (val10 D)) wr rd6 h61 h62 (by omega))
                rw [val_words] at MK
                have r0' := (hbel.cell (p := ⟨w.heap.size, 0, none⟩) HLT.out).trans r0
                have r1' := (hbel.cell (p := ⟨w.heap.size, 1, none⟩) HLT.out).trans r1
                have f0' := (hbel.frozen (p := ⟨w.heap.size, 0, none⟩) HLT.out).trans f0
                have f1' := (hbel.frozen (p := ⟨w.heap.size, 1, none⟩) HLT.out).trans f1
                have HLT2 := Lib.hid (Nat.lt_of_lt_of_le HLT.out hbel.size)
                have B2 := Lib.hid (B.out.trans (hbel.mono B.out.size))
                clear hS hbel hown rd6 h61 h62 h63 r0 r1 f0 f1
                go_wp2_with fail
                refine MK.out.mono ?_
                rintro e w7 ⟨A7, c7, rfl, rd7, h71, h72, hb7⟩
                have r0 := (hb7.cell (p := ⟨w.heap.size, 0, none⟩) HLT2.out).trans r0'
                have r1 := (hb7.cell (p := ⟨w.heap.size, 1, none⟩) HLT2.out).trans r1'
                have f0 := (hb7.frozen (p := ⟨w.heap.size, 0, none⟩) HLT2.out).trans f0'
                have f1 := (hb7.frozen (p := ⟨w.heap.size, 1, none⟩) HLT2.out).trans f1'
                have B3 := Lib.hid (B2.out.trans (hb7.mono B2.out.size))
                have R7 := Lib.hid (rd7.store r0 r1 (.bool (decide (sgn false (val10 D) < 0))) (.slice A7 (words (sgn false (val10 D)).natAbs).length c7))
                have H7 := Lib.hid (And.intro h71 h72)
                clear MK hb7 rd7 h71 h72 r0' r1' f0' f1'
                go_wp2
                refine bodyPost_ret (v := .tuple #[.agg #[.bool (decide (sgn false (val10 D) < 0)), .slice A7 (words (sgn false (val10 D)).natAbs).length c7], .bool true]) (by simp [results, Tryd.results15, go_sem, r0, r1]) rfl ?_
                refine RefParse.yes HOK.out ?_
                rw [HSG.out]
                exact ⟨A7, c7, rfl, R7.out, H7.out.1, H7.out.2, below_store B3.out (Nat.le_refl _) _ _⟩
end Go.Proofs.YthjdnidapbhdlaaDoor
