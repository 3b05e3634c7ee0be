/- decimal texts: large's Parse; Text of what is no number -/
import Derived.Test.YthjdnidapbhdlaaDoorGj
import Derived.Test.YthjdnidapbhdlaaDoorGs
import Derived.Test.YthjdnidapbhdlaaDoorWt
import Derived.Test.YthjdnidapbhdlaaDoorRd
set_option maxRecDepth 100000
namespace Go.Proofs.YthjdnidapbhdlaaDoor
open Go.RowKit Go.Sort
abbrev negT (l : List UInt8) : Bool := Lib.hasPrefix l [45]
abbrev digT (l : List UInt8) : List UInt8 := Lib.trimPrefix l [45]
/-- a text is a number -/
def IsText (l : List UInt8) : Prop := Numeral (digT l) ∧ ¬ (negT l = true ∧ digT l = [48])
theorem digT_le (l : List UInt8) : (digT l).length ≤ l.length := by
  unfold digT Lib.trimPrefix
  split
  · rw [List.length_drop]; omega
  · exact Nat.le_refl _
set_option maxHeartbeats 2000000 in
theorem Parse_long (s : ByteArray) (w : World) (hs : 60000 < s.size) (hs2 : s.size ≤ 9223372036854775807) :
    Calls Tryd.prog 10 #[.string s] w (Bad w 3) := by
  have hs' : (60000 : Int) < (s.size : Int) := by omega
  go_enter Tryd.func10, Tryd.ntmps10
  go_upto_region 1 with (fail)
  have B := Lib.hid (below_alloc w (.cells #[.bool false, .slice none 0 0] 24))
  have r0 : (w.alloc (.cells #[.bool false, .slice none 0 0] 24)).cell? ⟨w.heap.size, 0, none⟩ = some (.bool false) := by go_simp
  have r1 : (w.alloc (.cells #[.bool false, .slice none 0 0] 24)).cell? ⟨w.heap.size, 1, none⟩ = some (.slice none 0 0) := by go_simp
  have f0 : (w.alloc (.cells #[.bool false, .slice none 0 0] 24)).frozen? ⟨w.heap.size, 0, none⟩ = false := by go_simp
  have f1 : (w.alloc (.cells #[.bool false, .slice none 0 0] 24)).frozen? ⟨w.heap.size, 1, none⟩ = false := by go_simp
  generalize w.alloc (.cells #[.bool false, .slice none 0 0] 24) = W0 at B r0 r1 f0 f1 ⊢
  go_wp2
  refine bodyPost_ret (v := .tuple #[.agg #[.bool false, .slice none 0 0], .int .i64 3]) (by simp [results, Tryd.results10, go_sem, r0, r1]) rfl ?_
  exact ⟨rfl, below_store B.out (Nat.le_refl _) _ _⟩
set_option maxHeartbeats 4000000 in
theorem Parse_no (s : ByteArray) (w : World) (hs : s.size ≤ 60000) (hn : ¬ IsText s.data.toList) :
    Calls Tryd.prog 10 #[.string s] w (Bad w 3) := by
  have hs' : (s.size : Int) ≤ 60000 := by omega
  have HN := hn
  have HL := Lib.hid (show (⟨(digT s.data.toList).toArray⟩ : ByteArray).size ≤ 60000 from Nat.le_trans (digT_le s.data.toList) hs)
  clear hn
  go_enter Tryd.func10, Tryd.ntmps10
  go_upto_region 1 with (fail)
  have B := Lib.hid (below_alloc w (.cells #[.bool false, .slice none 0 0] 24))
  have r0 : (w.alloc (.cells #[.bool false, .slice none 0 0] 24)).cell? ⟨w.heap.size, 0, none⟩ = some (.bool false) := by go_simp
  have r1 : (w.alloc (.cells #[.bool false, .slice none 0 0] 24)).cell? ⟨w.heap.size, 1, none⟩ = some (.slice none 0 0) := by go_simp
  have f0 : (w.alloc (.cells #[.bool false, .slice none 0 0] 24)).frozen? ⟨w.heap.size, 0, none⟩ = false := by go_simp
  have f1 : (w.alloc (.cells #[.bool false, .slice none 0 0] 24)).frozen? ⟨w.heap.size, 1, none⟩ = false := by go_simp
  have HLT := Lib.hid (show w.heap.size < (w.alloc (.cells #[.bool false, .slice none 0 0] 24)).heap.size by simp)
  generalize w.alloc (.cells #[.bool false, .slice none 0 0] 24) = W0 at B r0 r1 f0 f1 HLT ⊢
  have CP : Calls Tryd.prog 47 #[.string s, .string ⟨#[45]⟩] W0 (fun e w' => e = .returned (.tuple #[.string ⟨(digT s.data.toList).toArray⟩, .bool (negT s.data.toList)]) ∧ w' = W0) := Tryd.strings_CutPrefix s ⟨#[45]⟩ W0
  have DC : Calls Tryd.prog 48 #[.string ⟨(digT s.data.toList).toArray⟩] W0 (fun e w' => e = .returned (.bool (decide (Numeral (digT s.data.toList)))) ∧ w' = W0) := decimal_c ⟨(digT s.data.toList).toArray⟩ W0 (by have := HL.out; omega)
  obtain ⟨d, hd⟩ : ∃ d, d = digT s.data.toList := ⟨_, rfl⟩
  obtain ⟨ng, hng⟩ : ∃ ng, ng = negT s.data.toList := ⟨_, rfl⟩
  unfold IsText at HN
  rw [← hd] at CP DC HN HL
  rw [← hng] at CP HN
  replace CP := Lib.hid CP
  replace DC := Lib.hid DC
  clear hd hng
  go_wp2_with fail
  refine CP.out.mono ?_
  rintro e w1 ⟨rfl, rfl⟩
  clear CP
  go_wp2_with fail
  refine DC.out.mono ?_
  rintro e w2 ⟨rfl, rfl⟩
  clear DC
  by_cases hnum : Numeral d
  · rw [decide_eq_true hnum]
    have h2 : ng = true ∧ d = [48] := Classical.byContradiction fun h => HN ⟨hnum, h⟩
    obtain ⟨rfl, rfl⟩ := h2
    clear HN hnum HL
    go_wp2
    refine bodyPost_ret (v := .tuple #[.agg #[.bool false, .slice none 0 0], .int .i64 3]) (by simp [results, Tryd.results10, go_sem, r0, r1]) rfl ?_
    exact ⟨rfl, below_store B.out (Nat.le_refl _) _ _⟩
  · rw [decide_eq_false hnum]
    clear HN hnum
    go_wp2
    refine bodyPost_ret (v := .tuple #[.agg #[.bool false, .slice none 0 0], .int .i64 3]) (by simp [results, Tryd.results10, go_sem, r0, r1]) rfl ?_
    exact ⟨rfl, below_store B.out (Nat.le_refl _) _ _⟩
set_option maxHeartbeats 4000000 in
theorem Parse_yes (s : ByteArray) (w : World) (hs : s.size ≤ 60000) (hn : IsText s.data.toList) :
    Calls Tryd.prog 10 #[.string s] w (Num w (sgn (negT s.data.toList) (val10 (digT s.data.toList)))) := by
  have hs' : (s.size : Int) ≤ 60000 := by omega
  have HN := hn
  have HL := Lib.hid (show (⟨(digT s.data.toList).toArray⟩ : ByteArray).size ≤ 60000 from Nat.le_trans (digT_le s.data.toList) hs)
  clear hn
  go_enter Tryd.func10, Tryd.ntmps10
  go_upto_region 1 with (fail)
  have B := Lib.hid (below_alloc w (.cells #[.bool false, .slice none 0 0] 24))
  have r0 : (w.alloc (.cells #[.bool false, .slice none 0 0] 24)).cell? ⟨w.heap.size, 0, none⟩ = some (.bool false) := by go_simp
  have r1 : (w.alloc (.cells #[.bool false, .slice none 0 0] 24)).cell? ⟨w.heap.size, 1, none⟩ = some (.slice none 0 0) := by go_simp
  have f0 : (w.alloc (.cells #[.bool false, .slice none 0 0] 24)).frozen? ⟨w.heap.size, 0, none⟩ = false := by go_simp
  have f1 : (w.alloc (.cells #[.bool false, .slice none 0 0] 24)).frozen? ⟨w.heap.size, 1, none⟩ = false := by go_simp
  have HLT := Lib.hid (show w.heap.size < (w.alloc (.cells #[.bool false, .slice none 0 0] 24)).heap.size by simp)
  generalize w.alloc (.cells #[.bool false, .slice none 0 0] 24) = W0 at B r0 r1 f0 f1 HLT ⊢
  have CP : Calls Tryd.prog 47 #[.string s, .string ⟨#[45]⟩] W0 (fun e w' => e = .returned (.tuple #[.string ⟨(digT s.data.toList).toArray⟩, .bool (negT s.data.toList)]) ∧ w' = W0) := Tryd.strings_CutPrefix s ⟨#[45]⟩ W0
  have DC : Calls Tryd.prog 48 #[.string ⟨(digT s.data.toList).toArray⟩] W0 (fun e w' => e = .returned (.bool (decide (Numeral (digT s.data.toList)))) ∧ w' = W0) := decimal_c ⟨(digT s.data.toList).toArray⟩ W0 (by have := HL.out; omega)
  obtain ⟨d, hd⟩ : ∃ d, d = digT s.data.toList := ⟨_, rfl⟩
  obtain ⟨ng, hng⟩ : ∃ ng, ng = negT s.data.toList := ⟨_, rfl⟩
  unfold IsText at HN
  rw [← hd] at CP DC HN HL ⊢
  rw [← hng] at CP HN ⊢
  replace CP := Lib.hid CP
  replace DC := Lib.hid DC
  have HZ := Lib.hid (show sgn (negT s.data.toList) (val10 (digT s.data.toList)) = sgn ng (val10 d) by rw [hd, hng])
  clear hd hng
  go_wp2_with fail
  refine CP.out.mono ?_
  rintro e w1 ⟨rfl, rfl⟩
  clear CP
  go_wp2_with fail
  refine DC.out.mono ?_
  rintro e w2 ⟨rfl, rfl⟩
  clear DC
  obtain ⟨hnum, h2⟩ := HN
  rw [decide_eq_true hnum]
  have RG : Calls Tryd.prog 50 #[.string ⟨d.toArray⟩] w2 fun e w' => ∃ A c, e = .returned (.slice A (words (val10 d)).length c) ∧ Rd w' A (words (val10 d)).length (words (val10 d)) ∧ (words (val10 d)).length ≤ c ∧ c ≤ 9223372036854775807 ∧ Below w2.heap.size w2 w' := readGroups_c ⟨d.toArray⟩ w2 hnum.1 HL.out
  have RH := Lib.hid RG
  clear RG hnum
  cases ng
  · clear h2
    go_wp2_with fail
    refine RH.out.mono ?_
    rintro e w3 ⟨A, c, rfl, rd, h3, h4, hb⟩
    replace r0 := (hb.cell (p := ⟨w.heap.size, 0, none⟩) HLT.out).trans r0
    replace r1 := (hb.cell (p := ⟨w.heap.size, 1, none⟩) HLT.out).trans r1
    replace f0 := (hb.frozen (p := ⟨w.heap.size, 0, none⟩) HLT.out).trans f0
    replace f1 := (hb.frozen (p := ⟨w.heap.size, 1, none⟩) HLT.out).trans f1
    replace HLT := Lib.hid (Nat.lt_of_lt_of_le HLT.out hb.size)
    replace B := Lib.hid (B.out.trans (hb.mono B.out.size))
    have NC := Lib.hid (number_c false A _ c (words (val10 d)) w3 rd h3 h4)
    rw [val_words] at NC
    clear hb rd h3 h4 RH
    go_wp2_with fail
    refine NC.out.mono ?_
    rintro e w4 ⟨t, B2, m2, d2, k, rfl, p1, hb⟩
    clear NC
    replace r0 := (hb.cell (p := ⟨w.heap.size, 0, none⟩) HLT.out).trans r0
    replace r1 := (hb.cell (p := ⟨w.heap.size, 1, none⟩) HLT.out).trans r1
    replace f0 := (hb.frozen (p := ⟨w.heap.size, 0, none⟩) HLT.out).trans f0
    replace f1 := (hb.frozen (p := ⟨w.heap.size, 1, none⟩) HLT.out).trans f1
    replace B := Lib.hid (B.out.trans (hb.mono B.out.size))
    clear hb
    have P1 := Lib.hid (p1.store r0 r1 (.bool t) (.slice B2 m2 d2))
    clear p1
    go_wp2
    refine bodyPost_ret (v := .tuple #[.agg #[.bool t, .slice B2 m2 d2], .int .i64 k]) (by simp [results, Tryd.results10, go_sem, r0, r1]) rfl ?_
    exact ⟨t, B2, m2, d2, k, rfl, by rw [HZ.out]; exact P1.out, below_store B.out (Nat.le_refl _) _ _⟩
  · have hd : (d == [48]) = false := by
      rw [beq_eq_false_iff_ne]
      exact fun e => h2 ⟨rfl, e⟩
    clear h2
    go_wp2_with fail
    refine RH.out.mono ?_
    rintro e w3 ⟨A, c, rfl, rd, h3, h4, hb⟩
    replace r0 := (hb.cell (p := ⟨w.heap.size, 0, none⟩) HLT.out).trans r0
    replace r1 := (hb.cell (p := ⟨w.heap.size, 1, none⟩) HLT.out).trans r1
    replace f0 := (hb.frozen (p := ⟨w.heap.size, 0, none⟩) HLT.out).trans f0
    replace f1 := (hb.frozen (p := ⟨w.heap.size, 1, none⟩) HLT.out).trans f1
    replace HLT := Lib.hid (Nat.lt_of_lt_of_le HLT.out hb.size)
    replace B := Lib.hid (B.out.trans (hb.mono B.out.size))
    have NC := Lib.hid (number_c true A _ c (words (val10 d)) w3 rd h3 h4)
    rw [val_words] at NC
    clear hb rd h3 h4 RH
    go_wp2_with fail
    refine NC.out.mono ?_
    rintro e w4 ⟨t, B2, m2, d2, k, rfl, p1, hb⟩
    clear NC
    replace r0 := (hb.cell (p := ⟨w.heap.size, 0, none⟩) HLT.out).trans r0
    replace r1 := (hb.cell (p := ⟨w.heap.size, 1, none⟩) HLT.out).trans r1
    replace f0 := (hb.frozen (p := ⟨w.heap.size, 0, none⟩) HLT.out).trans f0
    replace f1 := (hb.frozen (p := ⟨w.heap.size, 1, none⟩) HLT.out).trans f1
    replace B := Lib.hid (B.out.trans (hb.mono B.out.size))
    clear hb
    have P1 := Lib.hid (p1.store r0 r1 (.bool t) (.slice B2 m2 d2))
    clear p1
    go_wp2
    refine bodyPost_ret (v := .tuple #[.agg #[.bool t, .slice B2 m2 d2], .int .i64 k]) (by simp [results, Tryd.results10, go_sem, r0, r1]) rfl ?_
    exact ⟨t, B2, m2, d2, k, rfl, by rw [HZ.out]; exact P1.out, below_store B.out (Nat.le_refl _) _ _⟩
set_option maxHeartbeats 2000000 in
/-- Text of what is no number -/
theorem Text_bad (s : Bool) (A : Option Addr) (n c : Nat) (xs : List Nat) (w : World) (h : Rd w A n xs) (hv : validB s xs = false) :
    Calls Tryd.prog 9 #[.agg #[.bool s, .slice A n c]] w fun e w' => e = .returned (.tuple #[.string ⟨#[]⟩, .int .i64 1]) ∧ Below w.heap.size w w' := by
  have P := Lib.hid (below_alloc w (.cells #[.bool s, .slice A n c] 24))
  have HR := Lib.hid (h.below P.out)
  have HV := Lib.hid hv
  clear h hv
  go_enter Tryd.func9, Tryd.ntmps9
  go_upto_region 1 with (fail)
  have a0 : (w.alloc (.cells #[.bool s, .slice A n c] 24)).cell? ⟨w.heap.size, 0, none⟩ = some (.bool s) := by go_simp
  have a1 : (w.alloc (.cells #[.bool s, .slice A n c] 24)).cell? ⟨w.heap.size, 1, none⟩ = some (.slice A n c) := by go_simp
  generalize w.alloc (.cells #[.bool s, .slice A n c] 24) = W0 at P HR a0 a1 ⊢
  go_wp2_with fail
  refine (valid_c s A n c xs W0 HR.out).mono ?_
  rintro e w1 ⟨rfl, hb⟩
  replace P := Lib.hid (P.out.trans (hb.mono P.out.size))
  clear hb a0 a1
  rw [HV.out]
  go_wp2
  go_ret2
  exact ⟨rfl, P.out⟩
end Go.Proofs.YthjdnidapbhdlaaDoor
