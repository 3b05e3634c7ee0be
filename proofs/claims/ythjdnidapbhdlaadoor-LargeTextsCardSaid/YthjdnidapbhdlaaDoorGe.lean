/- decimal texts: groupsOf -/
import Derived.Deep.LoopGhost
import Derived.Test.YthjdnidapbhdlaaDoorGd
set_option maxRecDepth 100000
namespace Go.Proofs.YthjdnidapbhdlaaDoor
open Go.RowKit Go.Sort
/-- what groupsOf keeps -/
structure GrpSt (w wr : World) (V n g B v : Nat) (s4 : Value) (A' : Option Addr) (T gs : List Nat) : Prop where
  at_ : v ≠ 0 → A' = some ⟨g, 0, none⟩
  bk : Bk wr g (words v ++ T)
  own : wr.ownsRow B 86 1 s4 gs.length (gs.map enc32)
  nil : gs = [] → s4 = .slice none 0 0
  some_ : gs ≠ [] → s4 ≠ .slice none 0 0
  sm : ∀ x ∈ gs, x < 1000000000
  grp : GrpAt V v gs
  few : v * 2 ^ gs.length ≤ V
  below : Below w.heap.size w wr
  gB : g < B
  wg : w.heap.size ≤ g
  Bw : B ≤ wr.heap.size
  cnt : gs.length ≤ 32 * n
theorem GrpSt.count {w wr : World} {V n g B v : Nat} {s4 : Value} {A' : Option Addr} {T gs : List Nat} (h : GrpSt w wr V n g B v s4 A' T gs) (hV : V < pw n) (hv : v ≠ 0) : gs.length < 32 * n := by
  have h1 := h.few
  have h2 : 2 ^ gs.length ≤ v * 2 ^ gs.length := Nat.le_mul_of_pos_left _ (by omega)
  rw [pw_two] at hV
  exact (Nat.pow_lt_pow_iff_right (by omega)).1 (Nat.lt_of_le_of_lt (Nat.le_trans h2 h1) hV)
theorem reverse_l (g n cap : Nat) (zs : List Nat) (w0 w : World) (hn : zs.length = n) (hs : ∀ x ∈ zs, x < 4294967296) (hH : Holds enc32 w g 0 zs.toArray) (hsz : n ≤ 9223372036854775807) (hb : Below w0.heap.size w0 w) (hg : w0.heap.size ≤ g) (hlt : g < w.heap.size) :
    Calls Tryd.prog 88 #[.slice (some ⟨g, 0, none⟩) n cap] w fun e w' => e = .returned (.tuple #[]) ∧ Rd w' (some ⟨g, 0, none⟩) n zs.reverse ∧ Below w0.heap.size w0 w' := by
  have h := reverse_arr g 0 cap zs.toArray w hH (by simpa [hn] using hsz)
  rw [List.size_toArray, hn] at h
  refine h.mono fun e w' ⟨he, q, hq⟩ => ⟨he, ?_, ?_⟩
  · rw [List.reverse_toArray] at hq
    have hh := holds_putRow enc32 (Sort.ahead w q) g 0 zs.toArray zs.reverse.toArray (holds_ahead enc32 w q g 0 _ hH) (by simp)
    rw [← hq] at hh
    refine ⟨by simpa using hn, fun x hx => hs x (List.mem_reverse.1 hx), fun _ => ⟨g, 0, rfl, ?_, fun k hk => ?_⟩⟩
    · rw [hq]
      simpa [putRow, mapBlock, Sort.ahead] using hlt
    · rw [(hh k (by simpa [hn] using hk)).1]
      have : k < zs.reverse.length := by simpa [hn] using hk
      simp only [enc32, List.getElem!_toArray]
      rw [getElem!_pos _ k this, List.getD_eq_getElem?_getD, List.getElem?_eq_getElem this]
      rfl
  · rw [hq, List.reverse_toArray]
    exact Lib.below_putRow hb hg
set_option maxHeartbeats 8000000 in
theorem groupsOf_c (A : Option Addr) (n c V : Nat) (w : World) (h : Rd w A n (words V)) (hn : n ≤ 4200) :
    Calls Tryd.prog 41 #[.slice A n c] w fun e w' => ∃ g d, e = .returned (.slice (some ⟨g, 0, none⟩) (grp V).length d) ∧ (grp V).length ≤ 140000 ∧ Rd w' (some ⟨g, 0, none⟩) (grp V).length (grp V) ∧ Below w.heap.size w w' := by
  have hl := h.len
  have HV := Lib.hid (show V < pw n by rw [← hl]; exact lt_pw_words V)
  have HN := Lib.hid hn
  have CL := Lib.hid (clone_c A n c (words V) w h (by omega))
  clear h hn
  go_enter Tryd.func41, Tryd.ntmps41
  go_wp2_with fail
  refine CL.out.mono ?_
  rintro e w1 ⟨g, rfl, hg, hB, hb⟩
  clear CL
  have S0 := Lib.hid (show GrpSt w w1 V n g w1.heap.size V (.slice none 0 0) (some ⟨g, 0, none⟩) [] [] from
    ⟨fun _ => rfl, by rw [List.append_nil]; exact hB, ⟨rfl, .inl ⟨rfl, rfl⟩⟩, fun _ => rfl, fun h => absurd rfl h, (fun x hx => by simp at hx), .inl ⟨rfl, rfl⟩, by simp, hb, hB.lt, hg, Nat.le_refl _, by simp⟩)
  obtain ⟨B, hBd⟩ : ∃ B, B = w1.heap.size := ⟨_, rfl⟩
  rw [← hBd] at S0
  clear hB hb hg hBd
  go_wp2
  go_loopg [3, 4] V (fun k s3 s4 wr => ∃ (v m : Nat) (A' : Option Addr) (sv : Value) (T gs : List Nat), v ≤ k ∧ m = (words v).length ∧ s3 = .slice A' m m ∧ sv = s4 ∧ GrpSt w wr V n g B v sv A' T gs)
  case atStart => exact ⟨V, n, _, _, [], [], Nat.le_refl _, hl.symm, rfl, rfl, S0.out⟩
  case round =>
    obtain ⟨v, m, A', s4, T, gs, hk, hm, rfl, rfl, hS⟩ := hrel
    clear S0
    by_cases hv : v = 0
    · have hm0 : m = 0 := by rw [hm, hv, words_zero]; rfl
      clear hm
      subst hm0
      subst hv
      by_cases hg0 : gs = []
      · obtain rfl := hS.nil hg0
        have hV0 : V = 0 := by
          rcases hS.grp with ⟨_, h⟩ | ⟨h, _⟩
          · exact h.symm
          · exact absurd hg0 h
        have HB := Lib.hid hS.below
        have HG := Lib.hid (show grp V = [0] by rw [hV0, grp_small (by omega)])
        clear hS
        have RV := Lib.hid (reverse_l wr.heap.size 1 1 [0] w (wr.alloc (.cells #[.int .u32 0] 86)) rfl (fun x hx => by simp at hx; omega) (fun j hj => by
          have : j = 0 := by simp at hj; omega
          subst this
          exact ⟨by go_simp, by go_simp⟩) (by omega) (HB.out.alloc HB.out.size _) HB.out.size (by simp))
        clear hV0 hg0
        go_wp2_with fail
        refine RV.out.mono ?_
        rintro e w5 ⟨rfl, r5, b5⟩
        have R5 := Lib.hid r5
        have B5 := Lib.hid b5
        clear r5 b5 RV HB
        go_wp2
        go_ret
        rw [HG.out]
        exact ⟨wr.heap.size, 1, rfl, by simp, R5.out, B5.out⟩
      · obtain ⟨g2, cap, rfl, hBg, hlt, hc1, hc2, _, hH⟩ := Lib.holds_of_ownsRow hS.own (hS.some_ hg0)
        have hcnt : gs.length ≤ 134400 := by
          have h1 := hS.cnt
          have h2 := HN.out
          omega
        have HG := Lib.hid (hS.grp.done hg0)
        have hgB := hS.gB
        have hwg := hS.wg
        have RV := Lib.hid (reverse_l g2 gs.length cap gs w wr rfl (fun x hx => by have := hS.sm x hx; omega) hH (by omega) hS.below (by omega) hlt)
        have hne : ((gs.length : Int) == 0) = false := by
          rw [beq_eq_false_iff_ne]
          have := List.length_pos_iff.2 hg0
          omega
        clear hS hH
        go_wp2_with fail
        refine RV.out.mono ?_
        rintro e w5 ⟨rfl, r5, b5⟩
        have R5 := Lib.hid r5
        have B5 := Lib.hid b5
        clear r5 b5 RV
        go_wp2
        go_ret
        rw [HG.out, List.length_reverse]
        exact ⟨g2, cap, rfl, by omega, R5.out, B5.out⟩
    · have hmp : 0 < m := by
        rw [hm, words_pos hv]
        simp
      have hmn : m ≤ n := by
        rw [hm]
        refine words_len_le.2 (Nat.lt_of_le_of_lt (Nat.le_trans ?_ hS.few) HV.out)
        exact Nat.le_mul_of_pos_right _ (Nat.pow_pos (by omega))
      have HN' := HN.out
      have hcnt := hS.count HV.out hv
      obtain rfl := hS.at_ hv
      have HS := Lib.hid hS
      have HM := Lib.hid hm
      have DV := Lib.hid (divideByWord2_c g m m 1000000000 (words v) T wr hS.bk hm.symm (by omega) (by omega) (by omega))
      rw [val_words] at DV
      clear hS hm
      go_wp2_with fail
      refine DV.out.mono ?_
      rintro e w2 ⟨rfl, hgr, qs, hql, hqv, hB2⟩
      clear DV
      obtain ⟨i0, hi, hz0, hz1, hz2⟩ := info_parts info32
      have own2 := HS.out.own.kept hgr (by
        rcases hb : s4.ownBlock with _ | q
        · exact .inl rfl
        · right
          have h1 := (HS.out.own.lt q hb).1
          have h2 := HS.out.gB
          intro e
          injection e with e
          omega)
      have hBw2 : B ≤ w2.heap.size := Nat.le_trans HS.out.Bw hgr.size
      obtain ⟨r, hr⟩ : ∃ r, r = v % 1000000000 := ⟨_, rfl⟩
      have HR := Lib.hid hr
      rw [← hr]
      have hr9 : r < 1000000000 := by omega
      clear hr
      go_wp2_with (at_builtin; refine wpList_append_own _ rfl _ _ 22 rfl B 86 i0 (.int .u32 0) 1 4 Tryd.underlying22 hi hz0 hz1 hz2 rfl (by decide) _ gs.length _ rfl (own2.alloc _) ⟨w2.heap.size, 0, none⟩ 1 1 [.int .u32 (r : Int)] rfl rfl ?c1 ?c2 ?c3 ?c4 ?c5 ?_)
      case c1 =>
        intro j u hj
        match j, hj with
        | 0, hj => simp at hj; subst hj; simp [Addr.add]
      case c2 => intro u hu; simp at hu; subst hu; rfl
      case c3 => simp only [maxLen]; omega
      case c4 => omega
      case c5 => simp; omega
      intro v' w3 own3 gr3 nil3
      have gr3' : w2.grownBy w3 s4.ownBlock := ⟨gr3.os, gr3.tape, gr3.output, Nat.le_trans (by simp) gr3.size, fun q hq hne => (gr3.block q (by simp; omega) hne).trans (Below.heap_alloc w2 _ q hq)⟩
      have hgs : ∀ q, s4.ownBlock = some q → B ≤ q := fun q hq => (HS.out.own.lt q hq).1
      have hB3 : Bk w3 g (qs ++ T) := hB2.keep (gr3'.block g hB2.lt (fun e => by
        have h1 := hgs g e.symm
        have h2 := HS.out.gB
        omega))
      have hb3 : Below w.heap.size w w3 := by
        have b0 := HS.out.below
        have hgB := HS.out.gB
        have hwg := HS.out.wg
        refine ⟨gr3'.os.trans (hgr.os.trans b0.os), gr3'.tape.trans (hgr.tape.trans b0.tape), gr3'.output.trans (hgr.output.trans b0.output), Nat.le_trans b0.size (Nat.le_trans hgr.size gr3'.size), fun q hq => ?_⟩
        have hq1 := Nat.lt_of_lt_of_le hq b0.size
        refine ((gr3'.block q (Nat.lt_of_lt_of_le hq1 hgr.size) (fun e => ?_)).trans (hgr.block q hq1 (fun e => ?_))).trans (b0.block q hq)
        · have := hgs q e.symm
          omega
        · injection e with e
          omega
      have hrd3 : Rd w3 (some ⟨g, 0, none⟩) m qs := by
        have := hB3.rdAt (o := 0) (n := m) (by rw [List.length_append]; omega)
        rw [List.drop_zero, List.take_append_of_le_length (by omega), List.take_of_length_le (by omega)] at this
        exact this
      have TR := Lib.hid (trim_c (some ⟨g, 0, none⟩) m m qs w3 hrd3 (Nat.le_refl _) (by omega))
      have hqs : qs = words (val qs) ++ qs.drop (words (val qs)).length := by
        have := (take_words (small_append.1 hB3.1).1).1
        conv => lhs; rw [← List.take_append_drop (words (val qs)).length qs]
        rw [this]
      have GN := Lib.hid (GrpAt.next HS.out.grp hv)
      have hfew := HS.out.few
      have hd : v / 1000000000 * 2 ≤ v := by omega
      have S3 := Lib.hid (show ∀ A2, (A2 = some ⟨g, 0, none⟩ ∨ (words (v / 1000000000)).length = 0) → ∀ q, GrpSt w (w3.drewN q) V n g B (v / 1000000000) v' A2 (qs.drop (words (val qs)).length ++ T) (gs ++ [r]) from fun A2 hA2 q => by
        refine ⟨fun h0 => hA2.resolve_right (by rw [words_pos h0]; simp), ?_, ?_, fun h => by simp at h, fun _ e => nil3 e, fun x hx => ?_, by rw [HR.out]; exact GN.out, ?_, ?_, HS.out.gB, HS.out.wg, ?_, by rw [List.length_append, List.length_singleton]; omega⟩
        · rw [← List.append_assoc]
          rw [hqv] at hqs
          rw [hqv, ← hqs]
          exact hB3.drewN q
        · have : (gs ++ [r]).map enc32 = gs.map enc32 ++ [.int .u32 (r : Int)] := by simp
          rw [this, List.length_append, List.length_singleton]
          exact own3
        · rcases List.mem_append.1 hx with h1 | h1
          · exact HS.out.sm x h1
          · simp only [List.mem_singleton] at h1
            omega
        · rw [List.length_append, List.length_singleton, Nat.pow_succ]
          have h1 : v / 1000000000 * 2 * 2 ^ gs.length ≤ v * 2 ^ gs.length := Nat.mul_le_mul_right _ hd
          have h2 : v / 1000000000 * (2 ^ gs.length * 2) = v / 1000000000 * 2 * 2 ^ gs.length := by
            generalize 2 ^ gs.length = z
            grind
          omega
        · exact ⟨hb3.os, hb3.tape, hb3.output, hb3.size, hb3.block⟩
        · exact Nat.le_trans hBw2 gr3'.size)
      clear own2 own3 gr3 nil3 gr3' hgs hB3 hb3 hrd3 hB2 hgr HS GN hfew hi hz0 hz1 hz2 hBw2 hd
      go_wp2_with fail
      refine TR.out.mono ?_
      rintro e w4 ⟨A2, rfl, hA2, q, rfl⟩
      clear TR
      rw [hqv] at hA2 ⊢
      obtain ⟨m', hm'⟩ : ∃ m', m' = (words (v / 1000000000)).length := ⟨_, rfl⟩
      have HM' := Lib.hid hm'
      rw [← hm'] at hA2 ⊢
      have S4 := Lib.hid (S3.out A2 (by rw [← hm']; exact hA2) q)
      clear S3 hm' hA2 hqs
      go_wp2
      go_roundg (v / 1000000000)
      case measure => omega
      case rel => exact ⟨_, m', A2, v', _, _, Nat.le_refl _, HM'.out, rfl, rfl, S4.out⟩
end Go.Proofs.YthjdnidapbhdlaaDoor
