import Derived.Test.YtpgiifjngkekgaaSl
import Derived.Test.YtpgiifjngkekgaaRh
import Derived.Deep.RegionHeld3
import Derived.Deep.DeepMust
import Derived.IntWalk
namespace Go.Proofs.Ytpgiifjngkekgaa
open Go.RowKit Go.Deep

/-- append of words to words of the call's own -/
theorem run_app_row (w : World) (ty : TypeId) (g b o k m c : Nat) (L xs : List Nat) (hL : Bk w g L) (hk : L.length = k) (hr : Rd w (some ⟨b, o, none⟩) m xs) (hm : k + m ≤ 35184372088832) (B : Nat) (hB : B ≤ w.heap.size) (hg : B ≤ g) :
    ∃ A' c' w', (Builtin.append_ #[22, 22] ty #[.slice (some ⟨g, 0, none⟩) k k, .slice (some ⟨b, o, none⟩) m c]).run Try.prog w = .ok (.slice A' (k + m) c') w' ∧ Rd w' A' (k + m) (L ++ xs) ∧ k + m ≤ c' ∧ c' ≤ 9223372036854775807 ∧ Below B w w' := by
  obtain ⟨i, hi, hz, hs, hb⟩ := info_parts info32
  have hlen := hr.len
  have hown0 : w.ownsRow B 66 1 (.slice (some ⟨g, 0, none⟩) k k) k (L.map wd) :=
    ⟨by simp [hk], .inr ⟨g, k, (L.map wd).toArray, rfl, hg, hL.2, Nat.le_refl _, by simp only [maxLen]; omega, by simp [hk], by rw [Nat.mul_one, ← hk, ← List.length_map (f := wd)]; exact List.take_length⟩⟩
  obtain ⟨v', w', hrun, hown, hgr, hnil, hat⟩ := run_append_own_at (P := Try.prog) w B 22 ty 66 i (.int .u32 0) 1 4 Try.underlying22 hi hz hs hb rfl (by omega) (.slice (some ⟨g, 0, none⟩) k k) k (L.map wd) hown0 ⟨b, o, none⟩ m c (xs.map wd) (by simp [hlen])
    (fun j u hu => by
      have hj : j < xs.length := by
        rcases Nat.lt_or_ge j xs.length with h1 | h1
        · exact h1
        · rw [List.getElem?_eq_none (by simpa using h1)] at hu; cases hu
      obtain ⟨b2, o2, e, hlt, hc⟩ := hr.at_ (by omega)
      injection e with e
      injection e with e1 e2
      subst e1 e2
      have ea : (⟨b, o, none⟩ : Addr).add j = ⟨b, o + j, none⟩ := by unfold Addr.add; split <;> simp_all
      rw [ea, hc j (by omega), ← hu]
      simp [wd, List.getElem?_eq_getElem hj])
    (fun u hu => by obtain ⟨x, _, rfl⟩ := List.mem_map.1 hu; rfl) (by simp only [maxLen]; omega) (by omega) hB
  rcases hown.2 with ⟨rfl, h1⟩ | ⟨g2, cap, cur, rfl, hg1, hh, hcap, hcap2, hcur, htake⟩
  · exact absurd (hnil.1 rfl).1 (by simp)
  · simp only [Nat.mul_one] at htake
    have hbel : Below B w w' := ⟨hgr.os, hgr.tape, hgr.output, hgr.size, fun q hq => hgr.block q (by omega) (by simp [Value.ownBlock]; omega)⟩
    refine ⟨some ⟨g2, 0, none⟩, cap, w', hrun, ⟨by simp [hk, hlen], small_append.2 ⟨hL.1, hr.sm⟩, fun _ => ⟨g2, 0, rfl, ?_, fun q hq => ?_⟩⟩, hcap, by simpa [maxLen] using hcap2, hbel⟩
    · rcases Nat.lt_or_ge g2 w'.heap.size with h2 | h2
      · exact h2
      · rw [Array.getElem?_eq_none h2] at hh; cases hh
    · rw [Nat.zero_add, cell_of_row w' g2 q _ _ _ hh]
      have h3 := congrArg (fun l : List Value => l[q]?) htake
      simp only [List.getElem?_take, hq, if_true] at h3
      rw [Array.getElem?_toList] at h3
      rw [h3, ← List.map_append]
      have hql : q < (L ++ xs).length := by simp [hk, hlen]; omega
      simp only [List.getElem?_map, List.getElem?_eq_getElem hql, List.getD_eq_getElem?_getD]
      rfl

theorem wp_app_row {w : World} {o : Oper} {a : Act} {K : Act → World → Prop} {Q : Exit → Act → World → Prop} (s x : Operand)
    (ho : o.op = .call { callee := .builtin .append, args := #[s, x], argTypes := #[22, 22] })
    (g b of k m c : Nat) (L xs : List Nat) (hs : a.eval s = .slice (some ⟨g, 0, none⟩) k k) (hx : a.eval x = .slice (some ⟨b, of, none⟩) m c) (hL : Bk w g L) (hk : L.length = k) (hr : Rd w (some ⟨b, of, none⟩) m xs) (hm : k + m ≤ 35184372088832) (B : Nat) (hB : B ≤ w.heap.size) (hg : B ≤ g)
    (h : ∀ A' c' w', Rd w' A' (k + m) (L ++ xs) → k + m ≤ c' → c' ≤ 9223372036854775807 → Below B w w' → K (a.put o.dst (.slice A' (k + m) c')) w') : o.wp Try.prog a w K Q := by
  obtain ⟨A', c', w', hrun, h1, h2, h3, h4⟩ := run_app_row w o.type g b of k m c L xs hL hk hr hm B hB hg
  unfold Oper.wp execOp
  simp only [ho, resolve, invoke, builtin, Sem.run_bind, Sem.run_pure, Result.andThen_ok, List.map_toArray, List.map_cons, List.map_nil, hs, hx, hrun]
  exact h A' c' w' h1 h2 h3 h4
theorem step_app_row {w : World} {ops : Array Oper} {o : Oper} {a : Act} {K : Act → World → Prop} {Q : Exit → Act → World → Prop} {E : Prop} (hgd : o.guard = none) (s x : Operand)
    (ho : o.op = .call { callee := .builtin .append, args := #[s, x], argTypes := #[22, 22] })
    (g b of k m c : Nat) (L xs : List Nat) (hs : a.eval s = .slice (some ⟨g, 0, none⟩) k k) (hx : a.eval x = .slice (some ⟨b, of, none⟩) m c) (hL : Bk w g L) (hk : L.length = k) (hr : Rd w (some ⟨b, of, none⟩) m xs) (hm : k + m ≤ 35184372088832) (B : Nat) (hB : B ≤ w.heap.size) (hg : B ≤ g)
    (h : ∀ A' c' w', Rd w' A' (k + m) (L ++ xs) → k + m ≤ c' → c' ≤ 9223372036854775807 → Below B w w' → K (a.put o.dst (.slice A' (k + m) c')) w') :
    if Region.wanted o (yielded ops a.tmps) = true then Oper.wp Try.prog o a w K Q else E := by
  have hw : Region.wanted o (yielded ops a.tmps) = true := by simp [Region.wanted, hgd]
  rw [if_pos hw]
  exact wp_app_row s x ho g b of k m c L xs hs hx hL hk hr hm B hB hg h

set_option maxHeartbeats 1000000 in
set_option maxRecDepth 100000 in
/-- the reference's Shift by a number of places that is not negative -/
theorem refShift_up {w : World} {z : Int} {t : Bool} {A : Option Addr} {n c : Nat} (h : Is w z t A n c) (hn : n ≤ 8796093022208) (hz : z ≠ 0) (k : Nat) (hk : k ≤ 281474976710656) :
    Calls Try.prog 38 #[.agg #[.bool t, .slice A n c], .int .i64 (k : Int)] w (NumI w (shl z k)) := by
  have HI := Lib.hid h
  have hn0 : n ≠ 0 := by rw [h.2.1]; intro e; exact hz (by have := words_nil.1 (List.eq_nil_of_length_eq_zero e); omega)
  have E := Lib.hid (Env1r.start w t A n c)
  clear h
  have HM := Lib.hid (fun w => mk_words (k / 32) (by omega) w)
  go_enter Try.func38, Try.ntmps38
  go_wp2_with fail
  generalize (w.alloc (.cells #[.bool t, .slice A n c] 24)).alloc (.cells #[.bool false, .slice none 0 0] 24) = W at E ⊢
  have a0 := E.out.a0
  have a1 := E.out.a1
  refine (zero_c t A n c W).mono ?_
  rintro e w1 ⟨rfl, hb⟩
  rw [decide_eq_false hn0]
  replace E := Lib.hid (E.out.next hb)
  clear hb
  replace a0 := E.out.a0
  replace a1 := E.out.a1
  obtain ⟨p, hp⟩ : ∃ p, p = k / 32 := ⟨_, rfl⟩
  obtain ⟨q, hq⟩ : ∃ q, q = k % 32 := ⟨_, rfl⟩
  have hq1 : q < 32 := by omega
  have HKpq := Lib.hid (show k = 32 * p + q by omega)
  rw [← hp] at HM
  have hp1 : p ≤ 8796093022208 := by omega
  have R0 := Lib.hid HI.out.2.2.1
  have e1 : ((k : Int).tdiv 32) = (p : Int) := by rw [hp, Int.tdiv_eq_ediv_of_nonneg (by omega)]; omega
  have e2 : ((k : Int).tmod 32) = (q : Int) := by rw [hq, Int.tmod_eq_emod_of_nonneg (by omega)]; omega
  have e3 : ((k : Int) / 32) = (p : Int) := by omega
  have e4 : ((k : Int) % 32) = (q : Int) := by omega
  have e5 : IntKind.i64.wrap (p : Int) = (p : Int) := IntWalk.i64_in _ (by omega)
  clear hp hq
  have hmk := fun w => HM.out w
  clear HM
  go_wp2_with fail
  have hz1 := E.out.size
  have q1 : w.heap.size < w1.heap.size := by omega
  have q2 : n ≤ 17592186044416 := by omega
  have q3 : p + (n + 1) ≤ 35184372088832 := by omega
  have q4 : w1.heap.size < (w1.alloc (row (List.replicate p 0))).drew.heap.size := by simp
  have q5 : ¬ w.heap.size + 1 = w.heap.size := by omega
  have D1 := Lib.hid ((below_alloc w1 (row (List.replicate p 0))).drew)
  have b0 := (D1.out.cell (p := ⟨w.heap.size, 0, none⟩) (by simp; omega)).trans a0
  have b1 := (D1.out.cell (p := ⟨w.heap.size, 1, none⟩) (by simp; omega)).trans a1
  have L1 := Lib.hid ((Bk.new0 w1 p).drewN 1)
  have HZ := Lib.hid (show sgn t (val (List.replicate p 0) + pw p * (val (words z.natAbs) * 2 ^ q)) = shl z k by
    rw [val_replicate, Nat.zero_add, val_words, pw_two, shl_up, HKpq.out, Nat.mul_comm, Nat.mul_assoc, ← Nat.pow_add, Nat.add_comm q, sgn_mul_nat]
    congr 1
    rw [HI.out.1]
    exact sgn_self z)
  have HS1 := Lib.hid (show (w1.alloc (row (List.replicate p 0))).drew.heap.size = w1.heap.size + 1 by simp)
  have D2 := Lib.hid ((Below.refl w1.heap.size w1).drew)
  have HS2 := Lib.hid (show w1.drew.heap.size = w1.heap.size by simp)
  go_region_held3 (fun w' => w'.cell? ⟨w.heap.size, 0, none⟩ = some (.bool t) ∧ w'.cell? ⟨w.heap.size, 1, none⟩ = some (.slice A n c)) (first | exact ⟨a0, a1⟩ | exact ⟨b0, b1⟩ | exact ⟨z0, z1⟩ | exact ⟨cell_two q5 z0, cell_two q5 z1⟩ | exact ⟨((below_alloc y (row (List.replicate p 0))).cell (p := ⟨w.heap.size, 0, none⟩) q6).trans b0, ((below_alloc y (row (List.replicate p 0))).cell (p := ⟨w.heap.size, 1, none⟩) q6).trans b1⟩)
    (first
      | (go_at_call 71
         refine (shifted_c A n c q _ (w1.alloc (row (List.replicate p 0))).drew (R0.out.below (E.out.below.trans (D1.out.mono E.out.below.size))) q2 hq1).mono ?_
         rintro e y ⟨cs, rfl, l1, l2, l3, l4⟩
         have Y := Lib.hid (D1.out.trans (l4.mono D1.out.size))
         have b0 := (Y.out.cell (p := ⟨w.heap.size, 0, none⟩) q1).trans a0
         have b1 := (Y.out.cell (p := ⟨w.heap.size, 1, none⟩) q1).trans a1
         have L2 := Lib.hid (L1.out.below l4 q4)
         have R2 := Lib.hid l3.rd
         have HV := Lib.hid l2
         have hy := Y.out.size
         have q6 : w.heap.size < y.heap.size := by omega
         rw [l1, HS1.out] at R2
         clear l1 l2 l3 l4)
      | (go_at_call 71
         refine (shifted_c A n c q _ w1.drew (R0.out.below (E.out.below.trans (D2.out.mono E.out.below.size))) q2 hq1).mono ?_
         rintro e y ⟨cs, rfl, l1, l2, l3, l4⟩
         have Y := Lib.hid (D2.out.trans (l4.mono D2.out.size))
         have b0 := (Y.out.cell (p := ⟨w.heap.size, 0, none⟩) q1).trans a0
         have b1 := (Y.out.cell (p := ⟨w.heap.size, 1, none⟩) q1).trans a1
         have R2 := Lib.hid l3.rd
         have HV := Lib.hid l2
         have hy := Y.out.size
         have q6 : w.heap.size < y.heap.size := by omega
         rw [l1, HS2.out] at R2
         clear l1 l2 l3 l4)
      | (go_at_call 54
         refine (Make_i G1.out g2 g3 q3).mono ?_
         rw [val_append, List.length_replicate, HV.out, HZ.out]
         rintro e w4 ⟨t', B, m', d', rfl, hi, hb⟩
         replace E := Lib.hid (E.out.next hb)
         have HI4 := Lib.hid hi
         replace z0 := E.out.a0
         replace z1 := E.out.a1
         have r0 := E.out.res.r0
         have r1 := E.out.res.r1
         have f0 := E.out.res.f0
         have f1 := E.out.res.f1
         clear hi hb)
      | (refine step_app_row rfl (.tmp 17) (.tmp 22) rfl w1.heap.size (w1.heap.size + 1) 0 p (n + 1) (n + 1) (List.replicate p 0) cs rfl rfl L2.out (by simp) R2.out q3 w1.heap.size hy (Nat.le_refl _) ?_
         intro A' c' w3 g1 g2 g3 g4
         replace E := Lib.hid (E.out.next (Y.out.trans g4))
         have G1 := Lib.hid g1
         have z0 := E.out.a0
         have z1 := E.out.a1
         clear g1 g4)
      | (refine step_app_row rfl (.tmp 17) (.tmp 22) rfl y.heap.size w1.heap.size 0 p (n + 1) (n + 1) (List.replicate p 0) cs rfl rfl (Bk.new0 y p) (by simp) (R2.out.alloc _) q3 w1.heap.size (Nat.le_trans hy (below_alloc y _).size) hy ?_
         intro A' c' w3 g1 g2 g3 g4
         replace E := Lib.hid (E.out.next ((Y.out.trans ((below_alloc y (row (List.replicate p 0))).mono hy)).trans g4))
         have G1 := Lib.hid g1
         have z0 := E.out.a0
         have z1 := E.out.a1
         clear g1 g4)
      | fail "no arm")
  all_goals
    go_wp2
    refine bodyPost_ret (v := .agg #[.bool t', .slice B m' d']) (by simp [results, Try.results38, go_sem, r0, r1]) rfl ?_
    exact ⟨t', B, m', d', rfl, HI4.out.store r0 r1 _ _, below_store E.out.below (by omega) _ _⟩
end Go.Proofs.Ytpgiifjngkekgaa
