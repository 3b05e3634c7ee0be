import Derived.Test.YtmgkgomecakoiaaMem
import Derived.Maps.AppendAt
import Derived.Deep.AppendLies
import Derived.RegionTactic
import Derived.Deep.RegionLaw
namespace Go.Proofs.Ytmgkgomecakoiaa
open Go.RowKit Go.Deep

/-- append of words to a nil slice: a new slice that reads as they do -/
theorem run_app_nil (w : World) (ty : TypeId) (A : Option Addr) (m c : Nat) (xs : List Nat) (hr : Rd w A m xs) (hm : m ≤ 35184372088832) :
    ∃ A' c' w', (Builtin.append_ #[22, 22] ty #[.slice none 0 0, .slice A m c]).run Try.prog w = .ok (.slice A' m c') w' ∧ Rd w' A' m xs ∧ m ≤ c' ∧ c' ≤ 9223372036854775807 ∧ Below w.heap.size w w' ∧ (∀ a, A' = some a → w.heap.size ≤ a.block) := by
  obtain ⟨i, hi, hz, hs, hb⟩ := info_parts info32
  have hz0 : w.ownsRow w.heap.size 66 1 (.slice none 0 0) 0 [] := ⟨rfl, .inl ⟨rfl, rfl⟩⟩
  rcases Nat.eq_zero_or_pos m with h0 | h0
  · subst h0
    have hx : xs = [] := List.eq_nil_of_length_eq_zero hr.len
    subst hx
    cases A with
    | none =>
      refine ⟨none, 0, w, ?_, Rd.nil _, Nat.le_refl _, by omega, Below.refl _ _, fun a h => by cases h⟩
      simp [Builtin.append_, run_underlying Try.underlying22, sizeOf, typeInfo, hi, Builtin.lenOf, Builtin.firstCells]
    | some a =>
      obtain ⟨v', w', hrun, hown, hg, hnil, _⟩ := run_append_own_at (P := Try.prog) w w.heap.size 22 ty 66 i (.int .u32 0) 1 4 Try.underlying22 hi hz hs hb rfl (by omega) (.slice none 0 0) 0 [] hz0 a 0 c [] rfl (by simp) (by simp) (by simp) (by omega) (Nat.le_refl _)
      have hv := hnil.2 ⟨rfl, rfl⟩
      subst hv
      exact ⟨none, 0, w', hrun, Rd.nil _, Nat.le_refl _, by omega, ⟨hg.os, hg.tape, hg.output, hg.size, fun k hk => hg.block k hk (by simp [Value.ownBlock])⟩, fun a h => by cases h⟩
  · obtain ⟨b, o, rfl, hlt, hc⟩ := hr.at_ h0
    have hlen := hr.len
    obtain ⟨v', w', hrun, hown, hg, hnil, hat⟩ := run_append_own_at (P := Try.prog) w w.heap.size 22 ty 66 i (.int .u32 0) 1 4 Try.underlying22 hi hz hs hb rfl (by omega) (.slice none 0 0) 0 [] hz0 ⟨b, o, none⟩ m c (xs.map wd) (by simp [hlen])
      (fun j u hu => by
        have hj : j < xs.length := by
          rcases Nat.lt_or_ge j xs.length with h1 | h1
          · exact h1
          · rw [List.getElem?_eq_none (by simpa using h1)] at hu; cases hu
        have ea : (⟨b, o, none⟩ : Addr).add j = ⟨b, o + j, none⟩ := by unfold Addr.add; split <;> simp_all
        rw [ea, hc j (by omega), ← hu]
        simp [wd, List.getElem?_eq_getElem hj])
      (fun u hu => by obtain ⟨x, _, rfl⟩ := List.mem_map.1 hu; rfl) (by simp only [maxLen]; omega) (by omega) (Nat.le_refl _)
    rcases hown.2 with ⟨rfl, h1⟩ | ⟨g, cap, cur, rfl, hg1, hh, hcap, hcap2, hcur, htake⟩
    · omega
    · have em : 0 + m = m := by omega
      rw [em] at hrun hcap htake
      simp only [List.nil_append, Nat.mul_one] at htake
      refine ⟨some ⟨g, 0, none⟩, cap, w', hrun, ⟨hlen, hr.sm, fun _ => ⟨g, 0, rfl, ?_, fun k hk => ?_⟩⟩, hcap, by simpa [maxLen] using hcap2, ⟨hg.os, hg.tape, hg.output, hg.size, fun k hk => hg.block k hk (by simp [Value.ownBlock])⟩, fun a h => by injection h with h; subst h; exact hg1⟩
      · rcases Nat.lt_or_ge g w'.heap.size with h2 | h2
        · exact h2
        · rw [Array.getElem?_eq_none h2] at hh; cases hh
      · rw [Nat.zero_add, cell_of_row w' g k _ _ _ hh]
        have h3 := congrArg (fun l : List Value => l[k]?) htake
        simp only [List.getElem?_take, hk, if_true] at h3
        rw [Array.getElem?_toList] at h3
        rw [h3]
        simp [wd, List.getD_eq_getElem?_getD, List.getElem?_eq_getElem (show k < xs.length by omega)]

theorem wp_app_nil {w : World} {o : Oper} {a : Act} {K : Act → World → Prop} {Q : Exit → Act → World → Prop} (s x : Operand)
    (ho : o.op = .call { callee := .builtin .append, args := #[s, x], argTypes := #[22, 22] })
    (A : Option Addr) (m c : Nat) (xs : List Nat) (hs : a.eval s = .slice none 0 0) (hx : a.eval x = .slice A m c) (hr : Rd w A m xs) (hm : m ≤ 35184372088832)
    (h : ∀ A' c' w', Rd w' A' m xs → m ≤ c' → c' ≤ 9223372036854775807 → Below w.heap.size w w' → (∀ a, A' = some a → w.heap.size ≤ a.block) → K (a.put o.dst (.slice A' m c')) w') : o.wp Try.prog a w K Q := by
  obtain ⟨A', c', w', hrun, h1, h2, h3, h4, h5⟩ := run_app_nil w o.type A m c xs hr hm
  unfold Oper.wp execOp
  simp only [ho, resolve, invoke, builtin, Sem.run_bind, Sem.run_pure, Result.andThen_ok, List.map_toArray, List.map_cons, List.map_nil, hs, hx, hrun]
  exact h A' c' w' h1 h2 h3 h4 h5
theorem step_app_nil {w : World} {ops : Array Oper} {o : Oper} {a : Act} {K : Act → World → Prop} {Q : Exit → Act → World → Prop} {E : Prop} (hgd : o.guard = none) (s x : Operand)
    (ho : o.op = .call { callee := .builtin .append, args := #[s, x], argTypes := #[22, 22] })
    (A : Option Addr) (m c : Nat) (xs : List Nat) (hs : a.eval s = .slice none 0 0) (hx : a.eval x = .slice A m c) (hr : Rd w A m xs) (hm : m ≤ 35184372088832)
    (h : ∀ A' c' w', Rd w' A' m xs → m ≤ c' → c' ≤ 9223372036854775807 → Below w.heap.size w w' → (∀ a, A' = some a → w.heap.size ≤ a.block) → K (a.put o.dst (.slice A' m c')) w') :
    if Region.wanted o (yielded ops a.tmps) = true then Oper.wp Try.prog o a w K Q else E := by
  have hw : Region.wanted o (yielded ops a.tmps) = true := by simp [Region.wanted, hgd]
  rw [if_pos hw]
  exact wp_app_nil s x ho A m c xs hs hx hr hm h
end Go.Proofs.Ytmgkgomecakoiaa
