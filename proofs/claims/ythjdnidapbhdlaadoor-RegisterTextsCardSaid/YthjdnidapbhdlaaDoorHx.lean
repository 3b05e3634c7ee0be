/- a list of instructions of one's own: append -/
import Derived.Test.YthjdnidapbhdlaaDoorHw
import Derived.Lib.AppendIntMem
set_option maxRecDepth 100000
namespace Go.Proofs.YthjdnidapbhdlaaDoor
open Go.RowKit
theorem infoI : (Tryd.prog.info? 70).map (fun i => (i.zero, i.size, i.bytes)) = some (some (.agg #[.int .i64 0, .int .i64 0, .int .i64 0, .int .i64 0]), 4, 32) := by kernel_rfl
def flatI : List Ins → List Value
  | [] => []
  | x :: t => .int .i64 x.op :: .int .i64 x.reg :: .int .i64 x.nx :: .int .i64 x.zr :: flatI t
theorem flatI_len : ∀ cs : List Ins, (flatI cs).length = cs.length * 4
  | [] => rfl
  | x :: t => by simp only [flatI, List.length_cons, flatI_len t]; omega
theorem flatI_app : ∀ (cs : List Ins) (x : Ins), flatI (cs ++ [x]) = flatI cs ++ [.int .i64 x.op, .int .i64 x.reg, .int .i64 x.nx, .int .i64 x.zr]
  | [], x => rfl
  | y :: t, x => by simp only [List.cons_append, flatI, flatI_app t x]
theorem flatI_at : ∀ (cs : List Ins) (k : Nat), k < cs.length → (flatI cs)[k * 4]? = some (.int .i64 (insAt cs k).op) ∧ (flatI cs)[k * 4 + 1]? = some (.int .i64 (insAt cs k).reg) ∧ (flatI cs)[k * 4 + 2]? = some (.int .i64 (insAt cs k).nx) ∧ (flatI cs)[k * 4 + 3]? = some (.int .i64 (insAt cs k).zr)
  | x :: t, 0, _ => ⟨rfl, rfl, rfl, rfl⟩
  | x :: t, k + 1, h => by
    have h2 := flatI_at t k (by simpa using h)
    rw [show (k + 1) * 4 = k * 4 + 4 from by omega]
    exact h2
/-- a list of instructions of one's own, from block B on -/
structure OwC (W : World) (B : Nat) (A : Option Addr) (j c : Nat) (cs : List Ins) : Prop where
  own : W.ownsRow B 70 4 (.slice A j c) j (flatI cs)
  len : cs.length = j
theorem OwC.nil (W : World) (B : Nat) : OwC W B none 0 0 [] := ⟨World.ownsRow_nil W B _ 4, rfl⟩
theorem OwC.keep {W W' : World} {B : Nat} {A : Option Addr} {j c : Nat} {cs : List Ins} (h : OwC W B A j c cs) (hb : Below W.heap.size W W') : OwC W' B A j c cs := by
  refine ⟨h.own.kept (row := none) ⟨hb.os, hb.tape, hb.output, hb.size, fun k hk _ => hb.block k hk⟩ ?_, h.len⟩
  rcases hv : (Value.slice A j c).ownBlock with _ | b
  · exact .inl rfl
  · exact .inr (by simp)
theorem OwC.cap {W : World} {B : Nat} {A : Option Addr} {j c : Nat} {cs : List Ins} (h : OwC W B A j c cs) : j ≤ c ∧ c ≤ 9223372036854775807 ∧ ∀ a, A = some a → B ≤ a.block := by
  rcases h.own.2 with ⟨e, e2⟩ | ⟨g, cap, cur, e, h1, _, h2, h3, _⟩
  · injection e with e1 e3 e4
    subst e1 e4 e2
    exact ⟨Nat.le_refl _, by omega, fun a h => by cases h⟩
  · injection e with e1 e3 e4
    subst e1 e4
    exact ⟨h2, by simpa [maxLen] using h3, fun a h => by injection h with h; subst h; exact h1⟩
theorem OwC.rd {W : World} {B : Nat} {A : Option Addr} {j c : Nat} {cs : List Ins} (h : OwC W B A j c cs) : RdC W A j cs := by
  refine ⟨h.len, fun h0 => ?_⟩
  have hl := h.len
  rcases h.own.2 with ⟨_, e2⟩ | ⟨g, cap, cur, e, _, hg, _⟩
  · omega
  · injection e with e1 e3 e4
    subst e1 e4
    have hc := h.own.cells (g := g) rfl
    have hlt : g < W.heap.size := by
      rcases Nat.lt_or_ge g W.heap.size with h1 | h1
      · exact h1
      · rw [Array.getElem?_eq_none h1] at hg; cases hg
    refine ⟨g, 0, rfl, hlt, fun k hk => ?_⟩
    obtain ⟨a0, a1, a2, a3⟩ := flatI_at cs k (by omega)
    have ea : ∀ q : Nat, 0 < q → (⟨g, 0, none⟩ : Addr).add q = ⟨g, q, none⟩ := fun q hq => by unfold Addr.add; simp; omega
    have z : ∀ q : Nat, (⟨g, 0, none⟩ : Addr).add q = ⟨g, q, none⟩ := fun q => by
      rcases Nat.eq_zero_or_pos q with rfl | hq
      · rfl
      · exact ea q hq
    simp only [Nat.zero_add]
    exact ⟨by rw [← z]; exact hc _ _ a0, by rw [← z]; exact hc _ _ a1, by rw [← z]; exact hc _ _ a2, by rw [← z]; exact hc _ _ a3⟩
theorem run_app_ins (w : World) (ty : TypeId) (B : Nat) (A : Option Addr) (j c : Nat) (cs : List Ins) (x : Ins) (hown : OwC w B A j c cs) (hB : B ≤ w.heap.size) (g n : Nat) (hx : BxI w g x) (hj : j ≤ 1000000) :
    ∃ g' c' w', (Builtin.append_ #[41, 41] ty #[.slice A j c, .slice (some ⟨g, 0, none⟩) 1 n]).run Tryd.prog w = .ok (.slice (some ⟨g', 0, none⟩) (j + 1) c') w' ∧ OwC w' B (some ⟨g', 0, none⟩) (j + 1) c' (cs ++ [x]) ∧ Below B w w' := by
  obtain ⟨i, hi, hz, hs, hb⟩ := info_parts infoI
  have hBg := hown.cap.2.2
  obtain ⟨v', w', hrun, hown', hgr, hnil, hat⟩ := run_append_own_at (P := Tryd.prog) w B 41 ty 70 i (.agg #[.int .i64 0, .int .i64 0, .int .i64 0, .int .i64 0]) 4 32 Tryd.underlying41 hi hz hs hb rfl (by omega) (.slice A j c) j (flatI cs) hown.own ⟨g, 0, none⟩ 1 n [.int .i64 x.op, .int .i64 x.reg, .int .i64 x.nx, .int .i64 x.zr] rfl
    (fun j u hu => by
      have ea : (⟨g, 0, none⟩ : Addr).add j = ⟨g, j, none⟩ := by unfold Addr.add; simp; exact Eq.symm
      rw [ea]
      match j, hu with
      | 0, hu => injection hu with hu; subst hu; exact hx.c0
      | 1, hu => injection hu with hu; subst hu; exact hx.c1
      | 2, hu => injection hu with hu; subst hu; exact hx.c2
      | 3, hu => injection hu with hu; subst hu; exact hx.c3)
    (fun u hu => by simp at hu; rcases hu with rfl | rfl | rfl | rfl <;> rfl) (by simp only [maxLen]; omega) (by omega) hB
  rw [← flatI_app] at hown'
  rcases hown'.2 with ⟨rfl, h1⟩ | ⟨g2, cap, cur, rfl, hg1, hh, hcap, hcap2, hcur, htake⟩
  · omega
  · refine ⟨g2, cap, w', hrun, ⟨hown', by simp [hown.len]⟩, ⟨hgr.os, hgr.tape, hgr.output, hgr.size, fun q hq => hgr.block q (by omega) ?_⟩⟩
    intro e
    rcases A with _ | a
    · cases e
    · injection e with e
      have := hBg a rfl
      omega
theorem wp_app_ins {w : World} {o : Oper} {a : Act} {K : Act → World → Prop} {Q : Exit → Act → World → Prop} (s y : Operand)
    (ho : o.op = .call { callee := .builtin .append, args := #[s, y], argTypes := #[41, 41] })
    (B : Nat) (A : Option Addr) (j c : Nat) (cs : List Ins) (x : Ins) (g n : Nat) (hs : a.eval s = .slice A j c) (hy : a.eval y = .slice (some ⟨g, 0, none⟩) 1 n) (hown : OwC w B A j c cs) (hB : B ≤ w.heap.size) (hx : BxI w g x) (hj : j ≤ 1000000)
    (h : ∀ g' c' w', OwC w' B (some ⟨g', 0, none⟩) (j + 1) c' (cs ++ [x]) → Below B w w' → K (a.put o.dst (.slice (some ⟨g', 0, none⟩) (j + 1) c')) w') : o.wp Tryd.prog a w K Q := by
  obtain ⟨g', c', w', hrun, h1, h2⟩ := run_app_ins w o.type B A j c cs x hown hB g n hx hj
  unfold Oper.wp execOp
  simp only [ho, resolve, invoke, builtin, Sem.run_bind, Sem.run_pure, Result.andThen_ok, List.map_toArray, List.map_cons, List.map_nil, hs, hy, hrun]
  exact h g' c' w' h1 h2
theorem step_app_ins {w : World} {ops : Array Oper} {o : Oper} {a : Act} {K : Act → World → Prop} {Q : Exit → Act → World → Prop} {E : Prop} (hgd : o.guard = none) (s y : Operand)
    (ho : o.op = .call { callee := .builtin .append, args := #[s, y], argTypes := #[41, 41] })
    (B : Nat) (A : Option Addr) (j c : Nat) (cs : List Ins) (x : Ins) (g n : Nat) (hs : a.eval s = .slice A j c) (hy : a.eval y = .slice (some ⟨g, 0, none⟩) 1 n) (hown : OwC w B A j c cs) (hB : B ≤ w.heap.size) (hx : BxI w g x) (hj : j ≤ 1000000)
    (h : ∀ g' c' w', OwC w' B (some ⟨g', 0, none⟩) (j + 1) c' (cs ++ [x]) → Below B w w' → K (a.put o.dst (.slice (some ⟨g', 0, none⟩) (j + 1) c')) w') :
    if Region.wanted o (yielded ops a.tmps) = true then Oper.wp Tryd.prog o a w K Q else E := by
  have hw : Region.wanted o (yielded ops a.tmps) = true := by simp [Region.wanted, hgd]
  rw [if_pos hw]
  exact wp_app_ins s y ho B A j c cs x g n hs hy hown hB hx hj h
end Go.Proofs.YthjdnidapbhdlaaDoor
