import Derived.Test.YteabokkofoomkaaGreatCbf
import Derived.Test.YteabokkofoomkaaGreatCca
import Derived.Test.YteabokkofoomkaaGreatCbl
/- links "x0 = 0" of one's own: append -/
set_option maxRecDepth 100000
namespace Go.Proofs.YteabokkofoomkaaGreat
open Go.RowKit Go.Shelf Go.Deep
theorem infoLk : (Tryz.prog.info? 51).map (fun i => (i.zero, i.size, i.bytes)) = some (some (.agg #[.int .i64 0, .slice none 0 0, .slice none 0 0]), 3, 56) := by kernel_rfl
/-- no bool, no int but 0 -/
def kz (u : Value) : Prop := (∀ b, u ≠ .bool b) ∧ ∀ k z, u = .int k z → k = .i64 ∧ z = 0
/-- the equation x0 = 0 in one variable -/
def lk0 : Lnk := ⟨0, [0], [⟨1, varP 1 0⟩]⟩
structure RawQ where
  bv : Nat
  bp : Nat
def flatQ : List RawQ → List Value
  | [] => []
  | x :: t => .int .i64 0 :: .slice (some ⟨x.bv, 0, none⟩) 1 1 :: .slice (some ⟨x.bp, 0, none⟩) 1 1 :: flatQ t
def rawQAt (rs : List RawQ) (k : Nat) : RawQ := rs.getD k ⟨0, 0⟩
theorem flatQ_app : ∀ (cs : List RawQ) (x : RawQ), flatQ (cs ++ [x]) = flatQ cs ++ [.int .i64 0, .slice (some ⟨x.bv, 0, none⟩) 1 1, .slice (some ⟨x.bp, 0, none⟩) 1 1]
  | [], x => rfl
  | y :: t, x => by simp only [List.cons_append, flatQ, flatQ_app t x]
theorem flatQ_at : ∀ (cs : List RawQ) (k : Nat), k < cs.length → (flatQ cs)[k * 3]? = some (.int .i64 0) ∧ (flatQ cs)[k * 3 + 1]? = some (.slice (some ⟨(rawQAt cs k).bv, 0, none⟩) 1 1) ∧ (flatQ cs)[k * 3 + 2]? = some (.slice (some ⟨(rawQAt cs k).bp, 0, none⟩) 1 1)
  | x :: t, 0, _ => ⟨rfl, rfl, rfl⟩
  | x :: t, k + 1, h => by
    have h2 := flatQ_at t k (by simpa using h)
    rw [show (k + 1) * 3 = k * 3 + 3 from by omega]
    exact h2
theorem rawQAt_app (rs : List RawQ) (x : RawQ) (k : Nat) : rawQAt (rs ++ [x]) k = if k < rs.length then rawQAt rs k else if k = rs.length then x else rawQAt [] 0 := by
  unfold rawQAt
  simp only [List.getD_eq_getElem?_getD, List.getElem?_append]
  split
  · rfl
  · split
    · subst_vars; simp
    · rw [List.getElem?_eq_none (by simp; omega)]; rfl
/-- what a link's slices point to -/
structure QD (W : World) (bv bp : Nat) : Prop where
  lv : bv < W.heap.size
  v0 : W.cell? ⟨bv, 0, none⟩ = some (.int .i64 0)
  lp : bp < W.heap.size
  p0 : W.cell? ⟨bp, 0, none⟩ = some (.int .i64 1)
  ex : ∃ A c, W.cell? ⟨bp, 1, none⟩ = some (.slice A 1 c) ∧ RdT W A 1 (varP 1 0) ∧ 1 ≤ c ∧ c ≤ 9223372036854775807
theorem QD.next {W W' : World} {bv bp : Nat} (h : QD W bv bp) (hb : Below W.heap.size W W') : QD W' bv bp := by
  obtain ⟨A, c, p1, rt, h1, h2⟩ := h.ex
  exact ⟨Nat.lt_of_lt_of_le h.lv hb.size, (hb.cell (p := ⟨bv, 0, none⟩) h.lv).trans h.v0, Nat.lt_of_lt_of_le h.lp hb.size, (hb.cell (p := ⟨bp, 0, none⟩) h.lp).trans h.p0, A, c, (hb.cell (p := ⟨bp, 1, none⟩) h.lp).trans p1, rt.below hb, h1, h2⟩
/-- all blocks but one are as they were -/
theorem rdT_but {W W' : World} {g : Nat} {cur : Array Value} {e : TypeId} (hg : W.heap[g]? = some (.cells cur e (0, 0))) (hk : ∀ u ∈ cur.toList, kz u) (hs : W.heap.size ≤ W'.heap.size) (hb : ∀ q, q < W.heap.size → q ≠ g → W'.heap[q]? = W.heap[q]?)
    {A : Option Addr} (h : RdT W A 1 (varP 1 0)) : RdT W' A 1 (varP 1 0) := by
  have key : ∀ (b o : Nat) (v : Value), W.cell? ⟨b, o, none⟩ = some v → ¬ kz v → b ≠ g := by
    intro b o v hc hn e1
    subst e1
    rw [cell_of_row W b o _ _ _ hg] at hc
    exact hn (hk v (by rw [Array.mem_toList_iff]; exact Array.mem_of_getElem? hc))
  refine ⟨h.len, fun h0 => ?_⟩
  obtain ⟨b, o, e, hlt, hc⟩ := h.at_ h0
  refine ⟨b, o, e, Nat.lt_of_lt_of_le hlt hs, fun k hk2 => ?_⟩
  obtain ⟨A1, n1, c1, B1, m1, d1, hT⟩ := hc k hk2
  obtain rfl : k = 0 := by omega
  have hbg := key b _ _ hT.c0 (fun q => q.1 _ rfl)
  have hcb : ∀ q, W'.cell? ⟨b, q, none⟩ = W.cell? ⟨b, q, none⟩ := fun q => World.cell?_of_block (hb b hlt hbg)
  refine ⟨A1, n1, c1, B1, m1, d1, (hcb _).trans hT.c0, (hcb _).trans hT.c1, (hcb _).trans hT.c2, ⟨hT.rd.len, hT.rd.sm, fun q => ?_⟩, hT.nc, hT.cm, ⟨hT.ri.len, fun q => ?_⟩, hT.md, hT.dm⟩
  · obtain ⟨b2, o2, e2, hl2, hc2⟩ := hT.rd.at_ q
    have hne := key b2 _ _ (hc2 0 q) (fun z => by have := (z.2 _ _ rfl).1; cases this)
    exact ⟨b2, o2, e2, Nat.lt_of_lt_of_le hl2 hs, fun i hi => (World.cell?_of_block (hb b2 hl2 hne)).trans (hc2 i hi)⟩
  · obtain ⟨b2, o2, e2, hl2, hc2⟩ := hT.ri.at_ q
    have hes : (trmAt (varP 1 0) 0).es = [1] := rfl
    have h1 := hc2 0 q
    rw [hes] at h1
    have hne := key b2 _ _ h1 (fun z => by have := (z.2 _ _ rfl).2; simp at this)
    exact ⟨b2, o2, e2, Nat.lt_of_lt_of_le hl2 hs, fun i hi => (World.cell?_of_block (hb b2 hl2 hne)).trans (hc2 i hi)⟩
theorem QD.but {W W' : World} {bv bp g : Nat} (h : QD W bv bp) {cur : Array Value} {e : TypeId} (hg : W.heap[g]? = some (.cells cur e (0, 0))) (hk : ∀ u ∈ cur.toList, kz u) (hs : W.heap.size ≤ W'.heap.size) (hb : ∀ q, q < W.heap.size → q ≠ g → W'.heap[q]? = W.heap[q]?) (hv : bv ≠ g) : QD W' bv bp := by
  obtain ⟨A, c, p1, rt, h1, h2⟩ := h.ex
  have hpg : bp ≠ g := by
    intro e1
    subst e1
    have p0 := h.p0
    rw [cell_of_row W bp 0 _ _ _ hg] at p0
    have := ((hk _ (by rw [Array.mem_toList_iff]; exact Array.mem_of_getElem? p0)).2 _ _ rfl).2
    omega
  exact ⟨Nat.lt_of_lt_of_le h.lv hs, (World.cell?_of_block (hb bv h.lv hv)).trans h.v0, Nat.lt_of_lt_of_le h.lp hs, (World.cell?_of_block (hb bp h.lp hpg)).trans h.p0, A, c, (World.cell?_of_block (hb bp h.lp hpg)).trans p1, rdT_but hg hk hs hb rt, h1, h2⟩
structure OwQ (W : World) (B : Nat) (A : Option Addr) (j c : Nat) : Prop where
  kind : Kind W kz (.slice A j c)
  ex : ∃ rs : List RawQ, W.ownsRow B 51 3 (.slice A j c) j (flatQ rs) ∧ rs.length = j ∧ ∀ k, k < j → QD W (rawQAt rs k).bv (rawQAt rs k).bp ∧ (∀ a, A = some a → (rawQAt rs k).bv ≠ a.block) ∧ B ≤ (rawQAt rs k).bv ∧ B ≤ (rawQAt rs k).bp
theorem OwQ.nil (W : World) (B : Nat) : OwQ W B none 0 0 :=
  ⟨(fun g n cap cur e hv => by cases hv), [], World.ownsRow_nil W B _ 3, rfl, fun k hk => absurd hk (by omega)⟩
theorem OwQ.cap {W : World} {B : Nat} {A : Option Addr} {j c : Nat} (h : OwQ W B A j c) : j ≤ c ∧ c ≤ 9223372036854775807 ∧ ∀ a, A = some a → B ≤ a.block ∧ a.block < W.heap.size := by
  obtain ⟨rs, hown, _⟩ := h.ex
  rcases hown.2 with ⟨e, e2⟩ | ⟨g, cap, cur, e, h1, hg, h2, h3, _⟩
  · injection e with e1 e3 e4
    subst e1 e4 e2
    exact ⟨Nat.le_refl _, by omega, fun a h => by cases h⟩
  · injection e with e1 e3 e4
    subst e1 e4
    refine ⟨h2, by simpa [maxLen] using h3, fun a h => ?_⟩
    injection h with h
    subst h
    refine ⟨h1, ?_⟩
    rcases Nat.lt_or_ge g W.heap.size with h1 | h1
    · exact h1
    · rw [Array.getElem?_eq_none h1] at hg; cases hg
theorem OwQ.keep {W W' : World} {B : Nat} {A : Option Addr} {j c : Nat} (h : OwQ W B A j c) (hb : Below W.heap.size W W') : OwQ W' B A j c := by
  have hc := h.cap.2.2
  obtain ⟨rs, hown, hl, hr⟩ := h.ex
  refine ⟨h.kind.keep fun a ha => hb.block _ (hc a ha).2, rs, ?_, hl, fun k hk => ⟨(hr k hk).1.next hb, (hr k hk).2⟩⟩
  refine hown.kept (row := none) ⟨hb.os, hb.tape, hb.output, hb.size, fun k hk _ => hb.block k hk⟩ ?_
  rcases hv : (Value.slice A j c).ownBlock with _ | b
  · exact .inl rfl
  · exact .inr (by simp)
theorem OwQ.rd {W : World} {B : Nat} {A : Option Addr} {j c : Nat} (h : OwQ W B A j c) : RdL W A j (List.replicate j lk0) := by
  refine ⟨List.length_replicate .., fun h0 => ?_⟩
  have hlt := h.cap.2.2
  obtain ⟨rs, hown, hl, hr⟩ := h.ex
  rcases hown.2 with ⟨_, e2⟩ | ⟨g, cap, cur, e, _, hg, _⟩
  · omega
  · injection e with e1 e3 e4
    subst e1 e4
    have hc := hown.cells (g := g) rfl
    refine ⟨g, 0, rfl, (hlt _ rfl).2, fun k hk => ?_⟩
    obtain ⟨a0, a1, a2⟩ := flatQ_at rs k (by omega)
    have z : ∀ q : Nat, (⟨g, 0, none⟩ : Addr).add q = ⟨g, q, none⟩ := fun q => by
      rcases Nat.eq_zero_or_pos q with rfl | hq
      · rfl
      · unfold Addr.add; simp; omega
    simp only [Nat.zero_add]
    obtain ⟨q, -⟩ := hr k hk
    obtain ⟨At, ct, p1, rt, n1, n2⟩ := q.ex
    have e5 : lnkAt (List.replicate j lk0) k = lk0 := by simp [lnkAt, List.getD_eq_getElem?_getD, hk]
    rw [e5]
    refine ⟨some ⟨(rawQAt rs k).bv, 0, none⟩, 1, 1, some ⟨(rawQAt rs k).bp, 0, none⟩, 1, 1, ?_, ?_, ?_, ⟨rfl, fun _ => ⟨_, 0, rfl, q.lv, fun i hi => ?_⟩⟩, ⟨rfl, fun _ => ⟨_, 0, rfl, q.lp, fun i hi => ?_⟩⟩, Nat.le_refl _, by omega, Nat.le_refl _, by omega⟩
    · rw [← z]; exact hc _ _ a0
    · rw [← z]; exact hc _ _ a1
    · rw [← z]; exact hc _ _ a2
    · obtain rfl : i = 0 := by omega
      exact q.v0
    · obtain rfl : i = 0 := by omega
      exact ⟨At, 1, ct, q.p0, p1, rt, n1, n2⟩
/-- a slice in a block of a number and a slice is set anew -/
theorem rdT_slice {W : World} {gs : Nat} {z : Int} {L : Option Addr} {a b : Nat} (h0 : W.cell? ⟨gs, 0, none⟩ = some (.int .i64 z)) (h1 : W.cell? ⟨gs, 1, none⟩ = some (.slice L a b)) {A : Option Addr} {n : Nat} {ts : List Trm} (h : RdT W A n ts) (u : Value) : RdT (W.setCell ⟨gs, 1, none⟩ u) A n ts := by
  refine ⟨h.len, fun hp => ?_⟩
  obtain ⟨b1, o, e, hlt, hc⟩ := h.at_ hp
  refine ⟨b1, o, e, by rw [World.size_setCell]; exact hlt, fun k hk => ?_⟩
  obtain ⟨A1, n1, c1, B1, m1, d1, hT⟩ := hc k hk
  have x0 := hT.c0
  have f : ∀ q, q ≤ 2 → (W.setCell ⟨gs, 1, none⟩ u).cell? ⟨b1, o + k * 3 + q, none⟩ = W.cell? ⟨b1, o + k * 3 + q, none⟩ := fun q hq => by
    refine World.cell?_setCell_other _ _ _ _ (fun e => ?_)
    injection e with e1 e2
    subst e1
    rcases (show o + k * 3 = 0 ∨ o + k * 3 = 1 by omega) with y | y
    · rw [y, h0] at x0; cases x0
    · rw [y, h1] at x0; cases x0
  exact ⟨A1, n1, c1, B1, m1, d1, (f 0 (by omega)).trans hT.c0, (f 1 (by omega)).trans hT.c1, (f 2 (by omega)).trans hT.c2, hT.rd.set_other h1 (by intro z e; cases e) u, hT.nc, hT.cm, rdI_set_other hT.ri h1 (by intro k z e; cases e) u, hT.md, hT.dm⟩
theorem OwQ.set1 {W : World} {B : Nat} {A : Option Addr} {j c : Nat} (h : OwQ W B A j c) {gs : Nat} (hg : gs < B) {z : Int} {L : Option Addr} {a b : Nat} (h0 : W.cell? ⟨gs, 0, none⟩ = some (.int .i64 z)) (h1 : W.cell? ⟨gs, 1, none⟩ = some (.slice L a b)) (u : Value) : OwQ (W.setCell ⟨gs, 1, none⟩ u) B A j c := by
  have hc := h.cap.2.2
  obtain ⟨rs, hown, hl, hr⟩ := h.ex
  have hbl : ∀ q, q ≠ gs → (W.setCell ⟨gs, 1, none⟩ u).heap[q]? = W.heap[q]? := fun q hq => Below.heap_setCell W ⟨gs, 1, none⟩ u q hq
  refine ⟨h.kind.keep fun a ha => hbl _ (by have := (hc a ha).1; omega), rs, ?_, hl, fun k hk => ?_⟩
  · refine hown.kept (row := some gs) ⟨rfl, rfl, rfl, by rw [World.size_setCell]; exact Nat.le_refl _, fun k hk hne => hbl k (by intro e; subst e; exact hne rfl)⟩ ?_
    rcases A with _ | a
    · exact .inl rfl
    · exact .inr (by
        intro e
        have : a.block = gs := by injection e
        have := (hc a rfl).1
        omega)
  · obtain ⟨r1, r2, r3, r4⟩ := hr k hk
    obtain ⟨At, ct, p1, rt, n1, n2⟩ := r1.ex
    exact ⟨⟨by rw [World.size_setCell]; exact r1.lv, (World.cell?_of_block (hbl (rawQAt rs k).bv (by omega))).trans r1.v0, by rw [World.size_setCell]; exact r1.lp, (World.cell?_of_block (hbl (rawQAt rs k).bp (by omega))).trans r1.p0, At, ct, (World.cell?_of_block (hbl (rawQAt rs k).bp (by omega))).trans p1, rdT_slice h0 h1 rt u, n1, n2⟩, r2, r3, r4⟩
theorem run_app_lk (w : World) (ty : TypeId) (B : Nat) (A : Option Addr) (j c : Nat) (hown : OwQ w B A j c) (hB : B ≤ w.heap.size) (g n : Nat) {bv bp : Nat}
    (x : BxL w g 0 (some ⟨bv, 0, none⟩) 1 1 (some ⟨bp, 0, none⟩) 1 1) (hq : QD w bv bp) (hne : ∀ a, A = some a → bv ≠ a.block) (hbv : B ≤ bv ∧ B ≤ bp) (hj : j ≤ 1000000) :
    ∃ g' c' w', (Builtin.append_ #[22, 22] ty #[.slice A j c, .slice (some ⟨g, 0, none⟩) 1 n]).run Tryz.prog w = .ok (.slice (some ⟨g', 0, none⟩) (j + 1) c') w' ∧ OwQ w' B (some ⟨g', 0, none⟩) (j + 1) c' ∧ Below B w w' := by
  obtain ⟨i, hi, hz, hs, hb⟩ := info_parts infoLk
  have hBg := hown.cap.2.2
  obtain ⟨rs, ho, hl, hr⟩ := hown.ex
  obtain ⟨v', w', hrun, hown', hgr, hat, hk'⟩ := run_append_kind (P := Tryz.prog) (w := w) B 22 ty 51 i (.agg #[.int .i64 0, .slice none 0 0, .slice none 0 0]) 3 56 Tryz.underlying22 hi hz hs hb rfl (by omega) (.slice A j c) j (flatQ rs) ho ⟨g, 0, none⟩ 1 n [.int .i64 0, .slice (some ⟨bv, 0, none⟩) 1 1, .slice (some ⟨bp, 0, none⟩) 1 1] rfl
    (fun j u hu => by
      have ea : (⟨g, 0, none⟩ : Addr).add j = ⟨g, j, none⟩ := by unfold Addr.add; simp; exact Eq.symm
      rw [ea]
      match j, hu with
      | 0, hu => injection hu with hu; subst hu; exact x.c0
      | 1, hu => injection hu with hu; subst hu; exact x.c1
      | 2, hu => injection hu with hu; subst hu; exact x.c2)
    (fun u hu => by simp at hu; rcases hu with rfl | rfl | rfl <;> rfl) (by simp only [maxLen]; omega) (by omega) hB (by omega) kz hown.kind
    (fun u hu => by
      simp [Value.cells] at hu
      rcases hu with rfl | rfl
      · exact ⟨(fun b e => by cases e), fun k z e => by injection e with e1 e2; exact ⟨e1.symm, e2.symm⟩⟩
      · exact ⟨(fun b e => by cases e), fun k z e => by cases e⟩)
    (fun u hu => by
      simp at hu
      rcases hu with rfl | rfl | rfl
      · exact ⟨(fun b e => by cases e), fun k z e => by injection e with e1 e2; exact ⟨e1.symm, e2.symm⟩⟩
      · exact ⟨(fun b e => by cases e), fun k z e => by cases e⟩
      · exact ⟨(fun b e => by cases e), fun k z e => by cases e⟩)
  have keep : ∀ (bv bp : Nat), QD w bv bp → (∀ a, A = some a → bv ≠ a.block) → QD w' bv bp := by
    intro bv bp hq hne
    rcases ho.2 with ⟨e, _⟩ | ⟨g0, cap, cur, e, _, hh, _⟩
    · injection e with e1
      subst e1
      exact hq.next ⟨hgr.os, hgr.tape, hgr.output, hgr.size, fun q hq2 => hgr.block q hq2 (by simp [Value.ownBlock])⟩
    · injection e with e1 e2 e3
      subst e1 e3
      exact hq.but hh (hown.kind g0 _ _ cur _ rfl hh) hgr.size (fun q h1 h2 => hgr.block q h1 (by simp only [Value.ownBlock]; intro e; injection e with e; exact h2 e)) (hne _ rfl)
  rw [← flatQ_app rs ⟨bv, bp⟩] at hown'
  rcases hown'.2 with ⟨rfl, h1⟩ | ⟨g2, cap, cur, rfl, hg1, hh, hcap, hcap2, hcur, htake⟩
  · omega
  · have hg2 : ∀ b, b < w.heap.size → (∀ a, A = some a → b ≠ a.block) → b ≠ g2 := by
      intro b hb1 hb2 e1
      subst e1
      rcases hat with q | q
      · rcases A with _ | a
        · cases q
        · have : b = a.block := by injection q
          exact hb2 a rfl this
      · have : b = w.heap.size := by injection q
        omega
    refine ⟨g2, cap, w', hrun, ⟨hk', rs ++ [⟨bv, bp⟩], hown', by simp [hl], fun k hk => ?_⟩, ⟨hgr.os, hgr.tape, hgr.output, hgr.size, fun q hq => hgr.block q (by omega) ?_⟩⟩
    · rw [rawQAt_app, hl]
      by_cases h1 : k < j
      · rw [if_pos h1]
        obtain ⟨r1, r2, r3⟩ := hr k h1
        exact ⟨keep _ _ r1 r2, (fun a ha => by injection ha with ha; subst ha; exact hg2 _ r1.lv r2), r3⟩
      · rw [if_neg h1, if_pos (by omega)]
        exact ⟨keep _ _ hq hne, (fun a ha => by injection ha with ha; subst ha; exact hg2 _ hq.lv hne), hbv⟩
    · intro e
      rcases A with _ | a
      · cases e
      · injection e with e
        have := (hBg a rfl).1
        omega
theorem wp_app_lk {w : World} {o : Oper} {a : Act} {K : Act → World → Prop} {Q : Exit → Act → World → Prop} (s y : Operand)
    (ho : o.op = .call { callee := .builtin .append, args := #[s, y], argTypes := #[22, 22] })
    (B : Nat) (A : Option Addr) (j c : Nat) (g n : Nat) {bv bp : Nat} (hs : a.eval s = .slice A j c) (hy : a.eval y = .slice (some ⟨g, 0, none⟩) 1 n) (hown : OwQ w B A j c) (hB : B ≤ w.heap.size)
    (x : BxL w g 0 (some ⟨bv, 0, none⟩) 1 1 (some ⟨bp, 0, none⟩) 1 1) (hq : QD w bv bp) (hne : ∀ a, A = some a → bv ≠ a.block) (hbv : B ≤ bv ∧ B ≤ bp) (hj : j ≤ 1000000)
    (h : ∀ g' c' w', OwQ w' B (some ⟨g', 0, none⟩) (j + 1) c' → Below B w w' → K (a.put o.dst (.slice (some ⟨g', 0, none⟩) (j + 1) c')) w') : o.wp Tryz.prog a w K Q := by
  obtain ⟨g', c', w', hrun, h1, h2⟩ := run_app_lk w o.type B A j c hown hB g n x hq hne hbv hj
  unfold Oper.wp execOp
  simp only [ho, resolve, invoke, builtin, Sem.run_bind, Sem.run_pure, Result.andThen_ok, List.map_toArray, List.map_cons, List.map_nil, hs, hy, hrun]
  exact h g' c' w' h1 h2
theorem step_app_lk {w : World} {ops : Array Oper} {o : Oper} {a : Act} {K : Act → World → Prop} {Q : Exit → Act → World → Prop} {E : Prop} (hgd : o.guard = none) (s y : Operand)
    (ho : o.op = .call { callee := .builtin .append, args := #[s, y], argTypes := #[22, 22] })
    (B : Nat) (A : Option Addr) (j c : Nat) (g n : Nat) {bv bp : Nat} (hs : a.eval s = .slice A j c) (hy : a.eval y = .slice (some ⟨g, 0, none⟩) 1 n) (hown : OwQ w B A j c) (hB : B ≤ w.heap.size)
    (x : BxL w g 0 (some ⟨bv, 0, none⟩) 1 1 (some ⟨bp, 0, none⟩) 1 1) (hq : QD w bv bp) (hne : ∀ a, A = some a → bv ≠ a.block) (hbv : B ≤ bv ∧ B ≤ bp) (hj : j ≤ 1000000)
    (h : ∀ g' c' w', OwQ w' B (some ⟨g', 0, none⟩) (j + 1) c' → Below B w w' → K (a.put o.dst (.slice (some ⟨g', 0, none⟩) (j + 1) c')) w') :
    if Region.wanted o (yielded ops a.tmps) = true then Oper.wp Tryz.prog o a w K Q else E := by
  have hw : Region.wanted o (yielded ops a.tmps) = true := by simp [Region.wanted, hgd]
  rw [if_pos hw]
  exact wp_app_lk s y ho B A j c g n hs hy hown hB x hq hne hbv hj h
end Go.Proofs.YteabokkofoomkaaGreat
/- the law SystemSquares -/
set_option maxRecDepth 100000
namespace Go.Proofs.YteabokkofoomkaaGreat
open Go.RowKit Go.Shelf Go.Deep
def lks (N : Nat) : List Lnk := List.replicate N lk0
theorem lks_valid : ∀ N, N ≤ 3 → validS 1 (lks N) = true
  | 0, _ => by kernel_rfl
  | 1, _ => by kernel_rfl
  | 2, _ => by kernel_rfl
  | 3, _ => by kernel_rfl
  | _ + 4, h => absurd h (by omega)
theorem lks_only : ∀ N, N ≤ 3 → onlyEq (lks N) = true
  | 0, _ => by kernel_rfl
  | 1, _ => by kernel_rfl
  | 2, _ => by kernel_rfl
  | 3, _ => by kernel_rfl
  | _ + 4, h => absurd h (by omega)
theorem lks_at {N i : Nat} (h : i < N) : lnkAt (lks N) i = lk0 := by simp [lks, lnkAt, List.getD_eq_getElem?_getD, h]
theorem lks_ok {N : Nat} {xs : List Nat} (hv : validB false xs = true) (hs : small xs) : okLs (lks N) [⟨false, xs⟩] := by
  intro i hi j hj
  have hi2 : i < N := by unfold lks at hi; rwa [List.length_replicate] at hi
  rw [lks_at hi2] at hj ⊢
  obtain rfl : j = 0 := by have : lk0.ps.length = 1 := rfl; omega
  have e : allV (plyAt lk0.ps 0).ts (ownOf lk0.vs [⟨false, xs⟩]) (plyAt lk0.ps 0).ts.length = val xs := by
    show 0 + (tVal (trmOf ⟨1, unitE 1 0⟩) [⟨false, xs⟩]).natAbs = val xs
    have e2 : tVal (trmOf ⟨1, unitE 1 0⟩) [⟨false, xs⟩] = (1 : Int) * (1 * sgn false (val xs) ^ 1) := by
      show trZ (trmOf ⟨1, unitE 1 0⟩) * prodI (unitE 1 0) [⟨false, xs⟩] (unitE 1 0).length = _
      rw [show trZ (trmOf ⟨1, unitE 1 0⟩) = 1 from by kernel_rfl]
      rfl
    rw [e2, Int.pow_one, Int.one_mul, Int.one_mul, sgn_abs, Nat.zero_add]
  rw [e]
  exact Nat.lt_of_lt_of_le (val_lt hs) (pw_le (raw_le hv))
/-- the variable s -/
structure SV1 (W : World) (gs : Nat) (V : Int) (L : Option Addr) (j c : Nat) : Prop where
  bx : BxY W gs V L j c
  fr : ∀ o, W.frozen? ⟨gs, o, none⟩ = false
theorem SV1.new (W : World) : SV1 (W.alloc (boxS 1 none 0 0)) W.heap.size 1 none 0 0 :=
  ⟨BxY.new W 1 none 0 0, fun o => by simp only [World.frozen?, Go.heap_alloc_new]; simp⟩
section
variable {W W' : World} {gs : Nat} {V : Int} {L : Option Addr} {j c : Nat}
theorem SV1.next (h : SV1 W gs V L j c) (hb : Below W.heap.size W W') : SV1 W' gs V L j c :=
  ⟨h.bx.next hb, fun o => (hb.frozen (p := ⟨gs, o, none⟩) h.bx.lt).trans (h.fr o)⟩
theorem SV1.low (h : SV1 W gs V L j c) {B : Nat} (hg : gs < B) (hb : Below B W W') : SV1 W' gs V L j c := by
  have hk := hb.block gs hg
  exact ⟨⟨Nat.lt_of_lt_of_le h.bx.lt hb.size, (World.cell?_of_block hk).trans h.bx.c0, (World.cell?_of_block hk).trans h.bx.c1⟩, fun o => (World.frozen?_of_block hk).trans (h.fr o)⟩
theorem SV1.put (h : SV1 W gs V L j c) (L' : Option Addr) (j' c' : Nat) : SV1 (W.setCell ⟨gs, 1, none⟩ (.slice L' j' c')) gs V L' j' c' :=
  ⟨⟨by rw [World.size_setCell]; exact h.bx.lt, (World.cell?_setCell_other _ _ _ _ (by intro e; injection e with e1 e2; omega)).trans h.bx.c0, World.cell?_setCell_same _ _ _ h.bx.c1⟩, fun o => by rw [World.frozen?_setCell]; exact h.fr o⟩
end
theorem CE.low {W W' : World} {b o : Nat} {s : Bool} {A : Option Addr} {n c : Nat} (h : CE W b o s A n c) {B : Nat} (hg : b < B) (hb : Below B W W') : CE W' b o s A n c := by
  have hk := hb.block b hg
  exact ⟨Nat.lt_of_lt_of_le h.lt hb.size, (World.cell?_of_block hk).trans h.c0, (World.cell?_of_block hk).trans h.c1⟩
theorem CE.far {W : World} {b o : Nat} {s : Bool} {A : Option Addr} {n c : Nat} (h : CE W b o s A n c) {p : Addr} (hp : p.block ≠ b) (u : Value) : CE (W.setCell p u) b o s A n c :=
  ⟨by rw [World.size_setCell]; exact h.lt, (World.cell?_setCell_other _ _ _ _ (by intro e; subst e; exact hp rfl)).trans h.c0, (World.cell?_setCell_other _ _ _ _ (by intro e; subst e; exact hp rfl)).trans h.c1⟩
structure ZV (W : World) (b : Nat) : Prop where
  lt : b < W.heap.size
  c0 : W.cell? ⟨b, 0, none⟩ = some (.int .i64 0)
theorem ZV.next {W W' : World} {b : Nat} (h : ZV W b) (hb : Below W.heap.size W W') : ZV W' b := ⟨Nat.lt_of_lt_of_le h.lt hb.size, (hb.cell (p := ⟨b, 0, none⟩) h.lt).trans h.c0⟩
abbrev row1 (s : Bool) (A : Option Addr) (n c : Nat) : Obj := .cells #[.bool s, .slice A n c] 58
theorem rdN_one {W : World} {s : Bool} {A : Option Addr} {n c : Nat} {xs : List Nat} (h : Rd W A n xs) (hn : n ≤ c) (hc : c ≤ 9223372036854775807) : RdN (W.alloc (row1 s A n c)) (some ⟨W.heap.size, 0, none⟩) 1 [⟨s, xs⟩] :=
  ⟨rfl, fun _ => ⟨W.heap.size, 0, rfl, by simp, fun k hk => by
    obtain rfl : k = 0 := by omega
    exact ⟨A, n, c, by go_simp; rfl, by go_simp, h.below (bel_alloc W (row1 s A n c)), hn, hc⟩⟩⟩
set_option maxHeartbeats 16000000 in
theorem SystemSquares_c (s : Bool) (A : Option Addr) (n c : Nat) (xs : List Nat) (N : Nat) (hN : N < 256) (w : World) (h : Rd w A n xs) (hn : n ≤ c) (hc : c ≤ 9223372036854775807) :
    Calls Tryz.prog 7 #[.agg #[.bool s, .slice A n c], .int .u8 (N : Int)] w (IsB true w) := by
  have hb := bel_alloc w (row1 s A n c)
  have P := Lib.hid hb
  have CA := Lib.hid (show CE (w.alloc (row1 s A n c)) w.heap.size 0 s A n c from ⟨by simp, by go_simp, by go_simp⟩)
  have RA := Lib.hid h
  have HN := Lib.hid (And.intro hn hc)
  clear h hn hc hb
  go_enter Tryz.func7, Tryz.ntmps7
  go_upto_region 1 with (fail)
  generalize w.alloc (row1 s A n c) = W0 at P CA ⊢
  obtain ⟨g, hg⟩ : ∃ g, g = w.heap.size := ⟨_, rfl⟩
  have HG := Lib.hid hg
  rw [← hg] at CA ⊢
  clear hg
  have a0 := CA.out.c0
  have a1 := CA.out.c1
  go_wp2_with fail
  refine (refValid_c s A n c xs _ (RA.out.below P.out)).mono ?_
  rintro e w1 ⟨rfl, hb⟩
  replace P := Lib.hid (P.out.trans (hb.mono P.out.size))
  replace CA := Lib.hid (CA.out.next hb)
  clear hb a0 a1
  obtain ⟨v, hv⟩ : ∃ v, v = validB s xs := ⟨_, rfl⟩
  rw [← hv]
  have HV := Lib.hid hv
  clear hv
  have a0 := CA.out.c0
  cases v with
  | false =>
    clear a0
    go_wp2_with fail
    refine (awake9_c _).mono ?_
    rintro e w9 ⟨rfl, hb⟩
    replace P := Lib.hid (P.out.trans (hb.mono P.out.size))
    clear hb
    go_wp2
    go_ret
    exact ⟨rfl, P.out⟩
  | true =>
  cases s with
  | true =>
    go_wp2_with fail
    refine (awake9_c _).mono ?_
    rintro e w9 ⟨rfl, hb⟩
    replace P := Lib.hid (P.out.trans (hb.mono P.out.size))
    clear hb
    go_wp2
    go_ret
    exact ⟨rfl, P.out⟩
  | false =>
  by_cases h3 : 3 < N
  · have t1 : decide ((3 : Int) < (N : Int)) = true := decide_eq_true (by omega)
    have t1n : decide (3 < N) = true := decide_eq_true h3
    go_wp2_with fail
    refine (awake9_c _).mono ?_
    rintro e w9 ⟨rfl, hb⟩
    replace P := Lib.hid (P.out.trans (hb.mono P.out.size))
    clear hb
    go_wp2
    go_ret
    exact ⟨rfl, P.out⟩
  have t1 : decide ((3 : Int) < (N : Int)) = false := decide_eq_false (by omega)
  have t1n : decide (3 < N) = false := decide_eq_false h3
  have SB0 := Lib.hid (SV1.new w1)
  have k1 := bel_alloc w1 (boxS 1 none 0 0)
  replace P := Lib.hid (P.out.trans (k1.mono P.out.size))
  have CA2 := Lib.hid (CA.out.next k1)
  have HGS := Lib.hid (show g < w1.heap.size ∧ w1.heap.size < (w1.alloc (boxS 1 none 0 0)).heap.size from ⟨CA.out.lt, by simp⟩)
  clear k1 CA
  have CA := CA2
  clear CA2
  go_upto_region 4 with (fail)
  generalize w1.alloc (boxS 1 none 0 0) = W1 at SB0 P CA HGS ⊢
  obtain ⟨gs, hgs⟩ : ∃ x, x = w1.heap.size := ⟨_, rfl⟩
  rw [← hgs] at SB0 HGS ⊢
  have HGW := Lib.hid (show w.heap.size ≤ gs by have h1 := HG.out; have h2 := HGS.out.1; omega)
  clear hgs a0
  have hwN : IntKind.i64.wrap (N : Int) = (N : Int) := IntWalk.i64_in _ (by omega)
  go_wp2
  go_loopw [6] (fun v wr => ∃ (i cL : Nat) (L : Option Addr), v = .int .i64 (i : Int) ∧ i ≤ N ∧ Below w.heap.size w wr ∧ CE wr g 0 false A n c ∧ SV1 wr gs 1 L i cL ∧ OwQ wr (gs + 1) L i cL ∧ gs + 1 ≤ wr.heap.size) (fun v _ => N - (intOf v).toNat)
  case atStart => exact ⟨0, 0, none, rfl, Nat.zero_le _, P.out, CA.out, SB0.out, OwQ.nil _ _, by have := HGS.out.2; omega⟩
  case round =>
    obtain ⟨i, cL, L, rfl, hi, hp, hca, hsb, how, hsz⟩ := hrel
    clear P CA SB0
    have P := Lib.hid hp
    have CA := Lib.hid hca
    have SB := Lib.hid hsb
    have OW := Lib.hid how
    have HB1 := Lib.hid hsz
    clear hp hca hsb how hsz
    by_cases hiN : i < N
    · have t2 : decide ((i : Int) < (N : Int)) = true := decide_eq_true (by omega)
      have t2n : decide (i < N) = true := decide_eq_true hiN
      have SZ := Lib.hid (Nat.le_refl wr.heap.size)
      go_upto_region 7 with (fail)
      have HOB := Lib.hid (fun a ha => (OW.out.cap.2.2 a ha).2)
      refine wp_region_tail (S := (fun w' => w'.cell? ⟨gs, 1, none⟩ = some (.slice L i cL))) 8 (by kernel_rfl) (by kernel_rfl) (by intro c a d v w h; cases d <;> exact h) (cell_drq SB.out.bx.c1) (fun QT hT hP hHeld => ?_)
      simp only [List.extract_toArray, List.extract_eq_take_drop, List.drop_zero, Nat.sub_zero, List.take_succ_cons, List.take_zero]
      have HT := Lib.hid hT
      clear hT
      replace P := Lib.hid (P.out.trans ((Below.refl wr.heap.size wr).drew.mono P.out.size))
      replace SB := Lib.hid (SB.out.next (Below.refl wr.heap.size wr).drew)
      replace CA := Lib.hid (CA.out.next (Below.refl wr.heap.size wr).drew)
      replace OW := Lib.hid (OW.out.keep (Below.refl wr.heap.size wr).drew)
      replace SZ := Lib.hid (Nat.le_trans SZ.out (Below.refl wr.heap.size wr).drew.size)
      generalize wr.drew = D1 at P SB CA OW SZ hHeld ⊢
      refine take_on (i := 0) (d := (some 30)) (v := ?v1) rfl rfl (by kernel_rfl) (by kernel_rfl) (by kernel_rfl) (fun c a w h => hP c a _ _ w h) (by rfl) ?h1 (by assumption) ?r1
      case h1 => intro w hSw; have h0 := hSw; go_simp; rfl
      simp only [Act.put, List.setIfInBounds_toArray, List.set_cons_zero, List.set_cons_succ]
      refine take_on (i := 1) (d := (some 31)) (v := ?v2) rfl rfl (by kernel_rfl) (by kernel_rfl) (by kernel_rfl) (fun c a w h => hP c a _ _ w h) (by rfl) ?h2 (by assumption) ?r2
      case h2 => intro w hSw; have h0 := hSw; go_simp; rfl
      simp only [Act.put, List.setIfInBounds_toArray, List.set_cons_zero, List.set_cons_succ]
      refine wpAnyH_ready (rs := [2, 3]) (by kernel_rfl) (by simp) ?_
      refine AllReadyH.cons rfl (fun K hK => ?_) ?_
      ·
        go_simp
        have HBV := Lib.hid SZ.out
        have hb := bel_alloc D1 (.cells #[.int .i64 0] 3)
        have VZ := Lib.hid (show ZV (D1.alloc (.cells #[.int .i64 0] 3)) D1.heap.size from ⟨by simp, by go_simp⟩)
        replace P := Lib.hid (P.out.trans (hb.mono P.out.size))
        replace SB := Lib.hid (SB.out.next hb)
        replace CA := Lib.hid (CA.out.next hb)
        replace OW := Lib.hid (OW.out.keep hb)
        replace SZ := Lib.hid (Nat.le_trans SZ.out hb.size)
        clear hb hHeld
        generalize D1.alloc (.cells #[.int .i64 0] 3) = v2 at P SB CA OW SZ VZ ⊢
        generalize D1.heap.size = bv at VZ HBV ⊢
        refine hK.out _ _ (SB.out.bx.c1) (fun hHeld => ?_)
        clear hK K
        refine wpAnyH_ready (rs := [3]) (by kernel_rfl) (by simp) ?_
        refine AllReadyH.cons rfl (fun K hK => ?_) AllReadyH.nil
        go_simp
        refine (refVar_c 1 0 v2 (by omega) (by omega)).mono ?_
        rintro e v3 ⟨At, nt, ct, rfl, hT, hn, hc, hb⟩
        obtain rfl : nt = 1 := hT.len.symm
        have PT := Lib.hid (show PM v3 At 1 ct (varP 1 0) from ⟨hT, hn, hc⟩)
        replace P := Lib.hid (P.out.trans (hb.mono P.out.size))
        replace SB := Lib.hid (SB.out.next hb)
        replace CA := Lib.hid (CA.out.next hb)
        replace OW := Lib.hid (OW.out.keep hb)
        replace SZ := Lib.hid (Nat.le_trans SZ.out hb.size)
        replace VZ := Lib.hid (VZ.out.next hb)
        clear hb hHeld hT hn hc
        refine hK.out _ _ (SB.out.bx.c1) (fun hHeld => ?_)
        clear hK K
        refine wpAnyH_ready (rs := [4]) (by kernel_rfl) (by simp) ?_
        refine AllReadyH.cons rfl (fun K hK => ?_) AllReadyH.nil
        go_simp
        have HBP := Lib.hid SZ.out
        have hb := bel_alloc v3 (boxP 1 At 1 ct)
        have PV := Lib.hid (show BxP (v3.alloc (boxP 1 At 1 ct)) v3.heap.size 1 At 1 ct from BxP.new v3 1 At 1 ct)
        replace P := Lib.hid (P.out.trans (hb.mono P.out.size))
        replace SB := Lib.hid (SB.out.next hb)
        replace CA := Lib.hid (CA.out.next hb)
        replace OW := Lib.hid (OW.out.keep hb)
        replace SZ := Lib.hid (Nat.le_trans SZ.out hb.size)
        replace VZ := Lib.hid (VZ.out.next hb)
        replace PT := Lib.hid (PT.out.next hb)
        clear hb hHeld
        generalize v3.alloc (boxP 1 At 1 ct) = v4 at P SB CA OW SZ VZ PT PV ⊢
        generalize v3.heap.size = bp at PV HBP ⊢
        refine hK.out _ _ (SB.out.bx.c1) (fun hHeld => ?_)
        clear hK K
        refine take_on (i := 5) (d := (some 35)) (v := ?v3) rfl rfl (by kernel_rfl) (by kernel_rfl) (by kernel_rfl) (fun c a w h => hP c a _ _ w h) (by rfl) ?h3 (by assumption) ?r3
        case h3 => intro w hSw; have h0 := hSw; go_simp; rfl
        simp only [Act.put, List.setIfInBounds_toArray, List.set_cons_zero, List.set_cons_succ]
        refine wpAnyH_ready (rs := [6]) (by kernel_rfl) (by simp) ?_
        refine AllReadyH.cons rfl (fun K hK => ?_) AllReadyH.nil
        go_simp
        have hb := bel_alloc v4 (boxL 0 (some ⟨bv, 0, none⟩) 1 1 (some ⟨bp, 0, none⟩) 1 1)
        have XL := Lib.hid (show BxL (v4.alloc (boxL 0 (some ⟨bv, 0, none⟩) 1 1 (some ⟨bp, 0, none⟩) 1 1)) v4.heap.size 0 (some ⟨bv, 0, none⟩) 1 1 (some ⟨bp, 0, none⟩) 1 1 from BxL.new v4 0 (some ⟨bv, 0, none⟩) 1 1 (some ⟨bp, 0, none⟩) 1 1)
        replace P := Lib.hid (P.out.trans (hb.mono P.out.size))
        replace SB := Lib.hid (SB.out.next hb)
        replace CA := Lib.hid (CA.out.next hb)
        replace OW := Lib.hid (OW.out.keep hb)
        replace SZ := Lib.hid (Nat.le_trans SZ.out hb.size)
        replace VZ := Lib.hid (VZ.out.next hb)
        replace PT := Lib.hid (PT.out.next hb)
        replace PV := Lib.hid (PV.out.next hb)
        clear hb hHeld
        generalize v4.alloc (boxL 0 (some ⟨bv, 0, none⟩) 1 1 (some ⟨bp, 0, none⟩) 1 1) = v5 at P SB CA OW SZ VZ PT PV XL ⊢
        generalize v4.heap.size = gl at XL  ⊢
        refine hK.out _ _ (SB.out.bx.c1) (fun hHeld => ?_)
        clear hK K
        refine wpAnyH_ready (rs := [7]) (by kernel_rfl) (by simp) ?_
        refine AllReadyH.cons rfl (fun K hK => ?_) AllReadyH.nil
        have hqd : QD v5 bv bp := ⟨VZ.out.lt, VZ.out.c0, PV.out.lt, PV.out.c0, At, ct, PV.out.c1, PT.out.rt, PT.out.nc, PT.out.cm⟩
        have hne : ∀ a, L = some a → bv ≠ a.block := fun a ha => by
          have h1 := HOB.out a ha
          have h2 := HBV.out
          omega
        refine step_app_lk rfl (.tmp 31) (.tmp 36) rfl (gs + 1) L i cL gl 1 rfl rfl OW.out (by have h1 := HB1.out; have h2 := SZ.out; omega) XL.out hqd hne (by have h1 := HB1.out; have h2 := HBV.out; have h3 := HBP.out; omega) (by omega) ?_
        intro g' c' w96 h1 hb
        have OW2 := Lib.hid h1
        have P2 := Lib.hid (P.out.trans (hb.mono (by have := HGW.out; omega)))
        have CA2 := Lib.hid (CA.out.low (by have := HGS.out.1; omega) hb)
        have SB2 := Lib.hid (SB.out.low (by omega) hb)
        have SZ2 := Lib.hid (Nat.le_trans SZ.out hb.size)
        clear h1 hb hqd hne OW P CA SB SZ VZ PT PV XL hHeld HBV HBP
        have OW := OW2
        have P := P2
        have CA := CA2
        have SB := SB2
        have SZ := SZ2
        clear OW2 P2 CA2 SB2 SZ2
        refine hK.out _ _ (SB.out.bx.c1) (fun hHeld => ?_)
        clear hK K
        clear hHeld
        refine wpAnyH_done (by kernel_rfl) ?_ _
        refine HT.out _ _ ?_
        clear HT hP QT
        have c0 := SB.out.bx.c0
        have c1 := SB.out.bx.c1
        have f1 := SB.out.fr 1
        refine wpList_step fun K hK => ?_
        go_simp
        refine hK _ _ ?_
        clear hK K
        refine wpList_step fun K hK => ?_
        go_simp
        refine hK _ _ ?_
        clear hK K
        refine wpList_nil ?_
        have OW2 := Lib.hid (OW.out.set1 (by omega) c0 c1 (.slice (some ⟨g', 0, none⟩) (i + 1) c'))
        have SB2 := Lib.hid (SB.out.put (some ⟨g', 0, none⟩) (i + 1) c')
        have CA2 := Lib.hid (CA.out.far (p := ⟨gs, 1, none⟩) (by have := HGS.out.1; show gs ≠ g; omega) (.slice (some ⟨g', 0, none⟩) (i + 1) c'))
        have P2 := Lib.hid (P.out.setCell (p := ⟨gs, 1, none⟩) HGW.out (.slice (some ⟨g', 0, none⟩) (i + 1) c'))
        have SZ2 := Lib.hid (show gs + 1 ≤ (w96.setCell ⟨gs, 1, none⟩ (.slice (some ⟨g', 0, none⟩) (i + 1) c')).heap.size by rw [World.size_setCell]; exact Nat.le_trans HB1.out SZ.out)
        clear c0 c1 f1 OW SB CA P SZ HOB
        generalize w96.setCell ⟨gs, 1, none⟩ (.slice (some ⟨g', 0, none⟩) (i + 1) c') = W9 at OW2 SB2 CA2 P2 SZ2 ⊢
        go_wp2
        go_roundw
        case measure => simp [intOf]; omega
        case rel => exact ⟨i + 1, c', some ⟨g', 0, none⟩, by go_num, by omega, P2.out, CA2.out, SB2.out, OW2.out, SZ2.out⟩
      refine AllReadyH.cons rfl (fun K hK => ?_) ?_
      ·
        go_simp
        refine (refVar_c 1 0 D1 (by omega) (by omega)).mono ?_
        rintro e v7 ⟨At, nt, ct, rfl, hT, hn, hc, hb⟩
        obtain rfl : nt = 1 := hT.len.symm
        have PT := Lib.hid (show PM v7 At 1 ct (varP 1 0) from ⟨hT, hn, hc⟩)
        replace P := Lib.hid (P.out.trans (hb.mono P.out.size))
        replace SB := Lib.hid (SB.out.next hb)
        replace CA := Lib.hid (CA.out.next hb)
        replace OW := Lib.hid (OW.out.keep hb)
        replace SZ := Lib.hid (Nat.le_trans SZ.out hb.size)
        clear hb hHeld hT hn hc
        refine hK.out _ _ (SB.out.bx.c1) (fun hHeld => ?_)
        clear hK K
        refine wpAnyH_ready (rs := [2, 4]) (by kernel_rfl) (by simp) ?_
        refine AllReadyH.cons rfl (fun K hK => ?_) ?_
        ·
          go_simp
          have HBV := Lib.hid SZ.out
          have hb := bel_alloc v7 (.cells #[.int .i64 0] 3)
          have VZ := Lib.hid (show ZV (v7.alloc (.cells #[.int .i64 0] 3)) v7.heap.size from ⟨by simp, by go_simp⟩)
          replace P := Lib.hid (P.out.trans (hb.mono P.out.size))
          replace SB := Lib.hid (SB.out.next hb)
          replace CA := Lib.hid (CA.out.next hb)
          replace OW := Lib.hid (OW.out.keep hb)
          replace SZ := Lib.hid (Nat.le_trans SZ.out hb.size)
          replace PT := Lib.hid (PT.out.next hb)
          clear hb hHeld
          generalize v7.alloc (.cells #[.int .i64 0] 3) = v8 at P SB CA OW SZ PT VZ ⊢
          generalize v7.heap.size = bv at VZ HBV ⊢
          refine hK.out _ _ (SB.out.bx.c1) (fun hHeld => ?_)
          clear hK K
          refine wpAnyH_ready (rs := [4]) (by kernel_rfl) (by simp) ?_
          refine AllReadyH.cons rfl (fun K hK => ?_) AllReadyH.nil
          go_simp
          have HBP := Lib.hid SZ.out
          have hb := bel_alloc v8 (boxP 1 At 1 ct)
          have PV := Lib.hid (show BxP (v8.alloc (boxP 1 At 1 ct)) v8.heap.size 1 At 1 ct from BxP.new v8 1 At 1 ct)
          replace P := Lib.hid (P.out.trans (hb.mono P.out.size))
          replace SB := Lib.hid (SB.out.next hb)
          replace CA := Lib.hid (CA.out.next hb)
          replace OW := Lib.hid (OW.out.keep hb)
          replace SZ := Lib.hid (Nat.le_trans SZ.out hb.size)
          replace PT := Lib.hid (PT.out.next hb)
          replace VZ := Lib.hid (VZ.out.next hb)
          clear hb hHeld
          generalize v8.alloc (boxP 1 At 1 ct) = v9 at P SB CA OW SZ PT VZ PV ⊢
          generalize v8.heap.size = bp at PV HBP ⊢
          refine hK.out _ _ (SB.out.bx.c1) (fun hHeld => ?_)
          clear hK K
          refine take_on (i := 5) (d := (some 35)) (v := ?v4) rfl rfl (by kernel_rfl) (by kernel_rfl) (by kernel_rfl) (fun c a w h => hP c a _ _ w h) (by rfl) ?h4 (by assumption) ?r4
          case h4 => intro w hSw; have h0 := hSw; go_simp; rfl
          simp only [Act.put, List.setIfInBounds_toArray, List.set_cons_zero, List.set_cons_succ]
          refine wpAnyH_ready (rs := [6]) (by kernel_rfl) (by simp) ?_
          refine AllReadyH.cons rfl (fun K hK => ?_) AllReadyH.nil
          go_simp
          have hb := bel_alloc v9 (boxL 0 (some ⟨bv, 0, none⟩) 1 1 (some ⟨bp, 0, none⟩) 1 1)
          have XL := Lib.hid (show BxL (v9.alloc (boxL 0 (some ⟨bv, 0, none⟩) 1 1 (some ⟨bp, 0, none⟩) 1 1)) v9.heap.size 0 (some ⟨bv, 0, none⟩) 1 1 (some ⟨bp, 0, none⟩) 1 1 from BxL.new v9 0 (some ⟨bv, 0, none⟩) 1 1 (some ⟨bp, 0, none⟩) 1 1)
          replace P := Lib.hid (P.out.trans (hb.mono P.out.size))
          replace SB := Lib.hid (SB.out.next hb)
          replace CA := Lib.hid (CA.out.next hb)
          replace OW := Lib.hid (OW.out.keep hb)
          replace SZ := Lib.hid (Nat.le_trans SZ.out hb.size)
          replace PT := Lib.hid (PT.out.next hb)
          replace VZ := Lib.hid (VZ.out.next hb)
          replace PV := Lib.hid (PV.out.next hb)
          clear hb hHeld
          generalize v9.alloc (boxL 0 (some ⟨bv, 0, none⟩) 1 1 (some ⟨bp, 0, none⟩) 1 1) = v10 at P SB CA OW SZ PT VZ PV XL ⊢
          generalize v9.heap.size = gl at XL  ⊢
          refine hK.out _ _ (SB.out.bx.c1) (fun hHeld => ?_)
          clear hK K
          refine wpAnyH_ready (rs := [7]) (by kernel_rfl) (by simp) ?_
          refine AllReadyH.cons rfl (fun K hK => ?_) AllReadyH.nil
          have hqd : QD v10 bv bp := ⟨VZ.out.lt, VZ.out.c0, PV.out.lt, PV.out.c0, At, ct, PV.out.c1, PT.out.rt, PT.out.nc, PT.out.cm⟩
          have hne : ∀ a, L = some a → bv ≠ a.block := fun a ha => by
            have h1 := HOB.out a ha
            have h2 := HBV.out
            omega
          refine step_app_lk rfl (.tmp 31) (.tmp 36) rfl (gs + 1) L i cL gl 1 rfl rfl OW.out (by have h1 := HB1.out; have h2 := SZ.out; omega) XL.out hqd hne (by have h1 := HB1.out; have h2 := HBV.out; have h3 := HBP.out; omega) (by omega) ?_
          intro g' c' w911 h1 hb
          have OW2 := Lib.hid h1
          have P2 := Lib.hid (P.out.trans (hb.mono (by have := HGW.out; omega)))
          have CA2 := Lib.hid (CA.out.low (by have := HGS.out.1; omega) hb)
          have SB2 := Lib.hid (SB.out.low (by omega) hb)
          have SZ2 := Lib.hid (Nat.le_trans SZ.out hb.size)
          clear h1 hb hqd hne OW P CA SB SZ VZ PT PV XL hHeld HBV HBP
          have OW := OW2
          have P := P2
          have CA := CA2
          have SB := SB2
          have SZ := SZ2
          clear OW2 P2 CA2 SB2 SZ2
          refine hK.out _ _ (SB.out.bx.c1) (fun hHeld => ?_)
          clear hK K
          clear hHeld
          refine wpAnyH_done (by kernel_rfl) ?_ _
          refine HT.out _ _ ?_
          clear HT hP QT
          have c0 := SB.out.bx.c0
          have c1 := SB.out.bx.c1
          have f1 := SB.out.fr 1
          refine wpList_step fun K hK => ?_
          go_simp
          refine hK _ _ ?_
          clear hK K
          refine wpList_step fun K hK => ?_
          go_simp
          refine hK _ _ ?_
          clear hK K
          refine wpList_nil ?_
          have OW2 := Lib.hid (OW.out.set1 (by omega) c0 c1 (.slice (some ⟨g', 0, none⟩) (i + 1) c'))
          have SB2 := Lib.hid (SB.out.put (some ⟨g', 0, none⟩) (i + 1) c')
          have CA2 := Lib.hid (CA.out.far (p := ⟨gs, 1, none⟩) (by have := HGS.out.1; show gs ≠ g; omega) (.slice (some ⟨g', 0, none⟩) (i + 1) c'))
          have P2 := Lib.hid (P.out.setCell (p := ⟨gs, 1, none⟩) HGW.out (.slice (some ⟨g', 0, none⟩) (i + 1) c'))
          have SZ2 := Lib.hid (show gs + 1 ≤ (w911.setCell ⟨gs, 1, none⟩ (.slice (some ⟨g', 0, none⟩) (i + 1) c')).heap.size by rw [World.size_setCell]; exact Nat.le_trans HB1.out SZ.out)
          clear c0 c1 f1 OW SB CA P SZ HOB
          generalize w911.setCell ⟨gs, 1, none⟩ (.slice (some ⟨g', 0, none⟩) (i + 1) c') = W9 at OW2 SB2 CA2 P2 SZ2 ⊢
          go_wp2
          go_roundw
          case measure => simp [intOf]; omega
          case rel => exact ⟨i + 1, c', some ⟨g', 0, none⟩, by go_num, by omega, P2.out, CA2.out, SB2.out, OW2.out, SZ2.out⟩
        refine AllReadyH.cons rfl (fun K hK => ?_) ?_
        ·
          go_simp
          have HBP := Lib.hid SZ.out
          have hb := bel_alloc v7 (boxP 1 At 1 ct)
          have PV := Lib.hid (show BxP (v7.alloc (boxP 1 At 1 ct)) v7.heap.size 1 At 1 ct from BxP.new v7 1 At 1 ct)
          replace P := Lib.hid (P.out.trans (hb.mono P.out.size))
          replace SB := Lib.hid (SB.out.next hb)
          replace CA := Lib.hid (CA.out.next hb)
          replace OW := Lib.hid (OW.out.keep hb)
          replace SZ := Lib.hid (Nat.le_trans SZ.out hb.size)
          replace PT := Lib.hid (PT.out.next hb)
          clear hb hHeld
          generalize v7.alloc (boxP 1 At 1 ct) = v12 at P SB CA OW SZ PT PV ⊢
          generalize v7.heap.size = bp at PV HBP ⊢
          refine hK.out _ _ (SB.out.bx.c1) (fun hHeld => ?_)
          clear hK K
          refine wpAnyH_ready (rs := [2]) (by kernel_rfl) (by simp) ?_
          refine AllReadyH.cons rfl (fun K hK => ?_) AllReadyH.nil
          go_simp
          have HBV := Lib.hid SZ.out
          have hb := bel_alloc v12 (.cells #[.int .i64 0] 3)
          have VZ := Lib.hid (show ZV (v12.alloc (.cells #[.int .i64 0] 3)) v12.heap.size from ⟨by simp, by go_simp⟩)
          replace P := Lib.hid (P.out.trans (hb.mono P.out.size))
          replace SB := Lib.hid (SB.out.next hb)
          replace CA := Lib.hid (CA.out.next hb)
          replace OW := Lib.hid (OW.out.keep hb)
          replace SZ := Lib.hid (Nat.le_trans SZ.out hb.size)
          replace PT := Lib.hid (PT.out.next hb)
          replace PV := Lib.hid (PV.out.next hb)
          clear hb hHeld
          generalize v12.alloc (.cells #[.int .i64 0] 3) = v13 at P SB CA OW SZ PT PV VZ ⊢
          generalize v12.heap.size = bv at VZ HBV ⊢
          refine hK.out _ _ (SB.out.bx.c1) (fun hHeld => ?_)
          clear hK K
          refine take_on (i := 5) (d := (some 35)) (v := ?v5) rfl rfl (by kernel_rfl) (by kernel_rfl) (by kernel_rfl) (fun c a w h => hP c a _ _ w h) (by rfl) ?h5 (by assumption) ?r5
          case h5 => intro w hSw; have h0 := hSw; go_simp; rfl
          simp only [Act.put, List.setIfInBounds_toArray, List.set_cons_zero, List.set_cons_succ]
          refine wpAnyH_ready (rs := [6]) (by kernel_rfl) (by simp) ?_
          refine AllReadyH.cons rfl (fun K hK => ?_) AllReadyH.nil
          go_simp
          have hb := bel_alloc v13 (boxL 0 (some ⟨bv, 0, none⟩) 1 1 (some ⟨bp, 0, none⟩) 1 1)
          have XL := Lib.hid (show BxL (v13.alloc (boxL 0 (some ⟨bv, 0, none⟩) 1 1 (some ⟨bp, 0, none⟩) 1 1)) v13.heap.size 0 (some ⟨bv, 0, none⟩) 1 1 (some ⟨bp, 0, none⟩) 1 1 from BxL.new v13 0 (some ⟨bv, 0, none⟩) 1 1 (some ⟨bp, 0, none⟩) 1 1)
          replace P := Lib.hid (P.out.trans (hb.mono P.out.size))
          replace SB := Lib.hid (SB.out.next hb)
          replace CA := Lib.hid (CA.out.next hb)
          replace OW := Lib.hid (OW.out.keep hb)
          replace SZ := Lib.hid (Nat.le_trans SZ.out hb.size)
          replace PT := Lib.hid (PT.out.next hb)
          replace PV := Lib.hid (PV.out.next hb)
          replace VZ := Lib.hid (VZ.out.next hb)
          clear hb hHeld
          generalize v13.alloc (boxL 0 (some ⟨bv, 0, none⟩) 1 1 (some ⟨bp, 0, none⟩) 1 1) = v14 at P SB CA OW SZ PT PV VZ XL ⊢
          generalize v13.heap.size = gl at XL  ⊢
          refine hK.out _ _ (SB.out.bx.c1) (fun hHeld => ?_)
          clear hK K
          refine wpAnyH_ready (rs := [7]) (by kernel_rfl) (by simp) ?_
          refine AllReadyH.cons rfl (fun K hK => ?_) AllReadyH.nil
          have hqd : QD v14 bv bp := ⟨VZ.out.lt, VZ.out.c0, PV.out.lt, PV.out.c0, At, ct, PV.out.c1, PT.out.rt, PT.out.nc, PT.out.cm⟩
          have hne : ∀ a, L = some a → bv ≠ a.block := fun a ha => by
            have h1 := HOB.out a ha
            have h2 := HBV.out
            omega
          refine step_app_lk rfl (.tmp 31) (.tmp 36) rfl (gs + 1) L i cL gl 1 rfl rfl OW.out (by have h1 := HB1.out; have h2 := SZ.out; omega) XL.out hqd hne (by have h1 := HB1.out; have h2 := HBV.out; have h3 := HBP.out; omega) (by omega) ?_
          intro g' c' w915 h1 hb
          have OW2 := Lib.hid h1
          have P2 := Lib.hid (P.out.trans (hb.mono (by have := HGW.out; omega)))
          have CA2 := Lib.hid (CA.out.low (by have := HGS.out.1; omega) hb)
          have SB2 := Lib.hid (SB.out.low (by omega) hb)
          have SZ2 := Lib.hid (Nat.le_trans SZ.out hb.size)
          clear h1 hb hqd hne OW P CA SB SZ VZ PT PV XL hHeld HBV HBP
          have OW := OW2
          have P := P2
          have CA := CA2
          have SB := SB2
          have SZ := SZ2
          clear OW2 P2 CA2 SB2 SZ2
          refine hK.out _ _ (SB.out.bx.c1) (fun hHeld => ?_)
          clear hK K
          clear hHeld
          refine wpAnyH_done (by kernel_rfl) ?_ _
          refine HT.out _ _ ?_
          clear HT hP QT
          have c0 := SB.out.bx.c0
          have c1 := SB.out.bx.c1
          have f1 := SB.out.fr 1
          refine wpList_step fun K hK => ?_
          go_simp
          refine hK _ _ ?_
          clear hK K
          refine wpList_step fun K hK => ?_
          go_simp
          refine hK _ _ ?_
          clear hK K
          refine wpList_nil ?_
          have OW2 := Lib.hid (OW.out.set1 (by omega) c0 c1 (.slice (some ⟨g', 0, none⟩) (i + 1) c'))
          have SB2 := Lib.hid (SB.out.put (some ⟨g', 0, none⟩) (i + 1) c')
          have CA2 := Lib.hid (CA.out.far (p := ⟨gs, 1, none⟩) (by have := HGS.out.1; show gs ≠ g; omega) (.slice (some ⟨g', 0, none⟩) (i + 1) c'))
          have P2 := Lib.hid (P.out.setCell (p := ⟨gs, 1, none⟩) HGW.out (.slice (some ⟨g', 0, none⟩) (i + 1) c'))
          have SZ2 := Lib.hid (show gs + 1 ≤ (w915.setCell ⟨gs, 1, none⟩ (.slice (some ⟨g', 0, none⟩) (i + 1) c')).heap.size by rw [World.size_setCell]; exact Nat.le_trans HB1.out SZ.out)
          clear c0 c1 f1 OW SB CA P SZ HOB
          generalize w915.setCell ⟨gs, 1, none⟩ (.slice (some ⟨g', 0, none⟩) (i + 1) c') = W9 at OW2 SB2 CA2 P2 SZ2 ⊢
          go_wp2
          go_roundw
          case measure => simp [intOf]; omega
          case rel => exact ⟨i + 1, c', some ⟨g', 0, none⟩, by go_num, by omega, P2.out, CA2.out, SB2.out, OW2.out, SZ2.out⟩
        exact AllReadyH.nil
      exact AllReadyH.nil
    · have e : i = N := by omega
      have t2 : decide ((i : Int) < (N : Int)) = false := decide_eq_false (by omega)
      have t2n : decide (i < N) = false := decide_eq_false hiN
      rw [e] at SB OW
      clear e hi hiN
      have RL := Lib.hid (show RdL wr L N (lks N) from OW.out.rd)
      clear OW
      have s0 := SB.out.bx.c0
      have s1 := SB.out.bx.c1
      have a0 := CA.out.c0
      have a1 := CA.out.c1
      have k1 := bel_alloc wr (row1 false A n c)
      have RX := Lib.hid (rdN_one (W := wr) (s := false) (RA.out.below P.out) HN.out.1 HN.out.2)
      have HOK := Lib.hid (And.intro (lks_valid N (by omega)) (And.intro (lks_only N (by omega)) (lks_ok (N := N) HV.out.symm RA.out.sm)))
      have HAB := Lib.hid (show allB [⟨false, xs⟩] = true from decide_eq_true fun i hi => by
        obtain rfl : i = 0 := by simp at hi; omega
        exact HV.out.symm)
      have HNB := Lib.hid (show natB [⟨false, xs⟩] = true from decide_eq_true fun i hi => by
        obtain rfl : i = 0 := by simp at hi; omega
        rfl)
      replace P := Lib.hid (P.out.trans (k1.mono P.out.size))
      replace CA := Lib.hid (CA.out.next k1)
      replace SB := Lib.hid (SB.out.next k1)
      replace RL := Lib.hid (RL.out.below k1)
      clear k1
      go_wp2_with fail
      clear s0 s1 a0 a1
      generalize wr.alloc (row1 false A n c) = W2 at RX P CA SB RL ⊢
      generalize wr.heap.size = gx at RX ⊢
      refine (refSysValue_c 1 L N cL (lks N) (some ⟨gx, 0, none⟩) 1 1 [⟨false, xs⟩] W2 RL.out RX.out HOK.out.1 HAB.out HOK.out.2.1 rfl HOK.out.2.2).mono ?_
      rintro e w3 ⟨t7, B7, m7, d7, rfl, hb, hi7⟩
      have HL := Lib.hid (show (lks N).length = N from List.length_replicate ..)
      rw [HL.out] at hi7 ⊢
      replace P := Lib.hid (P.out.trans (hb.mono P.out.size))
      replace CA := Lib.hid (CA.out.next hb)
      replace SB := Lib.hid (SB.out.next hb)
      replace RL := Lib.hid (RL.out.below hb)
      clear hb RX
      obtain ⟨fb, hfb⟩ : ∃ x, x = fitS (lks N) [⟨false, xs⟩] N := ⟨_, rfl⟩
      rw [← hfb] at hi7 ⊢
      have HFB := Lib.hid hfb
      have I7 := Lib.hid hi7
      clear hfb hi7
      have k1 := bel_alloc w3 (row1 t7 B7 m7 d7)
      have CW := Lib.hid (show CE (w3.alloc (row1 t7 B7 m7 d7)) w3.heap.size 0 t7 B7 m7 d7 from ⟨by simp, by go_simp, by go_simp⟩)
      replace I7 := Lib.hid (show fb = true → Iv (w3.alloc (row1 t7 B7 m7 d7)) (sqS (lks N) [⟨false, xs⟩] N) t7 B7 m7 d7 from fun q => (I7.out q).below k1)
      replace P := Lib.hid (P.out.trans (k1.mono P.out.size))
      replace CA := Lib.hid (CA.out.next k1)
      replace SB := Lib.hid (SB.out.next k1)
      replace RL := Lib.hid (RL.out.below k1)
      clear k1
      go_upto_region 9 with (fail)
      generalize w3.alloc (row1 t7 B7 m7 d7) = W3 at CW I7 P CA SB RL ⊢
      generalize w3.heap.size = gw at CW ⊢
      have s0 := SB.out.bx.c0
      have s1 := SB.out.bx.c1
      have a0 := CA.out.c0
      have a1 := CA.out.c1
      have k1 := bel_alloc W3 (row1 false A n c)
      have RX := Lib.hid (rdN_one (W := W3) (s := false) (RA.out.below P.out) HN.out.1 HN.out.2)
      replace I7 := Lib.hid (show fb = true → Iv (W3.alloc (row1 false A n c)) (sqS (lks N) [⟨false, xs⟩] N) t7 B7 m7 d7 from fun q => (I7.out q).below k1)
      replace P := Lib.hid (P.out.trans (k1.mono P.out.size))
      replace CW := Lib.hid (CW.out.next k1)
      replace RL := Lib.hid (RL.out.below k1)
      clear k1
      go_wp2_with fail
      clear s0 s1 a0 a1 CA SB
      generalize W3.alloc (row1 false A n c) = W4 at RX P CW RL I7 ⊢
      generalize W3.heap.size = gy at RX ⊢
      refine (sysValue_c 1 L N cL (lks N) (some ⟨gy, 0, none⟩) 1 1 [⟨false, xs⟩] W4 RL.out RX.out (by omega) (fun _ _ => HOK.out.2.2)).mono ?_
      rintro e w5 hQ
      obtain ⟨t8, B8, m8, d8, k8, rfl, hb, hd8⟩ := hQ.val (by rw [HOK.out.1, HAB.out]; rfl) (by rw [HOK.out.2.1, HNB.out]; rfl)
      rw [HL.out, ← HFB.out] at hd8
      replace P := Lib.hid (P.out.trans (hb.mono P.out.size))
      replace CW := Lib.hid (CW.out.next hb)
      replace I7 := Lib.hid (show fb = true → Iv w5 (sqS (lks N) [⟨false, xs⟩] N) t7 B7 m7 d7 from fun q => (I7.out q).below hb)
      have HD := Lib.hid hd8
      clear hb hQ hd8 RX RL
      have k1 := bel_alloc w5 (row1 t8 B8 m8 d8)
      have CV := Lib.hid (show CE (w5.alloc (row1 t8 B8 m8 d8)) w5.heap.size 0 t8 B8 m8 d8 from ⟨by simp, by go_simp, by go_simp⟩)
      replace P := Lib.hid (P.out.trans (k1.mono P.out.size))
      replace CW := Lib.hid (CW.out.next k1)
      replace I7 := Lib.hid (show fb = true → Iv (w5.alloc (row1 t8 B8 m8 d8)) (sqS (lks N) [⟨false, xs⟩] N) t7 B7 m7 d7 from fun q => (I7.out q).below k1)
      replace HD := Lib.hid (show (k8 = 0 ∧ fb = true ∧ Iv (w5.alloc (row1 t8 B8 m8 d8)) (sqS (lks N) [⟨false, xs⟩] N) t8 B8 m8 d8) ∨ (k8 = 4 ∧ fb = false ∧ t8 = false ∧ B8 = none ∧ m8 = 0 ∧ d8 = 0) from HD.out.imp (fun q => ⟨q.1, q.2.1, q.2.2.below k1⟩) id)
      clear k1
      go_upto_region 10 with (fail)
      generalize w5.alloc (row1 t8 B8 m8 d8) = W5 at CV P CW I7 HD ⊢
      generalize w5.heap.size = gv at CV ⊢
      rcases HD.out with ⟨rfl, rfl, iv8⟩ | ⟨rfl, rfl, rfl, rfl, rfl, rfl⟩
      · have iv7 := I7.out rfl
        have HE := Lib.hid (show Calls Tryz.prog 29 #[.agg #[.bool t8, .slice B8 m8 d8], .agg #[.bool t7, .slice B7 m7 d7]] W5 (fun e w' => e = .returned (.bool true) ∧ Below W5.heap.size W5 w') from same_eq iv8.is iv7.is iv8.sz (Nat.le_refl _) rfl)
        clear iv7 iv8 HD I7
        have v0 := CV.out.c0
        have v1 := CV.out.c1
        have x0 := CW.out.c0
        have x1 := CW.out.c1
        go_wp2_with fail
        refine HE.out.mono ?_
        rintro e w6 ⟨rfl, hb⟩
        replace P := Lib.hid (P.out.trans (hb.mono P.out.size))
        clear hb v0 v1 x0 x1 HE CV CW
        go_wp2_with fail
        refine (awake9_c _).mono ?_
        rintro e w9 ⟨rfl, hb⟩
        replace P := Lib.hid (P.out.trans (hb.mono P.out.size))
        clear hb
        go_wp2
        go_ret
        exact ⟨rfl, P.out⟩
      · clear HD I7 CW
        have v0 := CV.out.c0
        have v1 := CV.out.c1
        go_wp2_with fail
        refine (zero_c false none 0 0 _).mono ?_
        rintro e w6 ⟨rfl, hb⟩
        replace P := Lib.hid (P.out.trans (hb.mono P.out.size))
        clear hb v0 v1 CV
        go_wp2_with fail
        refine (awake9_c _).mono ?_
        rintro e w9 ⟨rfl, hb⟩
        replace P := Lib.hid (P.out.trans (hb.mono P.out.size))
        clear hb
        go_wp2
        go_ret
        exact ⟨rfl, P.out⟩
theorem u8_nat {a1 : Int} (w1 : (Lit.int .u8 a1).wf = true) : ∃ x : Nat, a1 = (x : Int) ∧ x < 256 := by
  simp only [Lit.wf, Bool.and_eq_true, decide_eq_true_eq] at w1
  have h1 : IntKind.min .u8 = 0 := rfl
  have h2 : IntKind.max .u8 = 255 := rfl
  exact ⟨a1.toNat, by omega, by omega⟩
theorem SystemSquares_i (s : Bool) (A : Option Addr) (n c : Nat) (xs : List Nat) (a1 : Int) (w1 : (Lit.int .u8 a1).wf = true) (w : World) (h : Rd w A n xs) (hn : n ≤ c) (hc : c ≤ 9223372036854775807) :
    Calls Tryz.prog 7 #[.agg #[.bool s, .slice A n c], .int .u8 a1] w (IsB true w) := by
  obtain ⟨x, rfl, hx⟩ := u8_nat w1
  exact SystemSquares_c s A n c xs x hx w h hn hc
end Go.Proofs.YteabokkofoomkaaGreat
