import Derived.Test.YteabokkofoomkaaGreatCaz
set_option maxRecDepth 100000
namespace Go.Proofs.YteabokkofoomkaaGreat
open Go.RowKit Go.Shelf Go.Deep
theorem infoT : (Tryz.prog.info? 70).map (fun i => (i.zero, i.size, i.bytes)) = some (some (.agg #[.bool false, .slice none 0 0, .slice none 0 0]), 3, 56) := by kernel_rfl
structure RawT where
 s : Bool
 A : Option Addr
 n : Nat
 c : Nat
 B : Option Addr
 m : Nat
 d : Nat
def rawTAt (rs : List RawT) (k : Nat) : RawT := rs.getD k ⟨false, none, 0, 0, none, 0, 0⟩
def flatT : List RawT → List Value
 | [] => []
 | x :: t => .bool x.s :: .slice x.A x.n x.c :: .slice x.B x.m x.d :: flatT t
theorem flatT_app : ∀ (cs : List RawT) (x : RawT), flatT (cs ++ [x]) = flatT cs ++ [.bool x.s, .slice x.A x.n x.c, .slice x.B x.m x.d]
 | [], x => rfl
 | y :: t, x => by simp only [List.cons_append, flatT, flatT_app t x]
theorem flatT_at : ∀ (cs : List RawT) (k : Nat), k < cs.length → (flatT cs)[k * 3]? = some (.bool (rawTAt cs k).s) ∧ (flatT cs)[k * 3 + 1]? = some (.slice (rawTAt cs k).A (rawTAt cs k).n (rawTAt cs k).c) ∧ (flatT cs)[k * 3 + 2]? = some (.slice (rawTAt cs k).B (rawTAt cs k).m (rawTAt cs k).d)
 | x :: t, 0, _ => ⟨rfl, rfl, rfl⟩
 | x :: t, k + 1, h => by
   have h2 := flatT_at t k (by simpa using h)
   rw [show (k + 1) * 3 = k * 3 + 3 from by omega]
   exact h2
structure TrR (W : World) (r : RawT) (t : Trm) : Prop where
 s : r.s = t.s
 rd : Rd W r.A r.n t.xs
 nc : r.n ≤ r.c
 cm : r.c ≤ 9223372036854775807
 ri : RdI W r.B r.m t.es
 md : r.m ≤ r.d
 dm : r.d ≤ 9223372036854775807
theorem rdI_grown {w w' : World} {v : Value} (hg : w.grownBy w' v.ownBlock) (hk : Kind w noInt v) {base n : Nat} {e : TypeId} {size : Nat} {xs : List Value} (hown : w.ownsRow base e size v n xs) {A : Option Addr} {m : Nat} {zs : List Int} (h : RdI w A m zs) : RdI w' A m zs := by
 refine ⟨h.len, fun hp => ?_⟩
 obtain ⟨b, o, ea, hlt, hcell⟩ := h.at_ hp
 refine ⟨b, o, ea, Nat.lt_of_lt_of_le hlt hg.size, fun i hi => ?_⟩
 have hne : some b ≠ v.ownBlock := by
  intro hb
  rcases hown.2 with ⟨e1, _⟩ | ⟨g, cap, cur, e1, _, hh, _⟩
  · rw [e1] at hb; cases hb
  · rw [e1] at hb
    injection hb with hb
    change b = g at hb
    subst hb
    have h0 := hcell 0 hp
    rw [cell_of_row w b (o + 0) _ _ _ hh] at h0
    have h1 := hk b _ _ cur e e1 hh _ (by rw [Array.mem_toList_iff]; exact Array.mem_of_getElem? h0)
    exact h1 _ _ rfl
 exact (World.cell?_of_block (hg.block b hlt hne)).trans (hcell i hi)
structure OwT (W : World) (B : Nat) (A : Option Addr) (j c : Nat) (ts : List Trm) : Prop where
 len : ts.length = j
 kind : Kind W noInt (.slice A j c)
 ex : ∃ rs : List RawT, W.ownsRow B 70 3 (.slice A j c) j (flatT rs) ∧ rs.length = j ∧ ∀ k, k < j → TrR W (rawTAt rs k) (trmAt ts k)
theorem OwT.nil (W : World) (B : Nat) : OwT W B none 0 0 [] :=
 ⟨rfl, (fun g n cap cur e hv => by cases hv), [], World.ownsRow_nil W B _ 3, rfl, fun k hk => absurd hk (by omega)⟩
theorem OwT.cap {W : World} {B : Nat} {A : Option Addr} {j c : Nat} {cs : List Trm} (h : OwT W B A j c cs) : j ≤ c ∧ c ≤ 9223372036854775807 ∧ ∀ a, A = some a → B ≤ a.block ∧ a.block < W.heap.size := by
 obtain ⟨rs, hown, _⟩ := h.ex
 rcases hown.2 with ⟨e, e2⟩ | ⟨g, cap, cur, e, h1, hg, h2, h3, _⟩
 · injection e with e1 e3 e4
   subst e1 e4 e2
   exact ⟨Nat.le_refl _, by omega, fun a h => by cases h⟩
 · injection e with e1 e3 e4
   subst e1 e4
   refine ⟨h2, by simpa [maxLen] using h3, fun a h => ?_⟩
   injection h with h
   subst h
   refine ⟨h1, ?_⟩
   rcases Nat.lt_or_ge g W.heap.size with h1 | h1
   · exact h1
   · rw [Array.getElem?_eq_none h1] at hg; cases hg
theorem OwT.keep {W W' : World} {B : Nat} {A : Option Addr} {j c : Nat} {cs : List Trm} (h : OwT W B A j c cs) (hb : Below W.heap.size W W') : OwT W' B A j c cs := by
 have hc := h.cap.2.2
 obtain ⟨rs, hown, hl, hr⟩ := h.ex
 refine ⟨h.len, h.kind.keep fun a ha => hb.block _ (hc a ha).2, rs, ?_, hl, fun k hk => ⟨(hr k hk).s, (hr k hk).rd.below hb, (hr k hk).nc, (hr k hk).cm, (hr k hk).ri.below hb, (hr k hk).md, (hr k hk).dm⟩⟩
 refine hown.kept (row := none) ⟨hb.os, hb.tape, hb.output, hb.size, fun k hk _ => hb.block k hk⟩ ?_
 rcases hv : (Value.slice A j c).ownBlock with _ | b
 · exact .inl rfl
 · exact .inr (by simp)
theorem OwT.rd {W : World} {B : Nat} {A : Option Addr} {j c : Nat} {cs : List Trm} (h : OwT W B A j c cs) : RdT W A j cs := by
 refine ⟨h.len, fun h0 => ?_⟩
 have hlt := h.cap.2.2
 obtain ⟨rs, hown, hl, hr⟩ := h.ex
 rcases hown.2 with ⟨_, e2⟩ | ⟨g, cap, cur, e, _, hg, _⟩
 · omega
 · injection e with e1 e3 e4
   subst e1 e4
   have hc := hown.cells (g := g) rfl
   refine ⟨g, 0, rfl, (hlt _ rfl).2, fun k hk => ?_⟩
   obtain ⟨a0, a1, a2⟩ := flatT_at rs k (by omega)
   have z : ∀ q : Nat, (⟨g, 0, none⟩ : Addr).add q = ⟨g, q, none⟩ := fun q => by
    rcases Nat.eq_zero_or_pos q with rfl | hq
    · rfl
    · unfold Addr.add; simp; omega
   simp only [Nat.zero_add]
   have r := hr k hk
   refine ⟨(rawTAt rs k).A, (rawTAt rs k).n, (rawTAt rs k).c, (rawTAt rs k).B, (rawTAt rs k).m, (rawTAt rs k).d, ?_, ?_, ?_, r.rd, r.nc, r.cm, r.ri, r.md, r.dm⟩
   · rw [← z, ← r.s]; exact hc _ _ a0
   · rw [← z]; exact hc _ _ a1
   · rw [← z]; exact hc _ _ a2
theorem rawTAt_app (rs : List RawT) (x : RawT) (k : Nat) : rawTAt (rs ++ [x]) k = if k < rs.length then rawTAt rs k else if k = rs.length then x else rawTAt [] 0 := by
 unfold rawTAt
 simp only [List.getD_eq_getElem?_getD, List.getElem?_append]
 split
 · rfl
 · split
   · subst_vars; simp
   · rw [List.getElem?_eq_none (by simp; omega)]; rfl
theorem trmAt_app (ns : List Trm) (x : Trm) (k : Nat) : trmAt (ns ++ [x]) k = if k < ns.length then trmAt ns k else if k = ns.length then x else trmAt [] 0 := by
 unfold trmAt
 simp only [List.getD_eq_getElem?_getD, List.getElem?_append]
 split
 · rfl
 · split
   · subst_vars; simp
   · rw [List.getElem?_eq_none (by simp; omega)]; rfl
structure TB (W : World) (g : Nat) (t : Trm) (A : Option Addr) (n c : Nat) (B : Option Addr) (m d : Nat) : Prop where
 bx : BxT W g t.s A n c B m d
 rd : Rd W A n t.xs
 nc : n ≤ c
 cm : c ≤ 9223372036854775807
 ri : RdI W B m t.es
 md : m ≤ d
 dm : d ≤ 9223372036854775807
theorem TB.next {W W' : World} {g : Nat} {t : Trm} {A : Option Addr} {n c : Nat} {B : Option Addr} {m d : Nat} (h : TB W g t A n c B m d) (hb : Below W.heap.size W W') : TB W' g t A n c B m d :=
 ⟨h.bx.next hb, h.rd.below hb, h.nc, h.cm, h.ri.below hb, h.md, h.dm⟩
theorem run_app_tm (w : World) (ty : TypeId) (Bs : Nat) (L : Option Addr) (j cL : Nat) (ts : List Trm) (hown : OwT w Bs L j cL ts) (hB : Bs ≤ w.heap.size) (g q : Nat) {t : Trm} {A : Option Addr} {n c : Nat} {B : Option Addr} {m d : Nat} (hx : TB w g t A n c B m d) (hj : j ≤ 1000000) :
 ∃ g' c' w', (Builtin.append_ #[43, 43] ty #[.slice L j cL, .slice (some ⟨g, 0, none⟩) 1 q]).run Tryz.prog w = .ok (.slice (some ⟨g', 0, none⟩) (j + 1) c') w' ∧ OwT w' Bs (some ⟨g', 0, none⟩) (j + 1) c' (ts ++ [t]) ∧ Below Bs w w' := by
 obtain ⟨i, hi, hz, hs, hb⟩ := info_parts infoT
 have hBg := hown.cap.2.2
 obtain ⟨rs, ho, hl, hr⟩ := hown.ex
 obtain ⟨v', w', hrun, hown', hgr, hat, hk'⟩ := run_append_kind (P := Tryz.prog) (w := w) Bs 43 ty 70 i (.agg #[.bool false, .slice none 0 0, .slice none 0 0]) 3 56 Tryz.underlying43 hi hz hs hb rfl (by omega) (.slice L j cL) j (flatT rs) ho ⟨g, 0, none⟩ 1 q [.bool t.s, .slice A n c, .slice B m d] rfl
  (fun j u hu => by
   have ea : (⟨g, 0, none⟩ : Addr).add j = ⟨g, j, none⟩ := by unfold Addr.add; simp; exact Eq.symm
   rw [ea]
   match j, hu with
   | 0, hu => injection hu with hu; subst hu; exact hx.bx.c0
   | 1, hu => injection hu with hu; subst hu; exact hx.bx.c1
   | 2, hu => injection hu with hu; subst hu; exact hx.bx.c2)
  (fun u hu => by simp at hu; rcases hu with rfl | rfl | rfl <;> rfl) (by simp only [maxLen]; omega) (by omega) hB (by omega) noInt hown.kind
  (fun u hu => by simp [Value.cells] at hu; rcases hu with rfl | rfl | rfl <;> intro k z e <;> cases e)
  (fun u hu => by simp at hu; rcases hu with rfl | rfl | rfl <;> intro k z e <;> cases e)
 have hx1 : Rd w' A n t.xs := rd_grown hgr hown.kind ho hx.rd
 have hx2 : RdI w' B m t.es := rdI_grown hgr hown.kind ho hx.ri
 rw [← flatT_app rs ⟨t.s, A, n, c, B, m, d⟩] at hown'
 rcases hown'.2 with ⟨rfl, h1⟩ | ⟨g2, cap, cur, rfl, hg1, hh, hcap, hcap2, hcur, htake⟩
 · omega
 · refine ⟨g2, cap, w', hrun, ⟨by simp [hown.len], hk', rs ++ [⟨t.s, A, n, c, B, m, d⟩], hown', by simp [hl], fun k hk => ?_⟩, ⟨hgr.os, hgr.tape, hgr.output, hgr.size, fun q hq => hgr.block q (by omega) ?_⟩⟩
   · rw [rawTAt_app, trmAt_app, hl, hown.len]
     by_cases h1 : k < j
     · rw [if_pos h1, if_pos h1]
       have r := hr k h1
       exact ⟨r.s, rd_grown hgr hown.kind ho r.rd, r.nc, r.cm, rdI_grown hgr hown.kind ho r.ri, r.md, r.dm⟩
     · have h2 : k = j := by omega
       rw [if_neg h1, if_neg h1, if_pos h2, if_pos h2]
       exact ⟨rfl, hx1, hx.nc, hx.cm, hx2, hx.md, hx.dm⟩
   · intro e
     rcases L with _ | a
     · cases e
     · injection e with e
       have := (hBg a rfl).1
       omega
theorem wpList_app_tm {w : World} {ops : Array Oper} {rest : List Oper} {o : Oper} {a : Act} {Q : Exit → Act → World → Prop} (hgd : o.guard = none) (s y : Operand)
 (ho : o.op = .call { callee := .builtin .append, args := #[s, y], argTypes := #[43, 43] })
 (Bs : Nat) (L : Option Addr) (j cL : Nat) (ts : List Trm) (g q : Nat) {t : Trm} {A : Option Addr} {n c : Nat} {B : Option Addr} {m d : Nat} (hs : a.eval s = .slice L j cL) (hy : a.eval y = .slice (some ⟨g, 0, none⟩) 1 q) (hown : OwT w Bs L j cL ts) (hB : Bs ≤ w.heap.size)
 (hx : TB w g t A n c B m d) (hj : j ≤ 1000000)
 (h : ∀ g' c' w', OwT w' Bs (some ⟨g', 0, none⟩) (j + 1) c' (ts ++ [t]) → Below Bs w w' → wpList Tryz.prog ops Q rest (a.put o.dst (.slice (some ⟨g', 0, none⟩) (j + 1) c')) w') : wpList Tryz.prog ops Q (o :: rest) a w := by
 refine wpList_plain hgd fun K hK => ?_
 obtain ⟨g', c', w', hrun, h1, h2⟩ := run_app_tm w o.type Bs L j cL ts hown hB g q hx hj
 unfold Oper.wp execOp
 simp only [ho, resolve, invoke, builtin, Sem.run_bind, Sem.run_pure, Result.andThen_ok, List.map_toArray, List.map_cons, List.map_nil, hs, hy, hrun]
 exact hK _ _ (h g' c' w' h1 h2)
end Go.Proofs.YteabokkofoomkaaGreat
