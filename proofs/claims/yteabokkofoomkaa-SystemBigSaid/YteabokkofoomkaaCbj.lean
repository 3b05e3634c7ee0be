import Derived.Test.YteabokkofoomkaaCbi
set_option maxRecDepth 100000
namespace Go.Proofs.Yteabokkofoomkaa
open Go.RowKit Go.Shelf Go.Deep
structure TrX (W : World) (lo : Nat) (r : RawT) (t : Trm) : Prop where
 s : r.s = t.s
 rd : Rd W r.A r.n t.xs
 nc : r.n ≤ r.c
 cm : r.c ≤ 9223372036854775807
 ri : RdI W r.B r.m t.es
 md : r.m ≤ r.d
 dm : r.d ≤ 9223372036854775807
 lo : ∀ a, r.B = some a → lo ≤ a.block
structure RdX (w : World) (lo : Nat) (A : Option Addr) (n : Nat) (ts : List Trm) : Prop where
 len : ts.length = n
 at_ : 0 < n → ∃ b o, A = some ⟨b, o, none⟩ ∧ b < w.heap.size ∧ ∀ k, k < n → ∃ A1 n1 c1 B1 m1 d1, TrmIs w b (o + k * 3) (trmAt ts k) A1 n1 c1 B1 m1 d1 ∧ ∀ a, B1 = some a → lo ≤ a.block
theorem RdX.rdT {w : World} {lo : Nat} {A : Option Addr} {n : Nat} {ts : List Trm} (h : RdX w lo A n ts) : RdT w A n ts := by
 refine ⟨h.len, fun h0 => ?_⟩
 obtain ⟨b, o, e, hlt, hc⟩ := h.at_ h0
 refine ⟨b, o, e, hlt, fun k hk => ?_⟩
 obtain ⟨A1, n1, c1, B1, m1, d1, ht, _⟩ := hc k hk
 exact ⟨A1, n1, c1, B1, m1, d1, ht⟩
theorem RdX.below {w w' : World} {lo : Nat} {A : Option Addr} {n : Nat} {ts : List Trm} (h : RdX w lo A n ts) (hb : Below w.heap.size w w') : RdX w' lo A n ts := by
 refine ⟨h.len, fun h0 => ?_⟩
 obtain ⟨b, o, e, hlt, hc⟩ := h.at_ h0
 refine ⟨b, o, e, Nat.lt_of_lt_of_le hlt hb.size, fun k hk => ?_⟩
 obtain ⟨A1, n1, c1, B1, m1, d1, ht, hl⟩ := hc k hk
 exact ⟨A1, n1, c1, B1, m1, d1, ht.below hlt hb, hl⟩
structure OwX (W : World) (B lo : Nat) (A : Option Addr) (j c : Nat) (ts : List Trm) : Prop where
 len : ts.length = j
 kind : Kind W noInt (.slice A j c)
 ex : ∃ rs : List RawT, W.ownsRow B 59 3 (.slice A j c) j (flatT rs) ∧ rs.length = j ∧ ∀ k, k < j → TrX W lo (rawTAt rs k) (trmAt ts k)
theorem OwX.nil (W : World) (B lo : Nat) : OwX W B lo none 0 0 [] :=
 ⟨rfl, (fun g n cap cur e hv => by cases hv), [], World.ownsRow_nil W B _ 3, rfl, fun k hk => absurd hk (by omega)⟩
theorem OwX.cap {W : World} {B lo : Nat} {A : Option Addr} {j c : Nat} {cs : List Trm} (h : OwX W B lo A j c cs) : j ≤ c ∧ c ≤ 9223372036854775807 ∧ ∀ a, A = some a → B ≤ a.block ∧ a.block < W.heap.size := by
 obtain ⟨rs, hown, _⟩ := h.ex
 rcases hown.2 with ⟨e, e2⟩ | ⟨g, cap, cur, e, h1, hg, h2, h3, _⟩
 · injection e with e1 e3 e4
   subst e1 e4 e2
   exact ⟨Nat.le_refl _, by omega, fun a h => by cases h⟩
 · injection e with e1 e3 e4
   subst e1 e4
   refine ⟨h2, by simpa [maxLen] using h3, fun a h => ?_⟩
   injection h with h
   subst h
   refine ⟨h1, ?_⟩
   rcases Nat.lt_or_ge g W.heap.size with h1 | h1
   · exact h1
   · rw [Array.getElem?_eq_none h1] at hg; cases hg
theorem OwX.keep {W W' : World} {B lo : Nat} {A : Option Addr} {j c : Nat} {cs : List Trm} (h : OwX W B lo A j c cs) (hb : Below W.heap.size W W') : OwX W' B lo A j c cs := by
 have hc := h.cap.2.2
 obtain ⟨rs, hown, hl, hr⟩ := h.ex
 refine ⟨h.len, h.kind.keep fun a ha => hb.block _ (hc a ha).2, rs, ?_, hl, fun k hk => ⟨(hr k hk).s, (hr k hk).rd.below hb, (hr k hk).nc, (hr k hk).cm, (hr k hk).ri.below hb, (hr k hk).md, (hr k hk).dm, (hr k hk).lo⟩⟩
 refine hown.kept (row := none) ⟨hb.os, hb.tape, hb.output, hb.size, fun k hk _ => hb.block k hk⟩ ?_
 rcases hv : (Value.slice A j c).ownBlock with _ | b
 · exact .inl rfl
 · exact .inr (by simp)
theorem OwX.rd {W : World} {B lo : Nat} {A : Option Addr} {j c : Nat} {cs : List Trm} (h : OwX W B lo A j c cs) : RdX W lo A j cs := by
 refine ⟨h.len, fun h0 => ?_⟩
 have hlt := h.cap.2.2
 obtain ⟨rs, hown, hl, hr⟩ := h.ex
 rcases hown.2 with ⟨_, e2⟩ | ⟨g, cap, cur, e, _, hg, _⟩
 · omega
 · injection e with e1 e3 e4
   subst e1 e4
   have hc := hown.cells (g := g) rfl
   refine ⟨g, 0, rfl, (hlt _ rfl).2, fun k hk => ?_⟩
   obtain ⟨a0, a1, a2⟩ := flatT_at rs k (by omega)
   have z : ∀ q : Nat, (⟨g, 0, none⟩ : Addr).add q = ⟨g, q, none⟩ := fun q => by
    rcases Nat.eq_zero_or_pos q with rfl | hq
    · rfl
    · unfold Addr.add; simp; omega
   simp only [Nat.zero_add]
   have r := hr k hk
   refine ⟨(rawTAt rs k).A, (rawTAt rs k).n, (rawTAt rs k).c, (rawTAt rs k).B, (rawTAt rs k).m, (rawTAt rs k).d, ⟨?_, ?_, ?_, r.rd, r.nc, r.cm, r.ri, r.md, r.dm⟩, r.lo⟩
   · rw [← z, ← r.s]; exact hc _ _ a0
   · rw [← z]; exact hc _ _ a1
   · rw [← z]; exact hc _ _ a2
theorem run_app_tx (w : World) (ty : TypeId) (Bs lo : Nat) (L : Option Addr) (j cL : Nat) (ts : List Trm) (hown : OwX w Bs lo L j cL ts) (hB : Bs ≤ w.heap.size) (g q : Nat) {t : Trm} {A : Option Addr} {n c : Nat} {B : Option Addr} {m d : Nat} (hx : TB w g t A n c B m d) (hlo : ∀ a, B = some a → lo ≤ a.block) (hj : j ≤ 1000000) :
 ∃ g' c' w', (Builtin.append_ #[28, 28] ty #[.slice L j cL, .slice (some ⟨g, 0, none⟩) 1 q]).run Try.prog w = .ok (.slice (some ⟨g', 0, none⟩) (j + 1) c') w' ∧ OwX w' Bs lo (some ⟨g', 0, none⟩) (j + 1) c' (ts ++ [t]) ∧ Below Bs w w' := by
 obtain ⟨i, hi, hz, hs, hb⟩ := info_parts infoT
 have hBg := hown.cap.2.2
 obtain ⟨rs, ho, hl, hr⟩ := hown.ex
 obtain ⟨v', w', hrun, hown', hgr, hat, hk'⟩ := run_append_kind (P := Try.prog) (w := w) Bs 28 ty 59 i (.agg #[.bool false, .slice none 0 0, .slice none 0 0]) 3 56 Try.underlying28 hi hz hs hb rfl (by omega) (.slice L j cL) j (flatT rs) ho ⟨g, 0, none⟩ 1 q [.bool t.s, .slice A n c, .slice B m d] rfl
  (fun j u hu => by
   have ea : (⟨g, 0, none⟩ : Addr).add j = ⟨g, j, none⟩ := by unfold Addr.add; simp; exact Eq.symm
   rw [ea]
   match j, hu with
   | 0, hu => injection hu with hu; subst hu; exact hx.bx.c0
   | 1, hu => injection hu with hu; subst hu; exact hx.bx.c1
   | 2, hu => injection hu with hu; subst hu; exact hx.bx.c2)
  (fun u hu => by simp at hu; rcases hu with rfl | rfl | rfl <;> rfl) (by simp only [maxLen]; omega) (by omega) hB (by omega) noInt hown.kind
  (fun u hu => by simp [Value.cells] at hu; rcases hu with rfl | rfl | rfl <;> intro k z e <;> cases e)
  (fun u hu => by simp at hu; rcases hu with rfl | rfl | rfl <;> intro k z e <;> cases e)
 have hx1 : Rd w' A n t.xs := rd_grown hgr hown.kind ho hx.rd
 have hx2 : RdI w' B m t.es := rdI_grown hgr hown.kind ho hx.ri
 rw [← flatT_app rs ⟨t.s, A, n, c, B, m, d⟩] at hown'
 rcases hown'.2 with ⟨rfl, h1⟩ | ⟨g2, cap, cur, rfl, hg1, hh, hcap, hcap2, hcur, htake⟩
 · omega
 · refine ⟨g2, cap, w', hrun, ⟨by simp [hown.len], hk', rs ++ [⟨t.s, A, n, c, B, m, d⟩], hown', by simp [hl], fun k hk => ?_⟩, ⟨hgr.os, hgr.tape, hgr.output, hgr.size, fun q hq => hgr.block q (by omega) ?_⟩⟩
   · rw [rawTAt_app, trmAt_app, hl, hown.len]
     by_cases h1 : k < j
     · rw [if_pos h1, if_pos h1]
       have r := hr k h1
       exact ⟨r.s, rd_grown hgr hown.kind ho r.rd, r.nc, r.cm, rdI_grown hgr hown.kind ho r.ri, r.md, r.dm, r.lo⟩
     · have h2 : k = j := by omega
       rw [if_neg h1, if_neg h1, if_pos h2, if_pos h2]
       exact ⟨rfl, hx1, hx.nc, hx.cm, hx2, hx.md, hx.dm, hlo⟩
   · intro e
     rcases L with _ | a
     · cases e
     · injection e with e
       have := (hBg a rfl).1
       omega
theorem OwX.but {b : Nat} {W W' : World} (h : But b W W') (hn : ∀ c e f, W.heap[b]? ≠ some (.cells c e f)) {B lo : Nat} (hB : b < B) {A : Option Addr} {j c : Nat} {ts : List Trm} (hr : OwX W B lo A j c ts) : OwX W' B lo A j c ts := by
 have hc := hr.cap.2.2
 obtain ⟨rs, hown, hl, hk⟩ := hr.ex
 refine ⟨hr.len, hr.kind.keep fun a ha => h.block _ (by have := (hc a ha).1; omega), rs, ?_, hl, fun k hk2 => ⟨(hk k hk2).s, Rd.but h hn (hk k hk2).rd, (hk k hk2).nc, (hk k hk2).cm, RdI.but h hn (hk k hk2).ri, (hk k hk2).md, (hk k hk2).dm, (hk k hk2).lo⟩⟩
 refine hown.kept (row := some b) ⟨h.os, h.tape, h.output, by rw [h.size]; exact Nat.le_refl _, fun k _ hne => h.block k (by intro e; subst e; exact hne rfl)⟩ ?_
 rcases A with _ | a
 · exact .inl rfl
 · exact .inr (by
    intro e
    have h1 : a.block = b := by injection e
    have h2 := (hc a rfl).1
    omega)
theorem OwX.base {W : World} {B B' lo : Nat} {A : Option Addr} {j c : Nat} {ts : List Trm} (h : OwX W B lo A j c ts) (hb : B' ≤ B) : OwX W B' lo A j c ts := by
 obtain ⟨rs, ho, hl, hr⟩ := h.ex
 refine ⟨h.len, h.kind, rs, ⟨ho.1, ?_⟩, hl, hr⟩
 rcases ho.2 with q | ⟨g, cap, cur, e, h1, h2⟩
 · exact .inl q
 · exact .inr ⟨g, cap, cur, e, by omega, h2⟩
theorem OwX.low {W : World} {B lo lo' : Nat} {A : Option Addr} {j c : Nat} {ts : List Trm} (h : OwX W B lo A j c ts) (hb : lo' ≤ lo) : OwX W B lo' A j c ts := by
 obtain ⟨rs, ho, hl, hr⟩ := h.ex
 exact ⟨h.len, h.kind, rs, ho, hl, fun k hk => ⟨(hr k hk).s, (hr k hk).rd, (hr k hk).nc, (hr k hk).cm, (hr k hk).ri, (hr k hk).md, (hr k hk).dm, fun a ha => Nat.le_trans hb ((hr k hk).lo a ha)⟩⟩
theorem flatT_len : ∀ rs : List RawT, (flatT rs).length = rs.length * 3
 | [] => rfl
 | x :: t => by simp only [flatT, List.length_cons, flatT_len t]; omega
theorem flatT_two : ∀ (a b : List RawT), flatT (a ++ b) = flatT a ++ flatT b
 | [], b => rfl
 | x :: t, b => by simp only [List.cons_append, flatT, flatT_two t b]
theorem flatT_one : ∀ (rs : List RawT), ∀ u ∈ flatT rs, u.oneCell' = true ∧ noInt u
 | [], u, h => by cases h
 | x :: t, u, h => by
   simp only [flatT, List.mem_cons] at h
   rcases h with rfl | rfl | rfl | h
   · exact ⟨rfl, fun _ _ e => by cases e⟩
   · exact ⟨rfl, fun _ _ e => by cases e⟩
   · exact ⟨rfl, fun _ _ e => by cases e⟩
   · exact flatT_one t u h
theorem rdX_raw {w : World} {lo : Nat} {A : Option Addr} {n : Nat} {us : List Trm} (h : RdX w lo A n us) (h0 : 0 < n) : ∃ b o rs, A = some ⟨b, o, none⟩ ∧ rs.length = n ∧ ∀ k, k < n → TrmIs w b (o + k * 3) (trmAt us k) (rawTAt rs k).A (rawTAt rs k).n (rawTAt rs k).c (rawTAt rs k).B (rawTAt rs k).m (rawTAt rs k).d ∧ (rawTAt rs k).s = (trmAt us k).s ∧ ∀ a, (rawTAt rs k).B = some a → lo ≤ a.block := by
 obtain ⟨b, o, e, _, hc⟩ := h.at_ h0
 have hex : ∀ k : Nat, ∃ r : RawT, k < n → TrmIs w b (o + k * 3) (trmAt us k) r.A r.n r.c r.B r.m r.d ∧ r.s = (trmAt us k).s ∧ ∀ a, r.B = some a → lo ≤ a.block := fun k => by
  by_cases hk : k < n
  · obtain ⟨A1, n1, c1, B1, m1, d1, ht, hlo⟩ := hc k hk
    exact ⟨⟨(trmAt us k).s, A1, n1, c1, B1, m1, d1⟩, fun _ => ⟨ht, rfl, hlo⟩⟩
  · exact ⟨⟨false, none, 0, 0, none, 0, 0⟩, fun h => absurd h hk⟩
 obtain ⟨F, hF⟩ : ∃ F : Nat → RawT, ∀ k, k < n → TrmIs w b (o + k * 3) (trmAt us k) (F k).A (F k).n (F k).c (F k).B (F k).m (F k).d ∧ (F k).s = (trmAt us k).s ∧ ∀ a, (F k).B = some a → lo ≤ a.block := ⟨fun k => (hex k).choose, fun k => (hex k).choose_spec⟩
 refine ⟨b, o, (List.range n).map F, e, by simp, fun k hk => ?_⟩
 have : rawTAt ((List.range n).map F) k = F k := by
  unfold rawTAt
  rw [List.getD_eq_getElem?_getD, List.getElem?_map, List.getElem?_range hk]
  rfl
 rw [this]
 exact hF k hk
theorem run_app_tms (w : World) (ty : TypeId) (Bs lo : Nat) (L : Option Addr) (j cL : Nat) (ts : List Trm) (hown : OwX w Bs lo L j cL ts) (hB : Bs ≤ w.heap.size) (A : Option Addr) (n c : Nat) (us : List Trm) (h : RdX w lo A n us) (hj : j ≤ 1000000) (hn : n ≤ 1000000) :
 ∃ L' c' w', (Builtin.append_ #[28, 28] ty #[.slice L j cL, .slice A n c]).run Try.prog w = .ok (.slice L' (j + n) c') w' ∧ OwX w' Bs lo L' (j + n) c' (ts ++ us) ∧ Below Bs w w' := by
 obtain ⟨i, hi, hz, hs, hb⟩ := info_parts infoT
 rcases Nat.eq_zero_or_pos n with rfl | h0
 · have hus : us = [] := List.length_eq_zero_iff.1 h.len
   subst hus
   refine ⟨L, cL, w, ?_, by rw [List.append_nil]; exact hown, Below.refl _ _⟩
   have hc := hown.cap.1
   rcases A with _ | a <;> rcases L with _ | l <;> simp [Builtin.append_, run_underlying Try.underlying28, sizeOf, typeInfo, hi, Builtin.lenOf, Builtin.firstCells, loadCells, loadCellsFrom, storeCells, hc]
 · obtain ⟨b, o, rs2, rfl, hl2, hr2⟩ := rdX_raw h h0
   have hBg := hown.cap.2.2
   obtain ⟨rs, ho, hl, hr⟩ := hown.ex
   obtain ⟨v', w', hrun, hown', hgr, hat, hk'⟩ := run_append_kind (P := Try.prog) (w := w) Bs 28 ty 59 i (.agg #[.bool false, .slice none 0 0, .slice none 0 0]) 3 56 Try.underlying28 hi hz hs hb rfl (by omega) (.slice L j cL) j (flatT rs) ho ⟨b, o, none⟩ n c (flatT rs2) (by rw [flatT_len, hl2])
    (fun q u hu => by
     have hq : q < n * 3 := by
      have := (List.getElem?_eq_some_iff.1 hu).1
      rwa [flatT_len, hl2] at this
     have ea : (⟨b, o, none⟩ : Addr).add q = ⟨b, o + q, none⟩ := by
      rcases Nat.eq_zero_or_pos q with rfl | hq0
      · rfl
      · unfold Addr.add; simp; omega
     rw [ea, ← hu]
     obtain ⟨a0, a1, a2⟩ := flatT_at rs2 (q / 3) (by omega)
     obtain ⟨ht, hts, -⟩ := hr2 (q / 3) (by omega)
     have hm : q % 3 = 0 ∨ q % 3 = 1 ∨ q % 3 = 2 := by omega
     rcases hm with e | e | e
     · have e2 : q = q / 3 * 3 := by omega
       rw [show (flatT rs2)[q]? = (flatT rs2)[q / 3 * 3]? by rw [← e2], a0, show o + q = o + q / 3 * 3 by omega, ht.c0, hts]
     · have e2 : q = q / 3 * 3 + 1 := by omega
       rw [show (flatT rs2)[q]? = (flatT rs2)[q / 3 * 3 + 1]? by rw [← e2], a1, show o + q = o + q / 3 * 3 + 1 by omega, ht.c1]
     · have e2 : q = q / 3 * 3 + 2 := by omega
       rw [show (flatT rs2)[q]? = (flatT rs2)[q / 3 * 3 + 2]? by rw [← e2], a2, show o + q = o + q / 3 * 3 + 2 by omega, ht.c2])
    (fun u hu => (flatT_one rs2 u hu).1) (by simp only [maxLen]; omega) (by omega) hB h0 noInt hown.kind
    (fun u hu => by simp [Value.cells] at hu; rcases hu with rfl | rfl | rfl <;> intro k z e <;> cases e)
    (fun u hu => (flatT_one rs2 u hu).2)
   rw [← flatT_two] at hown'
   rcases hown'.2 with ⟨rfl, h1⟩ | ⟨g2, cap, cur, rfl, hg1, hh, hcap, hcap2, hcur, htake⟩
   · omega
   · refine ⟨some ⟨g2, 0, none⟩, cap, w', hrun, ⟨by rw [List.length_append, hown.len, h.len], hk', rs ++ rs2, hown', by rw [List.length_append, hl, hl2], fun k hk => ?_⟩, ⟨hgr.os, hgr.tape, hgr.output, hgr.size, fun q hq => hgr.block q (by omega) ?_⟩⟩
     · by_cases h1 : k < j
       · have x1 : rawTAt (rs ++ rs2) k = rawTAt rs k := by unfold rawTAt; rw [List.getD_eq_getElem?_getD, List.getD_eq_getElem?_getD, List.getElem?_append_left (by omega)]
         have x2 : trmAt (ts ++ us) k = trmAt ts k := by unfold trmAt; rw [List.getD_eq_getElem?_getD, List.getD_eq_getElem?_getD, List.getElem?_append_left (by rw [hown.len]; omega)]
         rw [x1, x2]
         have r := hr k h1
         exact ⟨r.s, rd_grown hgr hown.kind ho r.rd, r.nc, r.cm, rdI_grown hgr hown.kind ho r.ri, r.md, r.dm, r.lo⟩
       · have x1 : rawTAt (rs ++ rs2) k = rawTAt rs2 (k - j) := by unfold rawTAt; rw [List.getD_eq_getElem?_getD, List.getD_eq_getElem?_getD, List.getElem?_append_right (by omega), hl]
         have x2 : trmAt (ts ++ us) k = trmAt us (k - j) := by unfold trmAt; rw [List.getD_eq_getElem?_getD, List.getD_eq_getElem?_getD, List.getElem?_append_right (by rw [hown.len]; omega), hown.len]
         rw [x1, x2]
         obtain ⟨r, hs2, hlo⟩ := hr2 (k - j) (by omega)
         exact ⟨hs2, rd_grown hgr hown.kind ho r.rd, r.nc, r.cm, rdI_grown hgr hown.kind ho r.ri, r.md, r.dm, hlo⟩
     · intro e
       rcases L with _ | a
       · cases e
       · injection e with e
         have := (hBg a rfl).1
         omega
theorem RdI.set_other {w : World} {A : Option Addr} {n : Nat} {zs : List Int} (h : RdI w A n zs) {p : Addr} {v : Value} (hp : w.cell? p = some v) (hv : ∀ z, v ≠ .int .i64 z) (u : Value) : RdI (w.setCell p u) A n zs :=
 ⟨h.len, fun hn => by
  obtain ⟨b, o, e, hb, hc⟩ := h.at_ hn
  refine ⟨b, o, e, by simpa [World.setCell] using hb, fun k hk => ?_⟩
  rw [World.cell?_setCell_other]
  · exact hc k hk
  · intro he
    rw [he, hc k hk] at hp
    injection hp with hp
    exact hv _ hp.symm⟩
theorem OwX.slot {W : World} {B lo : Nat} {A : Option Addr} {j c : Nat} {ts : List Trm} (h : OwX W B lo A j c ts) {p : Addr} (hp : p.block < B) {L : Option Addr} {n q : Nat} (hv : W.cell? p = some (.slice L n q)) (u : Value) : OwX (W.setCell p u) B lo A j c ts := by
 have hc := h.cap.2.2
 obtain ⟨rs, hown, hl, hk⟩ := h.ex
 refine ⟨h.len, h.kind.keep fun a ha => Below.heap_setCell W p u a.block (by have := (hc a ha).1; omega), rs, ?_, hl, fun k hk2 => ⟨(hk k hk2).s, (hk k hk2).rd.set_other hv (fun z e => by cases e) u, (hk k hk2).nc, (hk k hk2).cm, RdI.set_other (hk k hk2).ri hv (fun z e => by cases e) u, (hk k hk2).md, (hk k hk2).dm, (hk k hk2).lo⟩⟩
 refine hown.kept (row := some p.block) (grown_setCell (grown_of_below (Below.refl _ _) _) (.inl rfl) u) ?_
 rcases A with _ | a
 · exact .inl rfl
 · exact .inr (by
    intro e
    have h1 : a.block = p.block := by injection e
    have h2 := (hc a rfl).1
    omega)
theorem RdX.low {W : World} {lo lo' : Nat} {A : Option Addr} {n : Nat} {ts : List Trm} (h : RdX W lo A n ts) (hl : lo' ≤ lo) : RdX W lo' A n ts := by
 refine ⟨h.len, fun h0 => ?_⟩
 obtain ⟨b, o, e, hlt, hc⟩ := h.at_ h0
 refine ⟨b, o, e, hlt, fun k hk => ?_⟩
 obtain ⟨A1, n1, c1, B1, m1, d1, ht, h2⟩ := hc k hk
 exact ⟨A1, n1, c1, B1, m1, d1, ht, fun a ha => Nat.le_trans hl (h2 a ha)⟩
theorem RdI.off {W : World} {B : Option Addr} {n : Nat} {zs : List Int} (h : RdI W B n zs) {p : Addr} (hp : ∀ a, B = some a → p.block ≠ a.block) (u : Value) : RdI (W.setCell p u) B n zs := by
 refine ⟨h.len, fun h0 => ?_⟩
 obtain ⟨b, o, e, hlt, hc⟩ := h.at_ h0
 refine ⟨b, o, e, by rw [World.size_setCell]; exact hlt, fun k hk => ?_⟩
 exact (World.cell?_setCell_other _ _ _ _ (by intro q; subst q; exact hp _ e rfl)).trans (hc k hk)
theorem RdX.two {W : World} {lo : Nat} {A : Option Addr} {n : Nat} {ts : List Trm} (h : RdX W lo A n ts) {g : Nat} (hA : ∀ a, A = some a → g < a.block) (hlo : g < lo) {V : Int} {L : Option Addr} {j k : Nat} (hg : BxP W g V L j k) (u v : Value) : RdX ((W.setCell ⟨g, 0, none⟩ u).setCell ⟨g, 1, none⟩ v) lo A n ts := by
 refine ⟨h.len, fun h0 => ?_⟩
 obtain ⟨b, o, rfl, hlt, hc⟩ := h.at_ h0
 have hb : g < b := hA _ rfl
 refine ⟨b, o, rfl, by rw [World.size_setCell, World.size_setCell]; exact hlt, fun q hq => ?_⟩
 obtain ⟨A1, n1, c1, B1, m1, d1, ht, h2⟩ := hc q hq
 have ne : ∀ x y, (⟨b, x, none⟩ : Addr) ≠ ⟨g, y, none⟩ := fun x y e => by injection e with e; omega
 have cell : ∀ x, ((W.setCell ⟨g, 0, none⟩ u).setCell ⟨g, 1, none⟩ v).cell? ⟨b, x, none⟩ = W.cell? ⟨b, x, none⟩ := fun x =>
  (World.cell?_setCell_other _ _ _ _ (by first | exact ne _ _ | exact (ne _ _).symm)).trans (World.cell?_setCell_other _ _ _ _ (by first | exact ne _ _ | exact (ne _ _).symm))
 refine ⟨A1, n1, c1, B1, m1, d1, ⟨(cell _).trans ht.c0, (cell _).trans ht.c1, (cell _).trans ht.c2, ?_, ht.nc, ht.cm, ?_, ht.md, ht.dm⟩, h2⟩
 · exact (ht.rd.set_other hg.c0 (by intro z e; cases e) u).set_other ((World.cell?_setCell_other _ _ _ _ (by intro e; injection e with e1 e2; omega)).trans hg.c1) (by intro z e; cases e) v
 · exact RdI.off (RdI.off ht.ri (p := ⟨g, 0, none⟩) (fun a ha => by have := h2 a ha; show g ≠ a.block; omega) u) (p := ⟨g, 1, none⟩) (fun a ha => by have := h2 a ha; show g ≠ a.block; omega) v
structure PolyX (W : World) (lo : Nat) (L : Option Addr) (c : Nat) (res : List Zt) : Prop where
 rd : RdX W lo L res.length (res.map trmOf)
 hi : ∀ a, L = some a → lo ≤ a.block
 nc : res.length ≤ c
 cm : c ≤ 9223372036854775807
theorem PolyX.low {W : World} {lo lo' : Nat} {L : Option Addr} {c : Nat} {res : List Zt} (h : PolyX W lo L c res) (hl : lo' ≤ lo) : PolyX W lo' L c res :=
 ⟨h.rd.low hl, fun a ha => Nat.le_trans hl (h.hi a ha), h.nc, h.cm⟩
theorem PolyX.below {W W' : World} {lo : Nat} {L : Option Addr} {c : Nat} {res : List Zt} (h : PolyX W lo L c res) (hb : Below W.heap.size W W') : PolyX W' lo L c res :=
 ⟨h.rd.below hb, h.hi, h.nc, h.cm⟩
theorem PolyX.two {W : World} {lo : Nat} {L : Option Addr} {c : Nat} {res : List Zt} (h : PolyX W lo L c res) {g : Nat} (hg : g < lo) {V : Int} {M : Option Addr} {j k : Nat} (hb : BxP W g V M j k) (u v : Value) : PolyX ((W.setCell ⟨g, 0, none⟩ u).setCell ⟨g, 1, none⟩ v) lo L c res :=
 ⟨h.rd.two (fun a ha => by have := h.hi a ha; omega) hg hb u v, h.hi, h.nc, h.cm⟩
theorem step_app_tx {w : World} {ops : Array Oper} {o : Oper} {a : Act} {K : Act → World → Prop} {Q : Exit → Act → World → Prop} {E : Prop} (hgd : o.guard = none) (s y : Operand)
 (ho : o.op = .call { callee := .builtin .append, args := #[s, y], argTypes := #[28, 28] })
 (Bs lo : Nat) (L : Option Addr) (j cL : Nat) (ts : List Trm) (g q : Nat) {t : Trm} {A : Option Addr} {n c : Nat} {B : Option Addr} {m d : Nat} (hs : a.eval s = .slice L j cL) (hy : a.eval y = .slice (some ⟨g, 0, none⟩) 1 q) (hown : OwX w Bs lo L j cL ts) (hB : Bs ≤ w.heap.size)
 (hx : TB w g t A n c B m d) (hlo : ∀ a, B = some a → lo ≤ a.block) (hj : j ≤ 1000000)
 (hk : ∀ g' c' w', OwX w' Bs lo (some ⟨g', 0, none⟩) (j + 1) c' (ts ++ [t]) → Below Bs w w' → K (a.put o.dst (.slice (some ⟨g', 0, none⟩) (j + 1) c')) w') :
 if Region.wanted o (yielded ops a.tmps) = true then Oper.wp Try.prog o a w K Q else E := by
 have hw2 : Region.wanted o (yielded ops a.tmps) = true := by simp [Region.wanted, hgd]
 rw [if_pos hw2]
 obtain ⟨g', c', w', hrun, h1, h2⟩ := run_app_tx w o.type Bs lo L j cL ts hown hB g q hx hlo hj
 unfold Oper.wp execOp
 simp only [ho, resolve, invoke, builtin, Sem.run_bind, Sem.run_pure, Result.andThen_ok, List.map_toArray, List.map_cons, List.map_nil, hs, hy, hrun]
 exact hk g' c' w' h1 h2
theorem step_app_tms {w : World} {ops : Array Oper} {o : Oper} {a : Act} {K : Act → World → Prop} {Q : Exit → Act → World → Prop} {E : Prop} (hgd : o.guard = none) (s y : Operand)
 (ho : o.op = .call { callee := .builtin .append, args := #[s, y], argTypes := #[28, 28] })
 (Bs lo : Nat) (L : Option Addr) (j cL : Nat) (ts : List Trm) (A : Option Addr) (n c : Nat) (us : List Trm) (hs : a.eval s = .slice L j cL) (hy : a.eval y = .slice A n c) (hown : OwX w Bs lo L j cL ts) (hB : Bs ≤ w.heap.size)
 (hx : RdX w lo A n us) (hj : j ≤ 1000000) (hn : n ≤ 1000000)
 (hk : ∀ L' c' w', OwX w' Bs lo L' (j + n) c' (ts ++ us) → Below Bs w w' → K (a.put o.dst (.slice L' (j + n) c')) w') :
 if Region.wanted o (yielded ops a.tmps) = true then Oper.wp Try.prog o a w K Q else E := by
 have hw2 : Region.wanted o (yielded ops a.tmps) = true := by simp [Region.wanted, hgd]
 rw [if_pos hw2]
 obtain ⟨L', c', w', hrun, h1, h2⟩ := run_app_tms w o.type Bs lo L j cL ts hown hB A n c us hx hj hn
 unfold Oper.wp execOp
 simp only [ho, resolve, invoke, builtin, Sem.run_bind, Sem.run_pure, Result.andThen_ok, List.map_toArray, List.map_cons, List.map_nil, hs, hy, hrun]
 exact hk L' c' w' h1 h2
end Go.Proofs.Yteabokkofoomkaa
