/- ints of one's own: Clone, the reference's Copy -/
import Derived.Test.YthjdnidapbhdlaaDoorHe
import Derived.Test.YthjdnidapbhdlaaDoorMt
set_option maxRecDepth 100000
namespace Go.Proofs.YthjdnidapbhdlaaDoor
open Go.RowKit Go.Deep
theorem info3 : (Tryd.prog.info? 3).map (fun i => (i.zero, i.size, i.bytes)) = some (some (.int .i64 0), 1, 8) := by kernel_rfl
abbrev zc : Int → Value := Value.int .i64
/-- block g holds these ints first, and may be written -/
def Ow (w : World) (g : Nat) (zs : List Int) : Prop := ∃ cur : Array Value, w.heap[g]? = some (.cells cur 3 (0, 0)) ∧ cur.toList.take zs.length = zs.map zc
section
variable {w w' : World} {g : Nat} {zs : List Int}
theorem Ow.lt (h : Ow w g zs) : g < w.heap.size := by
  obtain ⟨cur, h, _⟩ := h
  rcases Nat.lt_or_ge g w.heap.size with h1 | h1
  · exact h1
  · rw [Array.getElem?_eq_none h1] at h; cases h
theorem Ow.cell (h : Ow w g zs) (k : Nat) (hk : k < zs.length) : w.cell? ⟨g, k, none⟩ = some (.int .i64 (zs.getD k 0)) := by
  obtain ⟨cur, h, ht⟩ := h
  rw [cell_of_row w g k _ _ _ h]
  have h3 := congrArg (fun l : List Value => l[k]?) ht
  simp only [List.getElem?_take, hk, if_true] at h3
  rw [Array.getElem?_toList] at h3
  rw [h3]
  simp [List.getD_eq_getElem?_getD, List.getElem?_eq_getElem hk]
theorem Ow.frozen (h : Ow w g zs) (k : Nat) : w.frozen? ⟨g, k, none⟩ = false := by
  obtain ⟨cur, h, _⟩ := h
  simp [World.frozen?, h]
theorem Ow.set_ (h : Ow w g zs) (k : Nat) (z : Int) : Ow (w.setCell ⟨g, k, none⟩ (.int .i64 z)) g (zs.set k z) := by
  obtain ⟨cur, h, ht⟩ := h
  refine ⟨cur.setIfInBounds k (.int .i64 z), by simp [World.setCell, Array.getElem?_modify, h], ?_⟩
  rw [List.length_set, Array.toList_setIfInBounds, List.take_set, ht, List.map_set]
theorem Ow.keep (h : Ow w g zs) (hk : w'.heap[g]? = w.heap[g]?) : Ow w' g zs := by
  obtain ⟨cur, h, ht⟩ := h
  exact ⟨cur, hk.trans h, ht⟩
theorem Ow.next (h : Ow w g zs) (hb : Below w.heap.size w w') : Ow w' g zs := h.keep (hb.block g h.lt)
theorem Ow.far (h : Ow w g zs) {p : Addr} (hp : g ≠ p.block) (u : Value) : Ow (w.setCell p u) g zs := h.keep (Below.heap_setCell w p u g hp)
theorem Ow.rd (h : Ow w g zs) : RdI w (some ⟨g, 0, none⟩) zs.length zs :=
  ⟨rfl, fun _ => ⟨g, 0, rfl, h.lt, fun k hk => by rw [Nat.zero_add]; exact h.cell k hk⟩⟩
end
theorem own_made (w : World) : (w.alloc (.cells #[] 3)).ownsRow w.heap.size 3 1 (.slice (some ⟨w.heap.size, 0, none⟩) 0 0) 0 [] :=
  World.ownsRow_made w #[] 0 (Nat.le_refl _) (Nat.zero_le _) rfl
/-- append of ints to an empty slice of one's own -/
theorem run_app_ints (w : World) (ty : TypeId) (B g : Nat) (hown : w.ownsRow B 3 1 (.slice (some ⟨g, 0, none⟩) 0 0) 0 []) (hB : B ≤ w.heap.size) (A : Option Addr) (m c : Nat) (zs : List Int) (hr : RdI w A m zs) (hm0 : 0 < m) (hm : m ≤ 17592186044416) :
    ∃ g' c' w', (Builtin.append_ #[44, 44] ty #[.slice (some ⟨g, 0, none⟩) 0 0, .slice A m c]).run Tryd.prog w = .ok (.slice (some ⟨g', 0, none⟩) m c') w' ∧ Ow w' g' zs ∧ B ≤ g' ∧ m ≤ c' ∧ c' ≤ 9223372036854775807 ∧ Below B w w' := by
  obtain ⟨i, hi, hz, hs, hb⟩ := info_parts info3
  have hlen := hr.len
  obtain ⟨b, o, rfl, hlt, hc⟩ := hr.at_ hm0
  have hBg : B ≤ g := by
    rcases hown.2 with ⟨h1, _⟩ | ⟨g2, cap, cur, h1, h2, _⟩
    · cases h1
    · injection h1 with h1
      injection h1 with h1
      injection h1 with h1
      omega
  obtain ⟨v', w', hrun, hown', hgr, hnil, hat⟩ := run_append_own_at (P := Tryd.prog) w B 44 ty 3 i (.int .i64 0) 1 8 Tryd.underlying44 hi hz hs hb rfl (by omega) (.slice (some ⟨g, 0, none⟩) 0 0) 0 [] hown ⟨b, o, none⟩ m c (zs.map zc) (by simp [hlen])
    (fun j u hu => by
      have hj : j < zs.length := by
        rcases Nat.lt_or_ge j zs.length with h1 | h1
        · exact h1
        · rw [List.getElem?_eq_none (by simpa using h1)] at hu; cases hu
      have ea : (⟨b, o, none⟩ : Addr).add j = ⟨b, o + j, none⟩ := by unfold Addr.add; split <;> simp_all
      rw [ea, hc j (by omega), ← hu]
      simp [List.getElem?_eq_getElem hj])
    (fun u hu => by obtain ⟨x, _, rfl⟩ := List.mem_map.1 hu; rfl) (by simp only [maxLen]; omega) (by omega) hB
  rcases hown'.2 with ⟨rfl, h1⟩ | ⟨g2, cap, cur, rfl, hg1, hh, hcap, hcap2, hcur, htake⟩
  · exact absurd (hnil.1 rfl).1 (by simp)
  · have em : 0 + m = m := by omega
    rw [em] at hrun hcap htake
    simp only [List.nil_append, Nat.mul_one] at htake
    exact ⟨g2, cap, w', hrun, ⟨cur, hh, by rw [hlen]; exact htake⟩, hg1, hcap, by simpa [maxLen] using hcap2, ⟨hgr.os, hgr.tape, hgr.output, hgr.size, fun q hq => hgr.block q (by omega) (by simp [Value.ownBlock]; omega)⟩⟩
theorem wp_app_ints {w : World} {o : Oper} {a : Act} {K : Act → World → Prop} {Q : Exit → Act → World → Prop} (s x : Operand)
    (ho : o.op = .call { callee := .builtin .append, args := #[s, x], argTypes := #[44, 44] })
    (B g : Nat) (A : Option Addr) (m c : Nat) (zs : List Int) (hs : a.eval s = .slice (some ⟨g, 0, none⟩) 0 0) (hx : a.eval x = .slice A m c) (hown : w.ownsRow B 3 1 (.slice (some ⟨g, 0, none⟩) 0 0) 0 []) (hB : B ≤ w.heap.size) (hr : RdI w A m zs) (hm0 : 0 < m) (hm : m ≤ 17592186044416)
    (h : ∀ g' c' w', Ow w' g' zs → B ≤ g' → m ≤ c' → c' ≤ 9223372036854775807 → Below B w w' → K (a.put o.dst (.slice (some ⟨g', 0, none⟩) m c')) w') : o.wp Tryd.prog a w K Q := by
  obtain ⟨g', c', w', hrun, h1, h2, h3, h4, h5⟩ := run_app_ints w o.type B g hown hB A m c zs hr hm0 hm
  unfold Oper.wp execOp
  simp only [ho, resolve, invoke, builtin, Sem.run_bind, Sem.run_pure, Result.andThen_ok, List.map_toArray, List.map_cons, List.map_nil, hs, hx, hrun]
  exact h g' c' w' h1 h2 h3 h4 h5
theorem step_app_ints {w : World} {ops : Array Oper} {o : Oper} {a : Act} {K : Act → World → Prop} {Q : Exit → Act → World → Prop} {E : Prop} (hgd : o.guard = none) (s x : Operand)
    (ho : o.op = .call { callee := .builtin .append, args := #[s, x], argTypes := #[44, 44] })
    (B g : Nat) (A : Option Addr) (m c : Nat) (zs : List Int) (hs : a.eval s = .slice (some ⟨g, 0, none⟩) 0 0) (hx : a.eval x = .slice A m c) (hown : w.ownsRow B 3 1 (.slice (some ⟨g, 0, none⟩) 0 0) 0 []) (hB : B ≤ w.heap.size) (hr : RdI w A m zs) (hm0 : 0 < m) (hm : m ≤ 17592186044416)
    (h : ∀ g' c' w', Ow w' g' zs → B ≤ g' → m ≤ c' → c' ≤ 9223372036854775807 → Below B w w' → K (a.put o.dst (.slice (some ⟨g', 0, none⟩) m c')) w') :
    if Region.wanted o (yielded ops a.tmps) = true then Oper.wp Tryd.prog o a w K Q else E := by
  have hw : Region.wanted o (yielded ops a.tmps) = true := by simp [Region.wanted, hgd]
  rw [if_pos hw]
  exact wp_app_ints s x ho B g A m c zs hs hx hown hB hr hm0 hm h
theorem wpList_app_ints {w : World} {ops : Array Oper} {rest : List Oper} {o : Oper} {a : Act} {Q : Exit → Act → World → Prop} (hgd : o.guard = none) (s x : Operand)
    (ho : o.op = .call { callee := .builtin .append, args := #[s, x], argTypes := #[44, 44] })
    (B g : Nat) (A : Option Addr) (m c : Nat) (zs : List Int) (hs : a.eval s = .slice (some ⟨g, 0, none⟩) 0 0) (hx : a.eval x = .slice A m c) (hown : w.ownsRow B 3 1 (.slice (some ⟨g, 0, none⟩) 0 0) 0 []) (hB : B ≤ w.heap.size) (hr : RdI w A m zs) (hm0 : 0 < m) (hm : m ≤ 17592186044416)
    (h : ∀ g' c' w', Ow w' g' zs → B ≤ g' → m ≤ c' → c' ≤ 9223372036854775807 → Below B w w' → wpList Tryd.prog ops Q rest (a.put o.dst (.slice (some ⟨g', 0, none⟩) m c')) w') : wpList Tryd.prog ops Q (o :: rest) a w :=
  wpList_plain hgd fun _ hK => wp_app_ints s x ho B g A m c zs hs hx hown hB hr hm0 hm fun g' c' w' h1 h2 h3 h4 h5 => hK _ _ (h g' c' w' h1 h2 h3 h4 h5)
/-- a list of the call's own -/
def NewI (zs : List Int) (w : World) (e : Ending) (w' : World) : Prop :=
  ∃ g c, e = .returned (.slice (some ⟨g, 0, none⟩) zs.length c) ∧ Ow w' g zs ∧ w.heap.size ≤ g ∧ zs.length ≤ c ∧ c ≤ 9223372036854775807 ∧ Below w.heap.size w w'
set_option maxHeartbeats 2000000 in
theorem clone_i (A : Option Addr) (n c : Nat) (zs : List Int) (w : World) (hr : RdI w A n zs) (h0 : 0 < n) (hn : n ≤ 17592186044416) :
    Calls Tryd.prog 76 #[.slice A n c] w (NewI zs w) := by
  have q22 : ∀ (w : World) (a : Option Addr) (n c n' c' : Nat), (binOp .eql 44 (.slice a n c) (.slice none n' c')).run Tryd.prog w = .ok (.bool a.isNone) w := fun w a n c n' c' => Lib.run_eql_slice_nil w _ _ a n c n' c' Tryd.underlying44
  have HL := Lib.hid hr.len
  have hr1 := hr.below (bel_alloc w (.cells #[] 3))
  have HR := Lib.hid hr1
  have HO := Lib.hid (own_made w)
  obtain ⟨b, o, rfl, _, _⟩ := hr.at_ h0
  clear hr hr1
  go_enter Tryd.func76, Tryd.ntmps76
  go_wp2_with (at_builtin; refine wpList_app_ints rfl (.tmp 5) (.tmp 6) rfl w.heap.size w.heap.size (some ⟨b, o, none⟩) n c zs rfl rfl HO.out (by simp) HR.out h0 hn ?_)
  intro g' c' w' h1 h2 h3 h4 h5
  have HB := Lib.hid ((bel_alloc w (.cells #[] 3)).trans h5)
  have H1 := Lib.hid h1
  clear h1 h5
  go_wp2
  go_ret
  exact ⟨g', c', by rw [HL.out]; rfl, H1.out, h2, by rw [HL.out]; exact h3, h4, HB.out⟩
/-- a state, its contents of the call's own -/
def NewS (at_ : Int) (zs : List Int) (w : World) (e : Ending) (w' : World) : Prop :=
  ∃ g c, e = .returned (.agg #[.int .i64 at_, .slice (some ⟨g, 0, none⟩) zs.length c]) ∧ Ow w' g zs ∧ w.heap.size ≤ g ∧ zs.length ≤ c ∧ c ≤ 9223372036854775807 ∧ Below w.heap.size w w'
/-- a state's variable -/
structure BxS (W : World) (g : Nat) (at_ : Int) (A : Option Addr) (n c : Nat) : Prop where
  lt : g < W.heap.size
  c0 : W.cell? ⟨g, 0, none⟩ = some (.int .i64 at_)
  c1 : W.cell? ⟨g, 1, none⟩ = some (.slice A n c)
  f0 : W.frozen? ⟨g, 0, none⟩ = false
  f1 : W.frozen? ⟨g, 1, none⟩ = false
section
variable {W W' : World} {g : Nat} {at_ : Int} {A : Option Addr} {n c : Nat}
theorem BxS.next (h : BxS W g at_ A n c) (hb : Below W.heap.size W W') : BxS W' g at_ A n c :=
  ⟨Nat.lt_of_lt_of_le h.lt hb.size, (hb.cell (p := ⟨g, 0, none⟩) h.lt).trans h.c0, (hb.cell (p := ⟨g, 1, none⟩) h.lt).trans h.c1, (hb.frozen (p := ⟨g, 0, none⟩) h.lt).trans h.f0, (hb.frozen (p := ⟨g, 1, none⟩) h.lt).trans h.f1⟩
theorem BxS.new (W : World) (at_ : Int) (A : Option Addr) (n c : Nat) : BxS (W.alloc (.cells #[.int .i64 at_, .slice A n c] 46)) W.heap.size at_ A n c :=
  ⟨by simp, by go_simp, by go_simp, by go_simp, by go_simp⟩
theorem BxS.put0 (h : BxS W g at_ A n c) (z : Int) : BxS (W.setCell ⟨g, 0, none⟩ (.int .i64 z)) g z A n c := by
  have c0 := h.c0
  have c1 := h.c1
  have f0 := h.f0
  have f1 := h.f1
  exact ⟨by rw [World.size_setCell]; exact h.lt, by go_simp, by go_simp, by rw [World.frozen?_setCell]; exact f0, by rw [World.frozen?_setCell]; exact f1⟩
theorem BxS.put1 (h : BxS W g at_ A n c) (A' : Option Addr) (n' c' : Nat) : BxS (W.setCell ⟨g, 1, none⟩ (.slice A' n' c')) g at_ A' n' c' := by
  have c0 := h.c0
  have c1 := h.c1
  have f0 := h.f0
  have f1 := h.f1
  exact ⟨by rw [World.size_setCell]; exact h.lt, by go_simp, by go_simp, by rw [World.frozen?_setCell]; exact f0, by rw [World.frozen?_setCell]; exact f1⟩
theorem BxS.put (h : BxS W g at_ A n c) (z : Int) (A' : Option Addr) (n' c' : Nat) : BxS ((W.setCell ⟨g, 0, none⟩ (.int .i64 z)).setCell ⟨g, 1, none⟩ (.slice A' n' c')) g z A' n' c' := (h.put0 z).put1 A' n' c'
theorem BxS.off (h : BxS W g at_ A n c) {p : Addr} (hp : p.block ≠ g) (u : Value) : BxS (W.setCell p u) g at_ A n c :=
  have e : ∀ i, (⟨g, i, none⟩ : Addr) ≠ p := fun i he => hp (by rw [← he])
  ⟨by rw [World.size_setCell]; exact h.lt, (World.cell?_setCell_other W p ⟨g, 0, none⟩ u (by first | exact e 0 | exact fun he => e 0 he.symm)).trans h.c0, (World.cell?_setCell_other W p ⟨g, 1, none⟩ u (by first | exact e 1 | exact fun he => e 1 he.symm)).trans h.c1, by rw [World.frozen?_setCell]; exact h.f0, by rw [World.frozen?_setCell]; exact h.f1⟩
end
theorem bel_set {w w' : World} {B : Nat} (h : Below B w w') {p : Addr} (hp : B ≤ p.block) (u : Value) : Below B w (w'.setCell p u) := h.setCell hp u
theorem cell_dr {w : World} {a : Addr} {v : Value} (h : w.cell? a = some v) : w.drew.cell? a = some v := h
set_option maxHeartbeats 4000000 in
theorem copy_s (at_ : Int) (A : Option Addr) (n c : Nat) (zs : List Int) (w : World) (hr : RdI w A n zs) (h0 : 0 < n) (hn : n ≤ 17592186044416) :
    Calls Tryd.prog 98 #[.agg #[.int .i64 at_, .slice A n c]] w (NewS at_ zs w) := by
  have HL := Lib.hid hr.len
  have k0 := bel_alloc w (.cells #[.int .i64 at_, .slice A n c] 46)
  have k1 := bel_alloc (w.alloc (.cells #[.int .i64 at_, .slice A n c] 46)) (.cells #[.int .i64 0, .slice none 0 0] 46)
  have P := Lib.hid (k0.trans (k1.mono k0.size))
  have HR := Lib.hid ((hr.below k0).below k1)
  have Xs := Lib.hid ((BxS.new w at_ A n c).next k1)
  have Xr := Lib.hid (BxS.new (w.alloc (.cells #[.int .i64 at_, .slice A n c] 46)) 0 none 0 0)
  rw [World.size_alloc] at Xr
  clear hr k0 k1
  go_enter Tryd.func98, Tryd.ntmps98
  go_upto_region 1 with (fail)
  generalize (w.alloc (.cells #[.int .i64 at_, .slice A n c] 46)).alloc (.cells #[.int .i64 0, .slice none 0 0] 46) = W0 at P HR Xs Xr ⊢
  obtain ⟨g, hg⟩ : ∃ g, g = w.heap.size := ⟨_, rfl⟩
  have HG := Lib.hid (show w.heap.size ≤ g by omega)
  rw [← hg] at Xs Xr ⊢
  clear hg
  refine wp_region_tail (S := (fun w' => w'.cell? ⟨g, 0, none⟩ = some (.int .i64 at_) ∧ w'.cell? ⟨g, 1, none⟩ = some (.slice A n c))) 7 (by kernel_rfl) (by kernel_rfl) (by intro c a d v w h; cases d <;> exact h) (⟨cell_dr Xs.out.c0, cell_dr Xs.out.c1⟩) (fun QT hT hP hHeld => ?_)
  simp only [List.extract_toArray, List.extract_eq_take_drop, List.drop_zero, Nat.sub_zero, List.take_succ_cons, List.take_zero]
  have HT := Lib.hid hT
  clear hT
  replace P := Lib.hid (P.out.trans ((Below.refl W0.heap.size W0).drew.mono P.out.size))
  replace HR := Lib.hid (HR.out.below (Below.refl W0.heap.size W0).drew)
  replace Xs := Lib.hid (Xs.out.next (Below.refl W0.heap.size W0).drew)
  replace Xr := Lib.hid (Xr.out.next (Below.refl W0.heap.size W0).drew)
  generalize W0.drew = D1 at P HR Xs Xr hHeld ⊢
  refine take_on (i := 0) (d := (some 3)) (v := ?v1) rfl rfl (by kernel_rfl) (by kernel_rfl) (by kernel_rfl) (fun c a w h => hP c a _ _ w h) (by rfl) ?h1 (by assumption) ?r1
  case h1 => intro w hSw; obtain ⟨h0, h1⟩ := hSw; go_simp; rfl
  simp only [Act.put, List.setIfInBounds_toArray, List.set_cons_zero, List.set_cons_succ]
  refine take_on (i := 1) (d := (some 4)) (v := ?v2) rfl rfl (by kernel_rfl) (by kernel_rfl) (by kernel_rfl) (fun c a w h => hP c a _ _ w h) (by rfl) ?h2 (by assumption) ?r2
  case h2 => intro w hSw; obtain ⟨h0, h1⟩ := hSw; go_simp; rfl
  simp only [Act.put, List.setIfInBounds_toArray, List.set_cons_zero, List.set_cons_succ]
  refine take_on (i := 3) (d := (some 6)) (v := ?v3) rfl rfl (by kernel_rfl) (by kernel_rfl) (by kernel_rfl) (fun c a w h => hP c a _ _ w h) (by rfl) ?h3 (by assumption) ?r3
  case h3 => intro w hSw; obtain ⟨h0, h1⟩ := hSw; go_simp; rfl
  simp only [Act.put, List.setIfInBounds_toArray, List.set_cons_zero, List.set_cons_succ]
  refine take_on (i := 4) (d := (some 7)) (v := ?v4) rfl rfl (by kernel_rfl) (by kernel_rfl) (by kernel_rfl) (fun c a w h => hP c a _ _ w h) (by rfl) ?h4 (by assumption) ?r4
  case h4 => intro w hSw; obtain ⟨h0, h1⟩ := hSw; go_simp; rfl
  simp only [Act.put, List.setIfInBounds_toArray, List.set_cons_zero, List.set_cons_succ]
  refine wpAnyH_ready (rs := [2]) (by kernel_rfl) (by simp) ?_
  refine AllReadyH.cons rfl (fun K hK => ?_) AllReadyH.nil
  go_simp
  have O1 := Lib.hid (own_made D1)
  have KB := Lib.hid (bel_alloc D1 (.cells #[] 3))
  have P0 := P
  have HR0 := HR
  have Xs0 := Xs
  have Xr0 := Xr
  replace P := Lib.hid (P.out.trans ((bel_alloc D1 (.cells #[] 3)).mono P.out.size))
  replace HR := Lib.hid (HR.out.below (bel_alloc D1 (.cells #[] 3)))
  replace Xs := Lib.hid (Xs.out.next (bel_alloc D1 (.cells #[] 3)))
  replace Xr := Lib.hid (Xr.out.next (bel_alloc D1 (.cells #[] 3)))
  clear hHeld
  generalize D1.alloc (.cells #[] 3) = E at P HR Xs Xr O1 KB ⊢
  refine hK.out _ _ (⟨Xs.out.c0, Xs.out.c1⟩) (fun hHeld => ?_)
  clear hK K
  refine wpAnyH_ready (rs := [5]) (by kernel_rfl) (by simp) ?_
  refine AllReadyH.cons rfl (fun K hK => ?_) AllReadyH.nil
  refine step_app_ints rfl (.tmp 5) (.tmp 7) rfl D1.heap.size D1.heap.size A n c zs rfl rfl O1.out KB.out.size HR.out h0 hn ?_
  intro g' c' w1 h1 h2 h3 h4 h5
  have hb := KB.out.trans h5
  have H1 := Lib.hid h1
  clear P HR Xs Xr hHeld h5 KB O1 h1
  have P := Lib.hid (P0.out.trans (hb.mono P0.out.size))
  have HR := Lib.hid (HR0.out.below hb)
  have Xs := Lib.hid (Xs0.out.next hb)
  have Xr := Lib.hid (Xr0.out.next hb)
  have HGG := Lib.hid (show g + 1 < g' from Nat.lt_of_lt_of_le Xr0.out.lt h2)
  have HW := Lib.hid (show w.heap.size ≤ g' from Nat.le_trans P0.out.size h2)
  have H34 := Lib.hid (And.intro h3 h4)
  clear hb P0 HR0 Xs0 Xr0 h2 h3 h4
  refine hK.out _ _ (⟨Xs.out.c0, Xs.out.c1⟩) (fun hHeld => ?_)
  clear hK K
  refine take_on (i := 6) (d := (some 9)) (v := ?v5) rfl rfl (by kernel_rfl) (by kernel_rfl) (by kernel_rfl) (fun c a w h => hP c a _ _ w h) (by rfl) ?h5 (by assumption) ?r5
  case h5 => intro w hSw; obtain ⟨h0, h1⟩ := hSw; go_simp; rfl
  simp only [Act.put, List.setIfInBounds_toArray]
  clear hHeld
  refine wpAnyH_done (by kernel_rfl) ?_ _
  refine HT.out _ _ ?_
  clear HT hP QT
  have r0 := Xr.out.c0
  have r1 := Xr.out.c1
  have f0 := Xr.out.f0
  have f1 := Xr.out.f1
  refine wpList_step fun K hK => ?_
  go_simp
  refine hK _ _ ?_
  clear hK K
  refine wpList_nil ?_
  go_wp2
  have Q := Xr.out.put at_ (some ⟨g', 0, none⟩) n c'
  have y0 := Q.c0
  have y1 := Q.c1
  refine bodyPost_ret (v := .agg #[.int .i64 at_, .slice (some ⟨g', 0, none⟩) n c']) (by simp [results, Tryd.results98, go_sem, y0, y1]) rfl ?_
  have e : g' ≠ g + 1 := by have := HGG.out; omega
  exact ⟨g', c', by rw [HL.out], (H1.out.far e _).far e _, HW.out, by rw [HL.out]; exact H34.out.1, H34.out.2, bel_set (bel_set P.out (by have := HG.out; show w.heap.size ≤ g + 1; omega) _) (by have := HG.out; show w.heap.size ≤ g + 1; omega) _⟩
end Go.Proofs.YthjdnidapbhdlaaDoor
