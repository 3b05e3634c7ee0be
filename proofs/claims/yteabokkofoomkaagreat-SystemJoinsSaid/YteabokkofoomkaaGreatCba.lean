import Derived.Test.YteabokkofoomkaaGreatCak
import Derived.Test.YteabokkofoomkaaGreatCaz
set_option maxRecDepth 100000
namespace Go.Proofs.YteabokkofoomkaaGreat
open Go.RowKit Go.Shelf Go.Deep
def sortZ (l : List Zt) : List Zt := if h : l.length < 2 then mergeZ l [] else mergeZ (sortZ (l.take (l.length / 2))) (sortZ (l.drop (l.length / 2)))
termination_by l.length
decreasing_by
 · rw [List.length_take]; omega
 · rw [List.length_drop]; omega
def TIn (K M : Nat) (ts : List Zt) : Prop := ∀ t ∈ ts, ExpsIn t.es ∧ t.es.length = M ∧ Sz t.z K
theorem TIn.le {K K' M : Nat} {ts : List Zt} (h : TIn K M ts) (hk : K ≤ K') : TIn K' M ts := fun t ht => ⟨(h t ht).1, (h t ht).2.1, (h t ht).2.2.le hk⟩
theorem ztAt_mem {ts : List Zt} {i : Nat} (h : i < ts.length) : ztAt ts i ∈ ts := by
 unfold ztAt
 rw [List.getD_eq_getElem?_getD, List.getElem?_eq_getElem h]
 exact List.getElem_mem h
theorem TIn.min {K M : Nat} {us vs : List Zt} (h : TIn K M us) (h' : TIn K M vs) : MIn K M us vs :=
 ⟨fun _ hi => h _ (ztAt_mem hi), fun _ hi => h' _ (ztAt_mem hi)⟩
theorem consZ_in {K M : Nat} {t : Zt} {l : List Zt} (ht : ExpsIn t.es ∧ t.es.length = M ∧ Sz t.z K) (h : TIn K M l) : TIn K M (consZ t l) := by
 unfold consZ
 split
 · exact h
 · intro x hx
   rcases List.mem_cons.1 hx with rfl | hx
   · exact ht
   · exact h x hx
theorem mergeZ_in {K M : Nat} : ∀ (us vs : List Zt), TIn K M us → TIn K M vs → TIn (K + 1) M (mergeZ us vs)
 | [], [], _, _ => by rw [mergeZ]; intro t ht; cases ht
 | a :: us, [], h, h' => by
   rw [mergeZ]
   exact consZ_in (h.le (Nat.le_succ K) a (by simp)) (mergeZ_in us [] (fun t ht => h t (by simp [ht])) h')
 | [], b :: vs, h, h' => by
   rw [mergeZ]
   exact consZ_in (h'.le (Nat.le_succ K) b (by simp)) (mergeZ_in [] vs h (fun t ht => h' t (by simp [ht])))
 | a :: us, b :: vs, h, h' => by
   have ha := h a (by simp)
   have hb := h' b (by simp)
   have hu : TIn K M us := fun t ht => h t (by simp [ht])
   have hv : TIn K M vs := fun t ht => h' t (by simp [ht])
   rw [mergeZ]
   split
   · exact consZ_in (h.le (Nat.le_succ K) a (by simp)) (mergeZ_in us (b :: vs) hu h')
   · split
     · exact consZ_in (h'.le (Nat.le_succ K) b (by simp)) (mergeZ_in (a :: us) vs h hv)
     · exact consZ_in ⟨ha.1, ha.2.1, ha.2.2.add hb.2.2⟩ (mergeZ_in us vs hu hv)
termination_by us vs => us.length + vs.length
theorem consZ_len (t : Zt) (l : List Zt) : (consZ t l).length ≤ l.length + 1 := by
 unfold consZ; split <;> simp
theorem mergeZ_len : ∀ (us vs : List Zt), (mergeZ us vs).length ≤ us.length + vs.length
 | [], [] => by rw [mergeZ]; simp
 | a :: us, [] => by
   rw [mergeZ]
   have h1 := consZ_len a (mergeZ us [])
   have h2 := mergeZ_len us []
   simp only [List.length_cons, List.length_nil] at *
   omega
 | [], b :: vs => by
   rw [mergeZ]
   have h1 := consZ_len b (mergeZ [] vs)
   have h2 := mergeZ_len [] vs
   simp only [List.length_cons, List.length_nil] at *
   omega
 | a :: us, b :: vs => by
   rw [mergeZ]
   split
   · have h1 := consZ_len a (mergeZ us (b :: vs))
     have h2 := mergeZ_len us (b :: vs)
     simp only [List.length_cons] at *
     omega
   · split
     · have h1 := consZ_len b (mergeZ (a :: us) vs)
       have h2 := mergeZ_len (a :: us) vs
       simp only [List.length_cons] at *
       omega
     · have h1 := consZ_len ⟨a.z + b.z, a.es⟩ (mergeZ us vs)
       have h2 := mergeZ_len us vs
       simp only [List.length_cons] at *
       omega
termination_by us vs => us.length + vs.length
theorem sortZ_len : ∀ (n : Nat) (l : List Zt), l.length ≤ n → (sortZ l).length ≤ l.length := by
 intro n
 induction n with
 | zero =>
   intro l h
   have e : l = [] := List.eq_nil_of_length_eq_zero (by omega)
   subst e
   rw [sortZ, dif_pos (by simp), mergeZ]
   exact Nat.le_refl _
 | succ n ih =>
   intro l h
   rw [sortZ]
   split
   · have := mergeZ_len l []
     simpa using this
   · have h1 := ih (l.take (l.length / 2)) (by rw [List.length_take]; omega)
     have h2 := ih (l.drop (l.length / 2)) (by rw [List.length_drop]; omega)
     have h3 := mergeZ_len (sortZ (l.take (l.length / 2))) (sortZ (l.drop (l.length / 2)))
     rw [List.length_take] at h1
     rw [List.length_drop] at h2
     omega
theorem sortZ_in {M : Nat} : ∀ (n K : Nat) (l : List Zt), l.length ≤ n → TIn K M l → TIn (K + l.length) M (sortZ l) := by
 intro n
 induction n with
 | zero =>
   intro K l h _
   have e : l = [] := List.eq_nil_of_length_eq_zero (by omega)
   subst e
   rw [sortZ, dif_pos (by simp), mergeZ]
   intro t ht; cases ht
 | succ n ih =>
   intro K l h hl
   rw [sortZ]
   split
   · rcases Nat.eq_zero_or_pos l.length with e | e
     · have e2 : l = [] := List.eq_nil_of_length_eq_zero e
       subst e2
       rw [mergeZ]
       intro t ht; cases ht
     · exact (mergeZ_in l [] hl (fun t ht => by cases ht)).le (by omega)
   · have h1 := ih K (l.take (l.length / 2)) (by rw [List.length_take]; omega) (fun t ht => hl t (List.mem_of_mem_take ht))
     have h2 := ih K (l.drop (l.length / 2)) (by rw [List.length_drop]; omega) (fun t ht => hl t (List.mem_of_mem_drop ht))
     rw [List.length_take] at h1
     rw [List.length_drop] at h2
     exact (mergeZ_in _ _ (h1.le (K' := K + (l.length - 1)) (by omega)) (h2.le (by omega))).le (by omega)
theorem OwT.base {W : World} {B B' : Nat} {A : Option Addr} {j c : Nat} {ts : List Trm} (h : OwT W B A j c ts) (hb : B' ≤ B) : OwT W B' A j c ts := by
 obtain ⟨rs, ho, hl, hr⟩ := h.ex
 refine ⟨h.len, h.kind, rs, ⟨ho.1, ?_⟩, hl, hr⟩
 rcases ho.2 with q | ⟨g, cap, cur, e, h1, h2⟩
 · exact .inl q
 · exact .inr ⟨g, cap, cur, e, by omega, h2⟩
def SortP (l : List Zt) (w : World) (e : Ending) (w' : World) : Prop :=
 ∃ A c, e = .returned (.slice A (sortZ l).length c) ∧ OwT w' w.heap.size A (sortZ l).length c ((sortZ l).map trmOf) ∧ Below w.heap.size w w'
theorem rdT_take {w : World} {A : Option Addr} {n : Nat} {ts : List Trm} (h : RdT w A n ts) {k : Nat} (hk : k ≤ n) : RdT w A k (ts.take k) := by
 have hl := h.len
 refine ⟨by rw [List.length_take]; omega, fun h0 => ?_⟩
 obtain ⟨b, o, e, hlt, hc⟩ := h.at_ (by omega)
 refine ⟨b, o, e, hlt, fun i hi => ?_⟩
 obtain ⟨A1, n1, c1, B1, m1, d1, hT⟩ := hc i (by omega)
 refine ⟨A1, n1, c1, B1, m1, d1, ?_⟩
 have e2 : trmAt (ts.take k) i = trmAt ts i := by
  simp [trmAt, List.getD_eq_getElem?_getD, hi]
 rw [e2]; exact hT
theorem rdT_drop {w : World} {b o : Nat} {n : Nat} {ts : List Trm} (h : RdT w (some ⟨b, o, none⟩) n ts) {k : Nat} (hk : k ≤ n) : RdT w (some ⟨b, o + k * 3, none⟩) (n - k) (ts.drop k) := by
 have hl := h.len
 refine ⟨by rw [List.length_drop]; omega, fun h0 => ?_⟩
 obtain ⟨b', o', e, hlt, hc⟩ := h.at_ (by omega)
 injection e with e
 injection e with e1 e2
 subst e1 e2
 refine ⟨b, o + k * 3, rfl, hlt, fun i hi => ?_⟩
 obtain ⟨A1, n1, c1, B1, m1, d1, hT⟩ := hc (k + i) (by omega)
 refine ⟨A1, n1, c1, B1, m1, d1, ?_⟩
 have e2 : trmAt (ts.drop k) i = trmAt ts (k + i) := by
  simp [trmAt, List.getD_eq_getElem?_getD]
 rw [e2, show o + k * 3 + i * 3 = o + (k + i) * 3 by omega]
 exact hT
set_option maxHeartbeats 8000000 in
theorem sorted_c (M : Nat) (hM : M ≤ 1000000) : ∀ (N Kw : Nat) (A : Option Addr) (n c : Nat) (l : List Zt) (w : World), RdT w A n (l.map trmOf) → n ≤ N → TIn Kw M l → Kw + n ≤ 1000000000 → n ≤ 500000 → n ≤ c → c ≤ 9223372036854775807 →
 Calls Tryz.prog 56 #[.slice A n c] w (SortP l w) := by
 intro N
 induction N with
 | zero =>
   intro Kw A n c l w h hN hI hK hn hc hcm
   obtain rfl : n = 0 := by omega
   have hl : l.length = 0 := by have := h.len; rwa [List.length_map] at this
   have HF := Lib.hid (show sortZ l = mergeZ l [] by rw [sortZ, dif_pos (by omega)])
   have HM := Lib.hid (merged_c Kw M A 0 c l none 0 0 [] w h (RdT.nil w none) (hI.min (fun t ht => by cases ht)) (by omega) hM (by omega))
   clear h hI hl hN
   go_enter Tryz.func56, Tryz.ntmps56
   go_wp2_with fail
   refine HM.out.mono ?_
   rintro e w1 ⟨A1, c1, rfl, ho, hb⟩
   have HR := Lib.hid (show SortP l w (.returned (.slice A1 (mergeZ l []).length c1)) w1 from ⟨A1, c1, by rw [HF.out], by rw [HF.out]; exact ho, hb⟩)
   clear ho hb
   go_wp2
   go_ret
   exact HR.out
 | succ N ih =>
   intro Kw A n c l w h hN hI hK hn hc hcm
   have hl : l.length = n := by have := h.len; rwa [List.length_map] at this
   by_cases h2 : n < 2
   · have t1 : decide ((n : Int) < 2) = true := decide_eq_true (by omega)
     have t1n : decide (n < 2) = true := decide_eq_true h2
     have HF := Lib.hid (show sortZ l = mergeZ l [] by rw [sortZ, dif_pos (by omega)])
     have HM := Lib.hid (merged_c Kw M A n c l none 0 0 [] w h (RdT.nil w none) (hI.min (fun t ht => by cases ht)) (by omega) hM (by omega))
     clear h hI hl hN ih
     go_enter Tryz.func56, Tryz.ntmps56
     go_wp2_with fail
     refine HM.out.mono ?_
     rintro e w1 ⟨A1, c1, rfl, ho, hb⟩
     have HR := Lib.hid (show SortP l w (.returned (.slice A1 (mergeZ l []).length c1)) w1 from ⟨A1, c1, by rw [HF.out], by rw [HF.out]; exact ho, hb⟩)
     clear ho hb
     go_wp2
     go_ret
     exact HR.out
   · have t1 : decide ((n : Int) < 2) = false := decide_eq_false (by omega)
     have t1n : decide (n < 2) = false := decide_eq_false h2
     obtain ⟨b, o, rfl, _, _⟩ := h.at_ (by omega)
     obtain ⟨k, hk⟩ : ∃ k, k = n / 2 := ⟨_, rfl⟩
     have hkn : 0 < k ∧ k < n := by omega
     have hq : (n : Int) / 2 = (k : Int) := by omega
     have hqt : (n : Int).tdiv 2 = (k : Int) := by
      rw [Int.tdiv_eq_ediv_of_nonneg (by omega)]; exact hq
     have HA := Lib.hid (rdT_take h (k := k) (by omega))
     have HB := Lib.hid (rdT_drop h (k := k) (by omega))
     have HF := Lib.hid (show sortZ l = mergeZ (sortZ (l.take k)) (sortZ (l.drop k)) by rw [sortZ, dif_neg (by omega), hl, ← hk])
     have HTA := Lib.hid (show TIn Kw M (l.take k) from fun t ht => hI t (List.mem_of_mem_take ht))
     have HTB := Lib.hid (show TIn Kw M (l.drop k) from fun t ht => hI t (List.mem_of_mem_drop ht))
     have HIH := Lib.hid ih
     have HLL := Lib.hid (And.intro hl (And.intro hkn (And.intro hN (And.intro hK hn))))
     have P := Lib.hid (Below.refl w.heap.size w)
     clear h hI hl hN ih hk hK
     go_enter Tryz.func56, Tryz.ntmps56
     have wk : IntKind.i64.wrap (k : Int) = (k : Int) := IntWalk.i64_in _ (by omega)
     have hk0 : (0 : Int) ≤ (k : Int) := by omega
     have hkc : (k : Int) ≤ (c : Int) := by omega
     have hkn2 : (k : Int) ≤ (n : Int) := by omega
     have hck : ¬ c = k := by omega
     go_upto_region 3 with (fail)
     refine wp_region_held_drew (S := (fun _ => True)) (by kernel_rfl) (trivial) (fun hHeld => ?_)
     replace P := Lib.hid (P.out.trans ((Below.refl w.heap.size w).drew.mono P.out.size))
     generalize w.drew = D1 at P hHeld ⊢
     refine tkk 0 8 rfl rfl (by kernel_rfl) (fun _ _ _ _ h => h) (by rfl) (fun w h => by go_simp; rfl) (by assumption) ?_
     simp only [set0, set1]
     refine tkk 1 9 rfl rfl (by kernel_rfl) (fun _ _ _ _ h => h) (by rfl) (fun w h => by go_simp; rfl) (by assumption) ?_
     simp only [set0, set1]
     refine tkk 2 10 rfl rfl (by kernel_rfl) (fun _ _ _ _ h => h) (by rfl) (fun w h => by go_simp; rfl) (by assumption) ?_
     simp only [set0, set1]
     refine tkk 3 11 rfl rfl (by kernel_rfl) (fun _ _ _ _ h => h) (by rfl) (fun w h => by go_simp; rfl) (by assumption) ?_
     simp only [set0, set1]
     refine tkk 4 12 rfl rfl (by kernel_rfl) (fun _ _ _ _ h => h) (by rfl) (fun w h => by go_simp; rfl) (by assumption) ?_
     simp only [set0, set1]
     refine tkk 6 14 rfl rfl (by kernel_rfl) (fun _ _ _ _ h => h) (by rfl) (fun w h => by go_simp; rfl) (by assumption) ?_
     simp only [set0, set1]
     refine tkk 7 15 rfl rfl (by kernel_rfl) (fun _ _ _ _ h => h) (by rfl) (fun w h => by go_simp; rfl) (by assumption) ?_
     simp only [set0, set1]
     refine tkk 8 16 rfl rfl (by kernel_rfl) (fun _ _ _ _ h => h) (by rfl) (fun w h => by go_simp; rfl) (by assumption) ?_
     simp only [set0, set1]
     refine tkk 9 17 rfl rfl (by kernel_rfl) (fun _ _ _ _ h => h) (by rfl) (fun w h => by go_simp; rfl) (by assumption) ?_
     simp only [set0, set1]
     refine tkk 10 18 rfl rfl (by kernel_rfl) (fun _ _ _ _ h => h) (by rfl) (fun w h => by go_simp; rfl) (by assumption) ?_
     simp only [set0, set1]
     refine wpAnyH_ready (rs := [5]) (by kernel_rfl) (by simp) ?_
     refine AllReadyH.cons rfl (fun K hK => ?_) AllReadyH.nil
     go_simp
     refine (HIH.out Kw (some ⟨b, o, none⟩) k c (l.take k) D1 (by rw [List.map_take]; exact HA.out.below P.out) (by have := HLL.out; omega) HTA.out (by have := HLL.out; omega) (by have := HLL.out; omega) (by omega) hcm).mono ?_
     rintro e v2 ⟨A1, c1, rfl, ho, hb⟩
     have O1 := Lib.hid (ho.base P.out.size)
     replace P := Lib.hid (P.out.trans (hb.mono P.out.size))
     clear ho hb hHeld
     refine hK.out _ _ trivial (fun hHeld => ?_)
     clear hK K
     refine wpAnyH_ready (rs := [11]) (by kernel_rfl) (by simp) ?_
     refine AllReadyH.cons rfl (fun K hK => ?_) AllReadyH.nil
     go_simp
     refine (HIH.out Kw (some ⟨b, o + k * 3, none⟩) (n - k) (c - k) (l.drop k) v2 (by rw [List.map_drop]; exact HB.out.below P.out) (by have := HLL.out; omega) HTB.out (by have := HLL.out; omega) (by have := HLL.out; omega) (by omega) (by omega)).mono ?_
     rintro e v3 ⟨A2, c2, rfl, ho, hb⟩
     have O2 := Lib.hid (ho.base P.out.size)
     replace O1 := Lib.hid (O1.out.keep hb)
     replace P := Lib.hid (P.out.trans (hb.mono P.out.size))
     clear ho hb hHeld
     refine hK.out _ _ trivial (fun hHeld => ?_)
     clear hK K
     refine wpAnyH_ready (rs := [12]) (by kernel_rfl) (by simp) ?_
     refine AllReadyH.cons rfl (fun K hK => ?_) AllReadyH.nil
     go_simp
     have hl1 : (l.take k).length = k := by rw [List.length_take]; have := HLL.out; omega
     have hl2 : (l.drop k).length = n - k := by rw [List.length_drop]; have := HLL.out; omega
     have s1 := sortZ_len _ (l.take k) (Nat.le_refl _)
     have s2 := sortZ_len _ (l.drop k) (Nat.le_refl _)
     have i1 := (sortZ_in _ Kw (l.take k) (Nat.le_refl _) HTA.out).le (K' := Kw + n) (by have := HLL.out; omega)
     have i2 := (sortZ_in _ Kw (l.drop k) (Nat.le_refl _) HTB.out).le (K' := Kw + n) (by have := HLL.out; omega)
     refine (merged_c (Kw + n) M A1 _ c1 (sortZ (l.take k)) A2 _ c2 (sortZ (l.drop k)) v3 O1.out.rd O2.out.rd (i1.min i2) (by have := HLL.out; omega) hM (by have := HLL.out; omega)).mono ?_
     rintro e v4 ⟨A3, c3, rfl, ho, hb⟩
     have HR := Lib.hid (show SortP l w (.returned (.slice A3 (mergeZ (sortZ (l.take k)) (sortZ (l.drop k))).length c3)) v4 from ⟨A3, c3, by rw [HF.out], by rw [HF.out]; exact ho.base P.out.size, P.out.trans (hb.mono P.out.size)⟩)
     clear ho hb hHeld s1 s2 i1 i2 hl1 hl2
     generalize (mergeZ (sortZ (l.take k)) (sortZ (l.drop k))).length = mm at HR ⊢
     refine hK.out _ _ trivial (fun hHeld => ?_)
     clear hK K
     refine tkk 13 2 rfl rfl (by kernel_rfl) (fun _ _ _ _ h => h) (by rfl) (fun w h => by go_simp; rfl) (by assumption) ?_
     clear hHeld
     refine wpAnyH_done (by kernel_rfl) ?_ _
     clear O1 O2
     go_wp2
     go_ret
     exact HR.out
theorem infoZ : (Tryz.prog.info? 3).map (fun i => (i.zero, i.size, i.bytes)) = some (some (.int .i64 0), 1, 8) := by kernel_rfl
abbrev rowZ (zs : List Int) : Obj := .cells (zs.map (Value.int .i64)).toArray 3
theorem made_repZ (z : Value) (n : Nat) : madeCells #[z] n = (List.replicate n z).toArray := by
 apply Array.ext'
 apply List.ext_getElem?
 intro i
 by_cases hi : i < n
 · simp [madeCells, hi, Nat.mod_one]
 · simp [madeCells, hi]
theorem mk_z (n : Nat) (hn : n ≤ 1000000) (w : World) :
 (Instr.makeSlice 48 (.int .i64 (n : Int)) (.int .i64 (n : Int))).run Tryz.prog w = .ok (.slice (some ⟨w.heap.size, 0, none⟩) n n) (w.alloc (rowZ (List.replicate n 0))) := by
 have h := run_make_row' (P := Tryz.prog) 48 3 (.int .i64 0) 8 Tryz.underlying48 infoZ rfl .i64 .i64 n (by omega) (by omega) w
 rw [h, made_repZ, rowZ, List.map_replicate]
structure RZ (W : World) (g : Nat) (zs : List Int) : Prop where
 lt : g < W.heap.size
 at_ : ∀ k, k < zs.length → W.cell? ⟨g, k, none⟩ = some (.int .i64 (zs.getD k 0))
 fr : ∀ k, W.frozen? ⟨g, k, none⟩ = false
theorem RZ.new (W : World) (zs : List Int) : RZ (W.alloc (rowZ zs)) W.heap.size zs := by
 refine ⟨by simp, fun k hk => ?_, fun k => by simp only [World.frozen?, Go.heap_alloc_new]; simp⟩
 rw [cell_of_row (W.alloc (rowZ zs)) W.heap.size k _ _ _ (Go.heap_alloc_new _ _)]
 simp [List.getD_eq_getElem?_getD, hk]
theorem RZ.next {W W' : World} {g : Nat} {zs : List Int} (h : RZ W g zs) (hb : Below W.heap.size W W') : RZ W' g zs :=
 ⟨Nat.lt_of_lt_of_le h.lt hb.size, fun k hk => (hb.cell (p := ⟨g, k, none⟩) h.lt).trans (h.at_ k hk), fun k => (hb.frozen (p := ⟨g, k, none⟩) h.lt).trans (h.fr k)⟩
theorem RZ.set_ {W : World} {g : Nat} {zs : List Int} (h : RZ W g zs) {i : Nat} (hi : i < zs.length) (z : Int) : RZ (W.setCell ⟨g, i, none⟩ (.int .i64 z)) g (zs.set i z) := by
 refine ⟨by rw [World.size_setCell]; exact h.lt, fun k hk => ?_, fun k => by rw [World.frozen?_setCell]; exact h.fr k⟩
 rw [List.length_set] at hk
 by_cases e : i = k
 · subst e
   rw [World.cell?_setCell_same _ _ _ (h.at_ i hi)]
   simp [List.getD_eq_getElem?_getD, hi]
 · rw [World.cell?_setCell_other _ _ _ _ (by intro q; injection q with q1 q2; exact e q2), h.at_ k hk]
   simp [List.getD_eq_getElem?_getD, e]
theorem RZ.rd {W : World} {g : Nat} {zs : List Int} (h : RZ W g zs) : RdI W (some ⟨g, 0, none⟩) zs.length zs :=
 ⟨rfl, fun _ => ⟨g, 0, rfl, h.lt, fun k hk => by rw [Nat.zero_add]; exact h.at_ k hk⟩⟩
structure RP0 (W : World) (g : Nat) : Prop where
 bx : BxP W g 0 none 0 0
 fr : ∀ o, W.frozen? ⟨g, o, none⟩ = false
theorem RP0.new (W : World) : RP0 (W.alloc (boxP 0 none 0 0)) W.heap.size :=
 ⟨BxP.new W 0 none 0 0, fun o => by simp only [World.frozen?, Go.heap_alloc_new]; simp⟩
theorem RP0.next {W W' : World} {g : Nat} (h : RP0 W g) (hb : Below W.heap.size W W') : RP0 W' g :=
 ⟨h.bx.next hb, fun o => (hb.frozen (p := ⟨g, o, none⟩) h.bx.lt).trans (h.fr o)⟩
def unitE (V i : Nat) : List Int := (List.replicate V 0).set i 1
theorem unitE_len (V i : Nat) : (unitE V i).length = V := by unfold unitE; rw [List.length_set, List.length_replicate]
theorem rdT_one {W : World} {t : Trm} {g : Nat} {A : Option Addr} {n c : Nat} {B : Option Addr} {m d : Nat} (h : TB W g t A n c B m d) : RdT W (some ⟨g, 0, none⟩) 1 [t] :=
 ⟨rfl, fun _ => ⟨g, 0, rfl, h.bx.lt, fun k hk => by
  obtain rfl : k = 0 := by omega
  exact ⟨A, n, c, B, m, d, h.bx.c0, h.bx.c1, h.bx.c2, h.rd, h.nc, h.cm, h.ri, h.md, h.dm⟩⟩⟩
theorem rdI_off {W : World} {b o n : Nat} {zs : List Int} (h : RdI W (some ⟨b, o, none⟩) n zs) {p : Addr} (hp : p.block ≠ b) (u : Value) : RdI (W.setCell p u) (some ⟨b, o, none⟩) n zs := by
 refine ⟨h.len, fun h0 => ?_⟩
 obtain ⟨b', o', e, hlt, hc⟩ := h.at_ h0
 injection e with e
 injection e with e1 e2
 subst e1 e2
 exact ⟨b, o, rfl, by rw [World.size_setCell]; exact hlt, fun k hk => (World.cell?_setCell_other _ _ _ _ (by intro e; subst e; exact hp rfl)).trans (hc k hk)⟩
theorem BxT.off2 {W : World} {g : Nat} {s : Bool} {A : Option Addr} {n c : Nat} {B : Option Addr} {m d : Nat} (h : BxT W g s A n c B m d) {p : Addr} (hp : p.block ≠ g) (u : Value) : BxT (W.setCell p u) g s A n c B m d :=
 ⟨by rw [World.size_setCell]; exact h.lt, (World.cell?_setCell_other _ _ _ _ (by intro e; subst e; exact hp rfl)).trans h.c0, (World.cell?_setCell_other _ _ _ _ (by intro e; subst e; exact hp rfl)).trans h.c1, (World.cell?_setCell_other _ _ _ _ (by intro e; subst e; exact hp rfl)).trans h.c2⟩
theorem TB.two {W : World} {gb : Nat} {t : Trm} {A : Option Addr} {n c be oe m d : Nat} (h : TB W gb t A n c (some ⟨be, oe, none⟩) m d) {g : Nat} {V : Int} {L : Option Addr} {j k : Nat} (hg : BxP W g V L j k) (h1 : g ≠ gb) (h2 : g ≠ be) (u v : Value) : TB ((W.setCell ⟨g, 0, none⟩ u).setCell ⟨g, 1, none⟩ v) gb t A n c (some ⟨be, oe, none⟩) m d :=
 ⟨(h.bx.off2 (p := ⟨g, 0, none⟩) h1 u).off2 (p := ⟨g, 1, none⟩) h1 v, (h.rd.set_other hg.c0 (by intro z e; cases e) u).set_other ((World.cell?_setCell_other _ _ _ _ (by intro e; injection e with e1 e2; omega)).trans hg.c1) (by intro z e; cases e) v, h.nc, h.cm,
   rdI_off (rdI_off h.ri (p := ⟨g, 0, none⟩) h2 u) (p := ⟨g, 1, none⟩) h2 v, h.md, h.dm⟩
theorem BxP.put {W : World} {g : Nat} {V : Int} {A : Option Addr} {n c : Nat} (h : BxP W g V A n c) (V' : Int) (A' : Option Addr) (n' c' : Nat) : BxP ((W.setCell ⟨g, 0, none⟩ (.int .i64 V')).setCell ⟨g, 1, none⟩ (.slice A' n' c')) g V' A' n' c' := by
 refine ⟨by rw [World.size_setCell, World.size_setCell]; exact h.lt, ?_, ?_⟩
 · rw [World.cell?_setCell_other _ _ _ _ (by intro e; injection e with e1 e2; omega)]
   exact World.cell?_setCell_same _ _ _ h.c0
 · exact World.cell?_setCell_same _ _ _ ((World.cell?_setCell_other _ _ _ _ (by intro e; injection e with e1 e2; omega)).trans h.c1)
theorem rofZ (z : Int) (w : World) (h1 : -9223372036854775808 ≤ z) (h2 : z < 9223372036854775808) : Calls Tryz.prog 35 #[.int .i64 z] w (NumI w z) :=
 (refOf_c z w h1 h2).mono fun _ _ h => One.numI h
def PolyR (V : Int) (ts : List Trm) (w : World) (e : Ending) (w' : World) : Prop :=
 ∃ A n c, e = .returned (aggP V A n c) ∧ RdT w' A n ts ∧ n ≤ c ∧ c ≤ 9223372036854775807 ∧ Below w.heap.size w w'
set_option maxHeartbeats 4000000 in
theorem refVar_c (V i : Nat) (w : World) (hV : V ≤ 1000) (hi : i < V) :
 Calls Tryz.prog 32 #[.int .i64 (V : Int), .int .i64 (i : Int)] w (PolyR (V : Int) [trmOf ⟨1, unitE V i⟩] w) := by
 have hmk := mk_z V (by omega)
 have hrow : Obj.cells ((Array.replicate V (Value.int .i64 0)).setIfInBounds i (Value.int .i64 1)) 3 = rowZ (unitE V i) := by
  unfold rowZ
  congr 1
  apply Array.ext'
  simp [unitE, List.map_set]
 have hcell : (Array.replicate V (Value.int .i64 0))[i]? = some (.int .i64 0) := by simp [hi]
 have hiI : (i : Int) < (V : Int) := by omega
 have hb0 := bel_alloc w (boxP 0 none 0 0)
 have hb1 := bel_alloc (w.alloc (boxP 0 none 0 0)) (rowZ (unitE V i))
 have R1 := Lib.hid (RZ.new (w.alloc (boxP 0 none 0 0)) (unitE V i))
 rw [World.size_alloc] at R1
 have P := Lib.hid (hb0.trans (hb1.mono hb0.size))
 have RB := Lib.hid (show RP0 ((w.alloc (boxP 0 none 0 0)).alloc (rowZ (unitE V i))) w.heap.size from (RP0.new w).next hb1)
 have HV := Lib.hid (And.intro hV hi)
 clear hb0 hb1 hV hi
 go_enter Tryz.func32, Tryz.ntmps32
 go_upto_region 3 with (fail)
 clear hmk hrow hcell
 generalize (w.alloc (boxP 0 none 0 0)).alloc (rowZ (unitE V i)) = W1 at P R1 RB ⊢
 obtain ⟨g, hg⟩ : ∃ g, g = w.heap.size := ⟨_, rfl⟩
 have HG := Lib.hid hg
 rw [← hg] at R1 RB ⊢
 clear hg
 go_wp2_with fail
 refine (rofZ 1 _ (by omega) (by omega)).mono ?_
 rintro e w2 ⟨t1, A1, n1, c1, rfl, hi1, hb⟩
 obtain rfl : t1 = false := hi1.1
 have P2 := Lib.hid (P.out.trans (hb.mono P.out.size))
 have R2 := Lib.hid (R1.out.next hb)
 have RB2 := Lib.hid (RB.out.next hb)
 have I2 := Lib.hid hi1
 have k1 := bel_alloc w2 (boxT false A1 n1 c1 (some ⟨g + 1, 0, none⟩) V V)
 have T3 := Lib.hid (show TB (w2.alloc (boxT false A1 n1 c1 (some ⟨g + 1, 0, none⟩) V V)) w2.heap.size (trmOf ⟨1, unitE V i⟩) A1 n1 c1 (some ⟨g + 1, 0, none⟩) V V from
  ⟨BxT.new w2 false A1 n1 c1 _ V V, I2.out.2.2.1.below k1, I2.out.2.2.2.1, I2.out.2.2.2.2, by
   have h := (R2.out.next k1).rd
   rw [unitE_len] at h
   exact h, Nat.le_refl _, by have := HV.out.1; omega⟩)
 have P3 := Lib.hid (P2.out.trans (k1.mono P2.out.size))
 have RB3 := Lib.hid (RB2.out.next k1)
 have hgl := RB3.out.bx.lt
 have HLT := Lib.hid (show w.heap.size ≤ g by rw [HG.out]; exact Nat.le_refl _)
 have HGE := Lib.hid (show g + 1 < w2.heap.size from R2.out.lt)
 clear hb hi1 k1 P R1 RB P2 R2 RB2 I2
 have r0 := RB3.out.bx.c0
 have r1 := RB3.out.bx.c1
 have f0 := RB3.out.fr 0
 have f1 := RB3.out.fr 1
 go_wp2
 have Q := RB3.out.bx.put (V : Int) (some ⟨w2.heap.size, 0, none⟩) 1 1
 have q0 := Q.c0
 have q1 := Q.c1
 refine bodyPost_ret (v := aggP (V : Int) (some ⟨w2.heap.size, 0, none⟩) 1 1) (by simp [results, Tryz.results32, go_sem, q0, q1]) rfl ?_
 have hge := HGE.out
 exact ⟨some ⟨w2.heap.size, 0, none⟩, 1, 1, rfl, rdT_one (T3.out.two RB3.out.bx (by omega) (by omega) _ _), Nat.le_refl _, by omega, below_store P3.out HLT.out _ _⟩
def constZ (z : Int) (V : Nat) : List Zt := if z = 0 then [] else [⟨z, List.replicate V 0⟩]
theorem sort_one (t : Zt) : sortZ [t] = if t.z = 0 then [] else [t] := by
 rw [sortZ, dif_pos (by simp), mergeZ, mergeZ, consZ]
section
variable {W : World} {g : Nat} {V : Int} {L : Option Addr} {j k : Nat}
theorem cell_two_free (u v : Value) {q : Addr} (h : q.block ≠ g ∨ 2 ≤ q.off) : ((W.setCell ⟨g, 0, none⟩ u).setCell ⟨g, 1, none⟩ v).cell? q = W.cell? q := by
 rw [World.cell?_setCell_other _ _ _ _ (by intro e; subst e; rcases h with h | h; exact h rfl; exact absurd h (by show ¬ 2 ≤ 1; omega)), World.cell?_setCell_other _ _ _ _ (by intro e; subst e; rcases h with h | h; exact h rfl; exact absurd h (by show ¬ 2 ≤ 0; omega))]
theorem rdI_two (hg : BxP W g V L j k) {B : Option Addr} {m : Nat} {zs : List Int} (h : RdI W B m zs) (hm : m ≠ 1) (u v : Value) : RdI ((W.setCell ⟨g, 0, none⟩ u).setCell ⟨g, 1, none⟩ v) B m zs := by
 refine ⟨h.len, fun h0 => ?_⟩
 obtain ⟨b, o, e, hlt, hc⟩ := h.at_ h0
 refine ⟨b, o, e, by rw [World.size_setCell, World.size_setCell]; exact hlt, fun i hi => ?_⟩
 rw [cell_two_free u v ?_]
 · exact hc i hi
 · by_cases hb : b = g
   · subst hb
     right
     show 2 ≤ o + i
     have c1 := hg.c1
     rcases Nat.lt_or_ge (o + i) 2 with q | q
     · exfalso
       have x0 := hc 0 h0
       have x1 := hc 1 (by omega)
       by_cases e0 : o = 0
       · subst e0
         rw [Nat.zero_add] at x1
         rw [c1] at x1
         cases x1
       · have e1 : o = 1 := by omega
         subst e1
         rw [Nat.add_zero] at x0
         rw [c1] at x0
         cases x0
     · exact q
   · exact .inl hb
theorem rd_two (hg : BxP W g V L j k) {A : Option Addr} {n : Nat} {xs : List Nat} (h : Rd W A n xs) (u v : Value) : Rd ((W.setCell ⟨g, 0, none⟩ u).setCell ⟨g, 1, none⟩ v) A n xs :=
 (h.set_other hg.c0 (by intro z e; cases e) u).set_other ((World.cell?_setCell_other _ _ _ _ (by intro e; injection e with e1 e2; omega)).trans hg.c1) (by intro z e; cases e) v
theorem rdT_two (hg : BxP W g V L j k) {A : Option Addr} {n : Nat} {ts : List Trm} (h : RdT W A n ts) (hm : ∀ i, i < n → (trmAt ts i).es.length ≠ 1) (u v : Value) : RdT ((W.setCell ⟨g, 0, none⟩ u).setCell ⟨g, 1, none⟩ v) A n ts := by
 refine ⟨h.len, fun h0 => ?_⟩
 obtain ⟨b, o, e, hlt, hc⟩ := h.at_ h0
 refine ⟨b, o, e, by rw [World.size_setCell, World.size_setCell]; exact hlt, fun i hi => ?_⟩
 obtain ⟨A1, n1, c1, B1, m1, d1, hT⟩ := hc i hi
 have hf : b ≠ g ∨ 2 ≤ o + i * 3 := by
  by_cases hb : b = g
  · subst hb
    right
    have x0 := hT.c0
    rcases Nat.lt_or_ge (o + i * 3) 2 with q | q
    · exfalso
      by_cases e0 : o + i * 3 = 0
      · rw [e0, hg.c0] at x0; cases x0
      · rw [show o + i * 3 = 1 by omega, hg.c1] at x0; cases x0
    · exact q
  · exact .inl hb
 exact ⟨A1, n1, c1, B1, m1, d1, (cell_two_free u v (q := ⟨b, o + i * 3, none⟩) hf).trans hT.c0, (cell_two_free u v (q := ⟨b, o + i * 3 + 1, none⟩) (hf.imp id (fun q => by show 2 ≤ o + i * 3 + 1; omega))).trans hT.c1, (cell_two_free u v (q := ⟨b, o + i * 3 + 2, none⟩) (hf.imp id (fun q => by show 2 ≤ o + i * 3 + 2; omega))).trans hT.c2,
  rd_two hg hT.rd u v, hT.nc, hT.cm, rdI_two hg hT.ri (by have h1 := hT.ri.len; have h2 := hm i hi; omega) u v, hT.md, hT.dm⟩
end
set_option maxHeartbeats 4000000 in
theorem refConst_c (V : Nat) (Kw : Nat) {w : World} {z : Int} {t : Bool} {A : Option Addr} {n c : Nat} (h : Is w z t A n c) (hz : Sz z Kw) (hK : Kw ≤ 900000000) (hV : V ≤ 1000) (hV2 : 2 ≤ V) :
 Calls Tryz.prog 70 #[.int .i64 (V : Int), .agg #[.bool t, .slice A n c]] w (PolyR (V : Int) ((constZ z V).map trmOf) w) := by
 have hmk := mk_z V (by omega)
 have hb0 := bel_alloc w (.cells #[.bool t, .slice A n c] 58)
 have hb1 := bel_alloc (w.alloc (.cells #[.bool t, .slice A n c] 58)) (boxP 0 none 0 0)
 have P := Lib.hid (hb0.trans (hb1.mono hb0.size))
 have X := Lib.hid ((Box.new h).next hb1)
 have RS := Lib.hid (RP0.new (w.alloc (.cells #[.bool t, .slice A n c] 58)))
 rw [World.size_alloc] at RS
 have HV := Lib.hid (And.intro (And.intro hV hV2) (And.intro hz hK))
 clear h hb0 hb1 hz hK hV hV2
 go_enter Tryz.func70, Tryz.ntmps70
 go_upto_region 1 with (fail)
 generalize (w.alloc (.cells #[.bool t, .slice A n c] 58)).alloc (boxP 0 none 0 0) = W0 at P X RS ⊢
 obtain ⟨g, hg⟩ : ∃ g, g = w.heap.size := ⟨_, rfl⟩
 have HG := Lib.hid hg
 rw [← hg] at X RS ⊢
 clear hg
 refine wp_region_tail (S := (fun w' => w'.cell? ⟨g, 0, none⟩ = some (.bool t) ∧ w'.cell? ⟨g, 1, none⟩ = some (.slice A n c))) 8 (by kernel_rfl) (by kernel_rfl) (by intro c a d v w h; cases d <;> exact h) (⟨cell_drq X.out.c0, cell_drq X.out.c1⟩) (fun QT hT hP hHeld => ?_)
 simp only [List.extract_toArray, List.extract_eq_take_drop, List.drop_zero, Nat.sub_zero, List.take_succ_cons, List.take_zero]
 have HT := Lib.hid hT
 clear hT
 replace P := Lib.hid (P.out.trans ((Below.refl W0.heap.size W0).drew.mono P.out.size))
 replace X := Lib.hid (X.out.next (Below.refl W0.heap.size W0).drew)
 replace RS := Lib.hid (RS.out.next (Below.refl W0.heap.size W0).drew)
 generalize W0.drew = D1 at P X RS hHeld ⊢
 refine tkk 0 5 rfl rfl (by kernel_rfl) (hP · · _) (by rfl) (fun w h => by obtain ⟨h0, h1⟩ := h; go_simp; rfl) (by assumption) ?_
 simp only [set0, set1]
 refine tkk 1 6 rfl rfl (by kernel_rfl) (hP · · _) (by rfl) (fun w h => by obtain ⟨h0, h1⟩ := h; go_simp; rfl) (by assumption) ?_
 simp only [set0, set1]
 refine tkk 2 7 rfl rfl (by kernel_rfl) (hP · · _) (by rfl) (fun w h => by obtain ⟨h0, h1⟩ := h; go_simp; rfl) (by assumption) ?_
 simp only [set0, set1]
 refine wpAnyH_ready (rs := [3]) (by kernel_rfl) (by simp) ?_
 refine AllReadyH.cons rfl (fun K hK => ?_) AllReadyH.nil
 go_simp
 have hb := bel_alloc D1 (rowZ (List.replicate V 0))
 have RZ0 := Lib.hid (RZ.new D1 (List.replicate V 0))
 replace P := Lib.hid (P.out.trans (hb.mono P.out.size))
 replace X := Lib.hid (X.out.next hb)
 replace RS := Lib.hid (RS.out.next hb)
 clear hb hHeld
 generalize D1.alloc (rowZ (List.replicate V 0)) = v2 at P X RS RZ0 ⊢
 generalize D1.heap.size = gz at RZ0 ⊢
 refine hK.out _ _ (⟨X.out.c0, X.out.c1⟩) (fun hHeld => ?_)
 clear hK K
 refine tkk 4 9 rfl rfl (by kernel_rfl) (hP · · _) (by rfl) (fun w h => by obtain ⟨h0, h1⟩ := h; go_simp; rfl) (by assumption) ?_
 simp only [set0, set1]
 refine wpAnyH_ready (rs := [5]) (by kernel_rfl) (by simp) ?_
 refine AllReadyH.cons rfl (fun K hK => ?_) AllReadyH.nil
 go_simp
 have hb := bel_alloc v2 (boxT t A n c (some ⟨gz, 0, none⟩) V V)
 have T3 := Lib.hid (show TB (v2.alloc (boxT t A n c (some ⟨gz, 0, none⟩) V V)) v2.heap.size (trmOf ⟨z, List.replicate V 0⟩) A n c (some ⟨gz, 0, none⟩) V V from by
  have hi := X.out.is
  have e : (trmOf ⟨z, List.replicate V 0⟩).s = t := hi.1.symm
  refine ⟨by rw [e]; exact BxT.new v2 t A n c _ V V, hi.2.2.1.below hb, hi.2.2.2.1, hi.2.2.2.2, ?_, Nat.le_refl _, by have := HV.out.1.1; omega⟩
  have h := (RZ0.out.next hb).rd
  rw [List.length_replicate] at h
  exact h)
 replace P := Lib.hid (P.out.trans (hb.mono P.out.size))
 replace X := Lib.hid (X.out.next hb)
 replace RS := Lib.hid (RS.out.next hb)
 clear hb hHeld RZ0
 generalize v2.alloc (boxT t A n c (some ⟨gz, 0, none⟩) V V) = v3 at P X RS T3 ⊢
 generalize v2.heap.size = gt at T3 ⊢
 refine hK.out _ _ (⟨X.out.c0, X.out.c1⟩) (fun hHeld => ?_)
 clear hK K
 refine wpAnyH_ready (rs := [6]) (by kernel_rfl) (by simp) ?_
 refine AllReadyH.cons rfl (fun K hK => ?_) AllReadyH.nil
 go_simp
 refine (sorted_c V (by have := HV.out.1.1; omega) 1 Kw (some ⟨gt, 0, none⟩) 1 1 [⟨z, List.replicate V 0⟩] v3 (rdT_one T3.out) (Nat.le_refl _) (fun t ht => by
  rcases List.mem_singleton.1 ht with rfl
  refine ⟨fun i hi => ?_, List.length_replicate .., HV.out.2.1⟩
  rw [List.length_replicate] at hi
  simp [List.getD_eq_getElem?_getD, hi]) (by have := HV.out.2.2; omega) (by omega) (Nat.le_refl _) (by omega)).mono ?_
 rintro e v4 ⟨A3, c3, rfl, ho, hb⟩
 have O3 := Lib.hid ho
 replace P := Lib.hid (P.out.trans (hb.mono P.out.size))
 replace X := Lib.hid (X.out.next hb)
 replace RS := Lib.hid (RS.out.next hb)
 clear ho hb hHeld T3
 refine hK.out _ _ (⟨X.out.c0, X.out.c1⟩) (fun hHeld => ?_)
 clear hK K
 refine tkk 7 12 rfl rfl (by kernel_rfl) (hP · · _) (by rfl) (fun w h => by obtain ⟨h0, h1⟩ := h; go_simp; rfl) (by assumption) ?_
 clear hHeld
 refine wpAnyH_done (by kernel_rfl) ?_ _
 refine HT.out _ _ ?_
 clear HT hP QT
 have e3 := sort_one ⟨z, List.replicate V 0⟩
 have HE := Lib.hid (show sortZ [⟨z, List.replicate V 0⟩] = constZ z V from e3)
 clear e3
 rw [HE.out] at O3
 rw [HE.out]
 have r0 := RS.out.bx.c0
 have r1 := RS.out.bx.c1
 have f0 := RS.out.fr 0
 have f1 := RS.out.fr 1
 refine wpList_step fun K hK => ?_
 go_simp
 refine hK _ _ ?_
 clear hK K
 refine wpList_nil ?_
 have Q := RS.out.bx.put (V : Int) A3 (constZ z V).length c3
 have q0 := Q.c0
 have q1 := Q.c1
 have HR := Lib.hid (show PolyR (V : Int) ((constZ z V).map trmOf) w (.returned (aggP (V : Int) A3 (constZ z V).length c3)) ((v4.setCell ⟨g + 1, 0, none⟩ (.int .i64 (V : Int))).setCell ⟨g + 1, 1, none⟩ (.slice A3 (constZ z V).length c3)) from ⟨A3, (constZ z V).length, c3, rfl, rdT_two RS.out.bx O3.out.rd (fun i hi => by
  have h2 : (constZ z V).length ≤ 1 := by unfold constZ; split <;> simp
  obtain rfl : i = 0 := by omega
  have hV2 := HV.out.1.2
  unfold constZ at hi ⊢
  split at hi
  · simp at hi
  · rename_i hz; rw [if_neg hz]; simp [trmAt, trmOf]; omega) _ _, O3.out.cap.1, O3.out.cap.2.1, below_store P.out (by have := HG.out; omega) _ _⟩)
 clear O3 HE
 generalize (constZ z V).length = mm at q0 q1 HR ⊢
 go_wp2
 refine bodyPost_ret (v := aggP (V : Int) A3 mm c3) (by simp [results, Tryz.results70, go_sem, q0, q1]) rfl ?_
 exact HR.out
end Go.Proofs.YteabokkofoomkaaGreat
