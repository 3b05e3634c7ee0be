import Derived.Test.YteabokkofoomkaaGreatCak
import Derived.Test.YteabokkofoomkaaGreatCaw
import Derived.Lib.AppendIntMem
import Derived.Maps.AppendAt
set_option maxRecDepth 100000
namespace Go.Proofs.YteabokkofoomkaaGreat
open Go.RowKit Go.Shelf Go.Deep
structure LkA (W : World) (b o : Nat) (l : Lnk) (B : Option Addr) (m d : Nat) (C : Option Addr) (p q : Nat) : Prop where
 lt : b < W.heap.size
 is : LnkIs W b o l B m d C p q
theorem LkA.next {W W' : World} {b o : Nat} {l : Lnk} {B : Option Addr} {m d : Nat} {C : Option Addr} {p q : Nat} (h : LkA W b o l B m d C p q) (hb : Below W.heap.size W W') : LkA W' b o l B m d C p q :=
 ⟨Nat.lt_of_lt_of_le h.lt hb.size, h.is.below h.lt hb⟩
set_option maxHeartbeats 8000000 in
theorem refSysValid_c (V : Int) (A : Option Addr) (n c : Nat) (ls : List Lnk) (w : World) (h : RdL w A n ls) :
 Calls Tryz.prog 13 #[aggS V A n c] w (RetB (validS V ls) w) := by
 have k0 := bel_alloc w (boxS V A n c)
 have P := Lib.hid k0
 have RL := Lib.hid (h.below k0)
 have X := Lib.hid (BxY.new w V A n c)
 have HL := Lib.hid h.len
 clear h k0
 go_enter Tryz.func13, Tryz.ntmps13
 go_upto_region 1 with (fail)
 generalize w.alloc (boxS V A n c) = W0 at P RL X ⊢
 obtain ⟨g, hg⟩ : ∃ g, g = w.heap.size := ⟨_, rfl⟩
 rw [← hg] at X ⊢
 clear hg
 have a0 := X.out.c0
 have a1 := X.out.c1
 by_cases q1 : V < 0
 · have t1 : decide (V < 0) = true := decide_eq_true q1
   have HF := Lib.hid (vs_false1 (V := V) (ls := ls) (by omega))
   go_wp2
   go_ret
   exact ⟨by rw [HF.out] <;> rfl, P.out⟩
 have t1 : decide (V < 0) = false := decide_eq_false q1
 by_cases q2 : 20000 < V
 · have t2 : decide (20000 < V) = true := decide_eq_true q2
   have HF := Lib.hid (vs_false1 (V := V) (ls := ls) (by omega))
   go_wp2
   go_ret
   exact ⟨by rw [HF.out] <;> rfl, P.out⟩
 have t2 : decide (20000 < V) = false := decide_eq_false q2
 by_cases q3 : 20000 < n
 · have t3 : decide ((20000 : Int) < (n : Int)) = true := decide_eq_true (by omega)
   have t3n : decide (20000 < n) = true := decide_eq_true q3
   have HF := Lib.hid (vs_false1 (V := V) (ls := ls) (by have := HL.out; omega))
   go_wp2
   go_ret
   exact ⟨by rw [HF.out] <;> rfl, P.out⟩
 have t3 : decide ((20000 : Int) < (n : Int)) = false := decide_eq_false (by omega)
 have t3n : decide (20000 < n) = false := decide_eq_false q3
 have HB := Lib.hid (show 0 ≤ V ∧ V ≤ 20000 ∧ n ≤ 20000 by omega)
 clear q1 q2 q3
 go_wp2
 go_loopw [3] (fun v wr => ∃ k : Nat, v = .int .i64 (k : Int) ∧ k ≤ n ∧ Below w.heap.size w wr ∧ BxY wr g V A n c ∧ RdL wr A n ls ∧ ∀ i, i < k → validLnk (lnkAt ls i) V = true) (fun v _ => n - (intOf v).toNat)
 case atStart => exact ⟨0, rfl, Nat.zero_le _, P.out, X.out, RL.out, fun i hi => absurd hi (by omega)⟩
 case round =>
  obtain ⟨k, rfl, hk, hp, hx, hr, hall⟩ := hrel
  clear P X RL a0 a1 t1 t2 t3 t3n
  have hn3 := HB.out.2.2
  have P := Lib.hid hp
  have X := Lib.hid hx
  have RL := Lib.hid hr
  have HA := Lib.hid hall
  clear hp hx hr hall
  have a1' := X.out.c1
  by_cases hkn : k < n
  · have t1 : decide ((k : Int) < (n : Int)) = true := decide_eq_true (by omega)
    have t1n : decide (k < n) = true := decide_eq_true hkn
    have hkI : (k : Int) < (n : Int) := by omega
    obtain ⟨b, o, rfl, hblt, hcell⟩ := RL.out.at_ (by omega)
    obtain ⟨B1, m1, d1, C1, p1, q1, hT⟩ := hcell k hkn
    obtain ⟨l, hl⟩ : ∃ l, l = lnkAt ls k := ⟨_, rfl⟩
    rw [← hl] at hT
    have HLK := Lib.hid hl
    clear hl hcell
    obtain ⟨kind, vs, ps⟩ := l
    have TL := Lib.hid (LkA.mk hblt hT)
    obtain ⟨v, hv⟩ : ∃ v, v = validLnk ⟨kind, vs, ps⟩ V := ⟨_, rfl⟩
    have HC := Lib.hid (fun W (h1 : RdI W B1 m1 vs) (h2 : RdP W C1 p1 ps) => refValidLink_c kind B1 m1 d1 vs C1 p1 q1 ps V W h1 h2 (Nat.le_trans hT.pq hT.qm))
    rw [← hv] at HC
    have HV := Lib.hid hv
    clear hT hblt hv
    have a1 := X.out.c1
    go_upto_region 6 with (fail)
    clear a1
    refine wp_region_held_drew (S := (fun w' => w'.cell? ⟨g, 0, none⟩ = some (.int .i64 V) ∧ w'.cell? ⟨g, 1, none⟩ = some (.slice (some ⟨b, o, none⟩) n c) ∧ w'.cell? ⟨b, o + k * 3, none⟩ = some (.int .i64 kind) ∧ w'.cell? ⟨b, o + k * 3 + 1, none⟩ = some (.slice B1 m1 d1) ∧ w'.cell? ⟨b, o + k * 3 + 2, none⟩ = some (.slice C1 p1 q1))) (by kernel_rfl) (⟨cell_drq X.out.c0, cell_drq X.out.c1, cell_drq TL.out.is.c0, cell_drq TL.out.is.c1, cell_drq TL.out.is.c2⟩) (fun hHeld => ?_)
    replace P := Lib.hid (P.out.trans ((Below.refl wr.heap.size wr).drew.mono P.out.size))
    replace X := Lib.hid (X.out.next (Below.refl wr.heap.size wr).drew)
    replace RL := Lib.hid (RL.out.below (Below.refl wr.heap.size wr).drew)
    replace TL := Lib.hid (TL.out.next (Below.refl wr.heap.size wr).drew)
    generalize wr.drew = D1 at P X RL TL hHeld ⊢
    refine tkk 0 25 rfl rfl (by kernel_rfl) (fun _ _ _ _ h => h) (by rfl) (fun w h => by obtain ⟨h0, h1, h2, h3, h4⟩ := h; go_simp; rfl) (by assumption) ?_
    simp only [set0, set1]
    refine tkk 1 26 rfl rfl (by kernel_rfl) (fun _ _ _ _ h => h) (by rfl) (fun w h => by obtain ⟨h0, h1, h2, h3, h4⟩ := h; go_simp; rfl) (by assumption) ?_
    simp only [set0, set1]
    refine tkk 2 27 rfl rfl (by kernel_rfl) (fun _ _ _ _ h => h) (by rfl) (fun w h => by obtain ⟨h0, h1, h2, h3, h4⟩ := h; go_simp; rfl) (by assumption) ?_
    simp only [set0, set1]
    refine tkk 3 28 rfl rfl (by kernel_rfl) (fun _ _ _ _ h => h) (by rfl) (fun w h => by obtain ⟨h0, h1, h2, h3, h4⟩ := h; go_simp; rfl) (by assumption) ?_
    simp only [set0, set1]
    refine tkk 4 29 rfl rfl (by kernel_rfl) (fun _ _ _ _ h => h) (by rfl) (fun w h => by obtain ⟨h0, h1, h2, h3, h4⟩ := h; go_simp; rfl) (by assumption) ?_
    simp only [set0, set1]
    refine tkk 5 30 rfl rfl (by kernel_rfl) (fun _ _ _ _ h => h) (by rfl) (fun w h => by obtain ⟨h0, h1, h2, h3, h4⟩ := h; go_simp; rfl) (by assumption) ?_
    simp only [set0, set1]
    refine tkk 6 31 rfl rfl (by kernel_rfl) (fun _ _ _ _ h => h) (by rfl) (fun w h => by obtain ⟨h0, h1, h2, h3, h4⟩ := h; go_simp; rfl) (by assumption) ?_
    simp only [set0, set1]
    refine wpAnyH_ready (rs := [7]) (by kernel_rfl) (by simp) ?_
    refine AllReadyH.cons rfl (fun K hK => ?_) AllReadyH.nil
    go_simp
    refine (HC.out D1 TL.out.is.ri TL.out.is.rp).mono ?_
    rintro e v2 ⟨rfl, hb⟩
    replace P := Lib.hid (P.out.trans (hb.mono P.out.size))
    replace X := Lib.hid (X.out.next hb)
    replace RL := Lib.hid (RL.out.below hb)
    replace TL := Lib.hid (TL.out.next hb)
    clear hb hHeld
    refine hK.out _ _ (⟨X.out.c0, X.out.c1, TL.out.is.c0, TL.out.is.c1, TL.out.is.c2⟩) (fun hHeld => ?_)
    clear hK K
    refine tkk 8 33 rfl rfl (by kernel_rfl) (fun _ _ _ _ h => h) (by rfl) (fun w h => by obtain ⟨h0, h1, h2, h3, h4⟩ := h; go_simp; rfl) (by assumption) ?_
    clear hHeld
    refine wpAnyH_done (by kernel_rfl) ?_ _
    cases v with
    | false =>
      have HF := Lib.hid (vs_false2 (V := V) (ls := ls) (k := k) (by rw [HL.out]; exact hkn) (by rw [← HLK.out]; exact HV.out.symm))
      go_wp2
      go_ret
      exact ⟨by rw [HF.out] <;> rfl, P.out⟩
    | true =>
      go_wp2
      go_roundw
      case measure => simp [intOf]; omega
      case rel => exact ⟨k + 1, by go_num, by omega, P.out, X.out, RL.out, fun i hi => by
       by_cases e : i = k
       · subst e; rw [← HLK.out]; exact HV.out.symm
       · exact HA.out i (by omega)⟩
  · have a1 := X.out.c1
    have t1 : decide ((k : Int) < (n : Int)) = false := decide_eq_false (by omega)
    have t1n : decide (k < n) = false := decide_eq_false hkn
    have HF := Lib.hid (vs_true (V := V) (ls := ls) (by rw [HL.out]; exact HB.out) (fun i hi => HA.out i (by rw [HL.out] at hi; omega)))
    go_wp2
    go_ret
    exact ⟨by rw [HF.out] <;> rfl, P.out⟩
def Kind (W : World) (p : Value → Prop) (v : Value) : Prop := ∀ g n cap cur e, v = .slice (some ⟨g, 0, none⟩) n cap → W.heap[g]? = some (.cells cur e (0, 0)) → ∀ u ∈ cur.toList, p u
theorem mem_zeros {p : Value → Prop} (z : Array Value) (hz : ∀ u ∈ z.toList, p u) (n : Nat) : ∀ u ∈ (Builtin.zeroCells z n).toList, p u := by
 intro u hu
 unfold Builtin.zeroCells at hu
 simp only [Array.toList_map, List.mem_map, Array.toList_range, List.mem_range] at hu
 obtain ⟨i, hi, rfl⟩ := hu
 have hs : 0 < z.size := by
  rcases Nat.eq_zero_or_pos z.size with h | h
  · rw [h] at hi; omega
  · exact h
 have hlt := Nat.mod_lt i hs
 rw [getElem!_pos z _ hlt]
 exact hz _ (Array.getElem_mem_toList hlt)
theorem run_append_kind {P : Program} {w : World} (base : Nat) (t ty e : TypeId) (i : TypeInfo) (z : Value) (size bytes : Nat) (ht : P.underlying t = some (.slice e)) (hi : P.info? e = some i) (hz : i.zero = some z)
 (hsize : i.size = size) (hby : i.bytes = bytes) (hzs : z.cells.size = size) (hsz : 0 < size)
 (v : Value) (n : Nat) (xs : List Value) (hown : w.ownsRow base e size v n xs)
 (a : Addr) (m c : Nat) (news : List Value) (hl : news.length = m * size) (hnews : ∀ j u, news[j]? = some u → w.cell? (a.add j) = some u) (h1 : ∀ u ∈ news, u.oneCell' = true)
 (h63 : n + m ≤ maxLen) (hbytes : (n + m) * bytes ≤ 140737488355328) (hbase : base ≤ w.heap.size) (hm : 0 < m)
 (p : Value → Prop) (hk : Kind w p v) (hp0 : ∀ u ∈ z.cells.toList, p u) (hpn : ∀ u ∈ news, p u) :
 ∃ v' w', (Builtin.append_ #[t, t] ty #[v, .slice (some a) m c]).run P w = .ok v' w' ∧ w'.ownsRow base e size v' (n + m) (xs ++ news) ∧ w.grownBy w' v.ownBlock ∧
   (v'.ownBlock = v.ownBlock ∨ v'.ownBlock = some w.heap.size) ∧ Kind w' p v' := by
 obtain ⟨v', w', hr, h2, h3, h4, h5⟩ := run_append_own_at (P := P) (w := w) base t ty e i z size bytes ht hi hz hsize hby hzs hsz v n xs hown a m c news hl hnews h1 h63 hbytes hbase
 refine ⟨v', w', hr, h2, h3, h5, ?_⟩
 clear h2 h3 h4 h5
 subst hsize
 subst hby
 have h63' : n + m ≤ 9223372036854775807 := by simp only [maxLen] at h63; omega
 rcases hown.2 with ⟨rfl, rfl⟩ | ⟨g, cap, cur, rfl, hbg, hg, hnc, hcm, hcs, htake⟩
 · have hr2 := run_append_nil (P := P) w t ty e i z ht hi hz a m c news hl hnews hm (by omega) (by have hb := hbytes; simp only [Nat.zero_add] at hb; omega)
   rw [hr] at hr2
   injection hr2 with e1 e2
   subst e1 e2
   intro g' n' cap' cur' e' hv hg' u hu
   injection hv with q1 q2 q3
   injection q1 with q1
   injection q1 with q1
   subst q1
   rw [show w.heap.size = w.drew.heap.size from rfl, heap_alloc_new] at hg'
   injection hg' with hg'
   injection hg' with hg'
   subst hg'
   simp only [Array.toList_append, List.mem_append] at hu
   rcases hu with hu | hu
   · exact hpn u hu
   · exact mem_zeros _ hp0 _ u hu
 · have holds : ∀ j u, xs[j]? = some u → w.cell? ((⟨g, 0, none⟩ : Addr).add j) = some u := hown.cells (g := g) rfl
   have hcur : ∀ u ∈ cur.toList, p u := hk g n cap cur e rfl hg
   by_cases hroom : n + m ≤ cap
   · have hfit : n * i.size + news.length ≤ cur.size := by rw [hl, hcs, ← Nat.add_mul]; exact Nat.mul_le_mul_right _ hroom
     have hr2 := run_append_room (P := P) w t ty e i ht hi g n cap cur hg a m c news hl hnews h1 hroom hfit
     rw [hr] at hr2
     injection hr2 with e1 e2
     subst e1 e2
     intro g' n' cap' cur' e' hv hg' u hu
     injection hv with q1 q2 q3
     injection q1 with q1
     injection q1 with q1
     subst q1
     rw [setRow_heap w g cur _ e _ hg] at hg'
     injection hg' with hg'
     injection hg' with hg'
     subst hg'
     simp only [List.mem_append] at hu
     rcases hu with (hu | hu) | hu
     · exact hcur u (List.mem_of_mem_take hu)
     · exact hpn u hu
     · exact hcur u (List.mem_of_mem_drop hu)
   · have hr2 := run_append_grow (P := P) w t ty e i z ht hi hz ⟨g, 0, none⟩ n cap xs hown.1 holds a m c news hl hnews (by omega) (by omega) (growslice_fits (by omega) hbytes)
     rw [hr] at hr2
     injection hr2 with e1 e2
     subst e1 e2
     intro g' n' cap' cur' e' hv hg' u hu
     injection hv with q1 q2 q3
     injection q1 with q1
     injection q1 with q1
     subst q1
     rw [show w.heap.size = w.drew.heap.size from rfl, heap_alloc_new] at hg'
     injection hg' with hg'
     injection hg' with hg'
     subst hg'
     simp only [Array.toList_append, List.mem_append] at hu
     rcases hu with (hu | hu) | hu
     · rw [← htake] at hu
       exact hcur u (List.mem_of_mem_take hu)
     · exact hpn u hu
     · exact mem_zeros _ hp0 _ u hu
theorem Kind.keep {W W' : World} {p : Value → Prop} {A : Option Addr} {n c : Nat} (h : Kind W p (.slice A n c)) (hb : ∀ a, A = some a → W'.heap[a.block]? = W.heap[a.block]?) : Kind W' p (.slice A n c) := by
 intro g n' cap cur e hv hg
 injection hv with q1 q2 q3
 subst q1 q2 q3
 rw [hb _ rfl] at hg
 exact h g _ _ cur e rfl hg
def noInt (u : Value) : Prop := ∀ k z, u ≠ .int k z
theorem infoN : (Tryz.prog.info? 58).map (fun i => (i.zero, i.size, i.bytes)) = some (some (.agg #[.bool false, .slice none 0 0]), 2, 32) := by kernel_rfl
structure Raw where
 s : Bool
 A : Option Addr
 n : Nat
 c : Nat
def rawAt (rs : List Raw) (k : Nat) : Raw := rs.getD k ⟨false, none, 0, 0⟩
def flatN : List Raw → List Value
 | [] => []
 | x :: t => .bool x.s :: .slice x.A x.n x.c :: flatN t
theorem flatN_app : ∀ (cs : List Raw) (x : Raw), flatN (cs ++ [x]) = flatN cs ++ [.bool x.s, .slice x.A x.n x.c]
 | [], x => rfl
 | y :: t, x => by simp only [List.cons_append, flatN, flatN_app t x]
theorem flatN_at : ∀ (cs : List Raw) (k : Nat), k < cs.length → (flatN cs)[k * 2]? = some (.bool (rawAt cs k).s) ∧ (flatN cs)[k * 2 + 1]? = some (.slice (rawAt cs k).A (rawAt cs k).n (rawAt cs k).c)
 | x :: t, 0, _ => ⟨rfl, rfl⟩
 | x :: t, k + 1, h => by
   have h2 := flatN_at t k (by simpa using h)
   rw [show (k + 1) * 2 = k * 2 + 2 from by omega]
   exact h2
structure NmR (W : World) (r : Raw) (t : Nmr) : Prop where
 s : r.s = t.s
 rd : Rd W r.A r.n t.xs
 nc : r.n ≤ r.c
 cm : r.c ≤ 9223372036854775807
theorem rd_stp {b : Nat} {k : Int} {w w' : World} {A : Option Addr} {n : Nat} {xs : List Nat} (h3 : Rd w A n xs) (hc : Cc w b k) (hs : Stp b w w') : Rd w' A n xs := by
 refine ⟨h3.len, h3.sm, fun hp => ?_⟩
 obtain ⟨b', o, e, hlt, hcell⟩ := h3.at_ hp
 refine ⟨b', o, e, Nat.lt_of_lt_of_le hlt hs.size, fun i hi => ?_⟩
 by_cases hb : b' = b
 · subst hb
   have h0 := hcell i hi
   by_cases ho : o + i = 0
   · rw [ho] at h0; rw [hc.c0] at h0; cases h0
   · rw [hs.own _ ho]; exact h0
 · rw [hs.cell (p := ⟨b', o + i, none⟩) hlt hb]; exact hcell i hi
theorem rd_grown {w w' : World} {v : Value} (hg : w.grownBy w' v.ownBlock) (hk : Kind w noInt v) {base n : Nat} {e : TypeId} {size : Nat} {xs : List Value} (hown : w.ownsRow base e size v n xs) {A : Option Addr} {m : Nat} {ws : List Nat} (h : Rd w A m ws) : Rd w' A m ws := by
 refine ⟨h.len, h.sm, fun hp => ?_⟩
 obtain ⟨b, o, ea, hlt, hcell⟩ := h.at_ hp
 refine ⟨b, o, ea, Nat.lt_of_lt_of_le hlt hg.size, fun i hi => ?_⟩
 have hne : some b ≠ v.ownBlock := by
  intro hb
  rcases hown.2 with ⟨e1, _⟩ | ⟨g, cap, cur, e1, _, hh, _⟩
  · rw [e1] at hb; cases hb
  · rw [e1] at hb
    injection hb with hb
    change b = g at hb
    subst hb
    have h0 := hcell 0 hp
    rw [cell_of_row w b (o + 0) _ _ _ hh] at h0
    have h1 := hk b _ _ cur e e1 hh _ (by rw [Array.mem_toList_iff]; exact Array.mem_of_getElem? h0)
    exact h1 _ _ rfl
 exact (World.cell?_of_block (hg.block b hlt hne)).trans (hcell i hi)
structure OwN (W : World) (B : Nat) (A : Option Addr) (j c : Nat) (ns : List Nmr) : Prop where
 len : ns.length = j
 kind : Kind W noInt (.slice A j c)
 ex : ∃ rs : List Raw, W.ownsRow B 58 2 (.slice A j c) j (flatN rs) ∧ rs.length = j ∧ ∀ k, k < j → NmR W (rawAt rs k) (nmAt ns k)
theorem OwN.nil (W : World) (B : Nat) : OwN W B none 0 0 [] :=
 ⟨rfl, (fun g n cap cur e hv => by cases hv), [], World.ownsRow_nil W B _ 2, rfl, fun k hk => absurd hk (by omega)⟩
theorem OwN.cap {W : World} {B : Nat} {A : Option Addr} {j c : Nat} {cs : List Nmr} (h : OwN W B A j c cs) : j ≤ c ∧ c ≤ 9223372036854775807 ∧ ∀ a, A = some a → B ≤ a.block ∧ a.block < W.heap.size := by
 obtain ⟨rs, hown, _⟩ := h.ex
 rcases hown.2 with ⟨e, e2⟩ | ⟨g, cap, cur, e, h1, hg, h2, h3, _⟩
 · injection e with e1 e3 e4
   subst e1 e4 e2
   exact ⟨Nat.le_refl _, by omega, fun a h => by cases h⟩
 · injection e with e1 e3 e4
   subst e1 e4
   refine ⟨h2, by simpa [maxLen] using h3, fun a h => ?_⟩
   injection h with h
   subst h
   refine ⟨h1, ?_⟩
   rcases Nat.lt_or_ge g W.heap.size with h1 | h1
   · exact h1
   · rw [Array.getElem?_eq_none h1] at hg; cases hg
theorem OwN.keep {W W' : World} {B : Nat} {A : Option Addr} {j c : Nat} {cs : List Nmr} (h : OwN W B A j c cs) (hb : Below W.heap.size W W') : OwN W' B A j c cs := by
 have hc := h.cap.2.2
 obtain ⟨rs, hown, hl, hr⟩ := h.ex
 refine ⟨h.len, h.kind.keep fun a ha => hb.block _ (hc a ha).2, rs, ?_, hl, fun k hk => ⟨(hr k hk).s, (hr k hk).rd.below hb, (hr k hk).nc, (hr k hk).cm⟩⟩
 refine hown.kept (row := none) ⟨hb.os, hb.tape, hb.output, hb.size, fun k hk _ => hb.block k hk⟩ ?_
 rcases hv : (Value.slice A j c).ownBlock with _ | b
 · exact .inl rfl
 · exact .inr (by simp)
theorem OwN.stp {W W' : World} {B : Nat} {A : Option Addr} {j c : Nat} {cs : List Nmr} (h : OwN W B A j c cs) {b : Nat} {q : Int} (hbB : b < B) (hcc : Cc W b q) (hs : Stp b W W') : OwN W' B A j c cs := by
 have hc := h.cap.2.2
 obtain ⟨rs, hown, hl, hr⟩ := h.ex
 refine ⟨h.len, h.kind.keep fun a ha => hs.grown.block _ (hc a ha).2 (fun e => by injection e with e; have := (hc a ha).1; omega), rs, ?_, hl, fun k hk => ⟨(hr k hk).s, rd_stp (hr k hk).rd hcc hs, (hr k hk).nc, (hr k hk).cm⟩⟩
 refine hown.kept (row := some b) hs.grown ?_
 rcases A with _ | a
 · exact .inl rfl
 · exact .inr (by
    intro e
    have : a.block = b := by injection e
    have := (hc a rfl).1
    omega)
theorem OwN.rd {W : World} {B : Nat} {A : Option Addr} {j c : Nat} {cs : List Nmr} (h : OwN W B A j c cs) : RdN W A j cs := by
 refine ⟨h.len, fun h0 => ?_⟩
 have hlt := h.cap.2.2
 obtain ⟨rs, hown, hl, hr⟩ := h.ex
 rcases hown.2 with ⟨_, e2⟩ | ⟨g, cap, cur, e, _, hg, _⟩
 · omega
 · injection e with e1 e3 e4
   subst e1 e4
   have hc := hown.cells (g := g) rfl
   refine ⟨g, 0, rfl, (hlt _ rfl).2, fun k hk => ?_⟩
   obtain ⟨a0, a1⟩ := flatN_at rs k (by omega)
   have z : ∀ q : Nat, (⟨g, 0, none⟩ : Addr).add q = ⟨g, q, none⟩ := fun q => by
    rcases Nat.eq_zero_or_pos q with rfl | hq
    · rfl
    · unfold Addr.add; simp; omega
   simp only [Nat.zero_add]
   have r := hr k hk
   refine ⟨(rawAt rs k).A, (rawAt rs k).n, (rawAt rs k).c, ?_, ?_, r.rd, r.nc, r.cm⟩
   · rw [← z, ← r.s]; exact hc _ _ a0
   · rw [← z]; exact hc _ _ a1
theorem rawAt_app (rs : List Raw) (x : Raw) (k : Nat) : rawAt (rs ++ [x]) k = if k < rs.length then rawAt rs k else if k = rs.length then x else rawAt [] 0 := by
 unfold rawAt
 simp only [List.getD_eq_getElem?_getD, List.getElem?_append]
 split
 · rfl
 · split
   · subst_vars; simp
   · rw [List.getElem?_eq_none (by simp; omega)]; rfl
theorem nmAt_app (ns : List Nmr) (x : Nmr) (k : Nat) : nmAt (ns ++ [x]) k = if k < ns.length then nmAt ns k else if k = ns.length then x else nmAt [] 0 := by
 unfold nmAt
 simp only [List.getD_eq_getElem?_getD, List.getElem?_append]
 split
 · rfl
 · split
   · subst_vars; simp
   · rw [List.getElem?_eq_none (by simp; omega)]; rfl
theorem run_app_nm (w : World) (ty : TypeId) (B : Nat) (A : Option Addr) (j c : Nat) (ns : List Nmr) (hown : OwN w B A j c ns) (hB : B ≤ w.heap.size) (g n : Nat) (s : Bool) (A1 : Option Addr) (n1 c1 : Nat) (xs : List Nat)
 (x0 : w.cell? ⟨g, 0, none⟩ = some (.bool s)) (x1 : w.cell? ⟨g, 1, none⟩ = some (.slice A1 n1 c1)) (hx : Rd w A1 n1 xs) (hnc : n1 ≤ c1) (hcm : c1 ≤ 9223372036854775807) (hj : j ≤ 1000000) :
 ∃ g' c' w', (Builtin.append_ #[25, 25] ty #[.slice A j c, .slice (some ⟨g, 0, none⟩) 1 n]).run Tryz.prog w = .ok (.slice (some ⟨g', 0, none⟩) (j + 1) c') w' ∧ OwN w' B (some ⟨g', 0, none⟩) (j + 1) c' (ns ++ [⟨s, xs⟩]) ∧ Below B w w' := by
 obtain ⟨i, hi, hz, hs, hb⟩ := info_parts infoN
 have hBg := hown.cap.2.2
 obtain ⟨rs, ho, hl, hr⟩ := hown.ex
 obtain ⟨v', w', hrun, hown', hgr, hat, hk'⟩ := run_append_kind (P := Tryz.prog) (w := w) B 25 ty 58 i (.agg #[.bool false, .slice none 0 0]) 2 32 Tryz.underlying25 hi hz hs hb rfl (by omega) (.slice A j c) j (flatN rs) ho ⟨g, 0, none⟩ 1 n [.bool s, .slice A1 n1 c1] rfl
  (fun j u hu => by
   have ea : (⟨g, 0, none⟩ : Addr).add j = ⟨g, j, none⟩ := by unfold Addr.add; simp; exact Eq.symm
   rw [ea]
   match j, hu with
   | 0, hu => injection hu with hu; subst hu; exact x0
   | 1, hu => injection hu with hu; subst hu; exact x1)
  (fun u hu => by simp at hu; rcases hu with rfl | rfl <;> rfl) (by simp only [maxLen]; omega) (by omega) hB (by omega) noInt hown.kind
  (fun u hu => by simp [Value.cells] at hu; rcases hu with rfl | rfl <;> intro k z e <;> cases e)
  (fun u hu => by simp at hu; rcases hu with rfl | rfl <;> intro k z e <;> cases e)
 have hx' : Rd w' A1 n1 xs := rd_grown hgr hown.kind ho hx
 rw [← flatN_app rs ⟨s, A1, n1, c1⟩] at hown'
 rcases hown'.2 with ⟨rfl, h1⟩ | ⟨g2, cap, cur, rfl, hg1, hh, hcap, hcap2, hcur, htake⟩
 · omega
 · refine ⟨g2, cap, w', hrun, ⟨by simp [hown.len], hk', rs ++ [⟨s, A1, n1, c1⟩], hown', by simp [hl], fun k hk => ?_⟩, ⟨hgr.os, hgr.tape, hgr.output, hgr.size, fun q hq => hgr.block q (by omega) ?_⟩⟩
   · rw [rawAt_app, nmAt_app, hl, hown.len]
     by_cases h1 : k < j
     · rw [if_pos h1, if_pos h1]
       have r := hr k h1
       exact ⟨r.s, rd_grown hgr hown.kind ho r.rd, r.nc, r.cm⟩
     · have h2 : k = j := by omega
       rw [if_neg h1, if_neg h1, if_pos h2, if_pos h2]
       exact ⟨rfl, hx', hnc, hcm⟩
   · intro e
     rcases A with _ | a
     · cases e
     · injection e with e
       have := (hBg a rfl).1
       omega
theorem wpList_app_nm {w : World} {ops : Array Oper} {rest : List Oper} {o : Oper} {a : Act} {Q : Exit → Act → World → Prop} (hgd : o.guard = none) (s y : Operand)
 (ho : o.op = .call { callee := .builtin .append, args := #[s, y], argTypes := #[25, 25] })
 (B : Nat) (A : Option Addr) (j c : Nat) (ns : List Nmr) (g n : Nat) (t : Bool) (A1 : Option Addr) (n1 c1 : Nat) (xs : List Nat) (hs : a.eval s = .slice A j c) (hy : a.eval y = .slice (some ⟨g, 0, none⟩) 1 n) (hown : OwN w B A j c ns) (hB : B ≤ w.heap.size)
 (hx : NV w g t A1 n1 c1) (hr : Rd w A1 n1 xs) (hnc : n1 ≤ c1) (hcm : c1 ≤ 9223372036854775807) (hj : j ≤ 1000000)
 (h : ∀ g' c' w', OwN w' B (some ⟨g', 0, none⟩) (j + 1) c' (ns ++ [⟨t, xs⟩]) → Below B w w' → wpList Tryz.prog ops Q rest (a.put o.dst (.slice (some ⟨g', 0, none⟩) (j + 1) c')) w') : wpList Tryz.prog ops Q (o :: rest) a w := by
 refine wpList_plain hgd fun K hK => ?_
 obtain ⟨g', c', w', hrun, h1, h2⟩ := run_app_nm w o.type B A j c ns hown hB g n t A1 n1 c1 xs hx.r0 hx.r1 hr hnc hcm hj
 unfold Oper.wp execOp
 simp only [ho, resolve, invoke, builtin, Sem.run_bind, Sem.run_pure, Result.andThen_ok, List.map_toArray, List.map_cons, List.map_nil, hs, hy, hrun]
 exact hK _ _ (h g' c' w' h1 h2)
end Go.Proofs.YteabokkofoomkaaGreat
