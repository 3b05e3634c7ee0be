import Derived.Test.YteabokkofoomkaaEba
import Derived.Test.YteabokkofoomkaaEbh
import Derived.Test.YteabokkofoomkaaEbb
import Derived.Lib.AppendIntMem
import Derived.Maps.AppendAt
set_option maxRecDepth 100000
namespace Go.Proofs.Yteabokkofoomkaa
open Go.RowKit Go.Shelf Go.Deep
def pns (y : Int) : List Nmr := [nmOf 3, nmOf y]
theorem pow_valid : validS 2 powL = true := by kernel_rfl
theorem pow_all8 : allB (pns 8) = true := by kernel_rfl
theorem pow_all9 : allB (pns 9) = true := by kernel_rfl
theorem pow_nat8 : natB (pns 8) = true := by kernel_rfl
theorem pow_nat9 : natB (pns 9) = true := by kernel_rfl
theorem pow_yes : holdsB powL (pns 8) = true := by kernel_rfl
theorem pow_no : holdsB powL (pns 9) = false := by kernel_rfl
def allMost (ls : List Lnk) (ns : List Nmr) (T : Nat) : Bool := ls.all fun l => l.ps.all fun p => decide (allV p.ts (ownOf l.vs ns) p.ts.length ≤ T)
theorem pow_most8 : allMost powL (pns 8) 100 = true := by kernel_rfl
theorem pow_most9 : allMost powL (pns 9) 100 = true := by kernel_rfl
theorem pow_counts : cntL powL 0 powL.length = 0 ∧ cntL powL 1 powL.length = 0 ∧ cntL powL 2 powL.length = 1 ∧ cntL powL 3 powL.length = 0 ∧ degL powL powL.length = 0 := ⟨by kernel_rfl, by kernel_rfl, by kernel_rfl, by kernel_rfl, by kernel_rfl⟩
theorem most_at {ls : List Lnk} {ns : List Nmr} {T : Nat} (h : allMost ls ns T = true) : ∀ i, i < ls.length → ∀ j, j < (lnkAt ls i).ps.length → allV (plyAt (lnkAt ls i).ps j).ts (ownOf (lnkAt ls i).vs ns) (plyAt (lnkAt ls i).ps j).ts.length ≤ T := by
 intro i hi j hj
 have e1 : lnkAt ls i ∈ ls := by
  unfold lnkAt
  rw [List.getD_eq_getElem?_getD, List.getElem?_eq_getElem hi]
  exact List.getElem_mem hi
 have h2 := List.all_eq_true.1 h _ e1
 have e2 : plyAt (lnkAt ls i).ps j ∈ (lnkAt ls i).ps := by
  unfold plyAt
  rw [List.getD_eq_getElem?_getD, List.getElem?_eq_getElem hj]
  exact List.getElem_mem hj
 exact of_decide_eq_true (List.all_eq_true.1 h2 _ e2)
theorem small_T {k : Int} {T : Nat} (h : St T k) (hT : T < 4294967296) : k = 0 := by
 rcases h with h | ⟨_, h⟩
 · exact h
 · have h1 := pw_le (m := 1) (n := 4096) (by omega)
   rw [pw_one] at h1
   omega
abbrev row2 (t : Bool) (A : Option Addr) (n c : Nat) (t' : Bool) (A' : Option Addr) (n' c' : Nat) : Obj := .cells #[.bool t, .slice A n c, .bool t', .slice A' n' c'] 24
theorem rdN_two {W : World} {z z' : Int} {t t' : Bool} {A A' : Option Addr} {n c n' c' : Nat} (h : Is W z t A n c) (h' : Is W z' t' A' n' c') : RdN (W.alloc (row2 t A n c t' A' n' c')) (some ⟨W.heap.size, 0, none⟩) 2 [nmOf z, nmOf z'] := by
 have hb := bel_alloc W (row2 t A n c t' A' n' c')
 refine ⟨rfl, fun _ => ⟨W.heap.size, 0, rfl, by simp, fun k hk => ?_⟩⟩
 rcases (show k = 0 ∨ k = 1 by omega) with rfl | rfl
 · refine ⟨A, n, c, ?_, ?_, h.2.2.1.below hb, h.2.2.2.1, h.2.2.2.2⟩
   · show _ = some (Value.bool (decide (z < 0)))
     rw [← h.1]; go_simp
   · go_simp
 · refine ⟨A', n', c', ?_, ?_, h'.2.2.1.below hb, h'.2.2.2.1, h'.2.2.2.2⟩
   · show _ = some (Value.bool (decide (z' < 0)))
     rw [← h'.1]; go_simp
   · go_simp
set_option maxHeartbeats 8000000 in
theorem awake9_c (w : World) : Calls Try.prog 6 #[] w (IsB true w) := by
 have P := Lib.hid (Below.refl w.heap.size w)
 go_enter Try.func6, Try.ntmps6
 go_wp2_with fail
 refine (powers_c _).mono ?_
 rintro e w11 ⟨A, n, c, rfl, hL, hn, hc, hb⟩
 replace P := Lib.hid (P.out.trans (hb.mono P.out.size))
 have RL := Lib.hid hL
 have HN := Lib.hid (And.intro hn hc)
 clear hb hL hn hc
 go_wp2_with fail
 refine (rofZ 3 _ (by omega) (by omega)).mono ?_
 rintro e w12 ⟨t1, A1, n1, c1, rfl, hi, hb⟩
 replace P := Lib.hid (P.out.trans (hb.mono P.out.size))
 replace RL := Lib.hid (RL.out.below hb)
 have I1 := Lib.hid hi
 clear hb hi
 go_wp2_with fail
 refine (rofZ 8 _ (by omega) (by omega)).mono ?_
 rintro e w13 ⟨t2, A2, n2, c2, rfl, hi, hb⟩
 replace P := Lib.hid (P.out.trans (hb.mono P.out.size))
 replace RL := Lib.hid (RL.out.below hb)
 replace I1 := Lib.hid (I1.out.below hb)
 have I2 := Lib.hid hi
 clear hb hi
 have k1 := bel_alloc w13 (row2 t1 A1 n1 c1 t2 A2 n2 c2)
 have RX := Lib.hid (rdN_two I1.out I2.out)
 replace P := Lib.hid (P.out.trans (k1.mono P.out.size))
 replace RL := Lib.hid (RL.out.below k1)
 clear k1 I1 I2
 go_wp2_with fail
 generalize w13.alloc (row2 t1 A1 n1 c1 t2 A2 n2 c2) = W1 at RX P RL ⊢
 generalize w13.heap.size = gx1 at RX ⊢
 refine (sysHolds_c 100 2 A n c powL (some ⟨gx1, 0, none⟩) 2 2 (pns 8) _ RL.out RX.out (by omega) (fun _ _ => most_at pow_most8)).mono ?_
 rintro e w14 hH
 obtain ⟨r1, k1, rfl, hst, hr, hr2, hb⟩ := hH.val (by rw [pow_valid, pow_all8]; rfl) rfl pow_nat8
 obtain rfl := small_T hst (by omega)
 have hr3 := hr rfl
 rw [pow_yes] at hr3
 subst hr3
 replace P := Lib.hid (P.out.trans (hb.mono P.out.size))
 clear hb hst hr hr2 RL RX hH HN
 go_wp2_with fail
 refine (powers_c _).mono ?_
 rintro e w21 ⟨A, n, c, rfl, hL, hn, hc, hb⟩
 replace P := Lib.hid (P.out.trans (hb.mono P.out.size))
 have RL := Lib.hid hL
 have HN := Lib.hid (And.intro hn hc)
 clear hb hL hn hc
 go_wp2_with fail
 refine (rofZ 3 _ (by omega) (by omega)).mono ?_
 rintro e w22 ⟨t1, A1, n1, c1, rfl, hi, hb⟩
 replace P := Lib.hid (P.out.trans (hb.mono P.out.size))
 replace RL := Lib.hid (RL.out.below hb)
 have I1 := Lib.hid hi
 clear hb hi
 go_wp2_with fail
 refine (rofZ 9 _ (by omega) (by omega)).mono ?_
 rintro e w23 ⟨t2, A2, n2, c2, rfl, hi, hb⟩
 replace P := Lib.hid (P.out.trans (hb.mono P.out.size))
 replace RL := Lib.hid (RL.out.below hb)
 replace I1 := Lib.hid (I1.out.below hb)
 have I2 := Lib.hid hi
 clear hb hi
 have k1 := bel_alloc w23 (row2 t1 A1 n1 c1 t2 A2 n2 c2)
 have RX := Lib.hid (rdN_two I1.out I2.out)
 replace P := Lib.hid (P.out.trans (k1.mono P.out.size))
 replace RL := Lib.hid (RL.out.below k1)
 clear k1 I1 I2
 go_wp2_with fail
 generalize w23.alloc (row2 t1 A1 n1 c1 t2 A2 n2 c2) = W2 at RX P RL ⊢
 generalize w23.heap.size = gx2 at RX ⊢
 refine (sysHolds_c 100 2 A n c powL (some ⟨gx2, 0, none⟩) 2 2 (pns 9) _ RL.out RX.out (by omega) (fun _ _ => most_at pow_most9)).mono ?_
 rintro e w24 hH
 obtain ⟨r2, k2, rfl, hst, hr, hr2, hb⟩ := hH.val (by rw [pow_valid, pow_all9]; rfl) rfl pow_nat9
 obtain rfl := small_T hst (by omega)
 have hr3 := hr rfl
 rw [pow_no] at hr3
 subst hr3
 replace P := Lib.hid (P.out.trans (hb.mono P.out.size))
 clear hb hst hr hr2 RL RX hH HN
 go_wp2_with fail
 refine (powers_c _).mono ?_
 rintro e w5 ⟨A, n, c, rfl, hL, hn, hc, hb⟩
 replace P := Lib.hid (P.out.trans (hb.mono P.out.size))
 have RL := Lib.hid hL
 clear hb hL hn hc
 go_wp2_with fail
 refine (sysCounts_c 2 A n c powL _ RL.out).mono ?_
 rintro e w6 hC
 obtain ⟨-, rfl, hb⟩ := hC.resolve_right (fun q => by have := q.1; rw [pow_valid] at this; cases this)
 replace P := Lib.hid (P.out.trans (hb.mono P.out.size))
 clear hb RL hC
 rw [pow_counts.1, pow_counts.2.1, pow_counts.2.2.1, pow_counts.2.2.2.1, pow_counts.2.2.2.2]
 have k1 := bel_alloc w6 (.cells #[.int .i64 2, .int .i64 0, .int .i64 0, .int .i64 1, .int .i64 0, .int .i64 0] 55)
 replace P := Lib.hid (P.out.trans (k1.mono P.out.size))
 clear k1
 go_wp2
 go_ret
 exact ⟨rfl, P.out⟩
theorem infoL9 : (Try.prog.info? 39).map (fun i => (i.zero, i.size, i.bytes)) = some (some (.agg #[.int .i64 0, .slice none 0 0, .slice none 0 0]), 3, 56) := by kernel_rfl
structure RawL where
 k : Int
 B : Option Addr
 m : Nat
 d : Nat
 C : Option Addr
 p : Nat
 q : Nat
def RawL.at (r : RawL) (j : Nat) : Value := if j = 0 then .int .i64 r.k else if j = 1 then .slice r.B r.m r.d else .slice r.C r.p r.q
def RowL (W : World) (b o n : Nat) (F : Nat → RawL) : Prop := ∀ k, k < n → ∀ j, j < 3 → W.cell? ⟨b, o + k * 3 + j, none⟩ = some ((F k).at j)
structure LnkR (W : World) (r : RawL) (l : Lnk) : Prop where
 k : r.k = l.kind
 ri : RdI W r.B r.m l.vs
 rp : RdP W r.C r.p l.ps
 md : r.m ≤ r.d
 dm : r.d ≤ 9223372036854775807
 pq : r.p ≤ r.q
 qm : r.q ≤ 9223372036854775807
theorem LnkR.below {W W' : World} {r : RawL} {l : Lnk} (h : LnkR W r l) (hb : Below W.heap.size W W') : LnkR W' r l :=
 ⟨h.k, h.ri.below hb, h.rp.below hb, h.md, h.dm, h.pq, h.qm⟩
theorem rdL_raw {W : World} {A : Option Addr} {n : Nat} {ls : List Lnk} (h : RdL W A n ls) (h0 : 0 < n) : ∃ b o F, A = some ⟨b, o, none⟩ ∧ b < W.heap.size ∧ RowL W b o n F ∧ ∀ k, k < n → LnkR W (F k) (lnkAt ls k) := by
 obtain ⟨b, o, e, hlt, hc⟩ := h.at_ h0
 classical
 refine ⟨b, o, fun k => if hk : k < n then
  ⟨(lnkAt ls k).kind, (hc k hk).choose, (hc k hk).choose_spec.choose, (hc k hk).choose_spec.choose_spec.choose, (hc k hk).choose_spec.choose_spec.choose_spec.choose, (hc k hk).choose_spec.choose_spec.choose_spec.choose_spec.choose, (hc k hk).choose_spec.choose_spec.choose_spec.choose_spec.choose_spec.choose⟩
  else ⟨0, none, 0, 0, none, 0, 0⟩, e, hlt, fun k hk j hj => ?_, fun k hk => ?_⟩
 · have hs := (hc k hk).choose_spec.choose_spec.choose_spec.choose_spec.choose_spec.choose_spec
   simp only [dif_pos hk]
   match j, hj with
   | 0, _ => exact hs.c0
   | 1, _ => exact hs.c1
   | 2, _ => exact hs.c2
 · have hs := (hc k hk).choose_spec.choose_spec.choose_spec.choose_spec.choose_spec.choose_spec
   simp only [dif_pos hk]
   exact ⟨rfl, hs.ri, hs.rp, hs.md, hs.dm, hs.pq, hs.qm⟩
theorem rdL_of {W : World} {b o n : Nat} {F : Nat → RawL} {ls : List Lnk} (hb : b < W.heap.size) (hl : ls.length = n) (h : RowL W b o n F) (h2 : ∀ k, k < n → LnkR W (F k) (lnkAt ls k)) : RdL W (some ⟨b, o, none⟩) n ls :=
 ⟨hl, fun _ => ⟨b, o, rfl, hb, fun k hk => ⟨(F k).B, (F k).m, (F k).d, (F k).C, (F k).p, (F k).q, by
  have := h k hk 0 (by omega)
  rw [(h2 k hk).k.symm]
  exact this, h k hk 1 (by omega), h k hk 2 (by omega), (h2 k hk).ri, (h2 k hk).rp, (h2 k hk).md, (h2 k hk).dm, (h2 k hk).pq, (h2 k hk).qm⟩⟩⟩
theorem RowL.below {W W' : World} {b o n : Nat} {F : Nat → RawL} (h : RowL W b o n F) (hlt : b < W.heap.size) (hb : Below W.heap.size W W') : RowL W' b o n F := fun k hk j hj =>
 (hb.cell (p := ⟨b, o + k * 3 + j, none⟩) hlt).trans (h k hk j hj)
theorem add_plain (b o j : Nat) : (⟨b, o, none⟩ : Addr).add j = ⟨b, o + j, none⟩ := by
 unfold Addr.add
 split
 · rename_i h0; subst h0; rfl
 · rfl
def flatL (F : Nat → RawL) : Nat → List Value
 | 0 => []
 | n + 1 => flatL F n ++ [(F n).at 0, (F n).at 1, (F n).at 2]
theorem flatL_len (F : Nat → RawL) : ∀ n, (flatL F n).length = n * 3
 | 0 => rfl
 | n + 1 => by rw [flatL, List.length_append, flatL_len F n]; simp; omega
theorem flatL_at (F : Nat → RawL) : ∀ n k, k < n → ∀ j, j < 3 → (flatL F n)[k * 3 + j]? = some ((F k).at j)
 | n + 1, k, hk, j, hj => by
   rw [flatL]
   by_cases h : k < n
   · rw [List.getElem?_append_left (by rw [flatL_len]; omega)]
     exact flatL_at F n k h j hj
   · obtain rfl : k = n := by omega
     rw [List.getElem?_append_right (by rw [flatL_len]; omega), flatL_len, show k * 3 + j - k * 3 = j by omega]
     match j, hj with
     | 0, _ => rfl
     | 1, _ => rfl
     | 2, _ => rfl
theorem bound_one9 (f : Nat → Nat) : ∀ n, ∃ T, ∀ i, i < n → f i ≤ T
 | 0 => ⟨0, fun i h => absurd h (by omega)⟩
 | n + 1 => by
   obtain ⟨T, h⟩ := bound_one9 f n
   refine ⟨T + f n, fun i hi => ?_⟩
   by_cases e : i = n
   · subst e; omega
   · have := h i (by omega); omega
theorem bound_two9 (f : Nat → Nat → Nat) (m : Nat → Nat) (n : Nat) : ∃ T, ∀ i, i < n → ∀ j, j < m i → f i j ≤ T := by
 obtain ⟨g, hg⟩ : ∃ g : Nat → Nat, ∀ i, ∀ j, j < m i → f i j ≤ g i := ⟨fun i => (bound_one9 (f i) (m i)).choose, fun i => (bound_one9 (f i) (m i)).choose_spec⟩
 obtain ⟨T, hT⟩ := bound_one9 g n
 exact ⟨T, fun i hi j hj => Nat.le_trans (hg i j hj) (hT i hi)⟩
structure RdU (W : World) (A : Option Addr) (n : Nat) (bs : List Nat) : Prop where
 len : bs.length = n
 lt : ∀ k, bs.getD k 0 < 256
 at_ : 0 < n → ∃ b o, A = some ⟨b, o, none⟩ ∧ b < W.heap.size ∧ ∀ k, k < n → W.cell? ⟨b, o + k, none⟩ = some (.int .u8 (bs.getD k 0 : Int))
structure EB (W : World) (ge : Nat) : Prop where
 eb : W.heap[ge]? = some (.cells #[] 39 (0, 0))
theorem EB.lt {W : World} {ge : Nat} (h : EB W ge) : ge < W.heap.size := (Array.getElem?_eq_some_iff.1 h.eb).1
theorem EB.next {W W' : World} {ge : Nat} (h : EB W ge) (hb : Below W.heap.size W W') : EB W' ge := ⟨(hb.block ge h.lt).trans h.eb⟩
theorem EB.new (W : World) : EB (W.alloc (.cells #[] 39)) W.heap.size := ⟨heap_alloc_new W _⟩
theorem frozen_row {w' : World} {g' : Nat} {cur : Array Value} {e : TypeId} (hh : w'.heap[g']? = some (.cells cur e (0, 0))) (o : Nat) : w'.frozen? ⟨g', o, none⟩ = false := by
 unfold World.frozen?
 rw [hh]
 simp
structure TL (w W : World) (b n c : Nat) (ls : List Lnk) (F : Nat → RawL) : Prop where
 lt : b < W.heap.size
 row : RowL W b 0 n F
 fr : ∀ o, W.frozen? ⟨b, o, none⟩ = false
 lk : ∀ k, k < n → LnkR w (F k) (lnkAt ls k)
 nc : n ≤ c
 cm : c ≤ 9223372036854775807
theorem TL.next {w W W' : World} {b n c : Nat} {ls : List Lnk} {F : Nat → RawL} (h : TL w W b n c ls F) (hb : Below W.heap.size W W') : TL w W' b n c ls F :=
 ⟨Nat.lt_of_lt_of_le h.lt hb.size, h.row.below h.lt hb, fun o => (hb.frozen (p := ⟨b, o, none⟩) h.lt).trans (h.fr o), h.lk, h.nc, h.cm⟩
theorem TL.rd {w W : World} {b n c : Nat} {ls : List Lnk} {F : Nat → RawL} (h : TL w W b n c ls F) (hl : ls.length = n) (hb : Below w.heap.size w W) : RdL W (some ⟨b, 0, none⟩) n ls :=
 rdL_of h.lt hl h.row fun k hk => (h.lk k hk).below hb
theorem run_app_all (w0 w : World) (ty : TypeId) (ge : Nat) (A : Option Addr) (n c : Nat) (ls : List Lnk) (h : RdL w0 A n ls) (hw : Below w0.heap.size w0 w) (he : EB w ge) (hn : n ≤ 1000000) :
 ∃ g' c' w' F, (Builtin.append_ #[40, 40] ty #[.slice (some ⟨ge, 0, none⟩) 0 0, .slice A n c]).run Try.prog w = .ok (.slice (some ⟨g', 0, none⟩) n c') w' ∧ Below w.heap.size w w' ∧ (g' = ge ∨ w.heap.size ≤ g') ∧ TL w0 w' g' n c' ls F := by
 obtain ⟨i, hi, hz, hs, hb⟩ := info_parts infoL9
 rcases Nat.eq_zero_or_pos n with rfl | h0
 · refine ⟨ge, 0, w, fun _ => ⟨0, none, 0, 0, none, 0, 0⟩, ?_, Below.refl _ _, .inl rfl, he.lt, fun k hk => absurd hk (by omega), frozen_row he.eb, fun k hk => absurd hk (by omega), Nat.le_refl _, by omega⟩
   rcases A with _ | a <;> simp [Builtin.append_, run_underlying Try.underlying40, sizeOf, typeInfo, hi, Builtin.lenOf, Builtin.firstCells, loadCells, loadCellsFrom, storeCells]
 · obtain ⟨b, o, F, rfl, hbl, hF, hR⟩ := rdL_raw h h0
   have hF2 : RowL w b o n F := hF.below hbl hw
   have hg : 0 < 0 + n := by omega
   have hrun := run_append_grow (P := Try.prog) w 40 ty 39 i (.agg #[.int .i64 0, .slice none 0 0, .slice none 0 0]) Try.underlying40 hi hz ⟨ge, 0, none⟩ 0 0 [] (by simp) (fun j v hv => by cases hv) ⟨b, o, none⟩ n c (flatL F n) (by rw [flatL_len, hs])
    (fun j u hu => by
     have hj : j < n * 3 := by
      have := (List.getElem?_eq_some_iff.1 hu).1
      rwa [flatL_len] at this
     have e1 : j = j / 3 * 3 + j % 3 := by omega
     have ea : (⟨b, o, none⟩ : Addr).add j = ⟨b, o + j / 3 * 3 + j % 3, none⟩ := by
      rw [show o + j / 3 * 3 + j % 3 = o + j by omega]
      exact add_plain b o j
     rw [ea, hF2 (j / 3) (by omega) (j % 3) (by omega), ← hu]
     have := flatL_at F n (j / 3) (by omega) (j % 3) (by omega)
     rw [← e1] at this
     exact this.symm) hg (by omega) (growslice_fits hg (by rw [hb]; omega))
   rw [Nat.zero_add] at hrun
   refine ⟨w.heap.size, _, _, F, hrun, ((Below.refl w.heap.size w).drew).trans (bel_alloc w.drew _), .inr (Nat.le_refl _), by simp, fun k hk j hj => ?_, fun o => frozen_row (heap_alloc_new w.drew _) o, hR, grownCap_ge w n 0 _, by
    have := grownCap_le_maxLen w n 0 39 (by simp only [maxLen]; omega)
    simpa [maxLen] using this⟩
   have hf := flatL_at F n k hk j hj
   have hlen : k * 3 + j < (flatL F n).length := by rw [flatL_len]; omega
   show (match (w.drew.alloc _).heap[w.drew.heap.size]? with | some (.cells c _ _) => _ | _ => none) = _
   rw [heap_alloc_new]
   simp only [Nat.zero_add]
   rw [Array.getElem?_append_left (by simp; omega)]
   simp [hf]
theorem wp_app_all {w0 w : World} {o : Oper} {a : Act} {K : Act → World → Prop} {Q : Exit → Act → World → Prop} (s y : Operand)
 (ho : o.op = .call { callee := .builtin .append, args := #[s, y], argTypes := #[40, 40] })
 (ge : Nat) (A : Option Addr) (n c : Nat) (ls : List Lnk) (hs : a.eval s = .slice (some ⟨ge, 0, none⟩) 0 0) (hy : a.eval y = .slice A n c) (h : RdL w0 A n ls) (hw : Below w0.heap.size w0 w) (he : EB w ge) (hn : n ≤ 1000000)
 (hk : ∀ g' c' w' F, Below w.heap.size w w' → (g' = ge ∨ w.heap.size ≤ g') → TL w0 w' g' n c' ls F → K (a.put o.dst (.slice (some ⟨g', 0, none⟩) n c')) w') : o.wp Try.prog a w K Q := by
 obtain ⟨g', c', w', F, hrun, h1, h2, h3⟩ := run_app_all w0 w o.type ge A n c ls h hw he hn
 unfold Oper.wp execOp
 simp only [ho, resolve, invoke, builtin, Sem.run_bind, Sem.run_pure, Result.andThen_ok, List.map_toArray, List.map_cons, List.map_nil, hs, hy, hrun]
 exact hk g' c' w' F h1 h2 h3
theorem step_app_all {w0 w : World} {ops : Array Oper} {o : Oper} {a : Act} {K : Act → World → Prop} {Q : Exit → Act → World → Prop} {E : Prop} (hgd : o.guard = none) (s y : Operand)
 (ho : o.op = .call { callee := .builtin .append, args := #[s, y], argTypes := #[40, 40] })
 (ge : Nat) (A : Option Addr) (n c : Nat) (ls : List Lnk) (hs : a.eval s = .slice (some ⟨ge, 0, none⟩) 0 0) (hy : a.eval y = .slice A n c) (h : RdL w0 A n ls) (hw : Below w0.heap.size w0 w) (he : EB w ge) (hn : n ≤ 1000000)
 (hk : ∀ g' c' w' F, Below w.heap.size w w' → (g' = ge ∨ w.heap.size ≤ g') → TL w0 w' g' n c' ls F → K (a.put o.dst (.slice (some ⟨g', 0, none⟩) n c')) w') :
 if Region.wanted o (yielded ops a.tmps) = true then Oper.wp Try.prog o a w K Q else E := by
 have hw2 : Region.wanted o (yielded ops a.tmps) = true := by simp [Region.wanted, hgd]
 rw [if_pos hw2]
 exact wp_app_all s y ho ge A n c ls hs hy h hw he hn hk
theorem BxY.off9 {W : World} {g : Nat} {V : Int} {A : Option Addr} {n c : Nat} (h : BxY W g V A n c) {a : Addr} (hp : a.block ≠ g) (u : Value) : BxY (W.setCell a u) g V A n c :=
 ⟨by rw [World.size_setCell]; exact h.lt, (World.cell?_setCell_other _ _ _ _ (by intro e; subst e; exact hp rfl)).trans h.c0, (World.cell?_setCell_other _ _ _ _ (by intro e; subst e; exact hp rfl)).trans h.c1⟩
theorem TL.off {w W : World} {b n c : Nat} {ls : List Lnk} {F : Nat → RawL} (h : TL w W b n c ls F) {p : Addr} (hp : p.block ≠ b) (u : Value) : TL w (W.setCell p u) b n c ls F :=
 ⟨by rw [World.size_setCell]; exact h.lt, fun k hk j hj => (World.cell?_setCell_other _ _ _ _ (by intro e; subst e; exact hp rfl)).trans (h.row k hk j hj), fun o => by rw [World.frozen?_setCell]; exact h.fr o, h.lk, h.nc, h.cm⟩
structure PermN (n : Nat) (σ : Nat → Nat) : Prop where
 inn : ∀ k, k < n → σ k < n
 onn : ∀ m, m < n → ∃ k, k < n ∧ σ k = m
theorem PermN.id (n : Nat) : PermN n (fun k => k) := ⟨fun _ h => h, fun m h => ⟨m, h, rfl⟩⟩
def swapF {α : Type} (f : Nat → α) (i k : Nat) (m : Nat) : α := if m = k then f i else if m = i then f k else f m
theorem PermN.swap {n : Nat} {σ : Nat → Nat} (h : PermN n σ) {i k : Nat} (hi : i < n) (hk : k < n) : PermN n (swapF σ i k) := by
 refine ⟨fun m hm => ?_, fun m hm => ?_⟩
 · unfold swapF
   split
   · exact h.inn i hi
   · split
     · exact h.inn k hk
     · exact h.inn m hm
 · obtain ⟨q, hq, e⟩ := h.onn m hm
   by_cases q1 : q = i
   · subst q1
     exact ⟨k, hk, by unfold swapF; rw [if_pos rfl]; exact e⟩
   · by_cases q2 : q = k
     · subst q2
       by_cases q3 : i = q
       · exact absurd q3.symm q1
       · exact ⟨i, hi, by unfold swapF; rw [if_neg q3, if_pos rfl]; exact e⟩
     · exact ⟨q, hq, by unfold swapF; rw [if_neg q2, if_neg q1]; exact e⟩
def permL (ls : List Lnk) (n : Nat) (σ : Nat → Nat) : List Lnk := (List.range n).map fun k => lnkAt ls (σ k)
theorem permL_len (ls : List Lnk) (n : Nat) (σ : Nat → Nat) : (permL ls n σ).length = n := by simp [permL]
theorem permL_at {ls : List Lnk} {n : Nat} {σ : Nat → Nat} {k : Nat} (hk : k < n) : lnkAt (permL ls n σ) k = lnkAt ls (σ k) := by
 unfold permL lnkAt
 rw [List.getD_eq_getElem?_getD, List.getElem?_map, List.getElem?_range hk]
 rfl
theorem permL_id {ls : List Lnk} {n : Nat} (h : ls.length = n) : permL ls n (fun k => k) = ls := by
 refine List.ext_getElem (by rw [permL_len, h]) fun k h1 h2 => ?_
 have e := permL_at (ls := ls) (n := n) (σ := fun k => k) (k := k) (by omega)
 unfold lnkAt at e
 rw [List.getD_eq_getElem?_getD, List.getD_eq_getElem?_getD, List.getElem?_eq_getElem h1, List.getElem?_eq_getElem h2] at e
 exact e
theorem perm_all {ls : List Lnk} {n : Nat} (hl : ls.length = n) {σ : Nat → Nat} (h : PermN n σ) (p : Lnk → Prop) : (∀ i, i < (permL ls n σ).length → p (lnkAt (permL ls n σ) i)) ↔ ∀ i, i < ls.length → p (lnkAt ls i) := by
 rw [permL_len, hl]
 constructor
 · intro q m hm
   obtain ⟨k, hk, rfl⟩ := h.onn m hm
   have := q k hk
   rwa [permL_at hk] at this
 · intro q k hk
   rw [permL_at hk]
   exact q _ (h.inn k hk)
theorem perm_valid {V : Int} {ls : List Lnk} {n : Nat} (hl : ls.length = n) {σ : Nat → Nat} (h : PermN n σ) : validS V (permL ls n σ) = validS V ls := by
 have e := perm_all hl h (fun l => validLnk l V = true)
 unfold validS
 rw [show decide (∀ i, i < (permL ls n σ).length → validLnk (lnkAt (permL ls n σ) i) V = true) = decide (∀ i, i < ls.length → validLnk (lnkAt ls i) V = true) from decide_eq_decide.2 e, permL_len, hl]
theorem perm_holds {ns : List Nmr} {ls : List Lnk} {n : Nat} (hl : ls.length = n) {σ : Nat → Nat} (h : PermN n σ) : holdsB (permL ls n σ) ns = holdsB ls ns :=
 decide_eq_decide.2 (perm_all hl h (fun l => linkB l ns = true))
structure TH (W : World) (b n : Nat) (F : Nat → RawL) : Prop where
 lt : b < W.heap.size
 row : RowL W b 0 n F
 fr : ∀ o, W.frozen? ⟨b, o, none⟩ = false
theorem TL.th {w W : World} {b n c : Nat} {ls : List Lnk} {F : Nat → RawL} (h : TL w W b n c ls F) : TH W b n F := ⟨h.lt, h.row, h.fr⟩
section
variable {W W' : World} {b n : Nat} {F : Nat → RawL}
theorem TH.next (h : TH W b n F) (hb : Below W.heap.size W W') : TH W' b n F :=
 ⟨Nat.lt_of_lt_of_le h.lt hb.size, h.row.below h.lt hb, fun o => (hb.frozen (p := ⟨b, o, none⟩) h.lt).trans (h.fr o)⟩
theorem TH.c0 (h : TH W b n F) {k : Nat} (hk : k < n) : W.cell? ⟨b, k * 3, none⟩ = some (.int .i64 (F k).k) := by
 have := h.row k hk 0 (by omega)
 rwa [Nat.zero_add, Nat.add_zero] at this
theorem TH.c1 (h : TH W b n F) {k : Nat} (hk : k < n) : W.cell? ⟨b, k * 3 + 1, none⟩ = some (.slice (F k).B (F k).m (F k).d) := by
 have := h.row k hk 1 (by omega)
 rwa [Nat.zero_add] at this
theorem TH.c2 (h : TH W b n F) {k : Nat} (hk : k < n) : W.cell? ⟨b, k * 3 + 2, none⟩ = some (.slice (F k).C (F k).p (F k).q) := by
 have := h.row k hk 2 (by omega)
 rwa [Nat.zero_add] at this
abbrev set3L (W : World) (b k : Nat) (r : RawL) : World := ((W.setCell ⟨b, k * 3, none⟩ (.int .i64 r.k)).setCell ⟨b, k * 3 + 1, none⟩ (.slice r.B r.m r.d)).setCell ⟨b, k * 3 + 2, none⟩ (.slice r.C r.p r.q)
theorem set3L_size (r : RawL) (k : Nat) : (set3L W b k r).heap.size = W.heap.size := by simp [set3L, World.setCell]
theorem set3L_fr (r : RawL) (k : Nat) (a : Addr) : (set3L W b k r).frozen? a = W.frozen? a := by
 unfold set3L
 rw [World.frozen?_setCell, World.frozen?_setCell, World.frozen?_setCell]
theorem TH.put (h : TH W b n F) {i : Nat} (hi : i < n) (r : RawL) : TH (set3L W b i r) b n (fun m => if m = i then r else F m) := by
 refine ⟨by rw [set3L_size]; exact h.lt, fun m hm j hj => ?_, fun o => (set3L_fr r i _).trans (h.fr o)⟩
 have c0 := h.c0 hi
 have c1 := h.c1 hi
 have c2 := h.c2 hi
 have hne : ∀ x y : Nat, x ≠ y → (⟨b, x, none⟩ : Addr) ≠ ⟨b, y, none⟩ := fun x y hx e => hx (by injection e)
 by_cases e : m = i
 · subst e
   simp only [if_true]
   match j, hj with
   | 0, _ =>
     show (set3L W b m r).cell? ⟨b, 0 + m * 3 + 0, none⟩ = some (.int .i64 r.k)
     rw [Nat.zero_add, Nat.add_zero]
     unfold set3L
     rw [World.cell?_setCell_other _ _ _ _ (hne _ _ (by omega)), World.cell?_setCell_other _ _ _ _ (hne _ _ (by omega)), World.cell?_setCell_same _ _ _ c0]
   | 1, _ =>
     show (set3L W b m r).cell? ⟨b, 0 + m * 3 + 1, none⟩ = some (.slice r.B r.m r.d)
     rw [Nat.zero_add]
     unfold set3L
     rw [World.cell?_setCell_other _ _ _ _ (hne _ _ (by omega)), World.cell?_setCell_same _ _ _ ((World.cell?_setCell_other _ _ _ _ (hne _ _ (by omega))).trans c1)]
   | 2, _ =>
     show (set3L W b m r).cell? ⟨b, 0 + m * 3 + 2, none⟩ = some (.slice r.C r.p r.q)
     rw [Nat.zero_add]
     unfold set3L
     rw [World.cell?_setCell_same _ _ _ ((World.cell?_setCell_other _ _ _ _ (hne _ _ (by omega))).trans ((World.cell?_setCell_other _ _ _ _ (hne _ _ (by omega))).trans c2))]
 · simp only [if_neg e]
   unfold set3L
   rw [World.cell?_setCell_other _ _ _ _ (hne _ _ (by omega)), World.cell?_setCell_other _ _ _ _ (hne _ _ (by omega)), World.cell?_setCell_other _ _ _ _ (hne _ _ (by omega))]
   exact h.row m hm j hj
theorem SL.off3 {w : World} {g : Nat} {V : Int} {A : Option Addr} {n' c : Nat} (h : SL w W g V A n' c) (hw : w.heap.size ≤ b) (hg : b ≠ g) (k : Nat) (r : RawL) : SL w (set3L W b k r) g V A n' c :=
 ⟨((h.low.setCell (p := ⟨b, k * 3, none⟩) hw _).setCell (p := ⟨b, k * 3 + 1, none⟩) hw _).setCell (p := ⟨b, k * 3 + 2, none⟩) hw _, ((h.bx.off9 (a := ⟨b, k * 3, none⟩) hg _).off9 (a := ⟨b, k * 3 + 1, none⟩) hg _).off9 (a := ⟨b, k * 3 + 2, none⟩) hg _⟩
theorem BxY.off3 {g : Nat} {V : Int} {A : Option Addr} {n' c : Nat} (h : BxY W g V A n' c) (hg : b ≠ g) (k : Nat) (r : RawL) : BxY (set3L W b k r) g V A n' c :=
 ((h.off9 (a := ⟨b, k * 3, none⟩) hg _).off9 (a := ⟨b, k * 3 + 1, none⟩) hg _).off9 (a := ⟨b, k * 3 + 2, none⟩) hg _
end
structure FrV (W : World) (g : Nat) : Prop where
 lt : g < W.heap.size
 fr : ∀ o, W.frozen? ⟨g, o, none⟩ = false
theorem FrV.next {W W' : World} {g : Nat} (h : FrV W g) (hb : Below W.heap.size W W') : FrV W' g :=
 ⟨Nat.lt_of_lt_of_le h.lt hb.size, fun o => (hb.frozen (p := ⟨g, o, none⟩) h.lt).trans (h.fr o)⟩
theorem FrV.off3 {W : World} {g : Nat} (h : FrV W g) (b k : Nat) (r : RawL) : FrV (set3L W b k r) g :=
 ⟨by rw [set3L_size]; exact h.lt, fun o => (set3L_fr r k _).trans (h.fr o)⟩
theorem TL.done {w W W' : World} {b n c : Nat} {ls : List Lnk} {F : Nat → RawL} {σ : Nat → Nat} (h : TL w W b n c (permL ls n σ) F) {i k : Nat} (hi : i < n) (hk : k < n) (h' : TH W' b n (swapF F i k)) : TL w W' b n c (permL ls n (swapF σ i k)) (swapF F i k) := by
 refine ⟨h'.lt, h'.row, h'.fr, fun m hm => ?_, h.nc, h.cm⟩
 rw [permL_at hm]
 have hl : ∀ q, q < n → LnkR w (F q) (lnkAt ls (σ q)) := fun q hq => by
  have := h.lk q hq
  rwa [permL_at hq] at this
 unfold swapF
 split
 · exact hl i hi
 · split
   · exact hl k hk
   · exact hl m hm
end Go.Proofs.Yteabokkofoomkaa
