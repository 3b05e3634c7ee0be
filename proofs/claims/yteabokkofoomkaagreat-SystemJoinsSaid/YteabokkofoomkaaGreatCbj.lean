import Derived.Test.YteabokkofoomkaaGreatCbb
import Derived.Test.YteabokkofoomkaaGreatCbi
import Derived.Test.YteabokkofoomkaaGreatCak
import Derived.Test.YteabokkofoomkaaGreatCbc
import Derived.Test.YteabokkofoomkaaGreatCbf
import Derived.Test.YteabokkofoomkaaGreatCaq
import Derived.Lib.AppendIntMem
import Derived.Maps.AppendAt
import Derived.BigRegion
set_option maxRecDepth 100000
namespace Go.Proofs.YteabokkofoomkaaGreat
open Go.RowKit Go.Shelf Go.Deep
def pns (y : Int) : List Nmr := [nmOf 3, nmOf y]
theorem pow_valid : validS 2 powL = true := by kernel_rfl
theorem pow_all8 : allB (pns 8) = true := by kernel_rfl
theorem pow_all9 : allB (pns 9) = true := by kernel_rfl
theorem pow_nat8 : natB (pns 8) = true := by kernel_rfl
theorem pow_nat9 : natB (pns 9) = true := by kernel_rfl
theorem pow_yes : holdsB powL (pns 8) = true := by kernel_rfl
theorem pow_no : holdsB powL (pns 9) = false := by kernel_rfl
def allMost (ls : List Lnk) (ns : List Nmr) (T : Nat) : Bool := ls.all fun l => l.ps.all fun p => decide (allV p.ts (ownOf l.vs ns) p.ts.length ≤ T)
theorem pow_most8 : allMost powL (pns 8) 100 = true := by kernel_rfl
theorem pow_most9 : allMost powL (pns 9) 100 = true := by kernel_rfl
theorem pow_counts : cntL powL 0 powL.length = 0 ∧ cntL powL 1 powL.length = 0 ∧ cntL powL 2 powL.length = 1 ∧ cntL powL 3 powL.length = 0 ∧ degL powL powL.length = 0 := ⟨by kernel_rfl, by kernel_rfl, by kernel_rfl, by kernel_rfl, by kernel_rfl⟩
theorem most_at {ls : List Lnk} {ns : List Nmr} {T : Nat} (h : allMost ls ns T = true) : ∀ i, i < ls.length → ∀ j, j < (lnkAt ls i).ps.length → allV (plyAt (lnkAt ls i).ps j).ts (ownOf (lnkAt ls i).vs ns) (plyAt (lnkAt ls i).ps j).ts.length ≤ T := by
 intro i hi j hj
 have e1 : lnkAt ls i ∈ ls := by
  unfold lnkAt
  rw [List.getD_eq_getElem?_getD, List.getElem?_eq_getElem hi]
  exact List.getElem_mem hi
 have h2 := List.all_eq_true.1 h _ e1
 have e2 : plyAt (lnkAt ls i).ps j ∈ (lnkAt ls i).ps := by
  unfold plyAt
  rw [List.getD_eq_getElem?_getD, List.getElem?_eq_getElem hj]
  exact List.getElem_mem hj
 exact of_decide_eq_true (List.all_eq_true.1 h2 _ e2)
theorem small_T {k : Int} {T : Nat} (h : St T k) (hT : T < 4294967296) : k = 0 := by
 rcases h with h | ⟨_, h⟩
 · exact h
 · have h1 := pw_le (m := 1) (n := 4096) (by omega)
   rw [pw_one] at h1
   omega
abbrev row2 (t : Bool) (A : Option Addr) (n c : Nat) (t' : Bool) (A' : Option Addr) (n' c' : Nat) : Obj := .cells #[.bool t, .slice A n c, .bool t', .slice A' n' c'] 58
theorem rdN_two {W : World} {z z' : Int} {t t' : Bool} {A A' : Option Addr} {n c n' c' : Nat} (h : Is W z t A n c) (h' : Is W z' t' A' n' c') : RdN (W.alloc (row2 t A n c t' A' n' c')) (some ⟨W.heap.size, 0, none⟩) 2 [nmOf z, nmOf z'] := by
 have hb := bel_alloc W (row2 t A n c t' A' n' c')
 refine ⟨rfl, fun _ => ⟨W.heap.size, 0, rfl, by simp, fun k hk => ?_⟩⟩
 rcases (show k = 0 ∨ k = 1 by omega) with rfl | rfl
 · refine ⟨A, n, c, ?_, ?_, h.2.2.1.below hb, h.2.2.2.1, h.2.2.2.2⟩
   · show _ = some (Value.bool (decide (z < 0)))
     rw [← h.1]; go_simp
   · go_simp
 · refine ⟨A', n', c', ?_, ?_, h'.2.2.1.below hb, h'.2.2.2.1, h'.2.2.2.2⟩
   · show _ = some (Value.bool (decide (z' < 0)))
     rw [← h'.1]; go_simp
   · go_simp
set_option maxHeartbeats 8000000 in
theorem awake9_c (w : World) : Calls Tryz.prog 9 #[] w (IsB true w) := by
 have P := Lib.hid (Below.refl w.heap.size w)
 go_enter Tryz.func9, Tryz.ntmps9
 go_wp2_with fail
 refine (powers_c _).mono ?_
 rintro e w11 ⟨A, n, c, rfl, hL, hn, hc, hb⟩
 replace P := Lib.hid (P.out.trans (hb.mono P.out.size))
 have RL := Lib.hid hL
 have HN := Lib.hid (And.intro hn hc)
 clear hb hL hn hc
 go_wp2_with fail
 refine (rofZ 3 _ (by omega) (by omega)).mono ?_
 rintro e w12 ⟨t1, A1, n1, c1, rfl, hi, hb⟩
 replace P := Lib.hid (P.out.trans (hb.mono P.out.size))
 replace RL := Lib.hid (RL.out.below hb)
 have I1 := Lib.hid hi
 clear hb hi
 go_wp2_with fail
 refine (rofZ 8 _ (by omega) (by omega)).mono ?_
 rintro e w13 ⟨t2, A2, n2, c2, rfl, hi, hb⟩
 replace P := Lib.hid (P.out.trans (hb.mono P.out.size))
 replace RL := Lib.hid (RL.out.below hb)
 replace I1 := Lib.hid (I1.out.below hb)
 have I2 := Lib.hid hi
 clear hb hi
 have k1 := bel_alloc w13 (row2 t1 A1 n1 c1 t2 A2 n2 c2)
 have RX := Lib.hid (rdN_two I1.out I2.out)
 replace P := Lib.hid (P.out.trans (k1.mono P.out.size))
 replace RL := Lib.hid (RL.out.below k1)
 clear k1 I1 I2
 go_wp2_with fail
 generalize w13.alloc (row2 t1 A1 n1 c1 t2 A2 n2 c2) = W1 at RX P RL ⊢
 generalize w13.heap.size = gx1 at RX ⊢
 refine (sysHolds_c 100 2 A n c powL (some ⟨gx1, 0, none⟩) 2 2 (pns 8) _ RL.out RX.out (by omega) (fun _ _ => most_at pow_most8)).mono ?_
 rintro e w14 hH
 obtain ⟨r1, k1, rfl, hst, hr, hr2, hb⟩ := hH.val (by rw [pow_valid, pow_all8]; rfl) rfl pow_nat8
 obtain rfl := small_T hst (by omega)
 have hr3 := hr rfl
 rw [pow_yes] at hr3
 subst hr3
 replace P := Lib.hid (P.out.trans (hb.mono P.out.size))
 clear hb hst hr hr2 RL RX hH HN
 go_wp2_with fail
 refine (powers_c _).mono ?_
 rintro e w21 ⟨A, n, c, rfl, hL, hn, hc, hb⟩
 replace P := Lib.hid (P.out.trans (hb.mono P.out.size))
 have RL := Lib.hid hL
 have HN := Lib.hid (And.intro hn hc)
 clear hb hL hn hc
 go_wp2_with fail
 refine (rofZ 3 _ (by omega) (by omega)).mono ?_
 rintro e w22 ⟨t1, A1, n1, c1, rfl, hi, hb⟩
 replace P := Lib.hid (P.out.trans (hb.mono P.out.size))
 replace RL := Lib.hid (RL.out.below hb)
 have I1 := Lib.hid hi
 clear hb hi
 go_wp2_with fail
 refine (rofZ 9 _ (by omega) (by omega)).mono ?_
 rintro e w23 ⟨t2, A2, n2, c2, rfl, hi, hb⟩
 replace P := Lib.hid (P.out.trans (hb.mono P.out.size))
 replace RL := Lib.hid (RL.out.below hb)
 replace I1 := Lib.hid (I1.out.below hb)
 have I2 := Lib.hid hi
 clear hb hi
 have k1 := bel_alloc w23 (row2 t1 A1 n1 c1 t2 A2 n2 c2)
 have RX := Lib.hid (rdN_two I1.out I2.out)
 replace P := Lib.hid (P.out.trans (k1.mono P.out.size))
 replace RL := Lib.hid (RL.out.below k1)
 clear k1 I1 I2
 go_wp2_with fail
 generalize w23.alloc (row2 t1 A1 n1 c1 t2 A2 n2 c2) = W2 at RX P RL ⊢
 generalize w23.heap.size = gx2 at RX ⊢
 refine (sysHolds_c 100 2 A n c powL (some ⟨gx2, 0, none⟩) 2 2 (pns 9) _ RL.out RX.out (by omega) (fun _ _ => most_at pow_most9)).mono ?_
 rintro e w24 hH
 obtain ⟨r2, k2, rfl, hst, hr, hr2, hb⟩ := hH.val (by rw [pow_valid, pow_all9]; rfl) rfl pow_nat9
 obtain rfl := small_T hst (by omega)
 have hr3 := hr rfl
 rw [pow_no] at hr3
 subst hr3
 replace P := Lib.hid (P.out.trans (hb.mono P.out.size))
 clear hb hst hr hr2 RL RX hH HN
 go_wp2_with fail
 refine (powers_c _).mono ?_
 rintro e w5 ⟨A, n, c, rfl, hL, hn, hc, hb⟩
 replace P := Lib.hid (P.out.trans (hb.mono P.out.size))
 have RL := Lib.hid hL
 clear hb hL hn hc
 go_wp2_with fail
 refine (sysCounts_c 2 A n c powL _ RL.out).mono ?_
 rintro e w6 hC
 obtain ⟨-, rfl, hb⟩ := hC.resolve_right (fun q => by have := q.1; rw [pow_valid] at this; cases this)
 replace P := Lib.hid (P.out.trans (hb.mono P.out.size))
 clear hb RL hC
 rw [pow_counts.1, pow_counts.2.1, pow_counts.2.2.1, pow_counts.2.2.2.1, pow_counts.2.2.2.2]
 have k1 := bel_alloc w6 (.cells #[.int .i64 2, .int .i64 0, .int .i64 0, .int .i64 1, .int .i64 0, .int .i64 0] 29)
 replace P := Lib.hid (P.out.trans (k1.mono P.out.size))
 clear k1
 go_wp2
 go_ret
 exact ⟨rfl, P.out⟩
structure RawL where
 k : Int
 B : Option Addr
 m : Nat
 d : Nat
 C : Option Addr
 p : Nat
 q : Nat
def RawL.at (r : RawL) (j : Nat) : Value := if j = 0 then .int .i64 r.k else if j = 1 then .slice r.B r.m r.d else .slice r.C r.p r.q
def RowL (W : World) (b o n : Nat) (F : Nat → RawL) : Prop := ∀ k, k < n → ∀ j, j < 3 → W.cell? ⟨b, o + k * 3 + j, none⟩ = some ((F k).at j)
structure LnkR (W : World) (r : RawL) (l : Lnk) : Prop where
 k : r.k = l.kind
 ri : RdI W r.B r.m l.vs
 rp : RdP W r.C r.p l.ps
 md : r.m ≤ r.d
 dm : r.d ≤ 9223372036854775807
 pq : r.p ≤ r.q
 qm : r.q ≤ 9223372036854775807
theorem LnkR.below {W W' : World} {r : RawL} {l : Lnk} (h : LnkR W r l) (hb : Below W.heap.size W W') : LnkR W' r l :=
 ⟨h.k, h.ri.below hb, h.rp.below hb, h.md, h.dm, h.pq, h.qm⟩
theorem rdL_raw {W : World} {A : Option Addr} {n : Nat} {ls : List Lnk} (h : RdL W A n ls) (h0 : 0 < n) : ∃ b o F, A = some ⟨b, o, none⟩ ∧ b < W.heap.size ∧ RowL W b o n F ∧ ∀ k, k < n → LnkR W (F k) (lnkAt ls k) := by
 obtain ⟨b, o, e, hlt, hc⟩ := h.at_ h0
 classical
 refine ⟨b, o, fun k => if hk : k < n then
  ⟨(lnkAt ls k).kind, (hc k hk).choose, (hc k hk).choose_spec.choose, (hc k hk).choose_spec.choose_spec.choose, (hc k hk).choose_spec.choose_spec.choose_spec.choose, (hc k hk).choose_spec.choose_spec.choose_spec.choose_spec.choose, (hc k hk).choose_spec.choose_spec.choose_spec.choose_spec.choose_spec.choose⟩
  else ⟨0, none, 0, 0, none, 0, 0⟩, e, hlt, fun k hk j hj => ?_, fun k hk => ?_⟩
 · have hs := (hc k hk).choose_spec.choose_spec.choose_spec.choose_spec.choose_spec.choose_spec
   simp only [dif_pos hk]
   match j, hj with
   | 0, _ => exact hs.c0
   | 1, _ => exact hs.c1
   | 2, _ => exact hs.c2
 · have hs := (hc k hk).choose_spec.choose_spec.choose_spec.choose_spec.choose_spec.choose_spec
   simp only [dif_pos hk]
   exact ⟨rfl, hs.ri, hs.rp, hs.md, hs.dm, hs.pq, hs.qm⟩
theorem rdL_of {W : World} {b o n : Nat} {F : Nat → RawL} {ls : List Lnk} (hb : b < W.heap.size) (hl : ls.length = n) (h : RowL W b o n F) (h2 : ∀ k, k < n → LnkR W (F k) (lnkAt ls k)) : RdL W (some ⟨b, o, none⟩) n ls :=
 ⟨hl, fun _ => ⟨b, o, rfl, hb, fun k hk => ⟨(F k).B, (F k).m, (F k).d, (F k).C, (F k).p, (F k).q, by
  have := h k hk 0 (by omega)
  rw [(h2 k hk).k.symm]
  exact this, h k hk 1 (by omega), h k hk 2 (by omega), (h2 k hk).ri, (h2 k hk).rp, (h2 k hk).md, (h2 k hk).dm, (h2 k hk).pq, (h2 k hk).qm⟩⟩⟩
theorem RowL.below {W W' : World} {b o n : Nat} {F : Nat → RawL} (h : RowL W b o n F) (hlt : b < W.heap.size) (hb : Below W.heap.size W W') : RowL W' b o n F := fun k hk j hj =>
 (hb.cell (p := ⟨b, o + k * 3 + j, none⟩) hlt).trans (h k hk j hj)
def flatL (F : Nat → RawL) : Nat → List Value
 | 0 => []
 | n + 1 => flatL F n ++ [(F n).at 0, (F n).at 1, (F n).at 2]
theorem flatL_len (F : Nat → RawL) : ∀ n, (flatL F n).length = n * 3
 | 0 => rfl
 | n + 1 => by rw [flatL, List.length_append, flatL_len F n]; simp; omega
theorem bound_one9 (f : Nat → Nat) : ∀ n, ∃ T, ∀ i, i < n → f i ≤ T
 | 0 => ⟨0, fun i h => absurd h (by omega)⟩
 | n + 1 => by
   obtain ⟨T, h⟩ := bound_one9 f n
   refine ⟨T + f n, fun i hi => ?_⟩
   by_cases e : i = n
   · subst e; omega
   · have := h i (by omega); omega
theorem bound_two9 (f : Nat → Nat → Nat) (m : Nat → Nat) (n : Nat) : ∃ T, ∀ i, i < n → ∀ j, j < m i → f i j ≤ T := by
 obtain ⟨g, hg⟩ : ∃ g : Nat → Nat, ∀ i, ∀ j, j < m i → f i j ≤ g i := ⟨fun i => (bound_one9 (f i) (m i)).choose, fun i => (bound_one9 (f i) (m i)).choose_spec⟩
 obtain ⟨T, hT⟩ := bound_one9 g n
 exact ⟨T, fun i hi j hj => Nat.le_trans (hg i j hj) (hT i hi)⟩
structure EB (W : World) (ge : Nat) : Prop where
 eb : W.heap[ge]? = some (.cells #[] 51 (0, 0))
theorem EB.lt {W : World} {ge : Nat} (h : EB W ge) : ge < W.heap.size := (Array.getElem?_eq_some_iff.1 h.eb).1
theorem EB.next {W W' : World} {ge : Nat} (h : EB W ge) (hb : Below W.heap.size W W') : EB W' ge := ⟨(hb.block ge h.lt).trans h.eb⟩
theorem EB.new (W : World) : EB (W.alloc (.cells #[] 51)) W.heap.size := ⟨heap_alloc_new W _⟩
structure TL (w W : World) (b n c : Nat) (ls : List Lnk) (F : Nat → RawL) : Prop where
 lt : b < W.heap.size
 row : RowL W b 0 n F
 fr : ∀ o, W.frozen? ⟨b, o, none⟩ = false
 lk : ∀ k, k < n → LnkR w (F k) (lnkAt ls k)
 nc : n ≤ c
 cm : c ≤ 9223372036854775807
theorem TL.next {w W W' : World} {b n c : Nat} {ls : List Lnk} {F : Nat → RawL} (h : TL w W b n c ls F) (hb : Below W.heap.size W W') : TL w W' b n c ls F :=
 ⟨Nat.lt_of_lt_of_le h.lt hb.size, h.row.below h.lt hb, fun o => (hb.frozen (p := ⟨b, o, none⟩) h.lt).trans (h.fr o), h.lk, h.nc, h.cm⟩
theorem TL.rd {w W : World} {b n c : Nat} {ls : List Lnk} {F : Nat → RawL} (h : TL w W b n c ls F) (hl : ls.length = n) (hb : Below w.heap.size w W) : RdL W (some ⟨b, 0, none⟩) n ls :=
 rdL_of h.lt hl h.row fun k hk => (h.lk k hk).below hb
theorem BxY.off9 {W : World} {g : Nat} {V : Int} {A : Option Addr} {n c : Nat} (h : BxY W g V A n c) {a : Addr} (hp : a.block ≠ g) (u : Value) : BxY (W.setCell a u) g V A n c :=
 ⟨by rw [World.size_setCell]; exact h.lt, (World.cell?_setCell_other _ _ _ _ (by intro e; subst e; exact hp rfl)).trans h.c0, (World.cell?_setCell_other _ _ _ _ (by intro e; subst e; exact hp rfl)).trans h.c1⟩
theorem TL.off {w W : World} {b n c : Nat} {ls : List Lnk} {F : Nat → RawL} (h : TL w W b n c ls F) {p : Addr} (hp : p.block ≠ b) (u : Value) : TL w (W.setCell p u) b n c ls F :=
 ⟨by rw [World.size_setCell]; exact h.lt, fun k hk j hj => (World.cell?_setCell_other _ _ _ _ (by intro e; subst e; exact hp rfl)).trans (h.row k hk j hj), fun o => by rw [World.frozen?_setCell]; exact h.fr o, h.lk, h.nc, h.cm⟩
def swapF {α : Type} (f : Nat → α) (i k : Nat) (m : Nat) : α := if m = k then f i else if m = i then f k else f m
def permL (ls : List Lnk) (n : Nat) (σ : Nat → Nat) : List Lnk := (List.range n).map fun k => lnkAt ls (σ k)
theorem permL_at {ls : List Lnk} {n : Nat} {σ : Nat → Nat} {k : Nat} (hk : k < n) : lnkAt (permL ls n σ) k = lnkAt ls (σ k) := by
 unfold permL lnkAt
 rw [List.getD_eq_getElem?_getD, List.getElem?_map, List.getElem?_range hk]
 rfl
structure TH (W : World) (b n : Nat) (F : Nat → RawL) : Prop where
 lt : b < W.heap.size
 row : RowL W b 0 n F
 fr : ∀ o, W.frozen? ⟨b, o, none⟩ = false
theorem TL.th {w W : World} {b n c : Nat} {ls : List Lnk} {F : Nat → RawL} (h : TL w W b n c ls F) : TH W b n F := ⟨h.lt, h.row, h.fr⟩
section
variable {W W' : World} {b n : Nat} {F : Nat → RawL}
theorem TH.next (h : TH W b n F) (hb : Below W.heap.size W W') : TH W' b n F :=
 ⟨Nat.lt_of_lt_of_le h.lt hb.size, h.row.below h.lt hb, fun o => (hb.frozen (p := ⟨b, o, none⟩) h.lt).trans (h.fr o)⟩
theorem TH.c0 (h : TH W b n F) {k : Nat} (hk : k < n) : W.cell? ⟨b, k * 3, none⟩ = some (.int .i64 (F k).k) := by
 have := h.row k hk 0 (by omega)
 rwa [Nat.zero_add, Nat.add_zero] at this
theorem TH.c1 (h : TH W b n F) {k : Nat} (hk : k < n) : W.cell? ⟨b, k * 3 + 1, none⟩ = some (.slice (F k).B (F k).m (F k).d) := by
 have := h.row k hk 1 (by omega)
 rwa [Nat.zero_add] at this
theorem TH.c2 (h : TH W b n F) {k : Nat} (hk : k < n) : W.cell? ⟨b, k * 3 + 2, none⟩ = some (.slice (F k).C (F k).p (F k).q) := by
 have := h.row k hk 2 (by omega)
 rwa [Nat.zero_add] at this
abbrev set3L (W : World) (b k : Nat) (r : RawL) : World := ((W.setCell ⟨b, k * 3, none⟩ (.int .i64 r.k)).setCell ⟨b, k * 3 + 1, none⟩ (.slice r.B r.m r.d)).setCell ⟨b, k * 3 + 2, none⟩ (.slice r.C r.p r.q)
theorem set3L_size (r : RawL) (k : Nat) : (set3L W b k r).heap.size = W.heap.size := by simp [set3L, World.setCell]
theorem set3L_fr (r : RawL) (k : Nat) (a : Addr) : (set3L W b k r).frozen? a = W.frozen? a := by
 unfold set3L
 rw [World.frozen?_setCell, World.frozen?_setCell, World.frozen?_setCell]
theorem TH.put (h : TH W b n F) {i : Nat} (hi : i < n) (r : RawL) : TH (set3L W b i r) b n (fun m => if m = i then r else F m) := by
 refine ⟨by rw [set3L_size]; exact h.lt, fun m hm j hj => ?_, fun o => (set3L_fr r i _).trans (h.fr o)⟩
 have c0 := h.c0 hi
 have c1 := h.c1 hi
 have c2 := h.c2 hi
 have hne : ∀ x y : Nat, x ≠ y → (⟨b, x, none⟩ : Addr) ≠ ⟨b, y, none⟩ := fun x y hx e => hx (by injection e)
 by_cases e : m = i
 · subst e
   simp only [if_true]
   match j, hj with
   | 0, _ =>
     show (set3L W b m r).cell? ⟨b, 0 + m * 3 + 0, none⟩ = some (.int .i64 r.k)
     rw [Nat.zero_add, Nat.add_zero]
     unfold set3L
     rw [World.cell?_setCell_other _ _ _ _ (hne _ _ (by omega)), World.cell?_setCell_other _ _ _ _ (hne _ _ (by omega)), World.cell?_setCell_same _ _ _ c0]
   | 1, _ =>
     show (set3L W b m r).cell? ⟨b, 0 + m * 3 + 1, none⟩ = some (.slice r.B r.m r.d)
     rw [Nat.zero_add]
     unfold set3L
     rw [World.cell?_setCell_other _ _ _ _ (hne _ _ (by omega)), World.cell?_setCell_same _ _ _ ((World.cell?_setCell_other _ _ _ _ (hne _ _ (by omega))).trans c1)]
   | 2, _ =>
     show (set3L W b m r).cell? ⟨b, 0 + m * 3 + 2, none⟩ = some (.slice r.C r.p r.q)
     rw [Nat.zero_add]
     unfold set3L
     rw [World.cell?_setCell_same _ _ _ ((World.cell?_setCell_other _ _ _ _ (hne _ _ (by omega))).trans ((World.cell?_setCell_other _ _ _ _ (hne _ _ (by omega))).trans c2))]
 · simp only [if_neg e]
   unfold set3L
   rw [World.cell?_setCell_other _ _ _ _ (hne _ _ (by omega)), World.cell?_setCell_other _ _ _ _ (hne _ _ (by omega)), World.cell?_setCell_other _ _ _ _ (hne _ _ (by omega))]
   exact h.row m hm j hj
theorem SL.off3 {w : World} {g : Nat} {V : Int} {A : Option Addr} {n' c : Nat} (h : SL w W g V A n' c) (hw : w.heap.size ≤ b) (hg : b ≠ g) (k : Nat) (r : RawL) : SL w (set3L W b k r) g V A n' c :=
 ⟨((h.low.setCell (p := ⟨b, k * 3, none⟩) hw _).setCell (p := ⟨b, k * 3 + 1, none⟩) hw _).setCell (p := ⟨b, k * 3 + 2, none⟩) hw _, ((h.bx.off9 (a := ⟨b, k * 3, none⟩) hg _).off9 (a := ⟨b, k * 3 + 1, none⟩) hg _).off9 (a := ⟨b, k * 3 + 2, none⟩) hg _⟩
theorem BxY.off3 {g : Nat} {V : Int} {A : Option Addr} {n' c : Nat} (h : BxY W g V A n' c) (hg : b ≠ g) (k : Nat) (r : RawL) : BxY (set3L W b k r) g V A n' c :=
 ((h.off9 (a := ⟨b, k * 3, none⟩) hg _).off9 (a := ⟨b, k * 3 + 1, none⟩) hg _).off9 (a := ⟨b, k * 3 + 2, none⟩) hg _
end
structure FrV (W : World) (g : Nat) : Prop where
 lt : g < W.heap.size
 fr : ∀ o, W.frozen? ⟨g, o, none⟩ = false
theorem FrV.next {W W' : World} {g : Nat} (h : FrV W g) (hb : Below W.heap.size W W') : FrV W' g :=
 ⟨Nat.lt_of_lt_of_le h.lt hb.size, fun o => (hb.frozen (p := ⟨g, o, none⟩) h.lt).trans (h.fr o)⟩
theorem FrV.off3 {W : World} {g : Nat} (h : FrV W g) (b k : Nat) (r : RawL) : FrV (set3L W b k r) g :=
 ⟨by rw [set3L_size]; exact h.lt, fun o => (set3L_fr r k _).trans (h.fr o)⟩
theorem TL.done {w W W' : World} {b n c : Nat} {ls : List Lnk} {F : Nat → RawL} {σ : Nat → Nat} (h : TL w W b n c (permL ls n σ) F) {i k : Nat} (hi : i < n) (hk : k < n) (h' : TH W' b n (swapF F i k)) : TL w W' b n c (permL ls n (swapF σ i k)) (swapF F i k) := by
 refine ⟨h'.lt, h'.row, h'.fr, fun m hm => ?_, h.nc, h.cm⟩
 rw [permL_at hm]
 have hl : ∀ q, q < n → LnkR w (F q) (lnkAt ls (σ q)) := fun q hq => by
  have := h.lk q hq
  rwa [permL_at hq] at this
 unfold swapF
 split
 · exact hl i hi
 · split
   · exact hl k hk
   · exact hl m hm
theorem valid_back {s : Bool} {xs : List Nat} (hs : small xs) (hv : validB s xs = true) : decide (sgn s (val xs) < 0) = s ∧ words (sgn s (val xs)).natAbs = xs := by
 obtain ⟨hcan, h4, h0⟩ := valid_canon hs hv
 have e := words_val hcan
 constructor
 · by_cases hz : val xs = 0
   · rw [h0 hz, hz, sgn_zero]; rfl
   · exact sgn_lt s _ hz
 · rw [sgn_abs, e]
def CopyP (V : Int) (n : Nat) (ts : List Trm) (w : World) (e : Ending) (w' : World) : Prop :=
 ∃ L c, e = .returned (aggP V L n c) ∧ RowT9 w' L n ts ∧ (∀ a, L = some a → w.heap.size ≤ a.block) ∧ n ≤ c ∧ c ≤ 9223372036854775807 ∧ Below w.heap.size w w'
structure TC9 (w W : World) (g : Nat) (V : Int) (A : Option Addr) (n c : Nat) (L : Option Addr) (j cL : Nat) : Prop where
 low : Below w.heap.size w W
 bp : VB W g #[.int .i64 V, .slice A n c] 45
 rr : VB W (g + 1) #[.int .i64 0, .slice none 0 0] 45
 vq : VB W (g + 2) #[.int .i64 V, .slice L j cL] 45
section
variable {w W W' : World} {g : Nat} {V : Int} {A : Option Addr} {n c : Nat} {L : Option Addr} {j cL : Nat}
theorem TC9.next (h : TC9 w W g V A n c L j cL) (hb : Below W.heap.size W W') : TC9 w W' g V A n c L j cL :=
 ⟨h.low.trans (hb.mono h.low.size), h.bp.next hb, h.rr.next hb, h.vq.next hb⟩
theorem TC9.under (h : TC9 w W g V A n c L j cL) (hg : w.heap.size ≤ g) (hb : Below (g + 3) W W') : TC9 w W' g V A n c L j cL :=
 ⟨h.low.trans (hb.mono (by omega)), h.bp.low (by omega) hb, h.rr.low (by omega) hb, h.vq.low (by omega) hb⟩
theorem TC9.put (h : TC9 w W g V A n c L j cL) (hg : w.heap.size ≤ g) (L' : Option Addr) (j' c' : Nat) : TC9 w (W.setCell ⟨g + 2, 1, none⟩ (.slice L' j' c')) g V A n c L' j' c' :=
 ⟨h.low.setCell (p := ⟨g + 2, 1, none⟩) (by show w.heap.size ≤ g + 2; omega) _, h.bp.far (p := ⟨g + 2, 1, none⟩) (by show g ≠ g + 2; omega) _, h.rr.far (p := ⟨g + 2, 1, none⟩) (by show g + 1 ≠ g + 2; omega) _, h.vq.put 1 (.slice L' j' c')⟩
end
set_option maxHeartbeats 8000000 in
theorem kCopy_c (V : Int) (A : Option Addr) (n c : Nat) (ts : List Trm) (w : World) (h : RdT w A n ts) (hv : ∀ k, k < n → validB (trmAt ts k).s (trmAt ts k).xs = true ∧ (trmAt ts k).es.length ≤ 1000000) (hn : n ≤ 1000000) :
 Calls Tryz.prog 49 #[aggP V A n c] w (CopyP V n ts w) := by
 have k0 := bel_alloc w (boxP V A n c)
 have k1 := bel_alloc (w.alloc (boxP V A n c)) (boxP 0 none 0 0)
 have k2 := bel_alloc ((w.alloc (boxP V A n c)).alloc (boxP 0 none 0 0)) (boxP V none 0 0)
 obtain ⟨g, hg⟩ : ∃ g, g = w.heap.size := ⟨_, rfl⟩
 have X := Lib.hid (show TC9 w (((w.alloc (boxP V A n c)).alloc (boxP 0 none 0 0)).alloc (boxP V none 0 0)) g V A n c none 0 0 from by
  have e0 : (w.alloc (boxP V A n c)).heap.size = g + 1 := by rw [World.size_alloc, hg]
  have e1 : ((w.alloc (boxP V A n c)).alloc (boxP 0 none 0 0)).heap.size = g + 2 := by rw [World.size_alloc, e0]
  refine ⟨(k0.trans (k1.mono k0.size)).trans (k2.mono (Nat.le_trans k0.size k1.size)), ?_, ?_, ?_⟩
  · rw [hg]; exact ((VB.new w _ _).next k1).next k2
  · rw [← e0]; exact (VB.new _ _ _).next k2
  · rw [← e1]; exact VB.new _ _ _)
 have HI := Lib.hid h
 have HL := Lib.hid (show ts.length = n from h.len)
 have HV := Lib.hid hv
 have HG := Lib.hid hg
 clear k0 k1 k2 h hv
 go_enter Tryz.func49, Tryz.ntmps49
 go_upto_region 2 with (fail)
 generalize ((w.alloc (boxP V A n c)).alloc (boxP 0 none 0 0)).alloc (boxP V none 0 0) = W0 at X ⊢
 rw [← hg]
 clear hg
 have a1 := X.out.bp.c1
 go_wp2
 go_loopw [12] (fun v wr => ∃ (j cL : Nat) (L : Option Addr), v = .int .i64 (j : Int) ∧ j ≤ n ∧ TC9 w wr g V A n c L j cL ∧ OwG 70 3 CTm wr (g + 3) L j cL (ts.take j)) (fun v _ => n - (intOf v).toNat)
 case atStart => exact ⟨0, 0, none, rfl, Nat.zero_le _, X.out, OwG.nil _ _⟩
 case round =>
  obtain ⟨j, cL, L, rfl, hj, hx, ho⟩ := hrel
  clear X a1
  have X := Lib.hid hx
  have OW := Lib.hid ho
  clear hx ho
  by_cases hjn : j < n
  · have t1 : decide ((j : Int) < (n : Int)) = true := decide_eq_true (by omega)
    have t1n : decide (j < n) = true := decide_eq_true hjn
    have hjI : (j : Int) < (n : Int) := by omega
    obtain ⟨b, o, rfl, hlt, hc⟩ := HI.out.at_ (by omega)
    obtain ⟨A2, n2, c2, B2, m2, d2, hT⟩ := hc j hjn
    have HTA := Lib.hid (show ∀ W, Below w.heap.size w W → TrmIs W b (o + j * 3) (trmAt ts j) A2 n2 c2 B2 m2 d2 from fun W hb => hT.below hlt hb)
    obtain ⟨t, ht⟩ : ∃ u, u = trmAt ts j := ⟨_, rfl⟩
    have HVT := Lib.hid (HV.out j hjn)
    rw [← ht] at HTA HVT
    have HTT := Lib.hid ht
    have HSM := Lib.hid (show small t.xs by rw [ht]; exact hT.rd.sm)
    clear hc hT ht
    have c0 := (HTA.out _ X.out.low).c0
    have c1 := (HTA.out _ X.out.low).c1
    have c2' := (HTA.out _ X.out.low).c2
    have HSZ := Lib.hid X.out.vq.lt
    have kb := bel_alloc wr (boxT t.s A2 n2 c2 B2 m2 d2)
    have VT := Lib.hid (VB.new wr #[.bool t.s, .slice A2 n2 c2, .slice B2 m2 d2] 70)
    have HOB := Lib.hid (show ∀ a, L = some a → a.block < wr.heap.size from fun a ha => by
     obtain ⟨_, cur, hc⟩ := OW.out.cap.2.2 a ha
     exact lt_of_some hc)
    replace X := Lib.hid (X.out.next kb)
    replace OW := Lib.hid (OW.out.keep (CTm.chg (by decide)) kb)
    clear kb
    go_upto_region 5 with (fail)
    clear c0 c1 c2'
    generalize wr.alloc (boxT t.s A2 n2 c2 B2 m2 d2) = W1 at X OW VT ⊢
    obtain ⟨gt, hgt⟩ : ∃ x, x = wr.heap.size := ⟨_, rfl⟩
    rw [← hgt] at HSZ HOB VT ⊢
    clear hgt
    refine wp_region_tail (S := (fun w' => w'.cell? ⟨(g + 2), 1, none⟩ = some ((.slice L j cL)) ∧ w'.cell? ⟨gt, 0, none⟩ = some (.bool t.s) ∧ w'.cell? ⟨gt, 1, none⟩ = some (.slice A2 n2 c2) ∧ w'.cell? ⟨gt, 2, none⟩ = some (.slice B2 m2 d2))) 12 (by kernel_rfl) (by kernel_rfl) (by intro c a d v w h; cases d <;> exact h) (⟨cell_drq X.out.vq.c1, cell_drq VT.out.d0, cell_drq VT.out.d1, cell_drq VT.out.d2⟩) (fun QT hT hP hHeld => ?_)
    simp only [List.extract_toArray, List.extract_eq_take_drop, List.drop_zero, Nat.sub_zero, List.take_succ_cons, List.take_zero]
    have HT := Lib.hid hT
    clear hT
    replace X := Lib.hid (X.out.next (Below.refl W1.heap.size W1).drew)
    replace OW := Lib.hid (OW.out.keep (CTm.chg (by decide)) (Below.refl W1.heap.size W1).drew)
    replace VT := Lib.hid (VT.out.next (Below.refl W1.heap.size W1).drew)
    generalize W1.drew = D1 at X OW VT hHeld ⊢
    refine tkk 0 16 rfl rfl (by kernel_rfl) (hP · · _) (by rfl) (fun w h => by obtain ⟨h0, h1, h2, h3⟩ := h; go_simp; rfl) (by assumption) ?_
    simp only [set0, set1]
    refine tkk 1 17 rfl rfl (by kernel_rfl) (hP · · _) (by rfl) (fun w h => by obtain ⟨h0, h1, h2, h3⟩ := h; go_simp; rfl) (by assumption) ?_
    simp only [set0, set1]
    refine tkk 2 18 rfl rfl (by kernel_rfl) (hP · · _) (by rfl) (fun w h => by obtain ⟨h0, h1, h2, h3⟩ := h; go_simp; rfl) (by assumption) ?_
    simp only [set0, set1]
    refine tkk 3 19 rfl rfl (by kernel_rfl) (hP · · _) (by rfl) (fun w h => by obtain ⟨h0, h1, h2, h3⟩ := h; go_simp; rfl) (by assumption) ?_
    simp only [set0, set1]
    refine tkk 5 21 rfl rfl (by kernel_rfl) (hP · · _) (by rfl) (fun w h => by obtain ⟨h0, h1, h2, h3⟩ := h; go_simp; rfl) (by assumption) ?_
    simp only [set0, set1]
    refine tkk 6 22 rfl rfl (by kernel_rfl) (hP · · _) (by rfl) (fun w h => by obtain ⟨h0, h1, h2, h3⟩ := h; go_simp; rfl) (by assumption) ?_
    simp only [set0, set1]
    refine wpAnyH_ready (rs := [4]) (by kernel_rfl) (by simp) ?_
    refine AllReadyH.cons rfl (fun K hK => ?_) AllReadyH.nil
    go_simp
    have iv := rawIv (HTA.out _ X.out.low).rd HVT.out.1 (HTA.out _ X.out.low).nc (HTA.out _ X.out.low).cm
    refine (Copy_c iv).mono ?_
    rintro e v2 ⟨t9, A9, n9, c9, rfl, hi9, hb⟩
    replace X := Lib.hid (X.out.next hb)
    replace OW := Lib.hid (OW.out.keep (CTm.chg (by decide)) hb)
    replace VT := Lib.hid (VT.out.next hb)
    have hvb := valid_back HSM.out HVT.out.1
    have HS9 := Lib.hid (show t9 = t.s from hi9.is.1.trans hvb.1)
    have R9 := Lib.hid (show Rd v2 A9 n9 t.xs from by have h := hi9.is.2.2.1; rwa [hvb.2] at h)
    have HN9 := Lib.hid (And.intro hi9.is.2.2.2.1 hi9.is.2.2.2.2)
    clear hi9 hb hHeld iv hvb
    refine hK.out _ _ (⟨X.out.vq.c1, VT.out.d0, VT.out.d1, VT.out.d2⟩) (fun hHeld => ?_)
    clear hK K
    refine wpAnyH_ready (rs := [7]) (by kernel_rfl) (by simp) ?_
    refine AllReadyH.cons rfl (fun K hK => ?_) AllReadyH.nil
    go_simp
    refine (cloneI_c B2 m2 d2 t.es v2 (HTA.out _ X.out.low).ri (by have h := (HTA.out _ X.out.low).ri.len; have h2 := HVT.out.2; omega)).mono ?_
    rintro e v3 ⟨A8, c8, rfl, hri, hty, hlo8, hc8, hcm8, hb⟩
    replace X := Lib.hid (X.out.next hb)
    replace OW := Lib.hid (OW.out.keep (CTm.chg (by decide)) hb)
    replace VT := Lib.hid (VT.out.next hb)
    replace R9 := Lib.hid (R9.out.below hb)
    have HL8 := Lib.hid (show t.es.length = m2 from (HTA.out _ X.out.low).ri.len)
    rw [HL8.out] at hri hty hc8 ⊢
    have I8 := Lib.hid (And.intro hri hty)
    have HC8 := Lib.hid (And.intro hc8 hcm8)
    clear hri hty hlo8 hc8 hcm8 hb hHeld
    refine hK.out _ _ (⟨X.out.vq.c1, VT.out.d0, VT.out.d1, VT.out.d2⟩) (fun hHeld => ?_)
    clear hK K
    refine tkk 8 24 rfl rfl (by kernel_rfl) (hP · · _) (by rfl) (fun w h => by obtain ⟨h0, h1, h2, h3⟩ := h; go_simp; rfl) (by assumption) ?_
    simp only [set0, set1]
    refine wpAnyH_ready (rs := [9]) (by kernel_rfl) (by simp) ?_
    refine AllReadyH.cons rfl (fun K hK => ?_) AllReadyH.nil
    go_simp
    have hb := bel_alloc v3 (boxT t9 A9 n9 c9 A8 m2 c8)
    have EL := Lib.hid (show ElG 3 CTm (v3.alloc (boxT t9 A9 n9 c9 A8 m2 c8)) v3.heap.size 0 1 [t] from ElG.one (v := [.bool t9, .slice A9 n9 c9, .slice A8 m2 c8]) rfl (fun u hu => by simp at hu; rcases hu with rfl | rfl | rfl; exact ⟨rfl, noW_b _⟩; exact ⟨rfl, noW_s _ _ _⟩; exact ⟨rfl, noW_s _ _ _⟩)
     ⟨A9, n9, c9, A8, m2, c8, by rw [HS9.out], R9.out.below hb, HN9.out.1, HN9.out.2, I8.out.1.below hb, I8.out.2.chg (ChgR.of_below (T := 0) hb) (by decide), HC8.out.1, HC8.out.2⟩
     (fun e u hu => by
      match e, hu with
      | 0, hu => injection hu with hu; subst hu; go_simp
      | 1, hu => injection hu with hu; subst hu; go_simp
      | 2, hu => injection hu with hu; subst hu; go_simp))
    replace X := Lib.hid (X.out.next hb)
    replace OW := Lib.hid (OW.out.keep (CTm.chg (by decide)) hb)
    replace VT := Lib.hid (VT.out.next hb)
    clear hb hHeld R9 I8
    generalize v3.alloc (boxT t9 A9 n9 c9 A8 m2 c8) = v4 at X OW VT EL ⊢
    generalize v3.heap.size = ge at EL ⊢
    refine hK.out _ _ (⟨X.out.vq.c1, VT.out.d0, VT.out.d1, VT.out.d2⟩) (fun hHeld => ?_)
    clear hK K
    refine wpAnyH_ready (rs := [10]) (by kernel_rfl) (by simp) ?_
    refine AllReadyH.cons rfl (fun K hK => ?_) AllReadyH.nil
    refine step_app_g rfl infT (CTm.chg (by decide)) (.tmp 17) (.tmp 25) rfl ge 0 1 1 [t] rfl rfl OW.out X.out.vq.lt (by omega) EL.out (by omega) (by omega) ?_
    intro g' c' v5 h1 hb hch hot
    replace X := Lib.hid (X.out.under (by have := HG.out; omega) hb)
    replace VT := Lib.hid (show VB v5 gt #[.bool t.s, .slice A2 n2 c2, .slice B2 m2 d2] 70 from ⟨(hot gt VT.out.lt (fun a ha => by have := HOB.out a ha; omega)).trans VT.out.hp⟩)
    rw [show ts.take j ++ [t] = ts.take (j + 1) by rw [List.take_add_one, List.getElem?_eq_getElem (by rw [HL.out]; exact hjn), HTT.out]; unfold trmAt; rw [List.getD_eq_getElem?_getD, List.getElem?_eq_getElem (by rw [HL.out]; exact hjn)]; rfl] at h1
    replace OW := Lib.hid h1
    clear h1 hb hch hot hHeld EL
    refine hK.out _ _ (⟨X.out.vq.c1, VT.out.d0, VT.out.d1, VT.out.d2⟩) (fun hHeld => ?_)
    clear hK K
    refine tkk 11 27 rfl rfl (by kernel_rfl) (hP · · _) (by rfl) (fun w h => by obtain ⟨h0, h1, h2, h3⟩ := h; go_simp; rfl) (by assumption) ?_
    clear hHeld
    refine wpAnyH_done (by kernel_rfl) ?_ _
    refine HT.out _ _ ?_
    clear HT hP QT
    have o1 := X.out.vq.c1
    have f1 := X.out.vq.fr 1
    refine wpList_step fun K hK => ?_
    go_simp
    refine hK _ _ ?_
    clear hK K
    refine wpList_nil ?_
    have X2 := Lib.hid (X.out.put (by have := HG.out; omega) (some ⟨g', 0, none⟩) (j + 1) c')
    have OW2 := Lib.hid (OW.out.chg (CTm.chg (by decide)) (X.out.vq.set 1 (v := .slice L j cL) rfl (noW_s _ _ _) (.slice (some ⟨g', 0, none⟩) (j + 1) c')) (by decide))
    clear o1 f1 X OW VT
    generalize v5.setCell ⟨g + 2, 1, none⟩ (.slice (some ⟨g', 0, none⟩) (j + 1) c') = W7 at X2 OW2 ⊢
    go_wp2
    go_roundw
    case measure => simp [intOf]; omega
    case rel => exact ⟨j + 1, c', some ⟨g', 0, none⟩, by go_num, by omega, X2.out, OW2.out⟩
  · have e : j = n := by omega
    subst e
    have t1 : decide ((j : Int) < (j : Int)) = false := decide_eq_false (by omega)
    have t1n : decide (j < j) = false := decide_eq_false (by omega)
    have HF := Lib.hid (show ts.take j = ts from List.take_of_length_le (by rw [HL.out]; exact Nat.le_refl _))
    rw [HF.out] at OW
    have r0 := X.out.rr.c0
    have r1 := X.out.rr.c1
    have f0 := X.out.rr.fr 0
    have f1 := X.out.rr.fr 1
    have o0 := X.out.vq.c0
    have o1 := X.out.vq.c1
    go_wp2
    have y1 := X.out.rr.put 0 (.int .i64 V)
    have y2 := y1.put 1 (.slice L j cL)
    have q0 := y2.cell 0
    have q1 := y2.cell 1
    have z1 := X.out.rr.set 0 (v := .int .i64 0) rfl (noW_i _) (.int .i64 V)
    have z2 := y1.set 1 (v := .slice none 0 0) rfl (noW_s _ _ _) (.slice L j cL)
    refine bodyPost_ret (v := aggP V L j cL) (by simp [results, Tryz.results49, go_sem, q0, q1]) rfl ?_
    exact ⟨L, cL, rfl, OW.out.row.chg (CTm.chg (by decide)) (z1.trans z2) (by decide), fun a ha => by have := (OW.out.cap.2.2 a ha).1; have := HG.out; omega, OW.out.cap.1, OW.out.cap.2.1, below_store X.out.low (by have := HG.out; omega) _ _⟩
end Go.Proofs.YteabokkofoomkaaGreat
