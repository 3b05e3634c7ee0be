import Derived.Test.YtbblckaplddggaaNj
import Derived.Test.YtbblckaplddggaaNk
import Derived.Laws.EntriesVeiled
import Derived.Test.YtbblckaplddggaaNh
import Derived.LoopN
set_option maxRecDepth 100000
namespace Go.Proofs.Ytbblckaplddggaa
open Go.RowKit Go.Shelf

set_option maxHeartbeats 1000000 in
theorem exact1_c (T b : Nat) (k z : Int) (t : Bool) (A : Option Addr) (n c : Nat) (w : World) (hc : Cc w b k) (hk : St T k) (hv : Vn w k z t A n c) :
    Calls Try.prog 91 #[.agg #[.bool t, .slice A n c]] w (Wv T b k z w) := by
  have HC := Lib.hid hc
  have HK := Lib.hid hk
  have HV := Lib.hid hv
  clear hc hk hv
  go_enter Try.func91, Try.ntmps91
  go_wp2
  refine bodyPost_ret (v := .agg #[.bool t, .slice A n c]) (by simp [results, Try.results91, go_sem]) rfl ?_
  have h1 := HC.out
  have b1 := below_alloc w (ob2 t A n c)
  have b2 := below_alloc (w.alloc (ob2 t A n c)) (ob2 t A n c)
  exact ⟨t, A, n, c, k, rfl, (Stp.of_below h1.lt b1).trans (Stp.of_below (h1.alloc _).lt b2), (h1.alloc _).alloc _, fun e => ⟨e, ((HV.out e).below b1).below b2⟩, HK.out⟩
theorem entersExact : ∀ args w, (callFunc 91 args).run Try.prog w = .ok (.enter 91 args) w := enters_of Try.func91 (by kernel_rfl) rfl
theorem each_exact (T b : Nat) : Each T b 91 #[] id (fun _ => True) :=
  ⟨entersExact, fun _ _ _ _ _ _ => trivial, fun w k z t A n c _ hc hk hv => by simpa using exact1_c T b k z t A n c w hc hk hv⟩
/-- the numbers themselves -/
abbrev Mx (T b : Nat) (zt za : Int) (ta : Bool) (Aa : Option Addr) (na ca : Nat) (tt : Bool) (At : Option Addr) (nt ct : Nat) (W : World) (k : Int) : Prop := Ms T b 91 #[] id (fun _ => True) zt za ta Aa na ca tt At nt ct W k
def ExactPost (T : Nat) (z : Int) (t : Bool) (A : Option Addr) (n c : Nat) (w : World) (e : Ending) (w' : World) : Prop :=
  ∃ b tt At nt ct k, e = .returned (.pointer (some ⟨b, 0, none⟩)) ∧ w.heap.size ≤ b ∧ Below w.heap.size w w' ∧ Mx T b (2 * z) z t A n c tt At nt ct w' k
theorem cell_45 {W : World} {b g o i j : Nat} {x u v : Value} (hne : g ≠ b) (h : W.cell? ⟨g, o, none⟩ = some x) : ((W.setCell ⟨b, i, none⟩ u).setCell ⟨b, j, none⟩ v).cell? ⟨g, o, none⟩ = some x := by
  rw [World.cell?_setCell_other _ _ _ _ (fun e => hne (by injection e with e; exact e.symm)), World.cell?_setCell_other _ _ _ _ (fun e => hne (by injection e with e; exact e.symm))]
  exact h
/-- a walker's block as it is made: its cells may be written -/
structure Nw (w W : World) (b : Nat) (t : Bool) (A : Option Addr) (n c : Nat) (k : Int) : Prop where
  ge : w.heap.size ≤ b
  cc : Cc W b k
  below : Below w.heap.size w W
  e1 : W.cell? ⟨b, 1, none⟩ = some .nilFunc
  a0 : W.cell? ⟨b, 2, none⟩ = some (.bool t)
  a1 : W.cell? ⟨b, 3, none⟩ = some (.slice A n c)
  t0 : W.cell? ⟨b, 4, none⟩ = some (.bool false)
  t1 : W.cell? ⟨b, 5, none⟩ = some (.slice none 0 0)
  fz : ∀ o, W.frozen? ⟨b, o, none⟩ = false
theorem Nw.next {w W W' : World} {b : Nat} {t : Bool} {A : Option Addr} {n c : Nat} {k k' : Int} (h : Nw w W b t A n c k) (hs : Stp b W W') (hc : Cc W' b k') : Nw w W' b t A n c k' :=
  ⟨h.ge, hc, h.below.trans (hs.below h.below.size h.ge), (hs.own 1 (by omega)).trans h.e1, (hs.own 2 (by omega)).trans h.a0, (hs.own 3 (by omega)).trans h.a1, (hs.own 4 (by omega)).trans h.t0, (hs.own 5 (by omega)).trans h.t1, fun o => (hs.frz o).trans (h.fz o)⟩
set_option maxHeartbeats 1000000 in
theorem Nw.done {w W : World} {b f : Nat} {t : Bool} {A : Option Addr} {n c : Nat} {k : Int} (h : Nw w W b t A n c k) {T : Nat} {caps : Array Value} {g : Int → Int} {Ev : World → Prop} {zt za : Int} {tt : Bool} {At : Option Addr} {nt ct : Nat} (hk : St T k) (he : Each T b f caps g Ev) (vt : Vn W k zt tt At nt ct) (va : Vn W k za t A n c)
    {X : World} (hX : ((W.setCell ⟨b, 4, none⟩ (.bool tt)).setCell ⟨b, 5, none⟩ (.slice At nt ct)).setCell ⟨b, 1, none⟩ (.func (.func f) #[] caps) = X) (hev : Ev X) : Below w.heap.size w X ∧ Ms T b f caps g Ev zt za t A n c tt At nt ct X k := by
  have p5 : (W.setCell ⟨b, 4, none⟩ (.bool tt)).cell? ⟨b, 5, none⟩ = some (.slice none 0 0) := by rw [World.cell?_setCell_other _ _ _ _ (by simp)]; exact h.t1
  have p1 : ((W.setCell ⟨b, 4, none⟩ (.bool tt)).setCell ⟨b, 5, none⟩ (.slice At nt ct)).cell? ⟨b, 1, none⟩ = some .nilFunc := by
    rw [World.cell?_setCell_other _ _ _ _ (by simp), World.cell?_setCell_other _ _ _ _ (by simp)]; exact h.e1
  subst hX
  have o : ∀ i, i ≠ 1 → i ≠ 4 → i ≠ 5 → (((W.setCell ⟨b, 4, none⟩ (.bool tt)).setCell ⟨b, 5, none⟩ (.slice At nt ct)).setCell ⟨b, 1, none⟩ (.func (.func f) #[] caps)).cell? ⟨b, i, none⟩ = W.cell? ⟨b, i, none⟩ := fun i h1 h4 h5 => by
    rw [World.cell?_setCell_other _ _ _ _ (by intro e; injection e with _ e; omega), World.cell?_setCell_other _ _ _ _ (by intro e; injection e with _ e; omega), World.cell?_setCell_other _ _ _ _ (by intro e; injection e with _ e; omega)]
  have iv : ∀ {z : Int} {t' : Bool} {A' : Option Addr} {n' c' : Nat}, Vn W k z t' A' n' c' → Vn (((W.setCell ⟨b, 4, none⟩ (.bool tt)).setCell ⟨b, 5, none⟩ (.slice At nt ct)).setCell ⟨b, 1, none⟩ (.func (.func f) #[] caps)) k z t' A' n' c' := fun v e =>
    ⟨(((v e).is.set_other h.t0 (by intro z; simp) _).set_other p5 (by intro z; simp) _).set_other p1 (by intro z; simp) _, (v e).sz⟩
  refine ⟨((h.below.setCell (p := ⟨b, 4, none⟩) h.ge _).setCell (p := ⟨b, 5, none⟩) h.ge _).setCell (p := ⟨b, 1, none⟩) h.ge _, he, ⟨?_, ?_, ?_, ?_, ?_⟩, hev, ⟨?_, ?_, ?_⟩, hk, iv vt, iv va⟩
  · exact World.cell?_setCell_same _ _ _ p1
  · rw [o 2 (by omega) (by omega) (by omega)]; exact h.a0
  · rw [o 3 (by omega) (by omega) (by omega)]; exact h.a1
  · rw [World.cell?_setCell_other _ _ _ _ (by simp), World.cell?_setCell_other _ _ _ _ (by simp)]; exact World.cell?_setCell_same _ _ _ h.t0
  · rw [World.cell?_setCell_other _ _ _ _ (by simp)]; exact World.cell?_setCell_same _ _ _ p5
  · simpa [World.setCell] using h.cc.lt
  · rw [o 0 (by omega) (by omega) (by omega)]; exact h.cc.c0
  · rw [World.frozen?_setCell, World.frozen?_setCell, World.frozen?_setCell]; exact h.cc.f0
set_option maxHeartbeats 1000000 in
theorem exact_c (T : Nat) (z : Int) (t : Bool) (A : Option Addr) (n c : Nat) (w : World) (h : Iv w z t A n c) (hz : (z + z).natAbs ≤ T) :
    Calls Try.prog 54 #[.agg #[.bool t, .slice A n c]] w (ExactPost T z t A n c w) := by
  have hb0 : Below w.heap.size w ((w.alloc (.cells #[.bool t, .slice A n c] 24)).alloc (.cells #[.int .i64 0, .nilFunc, .bool t, .slice A n c, .bool false, .slice none 0 0] 80)) := ((Below.refl _ _).alloc (Nat.le_refl _) _).alloc (by simp) _
  have HV := Lib.hid (h.below hb0)
  have HQ := Lib.hid hz
  have x0 : ((w.alloc (.cells #[.bool t, .slice A n c] 24)).alloc (.cells #[.int .i64 0, .nilFunc, .bool t, .slice A n c, .bool false, .slice none 0 0] 80)).cell? ⟨w.heap.size, 0, none⟩ = some (.bool t) := by go_simp
  have x1 : ((w.alloc (.cells #[.bool t, .slice A n c] 24)).alloc (.cells #[.int .i64 0, .nilFunc, .bool t, .slice A n c, .bool false, .slice none 0 0] 80)).cell? ⟨w.heap.size, 1, none⟩ = some (.slice A n c) := by go_simp
  have HN := Lib.hid (Nw.mk (w := w) (W := ((w.alloc (.cells #[.bool t, .slice A n c] 24)).alloc (.cells #[.int .i64 0, .nilFunc, .bool t, .slice A n c, .bool false, .slice none 0 0] 80))) (b := w.heap.size + 1) (t := t) (A := A) (n := n) (c := c) (k := 0) (by omega) ⟨by simp, by go_simp, by go_simp⟩ hb0 (by go_simp) (by go_simp) (by go_simp) (by go_simp) (by go_simp) (fun o => by go_simp))
  clear h hz hb0
  go_enter Try.func54, Try.ntmps54
  go_upto_region 2 with (fail)
  generalize ((w.alloc (.cells #[.bool t, .slice A n c] 24)).alloc (.cells #[.int .i64 0, .nilFunc, .bool t, .slice A n c, .bool false, .slice none 0 0] 80)) = W0 at HV x0 x1 HN ⊢
  have hlt := HN.out.cc.lt
  go_region_held3 (fun w' => w'.cell? ⟨w.heap.size, 0, none⟩ = some (.bool t) ∧ w'.cell? ⟨w.heap.size, 1, none⟩ = some (.slice A n c)) (first | (with_reducible exact ⟨x0, x1⟩) | (with_reducible exact ⟨cell_dr x0, cell_dr x1⟩) | (with_reducible exact ⟨cell_45 (by omega) x0, cell_45 (by omega) x1⟩) | fail)
    (first
      | (go_at_call 90; (with_reducible refine (cAdd_c T (w.heap.size + 1) 0 z z t t A A n c n c _ (HN.out.cc.below (Below.refl _ _).drew) (St.zero T) (fun _ => HQ.out) (Vn.pair (Iv.vn (HV.out.below (Below.refl _ _).drew)) (Iv.vn (HV.out.below (Below.refl _ _).drew)))).mono ?_); rintro e W1 ⟨t1, B1, m1, d1, k1, rfl, s0, c1, v1, st1⟩; have s1 := (Stp.of_below hlt (Below.refl _ _).drew).trans s0; have VA := Lib.hid (HV.out.vn.next HN.out.cc s1 (fun e => (v1 e).1)); have y0 := (s1.cell (p := ⟨w.heap.size, 0, none⟩) (by simp; omega) (by simp)).trans x0; have y1 := (s1.cell (p := ⟨w.heap.size, 1, none⟩) (by simp; omega) (by simp)).trans x1; clear x0 x1; have x0 := y0; have x1 := y1; have HW := Lib.hid (HN.out.next s1 c1); have VT : Hid (Vn _ _ (z + z) _ _ _ _) := fun e => (v1 e).2; have HK := Lib.hid st1; clear s0 s1 c1 v1 st1 y0 y1; have r0 := HW.out.t0; have r1 := HW.out.t1; have f4 := HW.out.fz 4; have f5 := HW.out.fz 5)
      | fail "no arm")
  have e1 := HW.out.e1
  have f1 := HW.out.fz 1
  go_wp2
  generalize hX : ((W1.setCell ⟨w.heap.size + 1, 4, none⟩ (.bool t1)).setCell ⟨w.heap.size + 1, 5, none⟩ (.slice B1 m1 d1)).setCell ⟨w.heap.size + 1, 1, none⟩ (.func (.func 91) #[] #[]) = X
  go_ret
  obtain ⟨hb, hm⟩ := HW.out.done HK.out (each_exact T (w.heap.size + 1)) VT.out VA.out hX trivial
  rw [show z + z = 2 * z by omega] at hm
  exact ⟨w.heap.size + 1, t1, B1, m1, d1, k1, rfl, by omega, hb, hm⟩
set_option maxHeartbeats 1000000 in
theorem result_c (b : Nat) (k z : Int) (t : Bool) (A : Option Addr) (n c : Nat) (w : World) (hc : Cc w b k) (hv : Vn w k z t A n c) :
    Calls Try.prog 55 #[.pointer (some ⟨b, 0, none⟩), .agg #[.bool t, .slice A n c]] w (fun e w' => Below w.heap.size w w' ∧ ((k = 0 → ∃ t' A' n' c', e = .returned (.tuple #[.agg #[.bool t', .slice A' n' c'], .int .i64 0]) ∧ Iv w' z t' A' n' c') ∧ (k ≠ 0 → e = .returned (.tuple #[.agg #[.bool false, .slice none 0 0], .int .i64 k])))) := by
  have HC := Lib.hid (hc.alloc (.cells #[.bool t, .slice A n c] 24) |>.alloc (.cells #[.bool false, .slice none 0 0] 24))
  have HV := Lib.hid hv
  have c0 := HC.out.c0
  clear hc hv
  by_cases hk : k = 0
  · subst hk
    go_enter Try.func55, Try.ntmps55
    go_wp2
    refine bodyPost_ret (v := .tuple #[.agg #[.bool t, .slice A n c], .int .i64 0]) (by simp [results, Try.results55, go_sem]) rfl ?_
    exact ⟨(below_alloc _ _).trans ((below_alloc _ _).mono (by simp)), fun _ => ⟨t, A, n, c, rfl, ((HV.out rfl).below (below_alloc _ _)).below (below_alloc _ _)⟩, fun h => absurd rfl h⟩
  · have t0 : (k != 0) = true := by simp [hk]
    have HK := Lib.hid hk
    clear hk
    go_enter Try.func55, Try.ntmps55
    go_wp2
    go_region
    go_wp2
    refine bodyPost_ret (v := .tuple #[.agg #[.bool false, .slice none 0 0], .int .i64 k]) (by simp [results, Try.results55, go_sem]) rfl ?_
    exact ⟨((below_alloc _ _).trans ((below_alloc _ _).mono (by simp))).drew, fun h => absurd h HK.out, fun _ => rfl⟩
end Go.Proofs.Ytbblckaplddggaa
namespace Go.Proofs.Ytbblckaplddggaa
open Go.RowKit

theorem nat_abs_le {x y : Int} {T : Nat} (h1 : -y ≤ x) (h2 : x ≤ y) (hT : y.natAbs ≤ T) : x.natAbs ≤ T := by omega
section
variable {a : Int} (ha : 2 ≤ a)
include ha
theorem four_le {n : Nat} (h : 2 ≤ n) : 4 ≤ psi a n := by have := psi_two_le ha n h; omega
theorem ev_exact {j n T : Nat} (hj : 2 * j ≤ n) (hn : 2 ≤ n) (hT : (psi a n).natAbs ≤ T) : EvOk T id (2 * a) (psi a) j := by
  have h4 := four_le ha hn
  have hb := before_le ha j
  have h2 := psi_le ha (show j ≤ n by omega)
  have h3 := psi_nn ha j
  refine ⟨(psi_even a j).symm, nat_abs_le (y := psi a n) ?_ ?_ hT, nat_abs_le (y := psi a n) ?_ ?_ hT, nat_abs_le (y := psi a n) ?_ ?_ hT, nat_abs_le (y := psi a n) ?_ ?_ hT⟩
  · have := Int.mul_nonneg (show 0 ≤ 2 * a by omega) h3; omega
  · exact Int.le_trans (twice_le ha j) (psi_le ha hj)
  · omega
  · omega
  · rw [diff_eq]; have := chi_ge ha j; omega
  · rw [diff_eq]; exact diff_le ha hj hn
  · rw [← psi_even]; have := psi_nn ha (2 * j); omega
  · rw [← psi_even]; exact psi_le ha hj
theorem od_exact {j n T : Nat} (hj : 2 * j + 1 ≤ n) (hT : (psi a n).natAbs ≤ T) : OdOk T id (psi a) j := by
  have h1 := psi_le ha (show j + 1 ≤ n by omega)
  have h2 := (grow ha j).2.2.1
  have h3 := psi_nn ha j
  have h4 := psi_le ha hj
  have h5 := sum_le ha j
  refine ⟨(psi_odd a j).symm, nat_abs_le (y := psi a n) ?_ ?_ hT, nat_abs_le (y := psi a n) ?_ ?_ hT, nat_abs_le (y := psi a n) ?_ ?_ hT⟩
  · omega
  · omega
  · omega
  · omega
  · rw [← psi_odd]; have := psi_nn ha (2 * j + 1); omega
  · rw [← psi_odd]; exact h4
theorem sq_exact {m n T : Nat} (hm : 1 ≤ m) (hn : 2 * m ≤ n) (hT : (psi a n).natAbs ≤ T) : Sq T id (2 * a) (psi a) m := by
  have e := fun (j : Nat) (hj : 2 * j ≤ m) => ev_exact (T := T) ha (j := j) (n := n) (by omega) (by omega) hT
  have o := fun (j : Nat) (hj : 2 * j ≤ m) => od_exact (T := T) ha (j := j) (n := n) (by omega) hT
  refine ⟨rfl, rfl, fun j h => (e j h).ev, fun j h => (o j h).od, fun j _ => (psi_two a (2 * j)).symm, fun j h => (e j h).a1, fun j h => (e j h).a2, fun j h => (e j h).a3, fun j h => (e j h).a4, fun j h => (o j h).b1, fun j h => (o j h).b2, fun j h => (o j h).b3, fun j h => ?_, fun j h => ?_⟩
  · have h3 := psi_nn ha (2 * j + 1)
    refine nat_abs_le (y := psi a n) ?_ ?_ hT
    · have := Int.mul_nonneg (show 0 ≤ 2 * a by omega) h3; have := psi_nn ha n; omega
    · exact Int.le_trans (twice_le ha _) (psi_le ha (by omega))
  · rw [← psi_two]
    have h3 := psi_nn ha (2 * j + 2)
    refine nat_abs_le (y := psi a n) ?_ (psi_le ha (by omega)) hT
    have := psi_nn ha n; omega
theorem psi_le_chi {m n : Nat} (h : m ≤ n) : psi a m ≤ chi a n := by
  have h1 := psi_le ha h
  have h2 := psi_lt_chi ha n
  omega
theorem a_psi_le (m : Nat) : a * psi a m ≤ psi a (2 * m) := by
  have h1 := twice_le ha m
  have h2 := Int.mul_nonneg (show 0 ≤ a by omega) (psi_nn ha m)
  grind
theorem chi_le_psi {m : Nat} (h : 1 ≤ m) : 2 * chi a m ≤ psi a (2 * m) := diff_le ha (Nat.le_refl _) (by omega)
theorem a_psi_succ_le {m : Nat} (h : 1 ≤ m) : a * psi a (m + 1) ≤ chi a (2 * m + 1) := by
  rw [chi_odd]
  have e := chi_next a m
  have h1 := psi_lt_chi ha m
  have h2 := chi_ge_a ha h
  have h3 := chi_le ha (show m ≤ m + 1 by omega)
  have h4 := Int.mul_le_mul_of_nonneg_right (show 2 ≤ chi a m by omega) (show 0 ≤ chi a (m + 1) by have := chi_ge ha (m + 1); omega)
  have h5 := chi_ge_a ha (show 1 ≤ m + 1 by omega)
  omega
theorem chi_sq_le (m : Nat) : chi a m * chi a m ≤ chi a (2 * m) := by
  rw [chi_even]
  have h1 := chi_ge ha m
  have := Int.mul_le_mul_of_nonneg_right h1 (show 0 ≤ chi a m by omega)
  omega
theorem chi_pr_le {m : Nat} (h : 1 ≤ m) : chi a m * chi a (m + 1) ≤ chi a (2 * m + 1) ∧ a ≤ chi a m * chi a (m + 1) := by
  rw [chi_odd]
  have h1 := chi_ge ha m
  have h2 := chi_ge_a ha (show 1 ≤ m + 1 by omega)
  have := Int.mul_le_mul_of_nonneg_right h1 (show 0 ≤ chi a (m + 1) by omega)
  omega
end
end Go.Proofs.Ytbblckaplddggaa
set_option maxRecDepth 100000
namespace Go.Proofs.Ytbblckaplddggaa
open Go.RowKit Go.Shelf

theorem Valid_i {w : World} {z : Int} {t : Bool} {A : Option Addr} {n c : Nat} (h : Iv w z t A n c) : Calls Try.prog 87 #[.agg #[.bool t, .slice A n c]] w fun e w' => e = .returned (.bool true) ∧ Below w.heap.size w w' := by
  obtain ⟨r, v, _, _, _⟩ := h.is.raw h.sz (Nat.le_refl _)
  have := valid_c t A n c _ w r
  rwa [v] at this
def IsB (x : Bool) (w : World) (e : Ending) (w' : World) : Prop := e = .returned (.bool x) ∧ Below w.heap.size w w'
theorem ord_cases (z z' : Int) : (ord z z' = -1 ∧ z < z') ∨ (ord z z' = 0 ∧ z = z') ∨ (ord z z' = 1 ∧ z' < z) := by
  rcases Int.lt_trichotomy z z' with h | h | h
  · exact .inl ⟨ord_lt h, h⟩
  · exact .inr (.inl ⟨ord_eq h, h⟩)
  · exact .inr (.inr ⟨ord_gt h, h⟩)
set_option maxHeartbeats 1000000 in
theorem Less_c {w : World} {z z' : Int} {t t' : Bool} {A A' : Option Addr} {n c n' c' : Nat} (h : Iv w z t A n c) (h' : Iv w z' t' A' n' c') :
    Calls Try.prog 69 #[.agg #[.bool t, .slice A n c], .agg #[.bool t', .slice A' n' c']] w (IsB (decide (z < z')) w) := by
  have E := Env2.start w t t' A A' n c n' c'
  have HC := Lib.hid (Cmp_is (k := 4096) (h.is.below E.below) (h'.is.below E.below) h.sz h'.sz (Nat.le_refl _))
  have HB := Lib.hid E.below
  rcases ord_cases z z' with ⟨o, hz⟩ | ⟨o, hz⟩ | ⟨o, hz⟩
  all_goals
    rw [o] at HC
    have HD := Lib.hid (show decide (z < z') = _ from by first | exact decide_eq_true hz | exact decide_eq_false (by omega))
    clear h h' E o hz
    go_enter Try.func69, Try.ntmps69
    go_wp2_with (refine HC.out.mono ?_; rintro e w1 ⟨rfl, hb⟩; have HB1 := Lib.hid (HB.out.trans (hb.mono HB.out.size)); clear hb)
    go_ret
    exact ⟨by rw [HD.out]; rfl, HB1.out⟩
set_option maxHeartbeats 1000000 in
theorem Equal_c {w : World} {z z' : Int} {t t' : Bool} {A A' : Option Addr} {n c n' c' : Nat} (h : Iv w z t A n c) (h' : Iv w z' t' A' n' c') :
    Calls Try.prog 70 #[.agg #[.bool t, .slice A n c], .agg #[.bool t', .slice A' n' c']] w (IsB (decide (z = z')) w) := by
  have E := Env2.start w t t' A A' n c n' c'
  have HC := Lib.hid (Cmp_is (k := 4096) (h.is.below E.below) (h'.is.below E.below) h.sz h'.sz (Nat.le_refl _))
  have HB := Lib.hid E.below
  rcases ord_cases z z' with ⟨o, hz⟩ | ⟨o, hz⟩ | ⟨o, hz⟩
  all_goals
    rw [o] at HC
    have HD := Lib.hid (show decide (z = z') = _ from by first | exact decide_eq_true hz | exact decide_eq_false (by omega))
    clear h h' E o hz
    go_enter Try.func70, Try.ntmps70
    go_wp2_with (refine HC.out.mono ?_; rintro e w1 ⟨rfl, hb⟩; have HB1 := Lib.hid (HB.out.trans (hb.mono HB.out.size)); clear hb)
    go_ret
    exact ⟨by rw [HD.out]; rfl, HB1.out⟩
set_option maxHeartbeats 1000000 in
theorem Valid0_c (w : World) : Calls Try.prog 88 #[.slice none 0 0] w (IsB true w) := by
  go_enter Try.func88, Try.ntmps88
  go_wp2
  refine wp_loop_rounds 1 ?_
  rw [rounds_succ]
  go_wp2
  go_ret
  exact ⟨rfl, Below.refl _ _⟩
/-- whether the other numbers are valid -/
def Oth (w : World) (o : Value) (v : Bool) : Prop := ∀ W, Below w.heap.size w W → Calls Try.prog 88 #[o] W (IsB v W)
theorem oth_nil (w : World) : Oth w (.slice none 0 0) true := fun W _ => Valid0_c W
set_option maxHeartbeats 2000000 in
theorem check_ok {w : World} {z : Int} {t : Bool} {A : Option Addr} {n c : Nat} (h : Iv w z t A n c) (o : Value) (ho : Oth w o true) (v : Int) (hv : (2 ≤ z ∧ v = 0) ∨ (z < 2 ∧ v = 2)) :
    Calls Try.prog 52 #[.agg #[.bool t, .slice A n c], o] w fun e w' => e = .returned (.int .i64 v) ∧ Below w.heap.size w w' := by
  have b0 := below_alloc w (ob2 t A n c)
  have B0 := Lib.hid (Box.new h.is)
  have HV := Lib.hid (h.below b0)
  have HB := Lib.hid b0
  have HO := Lib.hid ho
  clear h b0 ho
  go_enter Try.func52, Try.ntmps52
  go_wp2_with fail
  generalize w.alloc (.cells #[.bool t, .slice A n c] 24) = W0 at B0 HV HB ⊢
  refine (Valid_i HV.out).mono ?_
  rintro e w1 ⟨rfl, hb⟩
  replace B0 := Lib.hid (B0.out.next hb)
  replace HV := Lib.hid (HV.out.below hb)
  replace HB := Lib.hid (HB.out.trans (hb.mono HB.out.size))
  clear hb
  go_wp2_with fail
  refine (HO.out _ HB.out).mono ?_
  rintro e w2 ⟨rfl, hb⟩
  replace B0 := Lib.hid (B0.out.next hb)
  replace HV := Lib.hid (HV.out.below hb)
  replace HB := Lib.hid (HB.out.trans (hb.mono HB.out.size))
  clear hb
  have a0 := B0.out.c0
  have a1 := B0.out.c1
  go_upto_region 3 with (fail)
  go_region_held3 (fun w' => w'.cell? ⟨w.heap.size, 0, none⟩ = some (.bool t) ∧ w'.cell? ⟨w.heap.size, 1, none⟩ = some (.slice A n c)) (first | (with_reducible exact ⟨a0, a1⟩) | (with_reducible exact ⟨cell_dr a0, cell_dr a1⟩) | fail)
    (first
      | (go_at_call 53; (with_reducible refine (OfV 2 _ (by omega) (by omega)).mono ?_); rintro e w3 ⟨t2, A2, n2, c2, rfl, i2, hb⟩; have hb' := (Below.refl w2.heap.size w2).drew.trans hb; replace B0 := Lib.hid (B0.out.next hb'); replace HV := Lib.hid (HV.out.below hb'); replace HB := Lib.hid (HB.out.trans (hb'.mono HB.out.size)); have I2 := Lib.hid i2; clear a0 a1 hb hb' i2; have a0 := B0.out.c0; have a1 := B0.out.c1)
      | (go_at_call 69; (with_reducible refine (Less_c HV.out I2.out).mono ?_); rintro e w4 ⟨rfl, hb⟩; replace B0 := Lib.hid (B0.out.next hb); replace HB := Lib.hid (HB.out.trans (hb.mono HB.out.size)); clear a0 a1 hb; have a0 := B0.out.c0; have a1 := B0.out.c1)
      | fail "no arm")
  rcases hv with ⟨hz, rfl⟩ | ⟨hz, rfl⟩
  · have hd : decide (z < 2) = false := decide_eq_false (by omega)
    go_wp2
    go_ret
    exact ⟨rfl, HB.out⟩
  · have hd : decide (z < 2) = true := decide_eq_true hz
    go_wp2
    go_ret
    exact ⟨rfl, HB.out⟩
end Go.Proofs.Ytbblckaplddggaa
set_option maxRecDepth 100000
namespace Go.Proofs.Ytbblckaplddggaa
open Go.RowKit Go.Shelf
theorem not_fits {z : Int} (h : pw 4096 ≤ z.natAbs) : ¬ (words z.natAbs).length ≤ 4096 := fun hl => by
  have := words_len_le.1 hl
  omega
theorem NumIs.bad {w : World} {z : Int} (h : ¬ (words z.natAbs).length ≤ 4096) : NumIs w z false none 0 0 4 := ⟨fun hl => absurd hl h, fun _ => ⟨rfl, rfl, rfl, rfl, rfl⟩⟩
theorem NumIs.vb {w0 w : World} {z k : Int} {t : Bool} {B : Option Addr} {m d : Nat} (h : NumIs w z t B m d k) {g : Nat} {x : Bool} {a : Option Addr} {i j : Nat} (v : Vb w0 w g x a i j) (u1 u2 : Value) : NumIs ((w.setCell ⟨g, 0, none⟩ u1).setCell ⟨g, 1, none⟩ u2) z t B m d k := h.store v.c0 v.c1 u1 u2
/-- the argument's box and the result's cells -/
structure Ar (w W : World) (z : Int) (t : Bool) (A : Option Addr) (n c : Nat) : Prop where
  below : Below w.heap.size w W
  bx : Box W w.heap.size z t A n c
  vb : Vb w W (w.heap.size + 1) false none 0 0
theorem Ar.start {w : World} {z : Int} {t : Bool} {A : Option Addr} {n c : Nat} (h : Is w z t A n c) : Ar w ((w.alloc (.cells #[.bool t, .slice A n c] 24)).alloc (.cells #[.bool false, .slice none 0 0] 24)) z t A n c :=
  ⟨((Below.refl _ _).alloc (Nat.le_refl _) _).alloc (by simp) _, (Box.new h).alloc _, Vb.new1 w w _ false none 0 0 (Nat.le_refl _)⟩
theorem Ar.next {w W W' : World} {z : Int} {t : Bool} {A : Option Addr} {n c : Nat} (h : Ar w W z t A n c) (hb : Below W.heap.size W W') : Ar w W' z t A n c :=
  ⟨h.below.trans (hb.mono h.below.size), h.bx.next hb, h.vb.below hb⟩
/-- what was made by a walker that is new -/
theorem Stp.fresh {w2 w3 w4 : World} {b : Nat} (hb : Below w2.heap.size w2 w3) (h : w2.heap.size ≤ b) (hs : Stp b w3 w4) : Below w2.heap.size w2 w4 := hb.trans (hs.below hb.size h)
theorem Is.iv_of {w : World} {z : Int} {t : Bool} {A : Option Addr} {n c : Nat} (h : Is w z t A n c) (hs : Sz z 4096) : Iv w z t A n c := ⟨h, hs⟩
set_option maxHeartbeats 4000000 in
theorem Psi_small {w : World} {a : Int} {t : Bool} {A : Option Addr} {n c : Nat} (h : Iv w a t A n c) (ha : 2 ≤ a) (N : Nat) (hN : N < 9223372036854775808) (hs : N < 2) :
    Calls Try.prog 16 #[.agg #[.bool t, .slice A n c], .int .i64 (N : Int)] w (Num w (psi a N)) := by
  have E := Lib.hid (Ar.start h.is)
  have HSz := Lib.hid h.sz
  have HA := Lib.hid ha
  have HN := Lib.hid hN
  have hs2 : (N : Int) < 2 := by omega
  have HP := Lib.hid (show psi a N = (N : Int) by rcases (show N = 0 ∨ N = 1 by omega) with rfl | rfl <;> rfl)
  rw [HP.out]
  obtain ⟨K, hK⟩ : ∃ K : Int, K = (N : Int) := ⟨_, rfl⟩
  rw [← hK]
  rw [← hK] at hs2
  have hK0 : 0 ≤ K := by omega
  clear h ha hN hs HP hK
  go_enter Try.func16, Try.ntmps16
  go_wp2_with fail
  generalize (w.alloc (.cells #[.bool t, .slice A n c] 24)).alloc (.cells #[.bool false, .slice none 0 0] 24) = W0 at E ⊢
  refine (check_ok (Is.iv_of E.out.bx.is HSz.out) _ (oth_nil _) 0 (.inl ⟨HA.out, rfl⟩)).mono ?_
  rintro e w1 ⟨rfl, hb⟩
  replace E := Lib.hid (E.out.next hb)
  clear hb
  have a0 := E.out.bx.c0
  have a1 := E.out.bx.c1
  go_wp2_with fail
  refine (OfV K _ (by omega) (by omega)).mono ?_
  rintro e w2 ⟨t2, A2, n2, c2, rfl, i2, hb⟩
  replace E := Lib.hid (E.out.next hb)
  have I2 := Lib.hid i2
  clear hb i2 a0 a1
  have r0 := E.out.vb.c0
  have r1 := E.out.vb.c1
  have f0 := E.out.vb.f0
  have f1 := E.out.vb.f1
  go_wp2
  refine bodyPost_ret (v := .tuple #[.agg #[.bool t2, .slice A2 n2 c2], .int .i64 0]) (by simp [results, Try.results16, go_sem, r0, r1]) rfl ?_
  exact ⟨t2, A2, n2, c2, 0, rfl, (Is.nums I2.out.is (by rw [I2.out.is.2.1]; exact words_len_le.2 I2.out.sz)).vb E.out.vb _ _, below_store E.out.below (by omega) _ _⟩
set_option maxHeartbeats 4000000 in
theorem Psi_big {w : World} {a : Int} {t : Bool} {A : Option Addr} {n c : Nat} (h : Iv w a t A n c) (ha : 2 ≤ a) (N : Nat) (hN : N < 9223372036854775808) (hs : 2 ≤ N) :
    Calls Try.prog 16 #[.agg #[.bool t, .slice A n c], .int .i64 (N : Int)] w (Num w (psi a N)) := by
  have E := Lib.hid (Ar.start h.is)
  have HSz := Lib.hid h.sz
  have HA := Lib.hid ha
  have HN := Lib.hid hN
  have HT := Lib.hid (show (a + a).natAbs ≤ (psi a N).natAbs by have := psi_two_le ha N hs; omega)
  have HQ := Lib.hid (sq_exact ha (m := N / 2) (n := N) (by omega) (by omega) (Nat.le_refl _))
  have HE := Lib.hid (fun (hp : N % 2 = 0) => ev_exact ha (j := N / 2) (n := N) (by omega) hs (Nat.le_refl (psi a N).natAbs))
  have HO := Lib.hid (fun (hp : N % 2 = 1) => od_exact ha (j := N / 2) (n := N) (by omega) (Nat.le_refl (psi a N).natAbs))
  have hs2 : ¬ (N : Int) < 2 := by omega
  obtain ⟨K, hK⟩ : ∃ K : Int, K = (N : Int) := ⟨_, rfl⟩
  rw [← hK]
  rw [← hK] at hs2
  have hK0 : 0 ≤ K := by omega
  have HKN := Lib.hid hK
  clear h ha hN hs hK
  go_enter Try.func16, Try.ntmps16
  go_wp2_with fail
  generalize (w.alloc (.cells #[.bool t, .slice A n c] 24)).alloc (.cells #[.bool false, .slice none 0 0] 24) = W0 at E ⊢
  refine (check_ok (Is.iv_of E.out.bx.is HSz.out) _ (oth_nil _) 0 (.inl ⟨HA.out, rfl⟩)).mono ?_
  rintro e w1 ⟨rfl, hb⟩
  replace E := Lib.hid (E.out.next hb)
  clear hb
  have a0 := E.out.bx.c0
  have a1 := E.out.bx.c1
  go_wp2_with fail
  refine (exact_c _ a t A n c w1 (Is.iv_of E.out.bx.is HSz.out) HT.out).mono ?_
  rintro e w3 ⟨b, tt, At, nt, ct, k, rfl, hb1, hb2, hm⟩
  have HB := Lib.hid hb1
  have HX := Lib.hid hb2
  have HM := Lib.hid hm
  clear hb1 hb2 hm a0 a1
  go_wp2_with fail
  rw [HKN.out]
  refine (psi_c HM.out N HN.out (psi a) HQ.out HE.out HO.out).mono ?_
  rintro e w4 ⟨t4, B4, m4, d4, k4, rfl, s4, ms4, z4, v4⟩
  have HS4 := Lib.hid (Stp.fresh HX.out HB.out s4)
  have HV4 := Lib.hid v4
  have HC4 := Lib.hid ms4.cc
  have HK4 := Lib.hid ms4.st
  clear s4 ms4 z4 v4
  go_wp2_with fail
  refine (result_c _ k4 _ t4 B4 m4 d4 w4 HC4.out HV4.out).mono ?_
  rintro e w5 ⟨hb5, h1, h2⟩
  replace E := Lib.hid (E.out.next (HS4.out.trans (hb5.mono HS4.out.size)))
  have r0 := E.out.vb.c0
  have r1 := E.out.vb.c1
  have f0 := E.out.vb.f0
  have f1 := E.out.vb.f1
  by_cases hk : k4 = 0
  · obtain ⟨t6, B6, m6, d6, rfl, i6⟩ := h1 hk
    have H6 := Lib.hid i6
    clear h1 h2 hk hb5 i6 HX HB HS4 HV4 HC4 HK4
    go_wp2
    refine bodyPost_ret (v := .tuple #[.agg #[.bool t6, .slice B6 m6 d6], .int .i64 0]) (by simp [results, Try.results16, go_sem, r0, r1]) rfl ?_
    exact ⟨t6, B6, m6, d6, 0, rfl, (Is.nums H6.out.is (by rw [H6.out.is.2.1]; exact words_len_le.2 H6.out.sz)).vb E.out.vb _ _, below_store E.out.below (by omega) _ _⟩
  · obtain rfl := h2 hk
    have H6 : Hid (k4 = 4 ∧ pw 4096 ≤ _) := (HK4.out).resolve_left hk
    obtain ⟨rfl, h7⟩ := H6
    have H7 := Lib.hid (not_fits h7)
    clear h1 h2 hk hb5 HX HB HS4 HV4 HC4 HK4 h7
    go_wp2
    refine bodyPost_ret (v := .tuple #[.agg #[.bool false, .slice none 0 0], .int .i64 4]) (by simp [results, Try.results16, go_sem, r0, r1]) rfl ?_
    exact ⟨false, none, 0, 0, 4, rfl, (NumIs.bad H7.out).vb E.out.vb _ _, below_store E.out.below (by omega) _ _⟩
theorem Psi_ok {w : World} {a : Int} {t : Bool} {A : Option Addr} {n c : Nat} (h : Iv w a t A n c) (ha : 2 ≤ a) (N : Nat) (hN : N < 9223372036854775808) :
    Calls Try.prog 16 #[.agg #[.bool t, .slice A n c], .int .i64 (N : Int)] w (Num w (psi a N)) := by
  by_cases hs : N < 2
  · exact Psi_small h ha N hN hs
  · exact Psi_big h ha N hN (by omega)
end Go.Proofs.Ytbblckaplddggaa
