import Derived.Test.YtbblckaplddggaaNj
import Derived.Test.YtbblckaplddggaaNk
import Derived.Laws.EntriesVeiled
set_option maxRecDepth 100000
namespace Go.Proofs.Ytbblckaplddggaa
open Go.RowKit Go.Shelf

set_option maxHeartbeats 1000000 in
theorem exact1_c (T b : Nat) (k z : Int) (t : Bool) (A : Option Addr) (n c : Nat) (w : World) (hc : Cc w b k) (hk : St T k) (hv : Vn w k z t A n c) :
    Calls Try.prog 91 #[.agg #[.bool t, .slice A n c]] w (Wv T b k z w) := by
  have HC := Lib.hid hc
  have HK := Lib.hid hk
  have HV := Lib.hid hv
  clear hc hk hv
  go_enter Try.func91, Try.ntmps91
  go_wp2
  refine bodyPost_ret (v := .agg #[.bool t, .slice A n c]) (by simp [results, Try.results91, go_sem]) rfl ?_
  have h1 := HC.out
  have b1 := below_alloc w (ob2 t A n c)
  have b2 := below_alloc (w.alloc (ob2 t A n c)) (ob2 t A n c)
  exact ⟨t, A, n, c, k, rfl, (Stp.of_below h1.lt b1).trans (Stp.of_below (h1.alloc _).lt b2), (h1.alloc _).alloc _, fun e => ⟨e, ((HV.out e).below b1).below b2⟩, HK.out⟩
theorem entersExact : ∀ args w, (callFunc 91 args).run Try.prog w = .ok (.enter 91 args) w := enters_of Try.func91 (by kernel_rfl) rfl
theorem each_exact (T b : Nat) : Each T b 91 #[] id (fun _ => True) :=
  ⟨entersExact, fun _ _ _ _ _ _ => trivial, fun w k z t A n c _ hc hk hv => by simpa using exact1_c T b k z t A n c w hc hk hv⟩
/-- the numbers themselves -/
abbrev Mx (T b : Nat) (zt za : Int) (ta : Bool) (Aa : Option Addr) (na ca : Nat) (tt : Bool) (At : Option Addr) (nt ct : Nat) (W : World) (k : Int) : Prop := Ms T b 91 #[] id (fun _ => True) zt za ta Aa na ca tt At nt ct W k
def ExactPost (T : Nat) (z : Int) (t : Bool) (A : Option Addr) (n c : Nat) (w : World) (e : Ending) (w' : World) : Prop :=
  ∃ b tt At nt ct k, e = .returned (.pointer (some ⟨b, 0, none⟩)) ∧ w.heap.size ≤ b ∧ Below w.heap.size w w' ∧ Mx T b (2 * z) z t A n c tt At nt ct w' k
theorem cell_45 {W : World} {b g o i j : Nat} {x u v : Value} (hne : g ≠ b) (h : W.cell? ⟨g, o, none⟩ = some x) : ((W.setCell ⟨b, i, none⟩ u).setCell ⟨b, j, none⟩ v).cell? ⟨g, o, none⟩ = some x := by
  rw [World.cell?_setCell_other _ _ _ _ (fun e => hne (by injection e with e; exact e.symm)), World.cell?_setCell_other _ _ _ _ (fun e => hne (by injection e with e; exact e.symm))]
  exact h
/-- a walker's block as it is made: its cells may be written -/
structure Nw (w W : World) (b : Nat) (t : Bool) (A : Option Addr) (n c : Nat) (k : Int) : Prop where
  ge : w.heap.size ≤ b
  cc : Cc W b k
  below : Below w.heap.size w W
  e1 : W.cell? ⟨b, 1, none⟩ = some .nilFunc
  a0 : W.cell? ⟨b, 2, none⟩ = some (.bool t)
  a1 : W.cell? ⟨b, 3, none⟩ = some (.slice A n c)
  t0 : W.cell? ⟨b, 4, none⟩ = some (.bool false)
  t1 : W.cell? ⟨b, 5, none⟩ = some (.slice none 0 0)
  fz : ∀ o, W.frozen? ⟨b, o, none⟩ = false
theorem Nw.next {w W W' : World} {b : Nat} {t : Bool} {A : Option Addr} {n c : Nat} {k k' : Int} (h : Nw w W b t A n c k) (hs : Stp b W W') (hc : Cc W' b k') : Nw w W' b t A n c k' :=
  ⟨h.ge, hc, h.below.trans (hs.below h.below.size h.ge), (hs.own 1 (by omega)).trans h.e1, (hs.own 2 (by omega)).trans h.a0, (hs.own 3 (by omega)).trans h.a1, (hs.own 4 (by omega)).trans h.t0, (hs.own 5 (by omega)).trans h.t1, fun o => (hs.frz o).trans (h.fz o)⟩
set_option maxHeartbeats 1000000 in
theorem Nw.done {w W : World} {b f : Nat} {t : Bool} {A : Option Addr} {n c : Nat} {k : Int} (h : Nw w W b t A n c k) {T : Nat} {caps : Array Value} {g : Int → Int} {Ev : World → Prop} {zt za : Int} {tt : Bool} {At : Option Addr} {nt ct : Nat} (hk : St T k) (he : Each T b f caps g Ev) (vt : Vn W k zt tt At nt ct) (va : Vn W k za t A n c)
    {X : World} (hX : ((W.setCell ⟨b, 4, none⟩ (.bool tt)).setCell ⟨b, 5, none⟩ (.slice At nt ct)).setCell ⟨b, 1, none⟩ (.func (.func f) #[] caps) = X) (hev : Ev X) : Below w.heap.size w X ∧ Ms T b f caps g Ev zt za t A n c tt At nt ct X k := by
  have p5 : (W.setCell ⟨b, 4, none⟩ (.bool tt)).cell? ⟨b, 5, none⟩ = some (.slice none 0 0) := by rw [World.cell?_setCell_other _ _ _ _ (by simp)]; exact h.t1
  have p1 : ((W.setCell ⟨b, 4, none⟩ (.bool tt)).setCell ⟨b, 5, none⟩ (.slice At nt ct)).cell? ⟨b, 1, none⟩ = some .nilFunc := by
    rw [World.cell?_setCell_other _ _ _ _ (by simp), World.cell?_setCell_other _ _ _ _ (by simp)]; exact h.e1
  subst hX
  have o : ∀ i, i ≠ 1 → i ≠ 4 → i ≠ 5 → (((W.setCell ⟨b, 4, none⟩ (.bool tt)).setCell ⟨b, 5, none⟩ (.slice At nt ct)).setCell ⟨b, 1, none⟩ (.func (.func f) #[] caps)).cell? ⟨b, i, none⟩ = W.cell? ⟨b, i, none⟩ := fun i h1 h4 h5 => by
    rw [World.cell?_setCell_other _ _ _ _ (by intro e; injection e with _ e; omega), World.cell?_setCell_other _ _ _ _ (by intro e; injection e with _ e; omega), World.cell?_setCell_other _ _ _ _ (by intro e; injection e with _ e; omega)]
  have iv : ∀ {z : Int} {t' : Bool} {A' : Option Addr} {n' c' : Nat}, Vn W k z t' A' n' c' → Vn (((W.setCell ⟨b, 4, none⟩ (.bool tt)).setCell ⟨b, 5, none⟩ (.slice At nt ct)).setCell ⟨b, 1, none⟩ (.func (.func f) #[] caps)) k z t' A' n' c' := fun v e =>
    ⟨(((v e).is.set_other h.t0 (by intro z; simp) _).set_other p5 (by intro z; simp) _).set_other p1 (by intro z; simp) _, (v e).sz⟩
  refine ⟨((h.below.setCell (p := ⟨b, 4, none⟩) h.ge _).setCell (p := ⟨b, 5, none⟩) h.ge _).setCell (p := ⟨b, 1, none⟩) h.ge _, he, ⟨?_, ?_, ?_, ?_, ?_⟩, hev, ⟨?_, ?_, ?_⟩, hk, iv vt, iv va⟩
  · exact World.cell?_setCell_same _ _ _ p1
  · rw [o 2 (by omega) (by omega) (by omega)]; exact h.a0
  · rw [o 3 (by omega) (by omega) (by omega)]; exact h.a1
  · rw [World.cell?_setCell_other _ _ _ _ (by simp), World.cell?_setCell_other _ _ _ _ (by simp)]; exact World.cell?_setCell_same _ _ _ h.t0
  · rw [World.cell?_setCell_other _ _ _ _ (by simp)]; exact World.cell?_setCell_same _ _ _ p5
  · simpa [World.setCell] using h.cc.lt
  · rw [o 0 (by omega) (by omega) (by omega)]; exact h.cc.c0
  · rw [World.frozen?_setCell, World.frozen?_setCell, World.frozen?_setCell]; exact h.cc.f0
set_option maxHeartbeats 1000000 in
theorem exact_c (T : Nat) (z : Int) (t : Bool) (A : Option Addr) (n c : Nat) (w : World) (h : Iv w z t A n c) (hz : (z + z).natAbs ≤ T) :
    Calls Try.prog 54 #[.agg #[.bool t, .slice A n c]] w (ExactPost T z t A n c w) := by
  have hb0 : Below w.heap.size w ((w.alloc (.cells #[.bool t, .slice A n c] 24)).alloc (.cells #[.int .i64 0, .nilFunc, .bool t, .slice A n c, .bool false, .slice none 0 0] 80)) := ((Below.refl _ _).alloc (Nat.le_refl _) _).alloc (by simp) _
  have HV := Lib.hid (h.below hb0)
  have HQ := Lib.hid hz
  have x0 : ((w.alloc (.cells #[.bool t, .slice A n c] 24)).alloc (.cells #[.int .i64 0, .nilFunc, .bool t, .slice A n c, .bool false, .slice none 0 0] 80)).cell? ⟨w.heap.size, 0, none⟩ = some (.bool t) := by go_simp
  have x1 : ((w.alloc (.cells #[.bool t, .slice A n c] 24)).alloc (.cells #[.int .i64 0, .nilFunc, .bool t, .slice A n c, .bool false, .slice none 0 0] 80)).cell? ⟨w.heap.size, 1, none⟩ = some (.slice A n c) := by go_simp
  have HN := Lib.hid (Nw.mk (w := w) (W := ((w.alloc (.cells #[.bool t, .slice A n c] 24)).alloc (.cells #[.int .i64 0, .nilFunc, .bool t, .slice A n c, .bool false, .slice none 0 0] 80))) (b := w.heap.size + 1) (t := t) (A := A) (n := n) (c := c) (k := 0) (by omega) ⟨by simp, by go_simp, by go_simp⟩ hb0 (by go_simp) (by go_simp) (by go_simp) (by go_simp) (by go_simp) (fun o => by go_simp))
  clear h hz hb0
  go_enter Try.func54, Try.ntmps54
  go_upto_region 2 with (fail)
  generalize ((w.alloc (.cells #[.bool t, .slice A n c] 24)).alloc (.cells #[.int .i64 0, .nilFunc, .bool t, .slice A n c, .bool false, .slice none 0 0] 80)) = W0 at HV x0 x1 HN ⊢
  have hlt := HN.out.cc.lt
  go_region_held3 (fun w' => w'.cell? ⟨w.heap.size, 0, none⟩ = some (.bool t) ∧ w'.cell? ⟨w.heap.size, 1, none⟩ = some (.slice A n c)) (first | (with_reducible exact ⟨x0, x1⟩) | (with_reducible exact ⟨cell_dr x0, cell_dr x1⟩) | (with_reducible exact ⟨cell_45 (by omega) x0, cell_45 (by omega) x1⟩) | fail)
    (first
      | (go_at_call 90; (with_reducible refine (cAdd_c T (w.heap.size + 1) 0 z z t t A A n c n c _ (HN.out.cc.below (Below.refl _ _).drew) (St.zero T) (fun _ => HQ.out) (Vn.pair (Iv.vn (HV.out.below (Below.refl _ _).drew)) (Iv.vn (HV.out.below (Below.refl _ _).drew)))).mono ?_); rintro e W1 ⟨t1, B1, m1, d1, k1, rfl, s0, c1, v1, st1⟩; have s1 := (Stp.of_below hlt (Below.refl _ _).drew).trans s0; have VA := Lib.hid (HV.out.vn.next HN.out.cc s1 (fun e => (v1 e).1)); have y0 := (s1.cell (p := ⟨w.heap.size, 0, none⟩) (by simp; omega) (by simp)).trans x0; have y1 := (s1.cell (p := ⟨w.heap.size, 1, none⟩) (by simp; omega) (by simp)).trans x1; clear x0 x1; have x0 := y0; have x1 := y1; have HW := Lib.hid (HN.out.next s1 c1); have VT : Hid (Vn _ _ (z + z) _ _ _ _) := fun e => (v1 e).2; have HK := Lib.hid st1; clear s0 s1 c1 v1 st1 y0 y1; have r0 := HW.out.t0; have r1 := HW.out.t1; have f4 := HW.out.fz 4; have f5 := HW.out.fz 5)
      | fail "no arm")
  have e1 := HW.out.e1
  have f1 := HW.out.fz 1
  go_wp2
  generalize hX : ((W1.setCell ⟨w.heap.size + 1, 4, none⟩ (.bool t1)).setCell ⟨w.heap.size + 1, 5, none⟩ (.slice B1 m1 d1)).setCell ⟨w.heap.size + 1, 1, none⟩ (.func (.func 91) #[] #[]) = X
  go_ret
  obtain ⟨hb, hm⟩ := HW.out.done HK.out (each_exact T (w.heap.size + 1)) VT.out VA.out hX trivial
  rw [show z + z = 2 * z by omega] at hm
  exact ⟨w.heap.size + 1, t1, B1, m1, d1, k1, rfl, by omega, hb, hm⟩
set_option maxHeartbeats 1000000 in
theorem result_c (b : Nat) (k z : Int) (t : Bool) (A : Option Addr) (n c : Nat) (w : World) (hc : Cc w b k) (hv : Vn w k z t A n c) :
    Calls Try.prog 55 #[.pointer (some ⟨b, 0, none⟩), .agg #[.bool t, .slice A n c]] w (fun e w' => Below w.heap.size w w' ∧ ((k = 0 → ∃ t' A' n' c', e = .returned (.tuple #[.agg #[.bool t', .slice A' n' c'], .int .i64 0]) ∧ Iv w' z t' A' n' c') ∧ (k ≠ 0 → e = .returned (.tuple #[.agg #[.bool false, .slice none 0 0], .int .i64 k])))) := by
  have HC := Lib.hid (hc.alloc (.cells #[.bool t, .slice A n c] 24) |>.alloc (.cells #[.bool false, .slice none 0 0] 24))
  have HV := Lib.hid hv
  have c0 := HC.out.c0
  clear hc hv
  by_cases hk : k = 0
  · subst hk
    go_enter Try.func55, Try.ntmps55
    go_wp2
    refine bodyPost_ret (v := .tuple #[.agg #[.bool t, .slice A n c], .int .i64 0]) (by simp [results, Try.results55, go_sem]) rfl ?_
    exact ⟨(below_alloc _ _).trans ((below_alloc _ _).mono (by simp)), fun _ => ⟨t, A, n, c, rfl, ((HV.out rfl).below (below_alloc _ _)).below (below_alloc _ _)⟩, fun h => absurd rfl h⟩
  · have t0 : (k != 0) = true := by simp [hk]
    have HK := Lib.hid hk
    clear hk
    go_enter Try.func55, Try.ntmps55
    go_wp2
    go_region
    go_wp2
    refine bodyPost_ret (v := .tuple #[.agg #[.bool false, .slice none 0 0], .int .i64 k]) (by simp [results, Try.results55, go_sem]) rfl ?_
    exact ⟨((below_alloc _ _).trans ((below_alloc _ _).mono (by simp))).drew, fun h => absurd h HK.out, fun _ => rfl⟩
end Go.Proofs.Ytbblckaplddggaa
