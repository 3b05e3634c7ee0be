import Derived.Test.YtbblckaplddggaaNr
set_option maxRecDepth 100000
namespace Go.Proofs.Ytbblckaplddggaa
open Go.RowKit Go.Shelf
theorem entersMod : ∀ args w, (callFunc 96 args).run Try.prog w = .ok (.enter 96 args) w := enters_of Try.func96 (by kernel_rfl) rfl
theorem each_mod (T b v mb : Nat) (M : Int) (tm : Bool) (Am : Option Addr) (nm cm : Nat) (hM : 0 < M) (hT : M.natAbs ≤ T) :
    Each T b 96 #[.pointer (some ⟨v, 0, none⟩), .pointer (some ⟨mb, 0, none⟩)] (· % M) (Evm b v mb M tm Am nm cm) :=
  ⟨entersMod, fun _ _ _ h hc hs => h.stp hc hs, fun w k z t A n c hE hc hk hv => by simpa using modulo1_c T b v mb k z M tm Am nm cm t A n c w hE hM hT hc hk hv⟩
theorem cell_in {W : World} {b o i j : Nat} {x u v : Value} (h : W.cell? ⟨b, o, none⟩ = some x) (hi : i ≠ o) (hj : j ≠ o) : ((W.setCell ⟨b, i, none⟩ u).setCell ⟨b, j, none⟩ v).cell? ⟨b, o, none⟩ = some x := by
  rw [World.cell?_setCell_other _ _ _ _ (fun e => hj (by injection e)), World.cell?_setCell_other _ _ _ _ (fun e => hi (by injection e))]
  exact h
/-- a walker's block that is being filled -/
structure Nx (w W : World) (b f : Nat) (caps : Array Value) (t : Bool) (A : Option Addr) (n c : Nat) (t' : Bool) (A' : Option Addr) (n' c' : Nat) (k : Int) : Prop where
  ge : w.heap.size ≤ b
  cc : Cc W b k
  below : Below w.heap.size w W
  wk : Wk W b f caps t A n c t' A' n' c'
  fz : ∀ o, W.frozen? ⟨b, o, none⟩ = false
section
variable {w W W' : World} {b f : Nat} {caps : Array Value} {t : Bool} {A : Option Addr} {n c : Nat} {t' : Bool} {A' : Option Addr} {n' c' : Nat} {k k' : Int}
theorem Nx.next (h : Nx w W b f caps t A n c t' A' n' c' k) (hs : Stp b W W') (hc : Cc W' b k') : Nx w W' b f caps t A n c t' A' n' c' k' :=
  ⟨h.ge, hc, h.below.trans (hs.below h.below.size h.ge), h.wk.stp hs, fun o => (hs.frz o).trans (h.fz o)⟩
theorem Nx.setA (h : Nx w W b f caps t A n c t' A' n' c' k) (t1 : Bool) (A1 : Option Addr) (n1 c1 : Nat) : Nx w ((W.setCell ⟨b, 2, none⟩ (.bool t1)).setCell ⟨b, 3, none⟩ (.slice A1 n1 c1)) b f caps t1 A1 n1 c1 t' A' n' c' k := by
  have p3 : (W.setCell ⟨b, 2, none⟩ (.bool t1)).cell? ⟨b, 3, none⟩ = some (.slice A n c) := by rw [World.cell?_setCell_other _ _ _ _ (by simp)]; exact h.wk.a1
  exact ⟨h.ge, ⟨by simpa [World.setCell] using h.cc.lt, cell_in h.cc.c0 (by omega) (by omega), by rw [World.frozen?_setCell, World.frozen?_setCell]; exact h.cc.f0⟩, (h.below.setCell (p := ⟨b, 2, none⟩) h.ge _).setCell (p := ⟨b, 3, none⟩) h.ge _,
    ⟨cell_in h.wk.e1 (by omega) (by omega), by rw [World.cell?_setCell_other _ _ _ _ (by simp)]; exact World.cell?_setCell_same _ _ _ h.wk.a0, World.cell?_setCell_same _ _ _ p3, cell_in h.wk.t0 (by omega) (by omega), cell_in h.wk.t1 (by omega) (by omega)⟩, fun o => by rw [World.frozen?_setCell, World.frozen?_setCell]; exact h.fz o⟩
theorem Nx.setT (h : Nx w W b f caps t A n c t' A' n' c' k) (t1 : Bool) (A1 : Option Addr) (n1 c1 : Nat) : Nx w ((W.setCell ⟨b, 4, none⟩ (.bool t1)).setCell ⟨b, 5, none⟩ (.slice A1 n1 c1)) b f caps t A n c t1 A1 n1 c1 k := by
  have p3 : (W.setCell ⟨b, 4, none⟩ (.bool t1)).cell? ⟨b, 5, none⟩ = some (.slice A' n' c') := by rw [World.cell?_setCell_other _ _ _ _ (by simp)]; exact h.wk.t1
  exact ⟨h.ge, ⟨by simpa [World.setCell] using h.cc.lt, cell_in h.cc.c0 (by omega) (by omega), by rw [World.frozen?_setCell, World.frozen?_setCell]; exact h.cc.f0⟩, (h.below.setCell (p := ⟨b, 4, none⟩) h.ge _).setCell (p := ⟨b, 5, none⟩) h.ge _,
    ⟨cell_in h.wk.e1 (by omega) (by omega), cell_in h.wk.a0 (by omega) (by omega), cell_in h.wk.a1 (by omega) (by omega), by rw [World.cell?_setCell_other _ _ _ _ (by simp)]; exact World.cell?_setCell_same _ _ _ h.wk.t0, World.cell?_setCell_same _ _ _ p3⟩, fun o => by rw [World.frozen?_setCell, World.frozen?_setCell]; exact h.fz o⟩
theorem Is.pair {z : Int} {t : Bool} {A : Option Addr} {n c : Nat} (h : Is W z t A n c) {i j : Nat} {x : Bool} {a : Option Addr} {p q : Nat} (hij : i ≠ j) (h0 : W.cell? ⟨b, i, none⟩ = some (.bool x)) (h1 : W.cell? ⟨b, j, none⟩ = some (.slice a p q)) (u v : Value) : Is ((W.setCell ⟨b, i, none⟩ u).setCell ⟨b, j, none⟩ v) z t A n c := by
  refine (h.set_other h0 (by intro z; simp) u).set_other (v := .slice a p q) ?_ (by intro z; simp) v
  rw [World.cell?_setCell_other _ _ _ _ (fun e => hij (by injection e))]
  exact h1
theorem Evm.pair {v mb : Nat} {M : Int} {tm : Bool} {Am : Option Addr} {nm cm : Nat} (h : Evm b v mb M tm Am nm cm W) {i j : Nat} {x : Bool} {a : Option Addr} {p q : Nat} (hij : i ≠ j) (h0 : W.cell? ⟨b, i, none⟩ = some (.bool x)) (h1 : W.cell? ⟨b, j, none⟩ = some (.slice a p q)) (u u' : Value) : Evm b v mb M tm Am nm cm ((W.setCell ⟨b, i, none⟩ u).setCell ⟨b, j, none⟩ u') :=
  ⟨h.ne, h.neb, by simpa [World.setCell] using h.lt, cell_45 h.ne h.vc, ⟨by simpa [World.setCell] using h.bx.lt, cell_45 h.neb h.bx.c0, cell_45 h.neb h.bx.c1, h.bx.is.pair hij h0 h1 u u'⟩, h.sz⟩
theorem Vn.pairc {z : Int} {t : Bool} {A : Option Addr} {n c : Nat} (h : Vn W k z t A n c) {i j : Nat} {x : Bool} {a : Option Addr} {p q : Nat} (hij : i ≠ j) (h0 : W.cell? ⟨b, i, none⟩ = some (.bool x)) (h1 : W.cell? ⟨b, j, none⟩ = some (.slice a p q)) (u v : Value) : Vn ((W.setCell ⟨b, i, none⟩ u).setCell ⟨b, j, none⟩ v) k z t A n c :=
  fun e => ⟨(h e).is.pair hij h0 h1 u v, (h e).sz⟩
end
theorem Vb.next' {w W W' : World} {b g : Nat} {t : Bool} {A : Option Addr} {n c : Nat} (h : Vb w W g t A n c) (hs : Stp b W W') (hne : g ≠ b) : Vb w W' g t A n c :=
  ⟨h.ge, Nat.lt_of_lt_of_le h.lt hs.size, (hs.cell (p := ⟨g, 0, none⟩) h.lt hne).trans h.c0, (hs.cell (p := ⟨g, 1, none⟩) h.lt hne).trans h.c1, (hs.frozen h.lt hne).trans h.f0, (hs.frozen h.lt hne).trans h.f1⟩
/-- a walker modulo M, new -/
def ModPost (T : Nat) (z M : Int) (w : World) (e : Ending) (w' : World) : Prop :=
  ∃ b v mb tm Am nm cm ta Aa na ca tt At nt ct k, e = .returned (.pointer (some ⟨b, 0, none⟩)) ∧ w.heap.size ≤ b ∧ Below w.heap.size w w' ∧
    Ms T b 96 #[.pointer (some ⟨v, 0, none⟩), .pointer (some ⟨mb, 0, none⟩)] (· % M) (Evm b v mb M tm Am nm cm) ((z % M + z % M) % M) (z % M) ta Aa na ca tt At nt ct w' k
set_option maxHeartbeats 8000000 in
theorem modulo_c (T : Nat) (z M : Int) (t : Bool) (A : Option Addr) (n c : Nat) (t' : Bool) (A' : Option Addr) (n' c' : Nat) (w : World) (h : Iv w z t A n c) (h' : Iv w M t' A' n' c') (hM : 0 < M) (hT : 2 * M.natAbs ≤ T) :
    Calls Try.prog 61 #[.agg #[.bool t, .slice A n c], .agg #[.bool t', .slice A' n' c']] w (ModPost T z M w) := by
  have hmf : ∀ (fn : Fn) (first cap : Array Value) (w : World), (Instr.makeFunc fn first cap).run Try.prog w = .ok (.func fn first cap) w := fun _ _ _ _ => rfl
  have hb2 : Below w.heap.size w ((w.alloc (.cells #[.bool t, .slice A n c] 24)).alloc (.cells #[.bool t', .slice A' n' c'] 24)) := ((Below.refl _ _).alloc (Nat.le_refl _) _).alloc (by simp) _
  have hb0 : Below w.heap.size w ((((w.alloc (.cells #[.bool t, .slice A n c] 24)).alloc (.cells #[.bool t', .slice A' n' c'] 24)).alloc (.cells #[.int .i64 0, .func (.func 96) #[] #[.pointer (some ⟨w.heap.size + 1 + 1 + 1, 0, none⟩), .pointer (some ⟨w.heap.size + 1, 0, none⟩)], .bool false, .slice none 0 0, .bool false, .slice none 0 0] 80)).alloc (.cells #[.pointer (some ⟨w.heap.size + 1 + 1, 0, none⟩)] 70)) := (hb2.alloc hb2.size _).alloc (by simp; omega) _
  have HI := Lib.hid (Iv.vn (k := 0) (h.below hb0))
  have HX := Lib.hid (Nx.mk (w := w) (W := ((((w.alloc (.cells #[.bool t, .slice A n c] 24)).alloc (.cells #[.bool t', .slice A' n' c'] 24)).alloc (.cells #[.int .i64 0, .func (.func 96) #[] #[.pointer (some ⟨w.heap.size + 1 + 1 + 1, 0, none⟩), .pointer (some ⟨w.heap.size + 1, 0, none⟩)], .bool false, .slice none 0 0, .bool false, .slice none 0 0] 80)).alloc (.cells #[.pointer (some ⟨w.heap.size + 1 + 1, 0, none⟩)] 70))) (b := w.heap.size + 1 + 1) (f := 96) (caps := #[.pointer (some ⟨w.heap.size + 1 + 1 + 1, 0, none⟩), .pointer (some ⟨w.heap.size + 1, 0, none⟩)]) (t := false) (A := none) (n := 0) (c := 0) (t' := false) (A' := none) (n' := 0) (c' := 0) (k := 0) (by omega) ⟨by simp, by go_simp, by go_simp⟩ hb0 ⟨by go_simp, by go_simp, by go_simp, by go_simp, by go_simp⟩ (fun o => by go_simp))
  have HB := Lib.hid (Vb.mk (w := w) (W := ((((w.alloc (.cells #[.bool t, .slice A n c] 24)).alloc (.cells #[.bool t', .slice A' n' c'] 24)).alloc (.cells #[.int .i64 0, .func (.func 96) #[] #[.pointer (some ⟨w.heap.size + 1 + 1 + 1, 0, none⟩), .pointer (some ⟨w.heap.size + 1, 0, none⟩)], .bool false, .slice none 0 0, .bool false, .slice none 0 0] 80)).alloc (.cells #[.pointer (some ⟨w.heap.size + 1 + 1, 0, none⟩)] 70))) (g := w.heap.size) (t := t) (A := A) (n := n) (c := c) (Nat.le_refl _) (by simp; omega) (by go_simp) (by go_simp) (by go_simp) (by go_simp))
  have HE := Lib.hid (Evm.mk (W := ((((w.alloc (.cells #[.bool t, .slice A n c] 24)).alloc (.cells #[.bool t', .slice A' n' c'] 24)).alloc (.cells #[.int .i64 0, .func (.func 96) #[] #[.pointer (some ⟨w.heap.size + 1 + 1 + 1, 0, none⟩), .pointer (some ⟨w.heap.size + 1, 0, none⟩)], .bool false, .slice none 0 0, .bool false, .slice none 0 0] 80)).alloc (.cells #[.pointer (some ⟨w.heap.size + 1 + 1, 0, none⟩)] 70))) (b := w.heap.size + 1 + 1) (v := w.heap.size + 1 + 1 + 1) (mb := w.heap.size + 1) (M := M) (tm := t') (Am := A') (nm := n') (cm := c') (by omega) (by omega) (by simp) (by go_simp) ⟨by simp, by go_simp, by go_simp, h'.is.below hb0⟩ h'.sz)
  have H0 := Lib.hid hM
  have HT := Lib.hid hT
  have HG := Lib.hid (each_mod T (w.heap.size + 1 + 1) (w.heap.size + 1 + 1 + 1) (w.heap.size + 1) M t' A' n' c' hM (by omega))
  have he1 : 0 ≤ z % M ∧ z % M < M := ⟨Int.emod_nonneg z (by omega), Int.emod_lt_of_pos z hM⟩
  have Q1 := Lib.hid (show (z % M + z % M).natAbs ≤ T by omega)
  have heg := entersMod
  clear h h' hb2 hb0 hM hT he1
  go_enter Try.func61, Try.ntmps61
  go_upto_region 3 with (fail)
  generalize ((((w.alloc (.cells #[.bool t, .slice A n c] 24)).alloc (.cells #[.bool t', .slice A' n' c'] 24)).alloc (.cells #[.int .i64 0, .func (.func 96) #[] #[.pointer (some ⟨w.heap.size + 1 + 1 + 1, 0, none⟩), .pointer (some ⟨w.heap.size + 1, 0, none⟩)], .bool false, .slice none 0 0, .bool false, .slice none 0 0] 80)).alloc (.cells #[.pointer (some ⟨w.heap.size + 1 + 1, 0, none⟩)] 70)) = W0 at HI HX HB HE ⊢
  have a0 := HB.out.c0
  have a1 := HB.out.c1
  have v0 := HE.out.vc
  have e1 := HX.out.wk.e1
  have x0 := HX.out.wk.a0
  have x1 := HX.out.wk.a1
  have f2 := HX.out.fz 2
  have f3 := HX.out.fz 3
  go_region_held3 (fun w' => w'.cell? ⟨w.heap.size, 0, none⟩ = some (.bool t) ∧ w'.cell? ⟨w.heap.size, 1, none⟩ = some (.slice A n c) ∧ w'.cell? ⟨w.heap.size + 1 + 1 + 1, 0, none⟩ = some (.pointer (some ⟨w.heap.size + 1 + 1, 0, none⟩)) ∧ w'.cell? ⟨w.heap.size + 1 + 1, 1, none⟩ = some (.func (.func 96) #[] #[.pointer (some ⟨w.heap.size + 1 + 1 + 1, 0, none⟩), .pointer (some ⟨w.heap.size + 1, 0, none⟩)]))
    (first | (with_reducible exact ⟨a0, a1, v0, e1⟩) | (with_reducible exact ⟨cell_dr a0, cell_dr a1, cell_dr v0, cell_dr e1⟩) | (with_reducible exact ⟨cell_45 (by omega) a0, cell_45 (by omega) a1, cell_45 (by omega) v0, cell_in e1 (by omega) (by omega)⟩) | fail)
    (first
      | (go_at_call 96; (with_reducible refine (modulo1_c T (w.heap.size + 1 + 1) (w.heap.size + 1 + 1 + 1) (w.heap.size + 1) 0 z M t' A' n' c' t A n c _ (HE.out.stp HX.out.cc (Stp.of_below HX.out.cc.lt (Below.refl _ _).drew)) H0.out (by have := HT.out; omega) (HX.out.cc.below (Below.refl _ _).drew) (St.zero T) (Vn.below HI.out (Below.refl _ _).drew)).mono ?_); rintro e W1 ⟨t1, B1, m1, d1, k1, rfl, s0, c1, v1, st1⟩; have s1 := (Stp.of_below HX.out.cc.lt (Below.refl _ _).drew).trans s0; have VA : Hid (Vn _ _ (z % M) _ _ _ _) := fun e => (v1 e).2; have HK := Lib.hid st1; replace HE := Lib.hid (HE.out.stp HX.out.cc s1); replace HB := Lib.hid (HB.out.next' s1 (by omega)); replace HX := Lib.hid (HX.out.next s1 c1); clear s0 s1 c1 v1 st1 a0 a1 v0 e1 x0 x1 f2 f3; have a0 := HB.out.c0; have a1 := HB.out.c1; have v0 := HE.out.vc; have e1 := HX.out.wk.e1; have x0 := HX.out.wk.a0; have x1 := HX.out.wk.a1; have f2 := HX.out.fz 2; have f3 := HX.out.fz 3)
      | fail "no arm")
  replace HE := Lib.hid (HE.out.pair (i := 2) (j := 3) (by omega) x0 x1 (.bool t1) (.slice B1 m1 d1))
  replace VA := Lib.hid (VA.out.pairc (i := 2) (j := 3) (by omega) x0 x1 (.bool t1) (.slice B1 m1 d1))
  replace HX := Lib.hid (HX.out.setA t1 B1 m1 d1)
  clear a0 a1 v0 e1 x0 x1 f2 f3 HB HI
  go_upto_region 4 with (fail)
  generalize (W1.setCell ⟨w.heap.size + 1 + 1, 2, none⟩ (.bool t1)).setCell ⟨w.heap.size + 1 + 1, 3, none⟩ (.slice B1 m1 d1) = W2 at HE VA HX ⊢
  have v0 := HE.out.vc
  have e1 := HX.out.wk.e1
  have a0 := HX.out.wk.a0
  have a1 := HX.out.wk.a1
  have x0 := HX.out.wk.t0
  have x1 := HX.out.wk.t1
  have f2 := HX.out.fz 4
  have f3 := HX.out.fz 5
  go_region_held3 (fun w' => w'.cell? ⟨w.heap.size + 1 + 1, 2, none⟩ = some (.bool t1) ∧ w'.cell? ⟨w.heap.size + 1 + 1, 3, none⟩ = some (.slice B1 m1 d1) ∧ w'.cell? ⟨w.heap.size + 1 + 1 + 1, 0, none⟩ = some (.pointer (some ⟨w.heap.size + 1 + 1, 0, none⟩)) ∧ w'.cell? ⟨w.heap.size + 1 + 1, 1, none⟩ = some (.func (.func 96) #[] #[.pointer (some ⟨w.heap.size + 1 + 1 + 1, 0, none⟩), .pointer (some ⟨w.heap.size + 1, 0, none⟩)]))
    (first | (with_reducible exact ⟨a0, a1, v0, e1⟩) | (with_reducible exact ⟨cell_dr a0, cell_dr a1, cell_dr v0, cell_dr e1⟩) | (with_reducible exact ⟨cell_in a0 (by omega) (by omega), cell_in a1 (by omega) (by omega), cell_45 (by omega) v0, cell_in e1 (by omega) (by omega)⟩) | fail)
    (first
      | (go_at_call 90; (with_reducible refine (cAdd_c T (w.heap.size + 1 + 1) k1 (z % M) (z % M) t1 t1 B1 B1 m1 d1 m1 d1 _ (HX.out.cc.below (Below.refl _ _).drew) HK.out (fun _ => Q1.out) (Vn.pair (Vn.below VA.out (Below.refl _ _).drew) (Vn.below VA.out (Below.refl _ _).drew))).mono ?_); rintro e W3 ⟨t2, B2, m2, d2, k2, rfl, s0, c1, v1, st1⟩; have s1 := (Stp.of_below HX.out.cc.lt (Below.refl _ _).drew).trans s0; have z1 := fun e => (v1 e).1; have VT : Hid (Vn _ _ (z % M + z % M) _ _ _ _) := fun e => (v1 e).2; replace HK := Lib.hid st1; replace VA := Lib.hid (VA.out.next HX.out.cc s1 z1); replace HE := Lib.hid (HE.out.stp HX.out.cc s1); replace HX := Lib.hid (HX.out.next s1 c1); clear s0 s1 c1 v1 st1 z1 a0 a1 v0 e1 x0 x1 f2 f3; have v0 := HE.out.vc; have e1 := HX.out.wk.e1; have a0 := HX.out.wk.a0; have a1 := HX.out.wk.a1; have x0 := HX.out.wk.t0; have x1 := HX.out.wk.t1; have f2 := HX.out.fz 4; have f3 := HX.out.fz 5)
      | (go_at_call 96; (with_reducible refine (modulo1_c T (w.heap.size + 1 + 1) (w.heap.size + 1 + 1 + 1) (w.heap.size + 1) k2 (z % M + z % M) M t' A' n' c' t2 B2 m2 d2 _ HE.out H0.out (by have := HT.out; omega) HX.out.cc HK.out VT.out).mono ?_); rintro e W4 ⟨t3, B3, m3, d3, k3, rfl, s1, c1, v1, st1⟩; have z1 := fun e => (v1 e).1; have VU : Hid (Vn _ _ ((z % M + z % M) % M) _ _ _ _) := fun e => (v1 e).2; replace HK := Lib.hid st1; replace VA := Lib.hid (VA.out.next HX.out.cc s1 z1); replace HE := Lib.hid (HE.out.stp HX.out.cc s1); replace HX := Lib.hid (HX.out.next s1 c1); clear s1 c1 v1 st1 z1 a0 a1 v0 e1 x0 x1 f2 f3; have v0 := HE.out.vc; have e1 := HX.out.wk.e1; have a0 := HX.out.wk.a0; have a1 := HX.out.wk.a1; have x0 := HX.out.wk.t0; have x1 := HX.out.wk.t1; have f2 := HX.out.fz 4; have f3 := HX.out.fz 5)
      | fail "no arm")
  replace HE := Lib.hid (HE.out.pair (i := 4) (j := 5) (by omega) x0 x1 (.bool t3) (.slice B3 m3 d3))
  replace VA := Lib.hid (VA.out.pairc (i := 4) (j := 5) (by omega) x0 x1 (.bool t3) (.slice B3 m3 d3))
  replace VU := Lib.hid (VU.out.pairc (i := 4) (j := 5) (by omega) x0 x1 (.bool t3) (.slice B3 m3 d3))
  replace HX := Lib.hid (HX.out.setT t3 B3 m3 d3)
  clear a0 a1 v0 e1 x0 x1 f2 f3 VT
  go_upto_region 5 with (fail)
  generalize (W4.setCell ⟨w.heap.size + 1 + 1, 4, none⟩ (.bool t3)).setCell ⟨w.heap.size + 1 + 1, 5, none⟩ (.slice B3 m3 d3) = W5 at HE VA VU HX ⊢
  have v0 := HE.out.vc
  go_wp2
  go_ret
  exact ⟨w.heap.size + 1 + 1, w.heap.size + 1 + 1 + 1, w.heap.size + 1, t', A', n', c', t1, B1, m1, d1, t3, B3, m3, d3, k3, rfl, by omega, HX.out.below, HG.out, HX.out.wk, HE.out, HX.out.cc, HK.out, VU.out, VA.out⟩
end Go.Proofs.Ytbblckaplddggaa
