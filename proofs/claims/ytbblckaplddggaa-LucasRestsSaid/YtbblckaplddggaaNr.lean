import Derived.Test.YtbblckaplddggaaNp
import Derived.Laws.EntriesVeiled
import Derived.RangeFuncNested
import Derived.RangeFuncBound
import Derived.RangeFuncCalls
import Derived.RangeFuncLeaves
import Derived.RangeFuncFrom
set_option maxRecDepth 100000
namespace Go.Proofs.Ytbblckaplddggaa
open Go.RowKit Go.Shelf

/-- what the closure of modulo has captured: the walker's variable v, the modulus in the box mb -/
structure Evm (b v mb : Nat) (M : Int) (tm : Bool) (Am : Option Addr) (nm cm : Nat) (W : World) : Prop where
  ne : v ≠ b
  neb : mb ≠ b
  lt : v < W.heap.size
  vc : W.cell? ⟨v, 0, none⟩ = some (.pointer (some ⟨b, 0, none⟩))
  bx : Box W mb M tm Am nm cm
  sz : Sz M 4096
theorem Box.stp {b : Nat} {k : Int} {w w' : World} {g : Nat} {z : Int} {t : Bool} {A : Option Addr} {n c : Nat} (h : Box w g z t A n c) (hc : Cc w b k) (hs : Stp b w w') (hne : g ≠ b) : Box w' g z t A n c :=
  ⟨Nat.lt_of_lt_of_le h.lt hs.size, (hs.cell (p := ⟨g, 0, none⟩) h.lt hne).trans h.c0, (hs.cell (p := ⟨g, 1, none⟩) h.lt hne).trans h.c1, h.is.stp hc hs⟩
theorem Evm.stp {b v mb : Nat} {M k : Int} {tm : Bool} {Am : Option Addr} {nm cm : Nat} {W W' : World} (h : Evm b v mb M tm Am nm cm W) (hc : Cc W b k) (hs : Stp b W W') : Evm b v mb M tm Am nm cm W' :=
  ⟨h.ne, h.neb, Nat.lt_of_lt_of_le h.lt hs.size, (hs.cell (p := ⟨v, 0, none⟩) h.lt h.ne).trans h.vc, h.bx.stp hc hs h.neb, h.sz⟩
set_option maxHeartbeats 2000000 in
theorem modulo1_c (T b v mb : Nat) (k z M : Int) (tm : Bool) (Am : Option Addr) (nm cm : Nat) (t : Bool) (A : Option Addr) (n c : Nat) (w : World) (hE : Evm b v mb M tm Am nm cm w) (hM : 0 < M) (hT : M.natAbs ≤ T) (hc : Cc w b k) (hk : St T k) (hv : Vn w k z t A n c) :
    Calls Try.prog 96 #[.agg #[.bool t, .slice A n c], .pointer (some ⟨v, 0, none⟩), .pointer (some ⟨mb, 0, none⟩)] w (Wv T b k (z % M) w) := by
  have hlt := hc.lt
  have hb0 : Below w.heap.size w ((w.alloc (.cells #[.bool t, .slice A n c] 24)).alloc (.cells #[.bool false, .slice none 0 0] 24)) := ((Below.refl _ _).alloc (Nat.le_refl _) _).alloc (by simp) _
  have s0 := Stp.of_below hlt hb0
  have HE := Lib.hid (hE.stp hc s0)
  have HC := Lib.hid (hc.below hb0)
  have HV := Lib.hid (hv.below hb0)
  have HK := Lib.hid hk
  have HS := Lib.hid s0
  have HB := Lib.hid (Vb.below (w := w) (Vb.new w w t A n c (Nat.le_refl _)) (below_alloc _ (.cells #[.bool false, .slice none 0 0] 24)))
  have HR := Lib.hid (Vb.new1 w w (.cells #[.bool t, .slice A n c] 24) false none 0 0 (Nat.le_refl _))
  have HQ := Lib.hid (show (z % M).natAbs ≤ T by have := Int.emod_nonneg z (show M ≠ 0 by omega); have := Int.emod_lt_of_pos z hM; omega)
  have H0 := Lib.hid (show M ≠ 0 by omega)
  have hv4 := hE.lt
  have hv5 := hE.bx.lt
  clear hb0 s0 hE hc hv hk hM hT
  go_enter Try.func96, Try.ntmps96
  go_upto_region 1 with (fail)
  generalize (w.alloc (.cells #[.bool t, .slice A n c] 24)).alloc (.cells #[.bool false, .slice none 0 0] 24) = W0 at HE HC HV HS HB HR ⊢
  have a0 := HB.out.c0
  have a1 := HB.out.c1
  have v0 := HE.out.vc
  have m0 := HE.out.bx.c0
  have m1 := HE.out.bx.c1
  go_region_held3 (fun w' => w'.cell? ⟨w.heap.size, 0, none⟩ = some (.bool t) ∧ w'.cell? ⟨w.heap.size, 1, none⟩ = some (.slice A n c) ∧ w'.cell? ⟨v, 0, none⟩ = some (.pointer (some ⟨b, 0, none⟩)) ∧ w'.cell? ⟨mb, 0, none⟩ = some (.bool tm) ∧ w'.cell? ⟨mb, 1, none⟩ = some (.slice Am nm cm))
    (first | (with_reducible exact ⟨a0, a1, v0, m0, m1⟩) | (with_reducible exact ⟨cell_dr a0, cell_dr a1, cell_dr v0, cell_dr m0, cell_dr m1⟩) | (with_reducible exact ⟨cell_two (by omega) a0, cell_two (by omega) a1, cell_two (by omega) v0, cell_two (by omega) m0, cell_two (by omega) m1⟩) | fail)
    (first
      | (go_at_call 97; (with_reducible refine (cRest_c T b k z M t tm A Am n c nm cm _ (HC.out.below (Below.refl _ _).drew) HK.out (fun _ => HQ.out) H0.out (Vn.pair (Vn.below HV.out (Below.refl _ _).drew) (Iv.vn ⟨HE.out.bx.is.below (Below.refl _ _).drew, HE.out.sz⟩))).mono ?_); rintro e W1 ⟨t1, B1, m9, d1, k1, rfl, s0, c1, v1, st1⟩; have s1 := (Stp.of_below HC.out.lt (Below.refl _ _).drew).trans s0; have y0 := HB.out.next s1 hlt; have y1 := HR.out.next s1 hlt; have y2 := HE.out.stp HC.out s1; have H1 := Lib.hid (And.intro (HS.out.trans s1) (And.intro c1 (And.intro v1 st1))); clear a0 a1 v0 m0 m1 s0 s1 c1 v1 st1; have a0 := y0.c0; have a1 := y0.c1; have v0 := y2.vc; have m0 := y2.bx.c0; have m1 := y2.bx.c1; have HR1 := Lib.hid y1; have r0 := y1.c0; have r1 := y1.c1; have f0 := y1.f0; have f1 := y1.f1; clear y0 y1 y2)
      | fail "no arm")
  go_wp2
  have hne : w.heap.size + 1 ≠ b := by omega
  refine bodyPost_ret (v := .agg #[.bool t1, .slice B1 m9 d1]) (by simp [results, Try.results96, go_sem, r0, r1]) rfl ?_
  obtain ⟨h1, h2, h3, h4⟩ := H1.out
  exact ⟨t1, B1, m9, d1, k1, rfl, h1.two (by omega) hne _ _, h2.two hne _ _, fun e => ⟨(h3 e).1, (h3 e).2.two r0 r1 _ _⟩, h4⟩
end Go.Proofs.Ytbblckaplddggaa
set_option maxRecDepth 100000
namespace Go.Proofs.Ytbblckaplddggaa
open Go.RowKit Go.Shelf
theorem entersMod : ∀ args w, (callFunc 96 args).run Try.prog w = .ok (.enter 96 args) w := enters_of Try.func96 (by kernel_rfl) rfl
theorem each_mod (T b v mb : Nat) (M : Int) (tm : Bool) (Am : Option Addr) (nm cm : Nat) (hM : 0 < M) (hT : M.natAbs ≤ T) :
    Each T b 96 #[.pointer (some ⟨v, 0, none⟩), .pointer (some ⟨mb, 0, none⟩)] (· % M) (Evm b v mb M tm Am nm cm) :=
  ⟨entersMod, fun _ _ _ h hc hs => h.stp hc hs, fun w k z t A n c hE hc hk hv => by simpa using modulo1_c T b v mb k z M tm Am nm cm t A n c w hE hM hT hc hk hv⟩
theorem cell_in {W : World} {b o i j : Nat} {x u v : Value} (h : W.cell? ⟨b, o, none⟩ = some x) (hi : i ≠ o) (hj : j ≠ o) : ((W.setCell ⟨b, i, none⟩ u).setCell ⟨b, j, none⟩ v).cell? ⟨b, o, none⟩ = some x := by
  rw [World.cell?_setCell_other _ _ _ _ (fun e => hj (by injection e)), World.cell?_setCell_other _ _ _ _ (fun e => hi (by injection e))]
  exact h
/-- a walker's block that is being filled -/
structure Nx (w W : World) (b f : Nat) (caps : Array Value) (t : Bool) (A : Option Addr) (n c : Nat) (t' : Bool) (A' : Option Addr) (n' c' : Nat) (k : Int) : Prop where
  ge : w.heap.size ≤ b
  cc : Cc W b k
  below : Below w.heap.size w W
  wk : Wk W b f caps t A n c t' A' n' c'
  fz : ∀ o, W.frozen? ⟨b, o, none⟩ = false
section
variable {w W W' : World} {b f : Nat} {caps : Array Value} {t : Bool} {A : Option Addr} {n c : Nat} {t' : Bool} {A' : Option Addr} {n' c' : Nat} {k k' : Int}
theorem Nx.next (h : Nx w W b f caps t A n c t' A' n' c' k) (hs : Stp b W W') (hc : Cc W' b k') : Nx w W' b f caps t A n c t' A' n' c' k' :=
  ⟨h.ge, hc, h.below.trans (hs.below h.below.size h.ge), h.wk.stp hs, fun o => (hs.frz o).trans (h.fz o)⟩
theorem Nx.setA (h : Nx w W b f caps t A n c t' A' n' c' k) (t1 : Bool) (A1 : Option Addr) (n1 c1 : Nat) : Nx w ((W.setCell ⟨b, 2, none⟩ (.bool t1)).setCell ⟨b, 3, none⟩ (.slice A1 n1 c1)) b f caps t1 A1 n1 c1 t' A' n' c' k := by
  have p3 : (W.setCell ⟨b, 2, none⟩ (.bool t1)).cell? ⟨b, 3, none⟩ = some (.slice A n c) := by rw [World.cell?_setCell_other _ _ _ _ (by simp)]; exact h.wk.a1
  exact ⟨h.ge, ⟨by simpa [World.setCell] using h.cc.lt, cell_in h.cc.c0 (by omega) (by omega), by rw [World.frozen?_setCell, World.frozen?_setCell]; exact h.cc.f0⟩, (h.below.setCell (p := ⟨b, 2, none⟩) h.ge _).setCell (p := ⟨b, 3, none⟩) h.ge _,
    ⟨cell_in h.wk.e1 (by omega) (by omega), by rw [World.cell?_setCell_other _ _ _ _ (by simp)]; exact World.cell?_setCell_same _ _ _ h.wk.a0, World.cell?_setCell_same _ _ _ p3, cell_in h.wk.t0 (by omega) (by omega), cell_in h.wk.t1 (by omega) (by omega)⟩, fun o => by rw [World.frozen?_setCell, World.frozen?_setCell]; exact h.fz o⟩
theorem Nx.setT (h : Nx w W b f caps t A n c t' A' n' c' k) (t1 : Bool) (A1 : Option Addr) (n1 c1 : Nat) : Nx w ((W.setCell ⟨b, 4, none⟩ (.bool t1)).setCell ⟨b, 5, none⟩ (.slice A1 n1 c1)) b f caps t A n c t1 A1 n1 c1 k := by
  have p3 : (W.setCell ⟨b, 4, none⟩ (.bool t1)).cell? ⟨b, 5, none⟩ = some (.slice A' n' c') := by rw [World.cell?_setCell_other _ _ _ _ (by simp)]; exact h.wk.t1
  exact ⟨h.ge, ⟨by simpa [World.setCell] using h.cc.lt, cell_in h.cc.c0 (by omega) (by omega), by rw [World.frozen?_setCell, World.frozen?_setCell]; exact h.cc.f0⟩, (h.below.setCell (p := ⟨b, 4, none⟩) h.ge _).setCell (p := ⟨b, 5, none⟩) h.ge _,
    ⟨cell_in h.wk.e1 (by omega) (by omega), cell_in h.wk.a0 (by omega) (by omega), cell_in h.wk.a1 (by omega) (by omega), by rw [World.cell?_setCell_other _ _ _ _ (by simp)]; exact World.cell?_setCell_same _ _ _ h.wk.t0, World.cell?_setCell_same _ _ _ p3⟩, fun o => by rw [World.frozen?_setCell, World.frozen?_setCell]; exact h.fz o⟩
theorem Is.pair {z : Int} {t : Bool} {A : Option Addr} {n c : Nat} (h : Is W z t A n c) {i j : Nat} {x : Bool} {a : Option Addr} {p q : Nat} (hij : i ≠ j) (h0 : W.cell? ⟨b, i, none⟩ = some (.bool x)) (h1 : W.cell? ⟨b, j, none⟩ = some (.slice a p q)) (u v : Value) : Is ((W.setCell ⟨b, i, none⟩ u).setCell ⟨b, j, none⟩ v) z t A n c := by
  refine (h.set_other h0 (by intro z; simp) u).set_other (v := .slice a p q) ?_ (by intro z; simp) v
  rw [World.cell?_setCell_other _ _ _ _ (fun e => hij (by injection e))]
  exact h1
theorem Evm.pair {v mb : Nat} {M : Int} {tm : Bool} {Am : Option Addr} {nm cm : Nat} (h : Evm b v mb M tm Am nm cm W) {i j : Nat} {x : Bool} {a : Option Addr} {p q : Nat} (hij : i ≠ j) (h0 : W.cell? ⟨b, i, none⟩ = some (.bool x)) (h1 : W.cell? ⟨b, j, none⟩ = some (.slice a p q)) (u u' : Value) : Evm b v mb M tm Am nm cm ((W.setCell ⟨b, i, none⟩ u).setCell ⟨b, j, none⟩ u') :=
  ⟨h.ne, h.neb, by simpa [World.setCell] using h.lt, cell_45 h.ne h.vc, ⟨by simpa [World.setCell] using h.bx.lt, cell_45 h.neb h.bx.c0, cell_45 h.neb h.bx.c1, h.bx.is.pair hij h0 h1 u u'⟩, h.sz⟩
theorem Vn.pairc {z : Int} {t : Bool} {A : Option Addr} {n c : Nat} (h : Vn W k z t A n c) {i j : Nat} {x : Bool} {a : Option Addr} {p q : Nat} (hij : i ≠ j) (h0 : W.cell? ⟨b, i, none⟩ = some (.bool x)) (h1 : W.cell? ⟨b, j, none⟩ = some (.slice a p q)) (u v : Value) : Vn ((W.setCell ⟨b, i, none⟩ u).setCell ⟨b, j, none⟩ v) k z t A n c :=
  fun e => ⟨(h e).is.pair hij h0 h1 u v, (h e).sz⟩
end
theorem Vb.next' {w W W' : World} {b g : Nat} {t : Bool} {A : Option Addr} {n c : Nat} (h : Vb w W g t A n c) (hs : Stp b W W') (hne : g ≠ b) : Vb w W' g t A n c :=
  ⟨h.ge, Nat.lt_of_lt_of_le h.lt hs.size, (hs.cell (p := ⟨g, 0, none⟩) h.lt hne).trans h.c0, (hs.cell (p := ⟨g, 1, none⟩) h.lt hne).trans h.c1, (hs.frozen h.lt hne).trans h.f0, (hs.frozen h.lt hne).trans h.f1⟩
/-- a walker modulo M, new -/
def ModPost (T : Nat) (z M : Int) (w : World) (e : Ending) (w' : World) : Prop :=
  ∃ b v mb tm Am nm cm ta Aa na ca tt At nt ct k, e = .returned (.pointer (some ⟨b, 0, none⟩)) ∧ w.heap.size ≤ b ∧ Below w.heap.size w w' ∧
    Ms T b 96 #[.pointer (some ⟨v, 0, none⟩), .pointer (some ⟨mb, 0, none⟩)] (· % M) (Evm b v mb M tm Am nm cm) ((z % M + z % M) % M) (z % M) ta Aa na ca tt At nt ct w' k
set_option maxHeartbeats 8000000 in
theorem modulo_c (T : Nat) (z M : Int) (t : Bool) (A : Option Addr) (n c : Nat) (t' : Bool) (A' : Option Addr) (n' c' : Nat) (w : World) (h : Iv w z t A n c) (h' : Iv w M t' A' n' c') (hM : 0 < M) (hT : 2 * M.natAbs ≤ T) :
    Calls Try.prog 61 #[.agg #[.bool t, .slice A n c], .agg #[.bool t', .slice A' n' c']] w (ModPost T z M w) := by
  have hmf : ∀ (fn : Fn) (first cap : Array Value) (w : World), (Instr.makeFunc fn first cap).run Try.prog w = .ok (.func fn first cap) w := fun _ _ _ _ => rfl
  have hb2 : Below w.heap.size w ((w.alloc (.cells #[.bool t, .slice A n c] 24)).alloc (.cells #[.bool t', .slice A' n' c'] 24)) := ((Below.refl _ _).alloc (Nat.le_refl _) _).alloc (by simp) _
  have hb0 : Below w.heap.size w ((((w.alloc (.cells #[.bool t, .slice A n c] 24)).alloc (.cells #[.bool t', .slice A' n' c'] 24)).alloc (.cells #[.int .i64 0, .func (.func 96) #[] #[.pointer (some ⟨w.heap.size + 1 + 1 + 1, 0, none⟩), .pointer (some ⟨w.heap.size + 1, 0, none⟩)], .bool false, .slice none 0 0, .bool false, .slice none 0 0] 80)).alloc (.cells #[.pointer (some ⟨w.heap.size + 1 + 1, 0, none⟩)] 70)) := (hb2.alloc hb2.size _).alloc (by simp; omega) _
  have HI := Lib.hid (Iv.vn (k := 0) (h.below hb0))
  have HX := Lib.hid (Nx.mk (w := w) (W := ((((w.alloc (.cells #[.bool t, .slice A n c] 24)).alloc (.cells #[.bool t', .slice A' n' c'] 24)).alloc (.cells #[.int .i64 0, .func (.func 96) #[] #[.pointer (some ⟨w.heap.size + 1 + 1 + 1, 0, none⟩), .pointer (some ⟨w.heap.size + 1, 0, none⟩)], .bool false, .slice none 0 0, .bool false, .slice none 0 0] 80)).alloc (.cells #[.pointer (some ⟨w.heap.size + 1 + 1, 0, none⟩)] 70))) (b := w.heap.size + 1 + 1) (f := 96) (caps := #[.pointer (some ⟨w.heap.size + 1 + 1 + 1, 0, none⟩), .pointer (some ⟨w.heap.size + 1, 0, none⟩)]) (t := false) (A := none) (n := 0) (c := 0) (t' := false) (A' := none) (n' := 0) (c' := 0) (k := 0) (by omega) ⟨by simp, by go_simp, by go_simp⟩ hb0 ⟨by go_simp, by go_simp, by go_simp, by go_simp, by go_simp⟩ (fun o => by go_simp))
  have HB := Lib.hid (Vb.mk (w := w) (W := ((((w.alloc (.cells #[.bool t, .slice A n c] 24)).alloc (.cells #[.bool t', .slice A' n' c'] 24)).alloc (.cells #[.int .i64 0, .func (.func 96) #[] #[.pointer (some ⟨w.heap.size + 1 + 1 + 1, 0, none⟩), .pointer (some ⟨w.heap.size + 1, 0, none⟩)], .bool false, .slice none 0 0, .bool false, .slice none 0 0] 80)).alloc (.cells #[.pointer (some ⟨w.heap.size + 1 + 1, 0, none⟩)] 70))) (g := w.heap.size) (t := t) (A := A) (n := n) (c := c) (Nat.le_refl _) (by simp; omega) (by go_simp) (by go_simp) (by go_simp) (by go_simp))
  have HE := Lib.hid (Evm.mk (W := ((((w.alloc (.cells #[.bool t, .slice A n c] 24)).alloc (.cells #[.bool t', .slice A' n' c'] 24)).alloc (.cells #[.int .i64 0, .func (.func 96) #[] #[.pointer (some ⟨w.heap.size + 1 + 1 + 1, 0, none⟩), .pointer (some ⟨w.heap.size + 1, 0, none⟩)], .bool false, .slice none 0 0, .bool false, .slice none 0 0] 80)).alloc (.cells #[.pointer (some ⟨w.heap.size + 1 + 1, 0, none⟩)] 70))) (b := w.heap.size + 1 + 1) (v := w.heap.size + 1 + 1 + 1) (mb := w.heap.size + 1) (M := M) (tm := t') (Am := A') (nm := n') (cm := c') (by omega) (by omega) (by simp) (by go_simp) ⟨by simp, by go_simp, by go_simp, h'.is.below hb0⟩ h'.sz)
  have H0 := Lib.hid hM
  have HT := Lib.hid hT
  have HG := Lib.hid (each_mod T (w.heap.size + 1 + 1) (w.heap.size + 1 + 1 + 1) (w.heap.size + 1) M t' A' n' c' hM (by omega))
  have he1 : 0 ≤ z % M ∧ z % M < M := ⟨Int.emod_nonneg z (by omega), Int.emod_lt_of_pos z hM⟩
  have Q1 := Lib.hid (show (z % M + z % M).natAbs ≤ T by omega)
  have heg := entersMod
  clear h h' hb2 hb0 hM hT he1
  go_enter Try.func61, Try.ntmps61
  go_upto_region 3 with (fail)
  generalize ((((w.alloc (.cells #[.bool t, .slice A n c] 24)).alloc (.cells #[.bool t', .slice A' n' c'] 24)).alloc (.cells #[.int .i64 0, .func (.func 96) #[] #[.pointer (some ⟨w.heap.size + 1 + 1 + 1, 0, none⟩), .pointer (some ⟨w.heap.size + 1, 0, none⟩)], .bool false, .slice none 0 0, .bool false, .slice none 0 0] 80)).alloc (.cells #[.pointer (some ⟨w.heap.size + 1 + 1, 0, none⟩)] 70)) = W0 at HI HX HB HE ⊢
  have a0 := HB.out.c0
  have a1 := HB.out.c1
  have v0 := HE.out.vc
  have e1 := HX.out.wk.e1
  have x0 := HX.out.wk.a0
  have x1 := HX.out.wk.a1
  have f2 := HX.out.fz 2
  have f3 := HX.out.fz 3
  go_region_held3 (fun w' => w'.cell? ⟨w.heap.size, 0, none⟩ = some (.bool t) ∧ w'.cell? ⟨w.heap.size, 1, none⟩ = some (.slice A n c) ∧ w'.cell? ⟨w.heap.size + 1 + 1 + 1, 0, none⟩ = some (.pointer (some ⟨w.heap.size + 1 + 1, 0, none⟩)) ∧ w'.cell? ⟨w.heap.size + 1 + 1, 1, none⟩ = some (.func (.func 96) #[] #[.pointer (some ⟨w.heap.size + 1 + 1 + 1, 0, none⟩), .pointer (some ⟨w.heap.size + 1, 0, none⟩)]))
    (first | (with_reducible exact ⟨a0, a1, v0, e1⟩) | (with_reducible exact ⟨cell_dr a0, cell_dr a1, cell_dr v0, cell_dr e1⟩) | (with_reducible exact ⟨cell_45 (by omega) a0, cell_45 (by omega) a1, cell_45 (by omega) v0, cell_in e1 (by omega) (by omega)⟩) | fail)
    (first
      | (go_at_call 96; (with_reducible refine (modulo1_c T (w.heap.size + 1 + 1) (w.heap.size + 1 + 1 + 1) (w.heap.size + 1) 0 z M t' A' n' c' t A n c _ (HE.out.stp HX.out.cc (Stp.of_below HX.out.cc.lt (Below.refl _ _).drew)) H0.out (by have := HT.out; omega) (HX.out.cc.below (Below.refl _ _).drew) (St.zero T) (Vn.below HI.out (Below.refl _ _).drew)).mono ?_); rintro e W1 ⟨t1, B1, m1, d1, k1, rfl, s0, c1, v1, st1⟩; have s1 := (Stp.of_below HX.out.cc.lt (Below.refl _ _).drew).trans s0; have VA : Hid (Vn _ _ (z % M) _ _ _ _) := fun e => (v1 e).2; have HK := Lib.hid st1; replace HE := Lib.hid (HE.out.stp HX.out.cc s1); replace HB := Lib.hid (HB.out.next' s1 (by omega)); replace HX := Lib.hid (HX.out.next s1 c1); clear s0 s1 c1 v1 st1 a0 a1 v0 e1 x0 x1 f2 f3; have a0 := HB.out.c0; have a1 := HB.out.c1; have v0 := HE.out.vc; have e1 := HX.out.wk.e1; have x0 := HX.out.wk.a0; have x1 := HX.out.wk.a1; have f2 := HX.out.fz 2; have f3 := HX.out.fz 3)
      | fail "no arm")
  replace HE := Lib.hid (HE.out.pair (i := 2) (j := 3) (by omega) x0 x1 (.bool t1) (.slice B1 m1 d1))
  replace VA := Lib.hid (VA.out.pairc (i := 2) (j := 3) (by omega) x0 x1 (.bool t1) (.slice B1 m1 d1))
  replace HX := Lib.hid (HX.out.setA t1 B1 m1 d1)
  clear a0 a1 v0 e1 x0 x1 f2 f3 HB HI
  go_upto_region 4 with (fail)
  generalize (W1.setCell ⟨w.heap.size + 1 + 1, 2, none⟩ (.bool t1)).setCell ⟨w.heap.size + 1 + 1, 3, none⟩ (.slice B1 m1 d1) = W2 at HE VA HX ⊢
  have v0 := HE.out.vc
  have e1 := HX.out.wk.e1
  have a0 := HX.out.wk.a0
  have a1 := HX.out.wk.a1
  have x0 := HX.out.wk.t0
  have x1 := HX.out.wk.t1
  have f2 := HX.out.fz 4
  have f3 := HX.out.fz 5
  go_region_held3 (fun w' => w'.cell? ⟨w.heap.size + 1 + 1, 2, none⟩ = some (.bool t1) ∧ w'.cell? ⟨w.heap.size + 1 + 1, 3, none⟩ = some (.slice B1 m1 d1) ∧ w'.cell? ⟨w.heap.size + 1 + 1 + 1, 0, none⟩ = some (.pointer (some ⟨w.heap.size + 1 + 1, 0, none⟩)) ∧ w'.cell? ⟨w.heap.size + 1 + 1, 1, none⟩ = some (.func (.func 96) #[] #[.pointer (some ⟨w.heap.size + 1 + 1 + 1, 0, none⟩), .pointer (some ⟨w.heap.size + 1, 0, none⟩)]))
    (first | (with_reducible exact ⟨a0, a1, v0, e1⟩) | (with_reducible exact ⟨cell_dr a0, cell_dr a1, cell_dr v0, cell_dr e1⟩) | (with_reducible exact ⟨cell_in a0 (by omega) (by omega), cell_in a1 (by omega) (by omega), cell_45 (by omega) v0, cell_in e1 (by omega) (by omega)⟩) | fail)
    (first
      | (go_at_call 90; (with_reducible refine (cAdd_c T (w.heap.size + 1 + 1) k1 (z % M) (z % M) t1 t1 B1 B1 m1 d1 m1 d1 _ (HX.out.cc.below (Below.refl _ _).drew) HK.out (fun _ => Q1.out) (Vn.pair (Vn.below VA.out (Below.refl _ _).drew) (Vn.below VA.out (Below.refl _ _).drew))).mono ?_); rintro e W3 ⟨t2, B2, m2, d2, k2, rfl, s0, c1, v1, st1⟩; have s1 := (Stp.of_below HX.out.cc.lt (Below.refl _ _).drew).trans s0; have z1 := fun e => (v1 e).1; have VT : Hid (Vn _ _ (z % M + z % M) _ _ _ _) := fun e => (v1 e).2; replace HK := Lib.hid st1; replace VA := Lib.hid (VA.out.next HX.out.cc s1 z1); replace HE := Lib.hid (HE.out.stp HX.out.cc s1); replace HX := Lib.hid (HX.out.next s1 c1); clear s0 s1 c1 v1 st1 z1 a0 a1 v0 e1 x0 x1 f2 f3; have v0 := HE.out.vc; have e1 := HX.out.wk.e1; have a0 := HX.out.wk.a0; have a1 := HX.out.wk.a1; have x0 := HX.out.wk.t0; have x1 := HX.out.wk.t1; have f2 := HX.out.fz 4; have f3 := HX.out.fz 5)
      | (go_at_call 96; (with_reducible refine (modulo1_c T (w.heap.size + 1 + 1) (w.heap.size + 1 + 1 + 1) (w.heap.size + 1) k2 (z % M + z % M) M t' A' n' c' t2 B2 m2 d2 _ HE.out H0.out (by have := HT.out; omega) HX.out.cc HK.out VT.out).mono ?_); rintro e W4 ⟨t3, B3, m3, d3, k3, rfl, s1, c1, v1, st1⟩; have z1 := fun e => (v1 e).1; have VU : Hid (Vn _ _ ((z % M + z % M) % M) _ _ _ _) := fun e => (v1 e).2; replace HK := Lib.hid st1; replace VA := Lib.hid (VA.out.next HX.out.cc s1 z1); replace HE := Lib.hid (HE.out.stp HX.out.cc s1); replace HX := Lib.hid (HX.out.next s1 c1); clear s1 c1 v1 st1 z1 a0 a1 v0 e1 x0 x1 f2 f3; have v0 := HE.out.vc; have e1 := HX.out.wk.e1; have a0 := HX.out.wk.a0; have a1 := HX.out.wk.a1; have x0 := HX.out.wk.t0; have x1 := HX.out.wk.t1; have f2 := HX.out.fz 4; have f3 := HX.out.fz 5)
      | fail "no arm")
  replace HE := Lib.hid (HE.out.pair (i := 4) (j := 5) (by omega) x0 x1 (.bool t3) (.slice B3 m3 d3))
  replace VA := Lib.hid (VA.out.pairc (i := 4) (j := 5) (by omega) x0 x1 (.bool t3) (.slice B3 m3 d3))
  replace VU := Lib.hid (VU.out.pairc (i := 4) (j := 5) (by omega) x0 x1 (.bool t3) (.slice B3 m3 d3))
  replace HX := Lib.hid (HX.out.setT t3 B3 m3 d3)
  clear a0 a1 v0 e1 x0 x1 f2 f3 VT
  go_upto_region 5 with (fail)
  generalize (W4.setCell ⟨w.heap.size + 1 + 1, 4, none⟩ (.bool t3)).setCell ⟨w.heap.size + 1 + 1, 5, none⟩ (.slice B3 m3 d3) = W5 at HE VA VU HX ⊢
  have v0 := HE.out.vc
  go_wp2
  go_ret
  exact ⟨w.heap.size + 1 + 1, w.heap.size + 1 + 1 + 1, w.heap.size + 1, t', A', n', c', t1, B1, m1, d1, t3, B3, m3, d3, k3, rfl, by omega, HX.out.below, HG.out, HX.out.wk, HE.out, HX.out.cc, HK.out, VU.out, VA.out⟩
end Go.Proofs.Ytbblckaplddggaa
/-
  A range over a function that never ends by itself: the caller's own invariant bounds the rounds. Plain of any program. Nothing here is a claim.
-/
namespace Go.Proofs.Ytbblckaplddggaa
open Go.RowKit

/-- the blocks of cells that there are stay as they are -/
def Kc (W W' : World) : Prop := W.heap.size ≤ W'.heap.size ∧ ∀ (i : Nat) (o : Obj), W.heap[i]? = some o → o.isCells = true → W'.heap[i]? = some o
theorem Kc.trans {A B C : World} (h : Kc A B) (k : Kc B C) : Kc A C := ⟨Nat.le_trans h.1 k.1, fun i o hi ho => k.2 i o (h.2 i o hi ho) ho⟩
theorem Kc.put (W : World) (l : Nat) {o : Obj} (o' : Obj) (h : W.heap[l]? = some o) (ho : o.isCells = false) : Kc W (W.putObj l o') :=
  ⟨(grownBy_putObj' W l o').size, fun i x hi hx => by
    by_cases e : i = l
    · subst e; rw [h] at hi; injection hi with hi; subst hi; rw [ho] at hx; cases hx
    · exact (World.putObj_heap_other e).trans hi⟩
theorem Kc.of_below {W W' : World} (h : Below W.heap.size W W') : Kc W W' := ⟨h.size, fun i _ hi _ => (h.block i (Array.getElem?_eq_some_iff.1 hi).1).trans hi⟩

/-- blocks below D stay as they are, but for cell 0 of block b -/
structure Sto (D b : Nat) (W W' : World) : Prop where
  bel : Below 0 W W'
  block : ∀ i, i < D → i ≠ b → W'.heap[i]? = W.heap[i]?
  own : ∀ o, o ≠ 0 → W'.cell? ⟨b, o, none⟩ = W.cell? ⟨b, o, none⟩
  frz : ∀ o, W'.frozen? ⟨b, o, none⟩ = W.frozen? ⟨b, o, none⟩
theorem Sto.size {D b : Nat} {W W' : World} (h : Sto D b W W') : W.heap.size ≤ W'.heap.size := h.bel.size
theorem Sto.trans {D b : Nat} {A B C : World} (h : Sto D b A B) (k : Sto D b B C) : Sto D b A C :=
  ⟨h.bel.trans k.bel, fun i hi hn => (k.block i hi hn).trans (h.block i hi hn), fun o ho => (k.own o ho).trans (h.own o ho), fun o => (k.frz o).trans (h.frz o)⟩
theorem Sto.of_stp {D b : Nat} {W W' : World} (h : Stp b W W') (hD : D ≤ W.heap.size) : Sto D b W W' :=
  ⟨h.below (Nat.zero_le _) (Nat.zero_le _), fun i hi hn => h.grown.block i (by omega) (fun e => hn (by injection e)), h.own, h.frz⟩
theorem Sto.le {D D' b : Nat} {W W' : World} (h : Sto D b W W') (hD : D' ≤ D) : Sto D' b W W' := ⟨h.bel, fun i hi hn => h.block i (by omega) hn, h.own, h.frz⟩
theorem Sto.two {D b g : Nat} {W W' : World} (h : Sto D b W W') (hg : D ≤ g) (hne : g ≠ b) (u v : Value) : Sto D b W ((W'.setCell ⟨g, 0, none⟩ u).setCell ⟨g, 1, none⟩ v) := by
  refine ⟨⟨h.bel.os, h.bel.tape, h.bel.output, by rw [size_pair]; exact h.bel.size, fun k hk => absurd hk (Nat.not_lt_zero k)⟩, fun i hi hn => ?_, fun o ho => ?_, fun o => by rw [frozen_pair]; exact h.frz o⟩
  · rw [Below.heap_setCell _ _ _ _ (by simp; omega), Below.heap_setCell _ _ _ _ (by simp; omega)]; exact h.block i hi hn
  · rw [World.cell?_setCell_other _ _ _ _ (by intro e; injection e with e; exact hne e), World.cell?_setCell_other _ _ _ _ (by intro e; injection e with e; exact hne e)]
    exact h.own o ho
theorem Sto.cell {D b : Nat} {W W' : World} (h : Sto D b W W') {p : Addr} (hp : p.block < D) (hne : p.block ≠ b) : W'.cell? p = W.cell? p := World.cell?_of_block (h.block p.block hp hne)
theorem Sto.frozen {D b : Nat} {W W' : World} (h : Sto D b W W') {g o : Nat} (hp : g < D) (hne : g ≠ b) : W'.frozen? ⟨g, o, none⟩ = W.frozen? ⟨g, o, none⟩ := by
  have := h.block g hp hne
  simp [World.frozen?, this]

/-- how a round of the caller's body may end -/
def RoundEnd {α : Type} (I : List α → World → Prop) (Ix : Code → List α → World → Prop) (xs : List α) (W : World) : Exit → Act → World → Prop
  | .normal, _, W' => KeepsOthers W W' ∧ Kc W W' ∧ I xs W'
  | .ret, _, W' => KeepsOthers W W' ∧ Ix .ret xs W'
  | .exit id, _, W' => KeepsOthers W W' ∧ Ix (.exit id) xs W'
  | _, _, _ => False

/-- the iterator g with what it has captured: it calls for round after round, and ends where a round says so; no more than N rounds go on; it writes into cell 0 of block b alone -/
def Endless {α : Type} (P : Program) (g : Nat) (lb : Array Value) (encs : α → Array Value) (Ok : List α → α → Prop) (N b : Nat) (w : World) : Prop :=
  ∀ (l : Nat) (J Jx : List α → World → Prop) (W : World), Below w.heap.size w W → (∀ pre W1 W2, J pre W1 → Sto W.heap.size b W1 W2 → J pre W2) → (∀ pre W1, J pre W1 → pre.length < N) →
    (∀ pre x W1, J pre W1 → Ok pre x → YieldAt Fence.wide 2 P l (encs x) W1 fun e W' => (e = .returned (.bool true) ∧ J (pre ++ [x]) W' ∧ Kc W1 W') ∨ (e = .returned (.bool false) ∧ Jx (pre ++ [x]) W')) →
    J [] W → Calls P g (#[.func (.yield l) #[] #[]] ++ lb) W fun e W' => (∃ v, e = .returned v) ∧ ∃ pre, Jx pre W'

theorem wp_range_endless {α : Type} {P : Program} {g : Operand} {ps : Array Tmp} {assign body : Code} {Q : Exit → Act → World → Prop} {a : Act} {w : World} {gf : Nat} {lb : Array Value}
    (hg : a.eval g = .func (.func gf) #[] lb) (eg : ∀ args w, (callFunc gf args).run P w = .ok (.enter gf args) w) {encs : α → Array Value} {Ok : List α → α → Prop} {N b : Nat} (hb : b < w.heap.size) (hseq : Endless P gf lb encs Ok N b w) (hps : ∀ x, (encs x).size = ps.size)
    (I : List α → World → Prop) (Ix : Code → List α → World → Prop) (hI : OwnFrom w.heap.size I) (hIx : ∀ c, OwnFrom w.heap.size (Ix c)) (hS : ∀ pre W W', I pre W → Sto w.heap.size b W W' → I pre W') (hN : ∀ pre W, I pre W → pre.length < N) (h0 : I [] w) (a₁ : α → Act)
    (hassign : ∀ (l : Nat) (x : α) (W : World) (K : Act → World → Prop), K (a₁ x) W →
      assign.wpIn (Fence.wide.inRound l) 2 P (Exit.then K (fun _ _ _ => False)) { tmps := (ps.zip (encs x)).foldl (fun t (p, v) => t.setIfInBounds p v) a.tmps, defers := [] } W)
    (hbody : ∀ (l : Nat) (pre : List α) (x : α) (W : World), I pre W → Ok pre x → body.wpIn (Fence.wide.inRound l) 2 P (RoundEnd I Ix (pre ++ [x]) W) (a₁ x) W)
    (hstop : ∀ (D : Nat) (c : Code) (pre : List α) (W : World), w.heap.size ≤ D → Ix c pre W → W.heap[D]? = some (.deferred (some [])) → c.wp P Q { a with defers := { target := .collected D, args := #[] } :: a.defers } W) :
    (Code.rangeFunc g ps assign body).wp P Q a w := by
  refine (wpIn_wide (n := 3)).1 (wpIn_rangeFunc ?_)
  intro fn hfn
  obtain ⟨rec, hrec⟩ : ∃ rec : LoopState → Option Code → Loop, rec = fun st pe => { state := st, pending := pe, fn, tmps := a.tmps, params := ps, assign, body, defers := w.heap.size } := ⟨_, rfl⟩
  obtain ⟨V, hV⟩ : ∃ V, (w.alloc (.deferred (some []))).alloc (.loop (rec .ready none)) = V := ⟨_, rfl⟩
  have q1 : V.heap[w.heap.size + 1]? = some (.loop (rec .ready none)) := by
    rw [← hV]; have := World.alloc_heap_new (w.alloc (.deferred (some []))) (.loop (rec .ready none)); rwa [World.size_alloc] at this
  have q0 : V.heap[w.heap.size]? = some (.deferred (some [])) := by
    rw [← hV]; exact (Below.heap_alloc _ _ _ (by simp)).trans (World.alloc_heap_new w _)
  have qi : I [] V := by rw [← hV]; exact hI.alloc _ (hI.alloc _ h0)
  have qb : Below w.heap.size w V := by rw [← hV]; exact ((Below.refl _ w).alloc (Nat.le_refl _) _).alloc (by simp) _
  have qs : w.heap.size + 2 ≤ V.heap.size := by rw [← hV]; simp
  refine ⟨w.heap.size + 1, [{ target := .collected w.heap.size, args := #[] }], V, { target := .fn (.func gf) lb, args := #[.func (.yield (w.heap.size + 1)) #[] #[]] }, V, gf,
    #[.func (.yield (w.heap.size + 1)) #[] #[]] ++ lb, V, ?_, ?_, ?_, ?_, fun _ => by omega, ?_⟩
  · rw [← hV, hrec]; exact run_enterLoop_outer _ _ _ _ _
  · simp only [resolve, hg]
    simp [go_sem]
  · intro f' hf'; simp [Target.leads] at hf'; subst hf'; trivial
  · simp [invoke, go_sem, eg]
  refine callsIn_wide.2 ((hseq (w.heap.size + 1)
    (fun pre W => I pre W ∧ W.heap[w.heap.size + 1]? = some (.loop (rec .ready none)) ∧ W.heap[w.heap.size]? = some (.deferred (some [])))
    (fun pre W => ∃ c, Ix c pre W ∧ W.heap[w.heap.size + 1]? = some (.loop (rec .done (some c))) ∧ W.heap[w.heap.size]? = some (.deferred (some [])))
    V qb (fun pre W1 W2 h hs => ⟨hS _ _ _ h.1 (hs.le (by omega)), (hs.block _ (by omega) (by omega)).trans h.2.1, (hs.block _ (by omega) (by omega)).trans h.2.2⟩)
    (fun pre W h => hN pre W h.1) ?_ (And.intro qi (And.intro q1 q0))).mono ?_)
  · rintro pre x W ⟨hi, hl, hk⟩ hok
    have hlt : w.heap.size + 1 < W.heap.size := (Array.getElem?_eq_some_iff.1 hl).1
    have hy := run_yield (P := P) (args := encs x) hl (by rw [hrec]; exact hps x)
    rw [hrec] at hy
    refine ⟨fn, _, assign, body, hy, roundIn_of_wpIn hfn (hassign _ x W _ (Exists.intro _ (And.intro (run_beginRound hl (by rw [hrec])) ?_)))⟩
    have l2 : (W.putObj (w.heap.size + 1) (.loop { rec .ready none with state := .busy })).heap[w.heap.size + 1]? = some (.loop { rec .ready none with state := .busy }) := World.putObj_heap_same hlt
    have k2 : (W.putObj (w.heap.size + 1) (.loop { rec .ready none with state := .busy })).heap[w.heap.size]? = some (.deferred (some [])) := (World.putObj_heap_other (by omega)).trans hk
    have c2 : Kc W (W.putObj (w.heap.size + 1) (.loop { rec .ready none with state := .busy })) := Kc.put _ _ _ hl rfl
    refine wpIn_mono (hbody _ pre x _ (hI.putObj _ hi (by omega) hl rfl) hok) ?_
    have fin : ∀ (jump : Option Code) (W3 : World), KeepsOthers (W.putObj (w.heap.size + 1) (.loop { rec .ready none with state := .busy })) W3 →
        (Instr.endRound (w.heap.size + 1) jump).run P W3 = .ok (.bool jump.isNone) (W3.putObj (w.heap.size + 1) (.loop (rec (if jump.isNone then .ready else .done) jump))) ∧
        W3.heap[w.heap.size + 1]? = some (.loop { rec .ready none with state := .busy }) ∧
        (W3.putObj (w.heap.size + 1) (.loop (rec (if jump.isNone then .ready else .done) jump))).heap[w.heap.size + 1]? = some (.loop (rec (if jump.isNone then .ready else .done) jump)) ∧
        (W3.putObj (w.heap.size + 1) (.loop (rec (if jump.isNone then .ready else .done) jump))).heap[w.heap.size]? = some (.deferred (some [])) := fun jump W3 k3 => by
      have l3 := k3.same _ _ l2 rfl
      have := run_endRound (P := P) jump l3
      rw [hrec] at this ⊢
      exact ⟨this, by rw [hrec] at l3; exact l3, World.putObj_heap_same (Array.getElem?_eq_some_iff.1 l3).1, (World.putObj_heap_other (by omega)).trans (k3.same _ _ k2 rfl)⟩
    rintro e a3 W3 hp
    cases e with
    | normal =>
      obtain ⟨k3, kc3, i3⟩ := hp
      obtain ⟨hr, l3, l4, k4⟩ := fin none W3 k3
      exact ⟨_, _, hr, .inl ⟨rfl, ⟨hI.putObj _ i3 (by omega) l3 rfl, l4, k4⟩, (c2.trans kc3).trans (Kc.put _ _ _ l3 rfl)⟩⟩
    | ret =>
      obtain ⟨k3, i3⟩ := hp
      obtain ⟨hr, l3, l4, k4⟩ := fin (some .ret) W3 k3
      exact ⟨_, _, hr, .inr ⟨rfl, .ret, (hIx _).putObj _ i3 (by omega) l3 rfl, l4, k4⟩⟩
    | exit id =>
      obtain ⟨k3, i3⟩ := hp
      obtain ⟨hr, l3, l4, k4⟩ := fin (some (.exit id)) W3 k3
      exact ⟨_, _, hr, .inr ⟨rfl, .exit id, (hIx _).putObj _ i3 (by omega) l3 rfl, l4, k4⟩⟩
    | goto t => exact hp.elim
    | panic ch => exact hp.elim
    | outgrown => exact hp.elim
  · rintro e W2 ⟨⟨v, rfl⟩, pre, c, hi, hl, hk⟩
    exact ⟨some c, _, by have := run_endLoop (P := P) hl (by rw [hrec]; simp); rw [hrec] at this; exact this, (wpIn_wide (n := 3)).2 (hstop _ c pre _ (Nat.le_refl _) ((hIx c).putObj _ hi (by omega) hl rfl) ((World.putObj_heap_other (by omega)).trans hk))⟩

section
variable {W W' : World}
theorem Kc.blk (h : Kc W W') {p : Addr} {v : Value} (hc : W.cell? p = some v) : W'.heap[p.block]? = W.heap[p.block]? := by
  obtain ⟨o, h1, h2⟩ := cells_of_cell hc
  exact (h.2 _ _ h1 h2).trans h1.symm
theorem Kc.cell (h : Kc W W') {p : Addr} {v : Value} (hc : W.cell? p = some v) : W'.cell? p = some v := (World.cell?_of_block (h.blk hc)).trans hc
theorem Kc.frozen (h : Kc W W') {g o o' : Nat} {v : Value} (hc : W.cell? ⟨g, o', none⟩ = some v) : W'.frozen? ⟨g, o, none⟩ = W.frozen? ⟨g, o, none⟩ := by
  have := h.blk hc
  simp only at this
  simp [World.frozen?, this]
theorem Is.kc {z : Int} {t : Bool} {A : Option Addr} {n c : Nat} (h : Is W z t A n c) (hk : Kc W W') : Is W' z t A n c := by
  obtain ⟨h1, h2, h3, h4, h5⟩ := h
  refine ⟨h1, h2, ⟨h3.len, h3.sm, fun hp => ?_⟩, h4, h5⟩
  obtain ⟨b', o, e, hlt, hcell⟩ := h3.at_ hp
  exact ⟨b', o, e, Nat.lt_of_lt_of_le hlt hk.1, fun i hi => hk.cell (hcell i hi)⟩
theorem Vn.kc {k z : Int} {t : Bool} {A : Option Addr} {n c : Nat} (h : Vn W k z t A n c) (hk : Kc W W') : Vn W' k z t A n c := fun e => ⟨(h e).is.kc hk, (h e).sz⟩
theorem Vb.kc {w : World} {g : Nat} {t : Bool} {A : Option Addr} {n c : Nat} (h : Vb w W g t A n c) (hk : Kc W W') : Vb w W' g t A n c :=
  ⟨h.ge, Nat.lt_of_lt_of_le h.lt hk.1, hk.cell h.c0, hk.cell h.c1, (hk.frozen h.c0).trans h.f0, (hk.frozen h.c0).trans h.f1⟩
theorem Cc.kc {b : Nat} {k : Int} (h : Cc W b k) (hk : Kc W W') : Cc W' b k := ⟨Nat.lt_of_lt_of_le h.lt hk.1, hk.cell h.c0, (hk.frozen h.c0).trans h.f0⟩
theorem Wk.kc {b f : Nat} {caps : Array Value} {ta : Bool} {Aa : Option Addr} {na ca : Nat} {tt : Bool} {At : Option Addr} {nt ct : Nat} (h : Wk W b f caps ta Aa na ca tt At nt ct) (hk : Kc W W') : Wk W' b f caps ta Aa na ca tt At nt ct :=
  ⟨hk.cell h.e1, hk.cell h.a0, hk.cell h.a1, hk.cell h.t0, hk.cell h.t1⟩
theorem Box.kc {g : Nat} {z : Int} {t : Bool} {A : Option Addr} {n c : Nat} (h : Box W g z t A n c) (hk : Kc W W') : Box W' g z t A n c := ⟨Nat.lt_of_lt_of_le h.lt hk.1, hk.cell h.c0, hk.cell h.c1, h.is.kc hk⟩
theorem Evm.kc {b v mb : Nat} {M : Int} {tm : Bool} {Am : Option Addr} {nm cm : Nat} (h : Evm b v mb M tm Am nm cm W) (hk : Kc W W') : Evm b v mb M tm Am nm cm W' :=
  ⟨h.ne, h.neb, Nat.lt_of_lt_of_le h.lt hk.1, hk.cell h.vc, h.bx.kc hk, h.sz⟩
theorem Ms.kc {T b f : Nat} {caps : Array Value} {g : Int → Int} {Ev : World → Prop} {zt za k : Int} {ta : Bool} {Aa : Option Addr} {na ca : Nat} {tt : Bool} {At : Option Addr} {nt ct : Nat} (h : Ms T b f caps g Ev zt za ta Aa na ca tt At nt ct W k) (hk : Kc W W') (he : Ev W → Ev W') : Ms T b f caps g Ev zt za ta Aa na ca tt At nt ct W' k :=
  ⟨h.ea, h.wk.kc hk, he h.ev, h.cc.kc hk, h.st, h.vt.kc hk, h.va.kc hk⟩
end
end Go.Proofs.Ytbblckaplddggaa
