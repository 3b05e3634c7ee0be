import Derived.Test.YtbblckaplddggaaNq
import Derived.Laws.EntriesVeiled
set_option maxRecDepth 100000
namespace Go.Proofs.Ytbblckaplddggaa
open Go.RowKit Go.Shelf

/-- what the closure of modulo has captured: the walker's variable v, the modulus in the box mb -/
structure Evm (b v mb : Nat) (M : Int) (tm : Bool) (Am : Option Addr) (nm cm : Nat) (W : World) : Prop where
  ne : v ≠ b
  neb : mb ≠ b
  lt : v < W.heap.size
  vc : W.cell? ⟨v, 0, none⟩ = some (.pointer (some ⟨b, 0, none⟩))
  bx : Box W mb M tm Am nm cm
  sz : Sz M 4096
theorem Box.stp {b : Nat} {k : Int} {w w' : World} {g : Nat} {z : Int} {t : Bool} {A : Option Addr} {n c : Nat} (h : Box w g z t A n c) (hc : Cc w b k) (hs : Stp b w w') (hne : g ≠ b) : Box w' g z t A n c :=
  ⟨Nat.lt_of_lt_of_le h.lt hs.size, (hs.cell (p := ⟨g, 0, none⟩) h.lt hne).trans h.c0, (hs.cell (p := ⟨g, 1, none⟩) h.lt hne).trans h.c1, h.is.stp hc hs⟩
theorem Evm.stp {b v mb : Nat} {M k : Int} {tm : Bool} {Am : Option Addr} {nm cm : Nat} {W W' : World} (h : Evm b v mb M tm Am nm cm W) (hc : Cc W b k) (hs : Stp b W W') : Evm b v mb M tm Am nm cm W' :=
  ⟨h.ne, h.neb, Nat.lt_of_lt_of_le h.lt hs.size, (hs.cell (p := ⟨v, 0, none⟩) h.lt h.ne).trans h.vc, h.bx.stp hc hs h.neb, h.sz⟩
set_option maxHeartbeats 2000000 in
theorem modulo1_c (T b v mb : Nat) (k z M : Int) (tm : Bool) (Am : Option Addr) (nm cm : Nat) (t : Bool) (A : Option Addr) (n c : Nat) (w : World) (hE : Evm b v mb M tm Am nm cm w) (hM : 0 < M) (hT : M.natAbs ≤ T) (hc : Cc w b k) (hk : St T k) (hv : Vn w k z t A n c) :
    Calls Try.prog 96 #[.agg #[.bool t, .slice A n c], .pointer (some ⟨v, 0, none⟩), .pointer (some ⟨mb, 0, none⟩)] w (Wv T b k (z % M) w) := by
  have hlt := hc.lt
  have hb0 : Below w.heap.size w ((w.alloc (.cells #[.bool t, .slice A n c] 24)).alloc (.cells #[.bool false, .slice none 0 0] 24)) := ((Below.refl _ _).alloc (Nat.le_refl _) _).alloc (by simp) _
  have s0 := Stp.of_below hlt hb0
  have HE := Lib.hid (hE.stp hc s0)
  have HC := Lib.hid (hc.below hb0)
  have HV := Lib.hid (hv.below hb0)
  have HK := Lib.hid hk
  have HS := Lib.hid s0
  have HB := Lib.hid (Vb.below (w := w) (Vb.new w w t A n c (Nat.le_refl _)) (below_alloc _ (.cells #[.bool false, .slice none 0 0] 24)))
  have HR := Lib.hid (Vb.new1 w w (.cells #[.bool t, .slice A n c] 24) false none 0 0 (Nat.le_refl _))
  have HQ := Lib.hid (show (z % M).natAbs ≤ T by have := Int.emod_nonneg z (show M ≠ 0 by omega); have := Int.emod_lt_of_pos z hM; omega)
  have H0 := Lib.hid (show M ≠ 0 by omega)
  have hv4 := hE.lt
  have hv5 := hE.bx.lt
  clear hb0 s0 hE hc hv hk hM hT
  go_enter Try.func96, Try.ntmps96
  go_upto_region 1 with (fail)
  generalize (w.alloc (.cells #[.bool t, .slice A n c] 24)).alloc (.cells #[.bool false, .slice none 0 0] 24) = W0 at HE HC HV HS HB HR ⊢
  have a0 := HB.out.c0
  have a1 := HB.out.c1
  have v0 := HE.out.vc
  have m0 := HE.out.bx.c0
  have m1 := HE.out.bx.c1
  go_region_held3 (fun w' => w'.cell? ⟨w.heap.size, 0, none⟩ = some (.bool t) ∧ w'.cell? ⟨w.heap.size, 1, none⟩ = some (.slice A n c) ∧ w'.cell? ⟨v, 0, none⟩ = some (.pointer (some ⟨b, 0, none⟩)) ∧ w'.cell? ⟨mb, 0, none⟩ = some (.bool tm) ∧ w'.cell? ⟨mb, 1, none⟩ = some (.slice Am nm cm))
    (first | (with_reducible exact ⟨a0, a1, v0, m0, m1⟩) | (with_reducible exact ⟨cell_dr a0, cell_dr a1, cell_dr v0, cell_dr m0, cell_dr m1⟩) | (with_reducible exact ⟨cell_two (by omega) a0, cell_two (by omega) a1, cell_two (by omega) v0, cell_two (by omega) m0, cell_two (by omega) m1⟩) | fail)
    (first
      | (go_at_call 97; (with_reducible refine (cRest_c T b k z M t tm A Am n c nm cm _ (HC.out.below (Below.refl _ _).drew) HK.out (fun _ => HQ.out) H0.out (Vn.pair (Vn.below HV.out (Below.refl _ _).drew) (Iv.vn ⟨HE.out.bx.is.below (Below.refl _ _).drew, HE.out.sz⟩))).mono ?_); rintro e W1 ⟨t1, B1, m9, d1, k1, rfl, s0, c1, v1, st1⟩; have s1 := (Stp.of_below HC.out.lt (Below.refl _ _).drew).trans s0; have y0 := HB.out.next s1 hlt; have y1 := HR.out.next s1 hlt; have y2 := HE.out.stp HC.out s1; have H1 := Lib.hid (And.intro (HS.out.trans s1) (And.intro c1 (And.intro v1 st1))); clear a0 a1 v0 m0 m1 s0 s1 c1 v1 st1; have a0 := y0.c0; have a1 := y0.c1; have v0 := y2.vc; have m0 := y2.bx.c0; have m1 := y2.bx.c1; have HR1 := Lib.hid y1; have r0 := y1.c0; have r1 := y1.c1; have f0 := y1.f0; have f1 := y1.f1; clear y0 y1 y2)
      | fail "no arm")
  go_wp2
  have hne : w.heap.size + 1 ≠ b := by omega
  refine bodyPost_ret (v := .agg #[.bool t1, .slice B1 m9 d1]) (by simp [results, Try.results96, go_sem, r0, r1]) rfl ?_
  obtain ⟨h1, h2, h3, h4⟩ := H1.out
  exact ⟨t1, B1, m9, d1, k1, rfl, h1.two (by omega) hne _ _, h2.two hne _ _, fun e => ⟨(h3 e).1, (h3 e).2.two r0 r1 _ _⟩, h4⟩
end Go.Proofs.Ytbblckaplddggaa
