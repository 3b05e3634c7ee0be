import Derived.Test.YtbblckaplddggaaDa
import Derived.Test.YtbblckaplddggaaSn
import Derived.Test.YtbblckaplddggaaOs
set_option maxRecDepth 100000
namespace Go.Proofs.Ytbblckaplddggaa
open Go.RowKit Go.Shelf
theorem Rb.two {W : World} {g : Nat} {s : Bool} {A : Option Addr} {n c : Nat} {xs : List Nat} (h : Rb W g s A n c xs) {g' : Nat} (hne : g' ≠ g) {x : Bool} {a : Option Addr} {i j : Nat} (h0 : W.cell? ⟨g', 0, none⟩ = some (.bool x)) (h1 : W.cell? ⟨g', 1, none⟩ = some (.slice a i j)) (u v : Value) : Rb ((W.setCell ⟨g', 0, none⟩ u).setCell ⟨g', 1, none⟩ v) g s A n c xs :=
  ⟨by rw [size_pair]; exact h.lt, cell_two hne h.c0, cell_two hne h.c1, h.rd.store h0 h1 u v⟩
theorem Vb.nvr {w W : World} {g : Nat} {t : Bool} {A : Option Addr} {n c : Nat} (h : Vb w W g t A n c) {z : Int} {t' : Bool} {A' : Option Addr} {n' c' : Nat} (i : Is W z t' A' n' c') : Nvr ((W.setCell ⟨g, 0, none⟩ (.bool t')).setCell ⟨g, 1, none⟩ (.slice A' n' c')) g z t' A' n' c' := by
  have v := h.put t' A' n' c'
  exact ⟨v.lt, v.c0, v.c1, v.f0, v.f1, i.store h.c0 h.c1 _ _⟩
theorem sz_rest {x m : Int} {k : Nat} (hm : 0 < m) (hs : Sz m k) : Sz (x % m) k := by
  have h1 := Int.emod_nonneg x (show m ≠ 0 by omega)
  have h2 := Int.emod_lt_of_pos x hm
  exact sz_of_le' h1 (by omega) hs
theorem nil_iff {w : World} {z : Int} {t : Bool} {A : Option Addr} {n c : Nat} (h : Is w z t A n c) : decide (n = 0) = decide (z = 0) := by
  rw [decide_eq_decide, h.2.1]
  constructor
  · intro e
    have h1 := words_len_le.1 (Nat.le_of_eq e)
    rw [pw_zero] at h1
    omega
  · rintro rfl
    rw [show (0 : Int).natAbs = 0 from rfl, words_zero]
    rfl
theorem Zero_z {w : World} {z : Int} {t : Bool} {A : Option Addr} {n c : Nat} (h : Is w z t A n c) : Calls Try.prog 27 #[.agg #[.bool t, .slice A n c]] w (IsB (decide (z = 0)) w) := by
  rw [← nil_iff h]
  exact zero_c t A n c w
set_option maxHeartbeats 4000000 in
/-- the reference's Divides -/
theorem Divides_c {w : World} {x : Int} {t : Bool} {A : Option Addr} {n c : Nat} {y : Int} {t' : Bool} {A' : Option Addr} {n' c' : Nat} (h : Is w x t A n c) (h' : Is w y t' A' n' c') (hn : n ≤ 4398046511104) (hn' : n' ≤ 4398046511104) :
    Calls Try.prog 41 #[.agg #[.bool t, .slice A n c], .agg #[.bool t', .slice A' n' c']] w (IsB (decide (y % x = 0)) w) := by
  have hb0 := below_alloc w (.cells #[.bool t, .slice A n c] 24)
  have P := Lib.hid (hb0.alloc hb0.size (.cells #[.bool t', .slice A' n' c'] 24))
  have Xa := Lib.hid ((Nvr.new h).alloc (.cells #[.bool t', .slice A' n' c'] 24))
  have Xb := Lib.hid (Nvr.new (h'.below hb0))
  rw [World.size_alloc] at Xb
  have HN := Lib.hid (And.intro hn hn')
  clear h h' hn hn' hb0
  go_enter Try.func41, Try.ntmps41
  go_upto_region 1 with (fail)
  generalize (w.alloc (.cells #[.bool t, .slice A n c] 24)).alloc (.cells #[.bool t', .slice A' n' c'] 24) = W0 at P Xa Xb ⊢
  have a0 := Xa.out.c0
  have a1 := Xa.out.c1
  go_wp2_with fail
  refine (Zero_z Xa.out.is).mono ?_
  rintro e w1 ⟨rfl, hb⟩
  replace P := Lib.hid (P.out.trans (hb.mono P.out.size))
  replace Xa := Lib.hid (Xa.out.next hb)
  replace Xb := Lib.hid (Xb.out.next hb)
  clear hb a0 a1
  by_cases hx : x = 0
  · have HX := Lib.hid (show decide (y % x = 0) = decide (y = 0) by rw [hx, Int.emod_zero])
    rw [decide_eq_true hx]
    clear hx
    have b0 := Xb.out.c0
    have b1 := Xb.out.c1
    go_wp2_with fail
    refine (Zero_z Xb.out.is).mono ?_
    rintro e w2 ⟨rfl, hb⟩
    replace P := Lib.hid (P.out.trans (hb.mono P.out.size))
    clear hb b0 b1
    go_wp2
    go_ret
    exact ⟨by rw [HX.out]; rfl, P.out⟩
  · have HX := Lib.hid hx
    rw [decide_eq_false hx]
    clear hx
    have a0 := Xa.out.c0
    have a1 := Xa.out.c1
    have b0 := Xb.out.c0
    have b1 := Xb.out.c1
    go_wp2_with fail
    refine (refDiv_c Xb.out.is Xa.out.is HX.out HN.out.2 HN.out.1).mono ?_
    rintro e w2 ⟨t2, A2, n2, c2, t3, A3, n3, c3, rfl, hb, i2, i3⟩
    replace P := Lib.hid (P.out.trans (hb.mono P.out.size))
    have k1 := below_alloc w2 (.cells #[.bool t2, .slice A2 n2 c2] 24)
    have k2 := below_alloc (w2.alloc (.cells #[.bool t2, .slice A2 n2 c2] 24)) (.cells #[.bool t3, .slice A3 n3 c3] 24)
    have R := Lib.hid (Nvr.new (i3.below k1))
    rw [World.size_alloc] at R
    replace P := Lib.hid ((P.out.trans (k1.mono P.out.size)).trans (k2.mono (Nat.le_trans P.out.size k1.size)))
    clear hb i2 i3 k1 k2 a0 a1 b0 b1 Xa Xb
    go_upto_region 4 with (fail)
    generalize (w2.alloc (.cells #[.bool t2, .slice A2 n2 c2] 24)).alloc (.cells #[.bool t3, .slice A3 n3 c3] 24) = W2 at P R ⊢
    have a0 := R.out.c0
    have a1 := R.out.c1
    go_wp2_with fail
    refine (Zero_z R.out.is).mono ?_
    rintro e w3 ⟨rfl, hb⟩
    replace P := Lib.hid (P.out.trans (hb.mono P.out.size))
    clear hb a0 a1
    go_wp2
    go_ret
    exact ⟨rfl, P.out⟩
theorem Divides_yes {w : World} {x : Int} {t : Bool} {A : Option Addr} {n c : Nat} {y : Int} {t' : Bool} {A' : Option Addr} {n' c' : Nat} (h : Is w x t A n c) (h' : Is w y t' A' n' c') (hn : n ≤ 4398046511104) (hn' : n' ≤ 4398046511104) (hd : x ∣ y) :
    Calls Try.prog 41 #[.agg #[.bool t, .slice A n c], .agg #[.bool t', .slice A' n' c']] w (IsB true w) := by
  have := Divides_c h h' hn hn'
  rwa [decide_eq_true (Int.emod_eq_zero_of_dvd hd)] at this
end Go.Proofs.Ytbblckaplddggaa
