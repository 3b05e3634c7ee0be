import Derived.Test.YtbblckaplddggaaMt
import Derived.Test.YtbblckaplddggaaNe
import Derived.Test.YtbblckaplddggaaRi
import Derived.Deep.DeepCutAuto
set_option maxRecDepth 100000
namespace Go.Proofs.Ytbblckaplddggaa
open Go.RowKit Go.Shelf
theorem is_zero8 (w : World) : Is w 0 false none 0 0 := ⟨rfl, by rw [show (0 : Int).natAbs = 0 from rfl, words_zero]; rfl, by rw [show (0 : Int).natAbs = 0 from rfl, words_zero]; exact Rd.nil _, Nat.le_refl _, by omega⟩
/-- a variable that holds a number -/
structure Nvr (W : World) (g : Nat) (z : Int) (t : Bool) (A : Option Addr) (n c : Nat) : Prop where
  lt : g < W.heap.size
  c0 : W.cell? ⟨g, 0, none⟩ = some (.bool t)
  c1 : W.cell? ⟨g, 1, none⟩ = some (.slice A n c)
  f0 : W.frozen? ⟨g, 0, none⟩ = false
  f1 : W.frozen? ⟨g, 1, none⟩ = false
  is : Is W z t A n c
section
variable {W W' : World} {g : Nat} {z z' : Int} {t t' : Bool} {A A' : Option Addr} {n c n' c' : Nat}
theorem Nvr.next (h : Nvr W g z t A n c) (hs : Below W.heap.size W W') : Nvr W' g z t A n c :=
  ⟨Nat.lt_of_lt_of_le h.lt hs.size, (hs.cell (p := ⟨g, 0, none⟩) h.lt).trans h.c0, (hs.cell (p := ⟨g, 1, none⟩) h.lt).trans h.c1, (hs.frozen (p := ⟨g, 0, none⟩) h.lt).trans h.f0, (hs.frozen (p := ⟨g, 1, none⟩) h.lt).trans h.f1, h.is.below hs⟩
theorem Nvr.new (h : Is W z t A n c) : Nvr (W.alloc (.cells #[.bool t, .slice A n c] 24)) W.heap.size z t A n c :=
  ⟨by simp, by go_simp, by go_simp, by go_simp, by go_simp, h.below (below_alloc _ _)⟩
theorem Nvr.alloc (h : Nvr W g z t A n c) (o : Obj) : Nvr (W.alloc o) g z t A n c := h.next (below_alloc _ _)
theorem Nvr.put (h : Nvr W g z t A n c) (h' : Is W z' t' A' n' c') : Nvr ((W.setCell ⟨g, 0, none⟩ (.bool t')).setCell ⟨g, 1, none⟩ (.slice A' n' c')) g z' t' A' n' c' := by
  have v := Vb.put (w := { W with heap := #[] }) ⟨Nat.zero_le _, h.lt, h.c0, h.c1, h.f0, h.f1⟩ t' A' n' c'
  exact ⟨v.lt, v.c0, v.c1, v.f0, v.f1, h'.store h.c0 h.c1 _ _⟩
theorem Nvr.far (h : Nvr W g z t A n c) {g' : Nat} (hne : g' ≠ g) {x : Bool} {a : Option Addr} {i j : Nat} (h0 : W.cell? ⟨g', 0, none⟩ = some (.bool x)) (h1 : W.cell? ⟨g', 1, none⟩ = some (.slice a i j)) (u v : Value) : Nvr ((W.setCell ⟨g', 0, none⟩ u).setCell ⟨g', 1, none⟩ v) g z t A n c :=
  ⟨by rw [size_pair]; exact h.lt, cell_two hne h.c0, cell_two hne h.c1, by rw [frozen_pair]; exact h.f0, by rw [frozen_pair]; exact h.f1, h.is.store h0 h1 u v⟩
theorem Nvr.box (h : Nvr W g z t A n c) : Box W g z t A n c := ⟨h.lt, h.c0, h.c1, h.is⟩
end
/-- the reference's word on the index -/
def RIdx (a y : Int) (w : World) (e : Ending) (w' : World) : Prop :=
  ∃ (r : Nat) (b : Bool), e = .returned (.tuple #[.int .i64 (r : Int), .bool b]) ∧ Below w.heap.size w w' ∧ (b = true → psi a r = y) ∧ (b = false → ∀ n, psi a n ≠ y)
/-- a variable of whatever representation -/
def Nwx (W : World) (g : Nat) (z : Int) : Prop := ∃ t A n c, Nvr W g z t A n c
structure RI (w W : World) (a y : Int) (t : Bool) (A : Option Addr) (n c : Nat) (t' : Bool) (A' : Option Addr) (n' c' : Nat) (g6 g8 : Nat) (p : Int) (t6 : Bool) (A6 : Option Addr) (n6 c6 : Nat) (q : Int) (t7 : Bool) (A7 : Option Addr) (n7 c7 : Nat) (t8 : Bool) (A8 : Option Addr) (n8 c8 : Nat) : Prop where
  below : Below w.heap.size w W
  ba : Nvr W w.heap.size a t A n c
  bb : Nvr W (w.heap.size + 1) y t' A' n' c'
  b6 : Nvr W g6 p t6 A6 n6 c6
  b7 : Nvr W (g6 + 1) q t7 A7 n7 c7
  b8 : Nvr W g8 (a + a) t8 A8 n8 c8
  ge : w.heap.size + 2 ≤ g6
  gg : g6 + 2 ≤ g8
theorem RI.next {w W W' : World} {a y : Int} {t : Bool} {A : Option Addr} {n c : Nat} {t' : Bool} {A' : Option Addr} {n' c' : Nat} {g6 g8 : Nat} {p : Int} {t6 : Bool} {A6 : Option Addr} {n6 c6 : Nat} {q : Int} {t7 : Bool} {A7 : Option Addr} {n7 c7 : Nat} {t8 : Bool} {A8 : Option Addr} {n8 c8 : Nat} (h : RI w W a y t A n c t' A' n' c' g6 g8 p t6 A6 n6 c6 q t7 A7 n7 c7 t8 A8 n8 c8) (hb : Below W.heap.size W W') :
    RI w W' a y t A n c t' A' n' c' g6 g8 p t6 A6 n6 c6 q t7 A7 n7 c7 t8 A8 n8 c8 :=
  ⟨h.below.trans (hb.mono h.below.size), h.ba.next hb, h.bb.next hb, h.b6.next hb, h.b7.next hb, h.b8.next hb, h.ge, h.gg⟩
theorem psi_step {a : Int} (ha : 2 ≤ a) (i : Nat) : psi a (i + 1) ≤ 2 * a * psi a i + 1 := by
  cases i with
  | zero => show (1 : Int) ≤ 2 * a * 0 + 1; omega
  | succ j =>
    rw [psi_two]
    have := psi_nn ha j
    omega
theorem idx_bound {a y : Int} (ha : 2 ≤ a) (hy : Sz y 4096) {i : Nat} (h : psi a i < y) : i ≤ 131072 := by
  cases i with
  | zero => omega
  | succ j =>
    have h1 := psi_dn ha (b := 1) (by omega) j
    have h2 := psi_nn ha (j + 1)
    have h3 : y.natAbs < pw 4096 := hy
    rw [pw_two] at h3
    have h4 : 2 ^ (1 * j) < 2 ^ (32 * 4096) := by omega
    have h5 := (Nat.pow_lt_pow_iff_right (by omega : 1 < 2)).1 h4
    omega
theorem sz_of_le' {x y : Int} {k : Nat} (h0 : 0 ≤ x) (h : x ≤ y) (hy : Sz y k) : Sz x k := by
  have h1 : y.natAbs < pw k := hy
  show x.natAbs < pw k
  omega
theorem sz_one' {k : Nat} (hk : 1 ≤ k) : Sz 1 k := by
  have : pw 1 ≤ pw k := pw_le hk
  rw [show pw 1 = 4294967296 by unfold pw; decide] at this
  show (1 : Int).natAbs < pw k
  omega
/-- the sizes in a round -/
theorem idx_sizes {a y : Int} (ha : 2 ≤ a) (hs : Sz a 4096) (hy : Sz y 4096) {i : Nat} (h : psi a i < y) : Sz (psi a i) 4096 ∧ Sz (psi a (i + 1)) 8194 ∧ Sz (a + a) 4097 ∧ Sz ((a + a) * psi a (i + 1)) 12291 := by
  have h1 := psi_nn ha i
  have s1 : Sz (psi a i) 4096 := sz_of_le' h1 (by omega) hy
  have s2 : Sz (a + a) 4097 := hs.add hs
  have s3 : Sz (psi a (i + 1)) 8194 := by
    refine sz_of_le' (psi_nn ha (i + 1)) (psi_step ha i) ?_
    have s4 : Sz (2 * a * psi a i) 8193 := by
      rw [show 2 * a = a + a by omega]
      exact s2.mul s1
    exact s4.add (sz_one' (by omega))
  exact ⟨s1, s3, s2, s2.mul s3⟩
set_option maxHeartbeats 8000000 in
theorem refIndex_c {w : World} {a : Int} {t : Bool} {A : Option Addr} {n c : Nat} {y : Int} {t' : Bool} {A' : Option Addr} {n' c' : Nat} (h : Is w a t A n c) (h' : Is w y t' A' n' c') (ha : 2 ≤ a) (hs : Sz a 4096) (hs' : Sz y 4096) :
    Calls Try.prog 31 #[.agg #[.bool t, .slice A n c], .agg #[.bool t', .slice A' n' c']] w (RIdx a y w) := by
  have hb0 := below_alloc w (.cells #[.bool t, .slice A n c] 24)
  have P := Lib.hid (hb0.alloc hb0.size (.cells #[.bool t', .slice A' n' c'] 24))
  have Xa := Lib.hid ((Nvr.new h).alloc (.cells #[.bool t', .slice A' n' c'] 24))
  have Xb := Lib.hid (Nvr.new (h'.below hb0))
  rw [World.size_alloc] at Xb
  have HA := Lib.hid ha
  have HS := Lib.hid (And.intro hs hs')
  clear h h' ha hs hs' hb0
  go_enter Try.func31, Try.ntmps31
  go_upto_region 1 with (fail)
  generalize (w.alloc (.cells #[.bool t, .slice A n c] 24)).alloc (.cells #[.bool t', .slice A' n' c'] 24) = W0 at P Xa Xb ⊢
  go_wp2_with fail
  refine (refOf_c 1 _ (by omega) (by omega)).mono ?_
  rintro e w1 h1
  obtain ⟨t1, A1, n1, c1, rfl, i1, hb⟩ := h1.numI
  have hb1 := below_alloc w1 (.cells #[.bool false, .slice none 0 0] 24)
  have i0 := is_zero8 w1
  have X6 := Lib.hid ((Nvr.new i0).alloc (.cells #[.bool t1, .slice A1 n1 c1] 24))
  have X7 := Lib.hid (Nvr.new (i1.below hb1))
  rw [World.size_alloc] at X7
  have h2s := Xb.out.lt
  replace Xa := Lib.hid (((Xa.out.next hb).next hb1).alloc (.cells #[.bool t1, .slice A1 n1 c1] 24))
  replace Xb := Lib.hid (((Xb.out.next hb).next hb1).alloc (.cells #[.bool t1, .slice A1 n1 c1] 24))
  replace P := Lib.hid ((((P.out.trans (hb.mono P.out.size)).alloc (Nat.le_trans P.out.size hb.size) (.cells #[.bool false, .slice none 0 0] 24)).alloc (by have := P.out.size; have := hb.size; simp; omega) (.cells #[.bool t1, .slice A1 n1 c1] 24)))
  have HG := Lib.hid (show w.heap.size + 2 ≤ w1.heap.size by have := h2s; have := hb.size; omega)
  clear hb hb1 i0 i1
  go_upto_region 2 with (fail)
  generalize (w1.alloc (.cells #[.bool false, .slice none 0 0] 24)).alloc (.cells #[.bool t1, .slice A1 n1 c1] 24) = W1 at P Xa Xb X6 X7 ⊢
  generalize w1.heap.size = g6 at HG X6 X7 ⊢
  have a0 := Xa.out.c0
  have a1 := Xa.out.c1
  go_wp2_with fail
  have la : n ≤ 8796093022208 := Nat.le_trans (Xa.out.is.len HS.out.1) (by omega)
  refine (refAdd_c Xa.out.is Xa.out.is la la).mono ?_
  rintro e w2 ⟨t8, A8, n8, c8, rfl, i8, hb⟩
  have E := Lib.hid (show RI w (w2.alloc (.cells #[.bool t8, .slice A8 n8 c8] 24)) a y t A n c t' A' n' c' g6 w2.heap.size 0 false none 0 0 1 t1 A1 n1 c1 t8 A8 n8 c8 from
    ⟨(P.out.trans (hb.mono P.out.size)).alloc (Nat.le_trans P.out.size hb.size) _, (Xa.out.next hb).alloc _, (Xb.out.next hb).alloc _, (X6.out.next hb).alloc _, (X7.out.next hb).alloc _, Nvr.new i8, HG.out, by have := X7.out.lt; have := hb.size; omega⟩)
  clear hb i8 a0 a1 P Xa Xb X6 X7 HG h1 h2s la
  go_upto_region 3 with (fail)
  generalize w2.alloc (.cells #[.bool t8, .slice A8 n8 c8] 24) = W2 at E ⊢
  generalize w2.heap.size = g8 at E ⊢
  go_wp2
  go_loopw [9] (fun v wr => ∃ (i : Nat) (t6 : Bool) (A6 : Option Addr) (n6 c6 : Nat) (t7 : Bool) (A7 : Option Addr) (n7 c7 : Nat), v = .int .i64 (i : Int) ∧ i ≤ 131074 ∧ (∀ j, j < i → psi a j < y) ∧ RI w wr a y t A n c t' A' n' c' g6 g8 (psi a i) t6 A6 n6 c6 (psi a (i + 1)) t7 A7 n7 c7 t8 A8 n8 c8) (fun v _ => 131075 - (intOf v).toNat)
  case atStart => exact ⟨0, _, _, _, _, _, _, _, _, rfl, by omega, fun j hj => by omega, E.out⟩
  case round =>
    clear E
    obtain ⟨i, t6, A6, n6, c6, t7, A7, n7, c7, rfl, h1, h2, hE⟩ := hrel
    have E := Lib.hid hE
    have HJ := Lib.hid h2
    clear hE h2
    by_cases hc : psi a i < y
    · obtain ⟨s6, s7, s8, s9⟩ := idx_sizes HA.out HS.out.1 HS.out.2 hc
      have HC := Lib.hid hc
      have HB := Lib.hid (idx_bound HA.out HS.out.2 hc)
      have HO := Lib.hid (ord_lt hc)
      have l6 := Nat.le_trans (E.out.b6.is.len s6) (by omega : 4096 ≤ 17592186044416)
      have ly := Nat.le_trans (E.out.bb.is.len HS.out.2) (by omega : 4096 ≤ 17592186044416)
      have HZ := Lib.hid (And.intro s6 (And.intro s7 (And.intro s8 s9)))
      clear hc s6 s7 s8 s9
      have b0 := E.out.bb.c0
      have b1 := E.out.bb.c1
      have p0 := E.out.b6.c0
      have p1 := E.out.b6.c1
      go_wp2_with fail
      refine (refCmp_c E.out.b6.is E.out.bb.is l6 ly).mono ?_
      rw [HO.out]
      rintro e w3 ⟨rfl, hb⟩
      replace E := Lib.hid (E.out.next hb)
      clear hb b0 b1 p0 p1 l6 ly HO
      have p0 := E.out.b6.c0
      have p1 := E.out.b6.c1
      have q0 := E.out.b7.c0
      have q1 := E.out.b7.c1
      have r0 := E.out.b8.c0
      have r1 := E.out.b8.c1
      go_upto_region 8 with (fail)
      refine wp_region_tail (S := fun w' => w'.cell? ⟨g6, 0, none⟩ = some (.bool t6) ∧ w'.cell? ⟨g6, 1, none⟩ = some (.slice A6 n6 c6) ∧ w'.cell? ⟨g6 + 1, 0, none⟩ = some (.bool t7) ∧ w'.cell? ⟨g6 + 1, 1, none⟩ = some (.slice A7 n7 c7) ∧ w'.cell? ⟨g8, 0, none⟩ = some (.bool t8) ∧ w'.cell? ⟨g8, 1, none⟩ = some (.slice A8 n8 c8)) 6 (by kernel_rfl) (by kernel_rfl) (by intro c a d v w h; cases d <;> exact h) ⟨cell_dr p0, cell_dr p1, cell_dr q0, cell_dr q1, cell_dr r0, cell_dr r1⟩ (fun QT hT hP hHeld => ?_)
      simp only [List.extract_toArray, List.extract_eq_take_drop, List.drop_zero, Nat.sub_zero, List.take_succ_cons, List.take_zero]
      have HT := Lib.hid hT
      clear hT
      refine wpAnyH_take (i := 0) (v := ?v0) rfl (by kernel_rfl) (by kernel_rfl) (by kernel_rfl) (fun c a w h => hP c a _ _ w h) (Or.inl ⟨by rfl, ?h0⟩) (by assumption) ?r0
      case h0 => intro w hSw; obtain ⟨h0, h1, h2, h3, h4, h5⟩ := hSw; go_simp; rfl
      refine wpAnyH_take (i := 1) (v := ?v1) rfl (by kernel_rfl) (by kernel_rfl) (by kernel_rfl) (fun c a w h => hP c a _ _ w h) (Or.inl ⟨by rfl, ?h1⟩) (by assumption) ?r1
      case h1 => intro w hSw; obtain ⟨h0, h1, h2, h3, h4, h5⟩ := hSw; go_simp; rfl
      refine wpAnyH_take (i := 2) (v := ?v2) rfl (by kernel_rfl) (by kernel_rfl) (by kernel_rfl) (fun c a w h => hP c a _ _ w h) (Or.inl ⟨by rfl, ?h2⟩) (by assumption) ?r2
      case h2 => intro w hSw; obtain ⟨h0, h1, h2, h3, h4, h5⟩ := hSw; go_simp; rfl
      refine wpAnyH_take (i := 4) (v := ?v4) rfl (by kernel_rfl) (by kernel_rfl) (by kernel_rfl) (fun c a w h => hP c a _ _ w h) (Or.inl ⟨by rfl, ?h4⟩) (by assumption) ?r4
      case h4 => intro w hSw; obtain ⟨h0, h1, h2, h3, h4, h5⟩ := hSw; go_simp; rfl
      clear p0 p1 q0 q1 r0 r1
      refine wpAnyH_ready (rs := [3]) (by kernel_rfl) (by simp) ?_
      refine AllReadyH.cons rfl (fun K hK => ?_) AllReadyH.nil
      go_simp
      refine (refMul_c (E.out.b8.is.below (Below.refl _ _).drew) (E.out.b7.is.below (Below.refl _ _).drew) (Nat.le_trans (E.out.b8.is.len HZ.out.2.2.1) (by omega)) (Nat.le_trans (E.out.b7.is.len HZ.out.2.1) (by omega))).mono ?_
      rintro e w4 ⟨t9, A9, n9, c9, rfl, i9, hb⟩
      replace hb := (Below.refl w3.heap.size w3).drew.trans hb
      replace E := Lib.hid (E.out.next hb)
      have I9 := Lib.hid i9
      clear hb i9 hHeld
      refine hK.out _ _ ⟨E.out.b6.c0, E.out.b6.c1, E.out.b7.c0, E.out.b7.c1, E.out.b8.c0, E.out.b8.c1⟩ (fun hHeld => ?_)
      clear hK K
      refine wpAnyH_ready (rs := [5]) (by kernel_rfl) (by simp) ?_
      refine AllReadyH.cons rfl (fun K hK => ?_) AllReadyH.nil
      go_simp
      refine (refSub_c I9.out E.out.b6.is (Nat.le_trans (I9.out.len HZ.out.2.2.2) (by omega)) (Nat.le_trans (E.out.b6.is.len HZ.out.1) (by omega))).mono ?_
      rintro e w5 ⟨t10, A10, n10, c10, rfl, i10, hb⟩
      replace E := Lib.hid (E.out.next hb)
      have I10 := Lib.hid i10
      clear hb i10 hHeld I9
      refine hK.out _ _ ⟨E.out.b6.c0, E.out.b6.c1, E.out.b7.c0, E.out.b7.c1, E.out.b8.c0, E.out.b8.c1⟩ (fun hHeld => ?_)
      clear hK K hHeld
      refine wpAnyH_done (by kernel_rfl) ?_ _
      refine HT.out _ _ ?_
      clear HT hP QT
      have p0 := E.out.b6.c0
      have p1 := E.out.b6.c1
      have p2 := E.out.b6.f0
      have p3 := E.out.b6.f1
      refine wpList_step fun K hK => ?_
      go_simp
      refine hK _ _ ?_
      clear hK K
      replace E := Lib.hid (show RI w ((w5.setCell ⟨g6, 0, none⟩ (.bool t7)).setCell ⟨g6, 1, none⟩ (.slice A7 n7 c7)) a y t A n c t' A' n' c' g6 g8 (psi a (i + 1)) t7 A7 n7 c7 (psi a (i + 1)) t7 A7 n7 c7 t8 A8 n8 c8 from
        ⟨below_store E.out.below (by have := E.out.ge; omega) _ _, E.out.ba.far (by have := E.out.ge; omega) p0 p1 _ _, E.out.bb.far (by have := E.out.ge; omega) p0 p1 _ _, E.out.b6.put E.out.b7.is, E.out.b7.far (by omega) p0 p1 _ _, E.out.b8.far (by have := E.out.gg; omega) p0 p1 _ _, E.out.ge, E.out.gg⟩)
      replace I10 := Lib.hid (I10.out.store p0 p1 (.bool t7) (.slice A7 n7 c7))
      clear p0 p1 p2 p3
      generalize (w5.setCell ⟨g6, 0, none⟩ (.bool t7)).setCell ⟨g6, 1, none⟩ (.slice A7 n7 c7) = w6 at E I10 ⊢
      have p0 := E.out.b7.c0
      have p1 := E.out.b7.c1
      have p2 := E.out.b7.f0
      have p3 := E.out.b7.f1
      refine wpList_step fun K hK => ?_
      go_simp
      refine hK _ _ ?_
      clear hK K
      have I11 := Lib.hid (show Is w6 (psi a (i + 2)) t10 A10 n10 c10 by
        rw [psi_two, show 2 * a = a + a by omega]; exact I10.out)
      replace E := Lib.hid (show RI w ((w6.setCell ⟨g6 + 1, 0, none⟩ (.bool t10)).setCell ⟨g6 + 1, 1, none⟩ (.slice A10 n10 c10)) a y t A n c t' A' n' c' g6 g8 (psi a (i + 1)) t7 A7 n7 c7 (psi a (i + 1 + 1)) t10 A10 n10 c10 t8 A8 n8 c8 from
        ⟨below_store E.out.below (by have := E.out.ge; omega) _ _, E.out.ba.far (by have := E.out.ge; omega) p0 p1 _ _, E.out.bb.far (by have := E.out.ge; omega) p0 p1 _ _, E.out.b6.far (by omega) p0 p1 _ _, E.out.b7.put I11.out, E.out.b8.far (by have := E.out.gg; omega) p0 p1 _ _, E.out.ge, E.out.gg⟩)
      clear p0 p1 p2 p3 I10 I11
      generalize (w6.setCell ⟨g6 + 1, 0, none⟩ (.bool t10)).setCell ⟨g6 + 1, 1, none⟩ (.slice A10 n10 c10) = w7 at E ⊢
      refine wpList_nil ?_
      have HI := Lib.hid (show ∀ j, j < i + 1 → psi a j < y from fun j hj => by
        by_cases hji : j = i
        · subst hji; exact HC.out
        · exact HJ.out j (by omega))
      go_wp2
      go_roundw
      case measure => simp [intOf]; omega
      case rel => exact ⟨i + 1, _, _, _, _, _, _, _, _, by go_num, by have := HB.out; omega, HI.out, E.out⟩
    · have s6 : Sz (psi a i) 8194 := by
        cases i with
        | zero => exact sz_zero
        | succ j => exact (idx_sizes HA.out HS.out.1 HS.out.2 (HJ.out j (by omega))).2.1
      have HC := Lib.hid (Int.not_lt.1 hc)
      have l6 := Nat.le_trans (E.out.b6.is.len s6) (by omega : 8194 ≤ 17592186044416)
      have ly := Nat.le_trans (E.out.bb.is.len HS.out.2) (by omega : 4096 ≤ 17592186044416)
      have HO := Lib.hid (show ord (psi a i) y = if psi a i = y then 0 else 1 by
        split
        · exact ord_eq ‹_›
        · exact ord_gt (by omega))
      clear hc s6
      have b0 := E.out.bb.c0
      have b1 := E.out.bb.c1
      have p0 := E.out.b6.c0
      have p1 := E.out.b6.c1
      go_wp2_with fail
      refine (refCmp_c E.out.b6.is E.out.bb.is l6 ly).mono ?_
      rw [HO.out]
      by_cases he : psi a i = y
      · have HE := Lib.hid he
        rw [if_pos he]
        rintro e w3 ⟨rfl, hb⟩
        replace E := Lib.hid (E.out.next hb)
        clear hb b0 b1 p0 p1 l6 ly HO he
        go_wp2
        refine bodyPost_ret (v := .tuple #[.int .i64 (i : Int), .bool true]) (by simp [results, Try.results31, go_sem]) rfl ?_
        exact ⟨i, true, rfl, E.out.below, fun _ => HE.out, fun h => by cases h⟩
      · have HE := Lib.hid he
        rw [if_neg he]
        rintro e w3 ⟨rfl, hb⟩
        replace E := Lib.hid (E.out.next hb)
        clear hb b0 b1 p0 p1 l6 ly HO he
        go_wp2
        refine bodyPost_ret (v := .tuple #[.int .i64 (i : Int), .bool false]) (by simp [results, Try.results31, go_sem]) rfl ?_
        exact ⟨i, false, rfl, E.out.below, fun h => (by cases h), fun _ m hm => by
          rcases Nat.lt_or_ge m i with (h | h)
          · have := HJ.out m h
            omega
          · have h3 := psi_le HA.out h
            have h4 := HC.out
            exact HE.out (by omega)⟩
end Go.Proofs.Ytbblckaplddggaa
set_option maxRecDepth 100000
namespace Go.Proofs.Ytbblckaplddggaa
open Go.RowKit Go.Shelf
theorem Nwx.next {W W' : World} {g : Nat} {z : Int} (h : Nwx W g z) (hs : Below W.heap.size W W') : Nwx W' g z := by
  obtain ⟨t, A, n, c, h⟩ := h
  exact ⟨t, A, n, c, h.next hs⟩
theorem Nwx.far {W : World} {g g' : Nat} {z z' : Int} {t : Bool} {A : Option Addr} {n c : Nat} (h : Nwx W g z) (h' : Nvr W g' z' t A n c) (hne : g' ≠ g) (u v : Value) : Nwx ((W.setCell ⟨g', 0, none⟩ u).setCell ⟨g', 1, none⟩ v) g z := by
  obtain ⟨t, A, n, c, h⟩ := h
  exact ⟨t, A, n, c, h.far hne h'.c0 h'.c1 u v⟩
theorem Nwx.lt {W : World} {g : Nat} {z : Int} (h : Nwx W g z) : g < W.heap.size := by
  obtain ⟨t, A, n, c, h⟩ := h
  exact h.lt
theorem Nvr.nw {W : World} {g : Nat} {z : Int} {t : Bool} {A : Option Addr} {n c : Nat} (h : Nvr W g z t A n c) : Nwx W g z := ⟨t, A, n, c, h⟩
theorem two_res {w W X : World} {g g' : Nat} {z z' y y' : Int} {t t' u u' : Bool} {A A' B B' : Option Addr} {n c n' c' m d m' d' : Nat} (h : Nvr W g y u B m d) (h' : Nvr W g' y' u' B' m' d') (hne : g ≠ g') (i : Is W z t A n c) (i' : Is W z' t' A' n' c') (hb : Below w.heap.size w W) (hg : w.heap.size ≤ g) (hg' : w.heap.size ≤ g')
    (hX : (((W.setCell ⟨g, 0, none⟩ (.bool t)).setCell ⟨g, 1, none⟩ (.slice A n c)).setCell ⟨g', 0, none⟩ (.bool t')).setCell ⟨g', 1, none⟩ (.slice A' n' c') = X) :
    X.cell? ⟨g, 0, none⟩ = some (.bool t) ∧ X.cell? ⟨g, 1, none⟩ = some (.slice A n c) ∧ X.cell? ⟨g', 0, none⟩ = some (.bool t') ∧ X.cell? ⟨g', 1, none⟩ = some (.slice A' n' c') ∧ Is X z t A n c ∧ Is X z' t' A' n' c' ∧ Below w.heap.size w X := by
  subst hX
  have k := h'.far hne h.c0 h.c1 (.bool t) (.slice A n c)
  have j := (h.put i).far (Ne.symm hne) k.c0 k.c1 (.bool t') (.slice A' n' c')
  have l := k.put (i'.store h.c0 h.c1 (.bool t) (.slice A n c))
  exact ⟨j.c0, j.c1, l.c0, l.c1, j.is, l.is, below_store (below_store hb hg _ _) hg' _ _⟩
end Go.Proofs.Ytbblckaplddggaa
