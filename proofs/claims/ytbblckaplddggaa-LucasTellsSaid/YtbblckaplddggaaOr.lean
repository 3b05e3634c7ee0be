import Derived.Test.YtbblckaplddggaaOq
import Derived.BigRegion
set_option maxRecDepth 100000
namespace Go.Proofs.Ytbblckaplddggaa
open Go.RowKit Go.Shelf
theorem Nwx.next {W W' : World} {g : Nat} {z : Int} (h : Nwx W g z) (hs : Below W.heap.size W W') : Nwx W' g z := by
  obtain ⟨t, A, n, c, h⟩ := h
  exact ⟨t, A, n, c, h.next hs⟩
theorem Nwx.far {W : World} {g g' : Nat} {z z' : Int} {t : Bool} {A : Option Addr} {n c : Nat} (h : Nwx W g z) (h' : Nvr W g' z' t A n c) (hne : g' ≠ g) (u v : Value) : Nwx ((W.setCell ⟨g', 0, none⟩ u).setCell ⟨g', 1, none⟩ v) g z := by
  obtain ⟨t, A, n, c, h⟩ := h
  exact ⟨t, A, n, c, h.far hne h'.c0 h'.c1 u v⟩
theorem Nwx.lt {W : World} {g : Nat} {z : Int} (h : Nwx W g z) : g < W.heap.size := by
  obtain ⟨t, A, n, c, h⟩ := h
  exact h.lt
theorem Nvr.nw {W : World} {g : Nat} {z : Int} {t : Bool} {A : Option Addr} {n c : Nat} (h : Nvr W g z t A n c) : Nwx W g z := ⟨t, A, n, c, h⟩
structure RP (w W : World) (b g7 g8 g9 g10 g11 : Nat) (z7 z8 z9 z10 z11 : Int) : Prop where
  below : Below w.heap.size w W
  r4 : Nvr W (b + 1) 0 false none 0 0
  r5 : Nvr W (b + 2) 0 false none 0 0
  ge : w.heap.size ≤ b

  b7 : Nwx W g7 z7
  b8 : Nwx W g8 z8
  b9 : Nwx W g9 z9
  b10 : Nwx W g10 z10
  b11 : Nwx W g11 z11
  i7 : b + 3 ≤ g7
  i8 : g8 = g7 + 1
  i9 : g8 < g9
  i10 : g8 < g10
  n : g9 ≠ g10
  i11 : g9 < g11 ∧ g10 < g11
theorem RP.next {w W W' : World} {b g7 g8 g9 g10 g11 : Nat} {z7 z8 z9 z10 z11 : Int} (h : RP w W b g7 g8 g9 g10 g11 z7 z8 z9 z10 z11) (hb : Below W.heap.size W W') : RP w W' b g7 g8 g9 g10 g11 z7 z8 z9 z10 z11 :=
  ⟨h.below.trans (hb.mono h.below.size), h.r4.next hb, h.r5.next hb, h.ge, h.b7.next hb, h.b8.next hb, h.b9.next hb, h.b10.next hb, h.b11.next hb, h.i7, h.i8, h.i9, h.i10, h.n, h.i11⟩
theorem RP.put7 {w W : World} {b g7 g8 g9 g10 g11 : Nat} {z7 z8 z9 z10 z11 x : Int} {t t' : Bool} {A A' : Option Addr} {n c n' c' : Nat} (h : RP w W b g7 g8 g9 g10 g11 z7 z8 z9 z10 z11) (h' : Nvr W g7 z7 t A n c) (i : Is W x t' A' n' c') : RP w ((W.setCell ⟨g7, 0, none⟩ (.bool t')).setCell ⟨g7, 1, none⟩ (.slice A' n' c')) b g7 g8 g9 g10 g11 x z8 z9 z10 z11 := by
  have h0 := h.ge
  have h7 := h.i7
  have h8 := h.i8
  have h9 := h.i9
  have h10 := h.i10
  have hn := h.n
  have h11 := h.i11
  exact ⟨below_store h.below (by omega) _ _, h.r4.far (by omega) h'.c0 h'.c1 _ _, h.r5.far (by omega) h'.c0 h'.c1 _ _, h0, (h'.put i).nw, h.b8.far h' (by omega) _ _, h.b9.far h' (by omega) _ _, h.b10.far h' (by omega) _ _, h.b11.far h' (by omega) _ _, h7, h8, h9, h10, hn, h11⟩
theorem RP.put8 {w W : World} {b g7 g8 g9 g10 g11 : Nat} {z7 z8 z9 z10 z11 x : Int} {t t' : Bool} {A A' : Option Addr} {n c n' c' : Nat} (h : RP w W b g7 g8 g9 g10 g11 z7 z8 z9 z10 z11) (h' : Nvr W g8 z8 t A n c) (i : Is W x t' A' n' c') : RP w ((W.setCell ⟨g8, 0, none⟩ (.bool t')).setCell ⟨g8, 1, none⟩ (.slice A' n' c')) b g7 g8 g9 g10 g11 z7 x z9 z10 z11 := by
  have h0 := h.ge
  have h7 := h.i7
  have h8 := h.i8
  have h9 := h.i9
  have h10 := h.i10
  have hn := h.n
  have h11 := h.i11
  exact ⟨below_store h.below (by omega) _ _, h.r4.far (by omega) h'.c0 h'.c1 _ _, h.r5.far (by omega) h'.c0 h'.c1 _ _, h0, h.b7.far h' (by omega) _ _, (h'.put i).nw, h.b9.far h' (by omega) _ _, h.b10.far h' (by omega) _ _, h.b11.far h' (by omega) _ _, h7, h8, h9, h10, hn, h11⟩
theorem RP.put9 {w W : World} {b g7 g8 g9 g10 g11 : Nat} {z7 z8 z9 z10 z11 x : Int} {t t' : Bool} {A A' : Option Addr} {n c n' c' : Nat} (h : RP w W b g7 g8 g9 g10 g11 z7 z8 z9 z10 z11) (h' : Nvr W g9 z9 t A n c) (i : Is W x t' A' n' c') : RP w ((W.setCell ⟨g9, 0, none⟩ (.bool t')).setCell ⟨g9, 1, none⟩ (.slice A' n' c')) b g7 g8 g9 g10 g11 z7 z8 x z10 z11 := by
  have h0 := h.ge
  have h7 := h.i7
  have h8 := h.i8
  have h9 := h.i9
  have h10 := h.i10
  have hn := h.n
  have h11 := h.i11
  exact ⟨below_store h.below (by omega) _ _, h.r4.far (by omega) h'.c0 h'.c1 _ _, h.r5.far (by omega) h'.c0 h'.c1 _ _, h0, h.b7.far h' (by omega) _ _, h.b8.far h' (by omega) _ _, (h'.put i).nw, h.b10.far h' (by omega) _ _, h.b11.far h' (by omega) _ _, h7, h8, h9, h10, hn, h11⟩
theorem RP.put10 {w W : World} {b g7 g8 g9 g10 g11 : Nat} {z7 z8 z9 z10 z11 x : Int} {t t' : Bool} {A A' : Option Addr} {n c n' c' : Nat} (h : RP w W b g7 g8 g9 g10 g11 z7 z8 z9 z10 z11) (h' : Nvr W g10 z10 t A n c) (i : Is W x t' A' n' c') : RP w ((W.setCell ⟨g10, 0, none⟩ (.bool t')).setCell ⟨g10, 1, none⟩ (.slice A' n' c')) b g7 g8 g9 g10 g11 z7 z8 z9 x z11 := by
  have h0 := h.ge
  have h7 := h.i7
  have h8 := h.i8
  have h9 := h.i9
  have h10 := h.i10
  have hn := h.n
  have h11 := h.i11
  exact ⟨below_store h.below (by omega) _ _, h.r4.far (by omega) h'.c0 h'.c1 _ _, h.r5.far (by omega) h'.c0 h'.c1 _ _, h0, h.b7.far h' (by omega) _ _, h.b8.far h' (by omega) _ _, h.b9.far h' (by omega) _ _, (h'.put i).nw, h.b11.far h' (by omega) _ _, h7, h8, h9, h10, hn, h11⟩
structure EvP (w W : World) (b g7 : Nat) (a : Int) (t : Bool) (A : Option Addr) (n c : Nat) : Prop where
  below : Below w.heap.size w W
  ba : Nvr W b a t A n c
  r4 : Nvr W (b + 1) 0 false none 0 0
  r5 : Nvr W (b + 2) 0 false none 0 0
  b7 : Nwx W g7 1
  b8 : Nwx W (g7 + 1) 0
  i7 : b + 3 ≤ g7
  ge : w.heap.size ≤ b
  lt : g7 + 1 < W.heap.size
theorem EvP.next {w W W' : World} {b g7 : Nat} {a : Int} {t : Bool} {A : Option Addr} {n c : Nat} (h : EvP w W b g7 a t A n c) (hb : Below W.heap.size W W') : EvP w W' b g7 a t A n c :=
  ⟨h.below.trans (hb.mono h.below.size), h.ba.next hb, h.r4.next hb, h.r5.next hb, h.b7.next hb, h.b8.next hb, h.i7, h.ge, Nat.lt_of_lt_of_le h.lt hb.size⟩
theorem EvP.put {w W : World} {b g7 g : Nat} {a x : Int} {t t' t1 : Bool} {A A' A1 : Option Addr} {n c n' c' n1 c1 : Nat} (h : EvP w W b g7 a t A n c) (h' : Nvr W g x t' A' n' c') (hg : g7 + 1 < g) : EvP w ((W.setCell ⟨g, 0, none⟩ (.bool t1)).setCell ⟨g, 1, none⟩ (.slice A1 n1 c1)) b g7 a t A n c := by
  have h1 := h.i7
  have h2 := h.ge
  exact ⟨below_store h.below (by omega) _ _, h.ba.far (by omega) h'.c0 h'.c1 _ _, h.r4.far (by omega) h'.c0 h'.c1 _ _, h.r5.far (by omega) h'.c0 h'.c1 _ _, h.b7.far h' (by omega) _ _, h.b8.far h' (by omega) _ _, h1, h2, by rw [size_pair]; exact h.lt⟩
/-- the answer of Pair -/
def RPair (a : Int) (N : Nat) (w : World) (e : Ending) (w' : World) : Prop :=
  ∃ (t : Bool) (A : Option Addr) (n c : Nat) (t' : Bool) (A' : Option Addr) (n' c' : Nat) (b : Bool), e = .returned (.tuple #[.agg #[.bool t, .slice A n c], .agg #[.bool t', .slice A' n' c'], .bool b]) ∧ Below w.heap.size w w' ∧
    ((b = true ∧ Is w' (chi a N) t A n c ∧ Is w' (psi a N) t' A' n' c' ∧ Sz (psi a N) 8192) ∨ (b = false ∧ Is w' 0 t A n c ∧ Is w' 0 t' A' n' c' ∧ ¬ Sz (psi a N) 8192))
theorem pair_sizes {a : Int} (ha : 2 ≤ a) (hs : Sz a 4096) {i : Nat} (h : Sz (psi a i) 8192) : Sz (a + a) 4097 ∧ Sz (psi a (i + 1)) 12290 ∧ Sz (chi a i) 12290 ∧ Sz (chi a (i + 1)) 16388 ∧ Sz ((a + a) * psi a (i + 1)) 16387 ∧ Sz ((a + a) * chi a (i + 1)) 20485 := by
  have s2 : Sz (a + a) 4097 := hs.add hs
  have st : ∀ (j k : Nat), 1 ≤ k → Sz (psi a j) k → Sz (psi a (j + 1)) (4097 + k + 1) := fun j k hk hj => by
    refine sz_of_le' (psi_nn ha (j + 1)) (psi_step ha j) ?_
    have s4 : Sz (2 * a * psi a j) (4097 + k) := by
      rw [show 2 * a = a + a by omega]
      exact s2.mul hj
    exact s4.add (sz_one' (by omega))
  have s3 := st i 8192 (by omega) h
  have s5 := st (i + 1) 12290 (by omega) s3
  have cl : ∀ j, chi a j ≤ psi a (j + 1) := fun j => by
    have h1 := psi_succ a j
    have h2 : (0 : Int) ≤ a * psi a j := Int.mul_nonneg (by omega) (psi_nn ha j)
    omega
  have c1 : Sz (chi a i) 12290 := sz_of_le' (by have := chi_ge ha i; omega) (cl i) s3
  have c2 : Sz (chi a (i + 1)) 16388 := sz_of_le' (by have := chi_ge ha (i + 1); omega) (cl (i + 1)) s5
  exact ⟨s2, s3, c1, c2, (s2.mul s3).le (by omega), s2.mul c2⟩
theorem sz_mono {a : Int} (ha : 2 ≤ a) {m n k : Nat} (h : m ≤ n) (hs : Sz (psi a n) k) : Sz (psi a m) k := sz_of_le' (psi_nn ha m) (psi_le ha h) hs
theorem two_res {w W X : World} {g g' : Nat} {z z' y y' : Int} {t t' u u' : Bool} {A A' B B' : Option Addr} {n c n' c' m d m' d' : Nat} (h : Nvr W g y u B m d) (h' : Nvr W g' y' u' B' m' d') (hne : g ≠ g') (i : Is W z t A n c) (i' : Is W z' t' A' n' c') (hb : Below w.heap.size w W) (hg : w.heap.size ≤ g) (hg' : w.heap.size ≤ g')
    (hX : (((W.setCell ⟨g, 0, none⟩ (.bool t)).setCell ⟨g, 1, none⟩ (.slice A n c)).setCell ⟨g', 0, none⟩ (.bool t')).setCell ⟨g', 1, none⟩ (.slice A' n' c') = X) :
    X.cell? ⟨g, 0, none⟩ = some (.bool t) ∧ X.cell? ⟨g, 1, none⟩ = some (.slice A n c) ∧ X.cell? ⟨g', 0, none⟩ = some (.bool t') ∧ X.cell? ⟨g', 1, none⟩ = some (.slice A' n' c') ∧ Is X z t A n c ∧ Is X z' t' A' n' c' ∧ Below w.heap.size w X := by
  subst hX
  have k := h'.far hne h.c0 h.c1 (.bool t) (.slice A n c)
  have j := (h.put i).far (Ne.symm hne) k.c0 k.c1 (.bool t') (.slice A' n' c')
  have l := k.put (i'.store h.c0 h.c1 (.bool t) (.slice A n c))
  exact ⟨j.c0, j.c1, l.c0, l.c1, j.is, l.is, below_store (below_store hb hg _ _) hg' _ _⟩
set_option maxHeartbeats 8000000 in
theorem refPair_c {w : World} {a : Int} {t : Bool} {A : Option Addr} {n c : Nat} (h : Is w a t A n c) (ha : 2 ≤ a) (hs : Sz a 4096) (N : Nat) (hN : N < 9223372036854775807) :
    Calls Try.prog 20 #[.agg #[.bool t, .slice A n c], .int .i64 (N : Int)] w (RPair a N w) := by
  have hb0 := below_alloc w (.cells #[.bool t, .slice A n c] 24)
  have hb1 := hb0.alloc hb0.size (.cells #[.bool false, .slice none 0 0] 24)
  have P := Lib.hid (hb1.alloc hb1.size (.cells #[.bool false, .slice none 0 0] 24))
  have Xa := Lib.hid (((Nvr.new h).alloc (.cells #[.bool false, .slice none 0 0] 24)).alloc (.cells #[.bool false, .slice none 0 0] 24))
  have X4 := Lib.hid ((Nvr.new (is_zero8 (w.alloc (.cells #[.bool t, .slice A n c] 24)))).alloc (.cells #[.bool false, .slice none 0 0] 24))
  have X5 := Lib.hid (Nvr.new (is_zero8 ((w.alloc (.cells #[.bool t, .slice A n c] 24)).alloc (.cells #[.bool false, .slice none 0 0] 24))))
  simp only [World.size_alloc] at X4 X5
  have HA := Lib.hid ha
  have HS := Lib.hid hs
  obtain ⟨M, hM⟩ : ∃ M : Int, M = (N : Int) := ⟨_, rfl⟩
  rw [← hM]
  have m0 : 0 ≤ M := by omega
  have m1 : M < 9223372036854775807 := by omega
  have HM := Lib.hid hM
  clear h ha hs hb0 hb1 hM
  go_enter Try.func20, Try.ntmps20
  go_upto_region 1 with (fail)
  generalize ((w.alloc (.cells #[.bool t, .slice A n c] 24)).alloc (.cells #[.bool false, .slice none 0 0] 24)).alloc (.cells #[.bool false, .slice none 0 0] 24) = W0 at P Xa X4 X5 ⊢
  obtain ⟨b, hb⟩ : ∃ b, b = w.heap.size := ⟨_, rfl⟩
  rw [← hb] at Xa X4 X5 ⊢
  have HB := Lib.hid hb
  clear hb
  go_wp2_with fail
  refine (refOf_c 1 _ (by omega) (by omega)).mono ?_
  rintro e w1 h1
  obtain ⟨t1, A1, n1, c1, rfl, i1, hb⟩ := h1.numI
  have hb1 := below_alloc w1 (.cells #[.bool t1, .slice A1 n1 c1] 24)
  have X7 := Lib.hid ((Nvr.new i1).alloc (.cells #[.bool false, .slice none 0 0] 24))
  have X8 := Lib.hid (Nvr.new (is_zero8 (w1.alloc (.cells #[.bool t1, .slice A1 n1 c1] 24))))
  rw [World.size_alloc] at X8
  have h2s := X5.out.lt
  have HG := Lib.hid (show b + 3 ≤ w1.heap.size by have := hb.size; omega)

  replace Xa := Lib.hid (((Xa.out.next hb).next hb1).alloc (.cells #[.bool false, .slice none 0 0] 24))
  replace X4 := Lib.hid (((X4.out.next hb).next hb1).alloc (.cells #[.bool false, .slice none 0 0] 24))
  replace X5 := Lib.hid (((X5.out.next hb).next hb1).alloc (.cells #[.bool false, .slice none 0 0] 24))
  replace P := Lib.hid (((P.out.trans (hb.mono P.out.size)).alloc (Nat.le_trans P.out.size hb.size) (.cells #[.bool t1, .slice A1 n1 c1] 24)).alloc (by have := P.out.size; have := hb.size; simp; omega) (.cells #[.bool false, .slice none 0 0] 24))
  clear hb hb1 i1 h1 h2s
  go_upto_region 2 with (fail)
  generalize (w1.alloc (.cells #[.bool t1, .slice A1 n1 c1] 24)).alloc (.cells #[.bool false, .slice none 0 0] 24) = W1 at P Xa X4 X5 X7 X8 ⊢
  generalize w1.heap.size = g7 at HG X7 X8 ⊢
  go_cut [9, 10] (fun v9 v10 W => ∃ g9 g10, v9 = .pointer (some ⟨g9, 0, none⟩) ∧ v10 = .pointer (some ⟨g10, 0, none⟩) ∧ EvP w W b g7 a t A n c ∧ Nwx W g9 a ∧ Nwx W g10 1 ∧ g7 + 1 < g9 ∧ g7 + 1 < g10 ∧ g9 ≠ g10)
  case first =>
    have E := Lib.hid (show EvP w W1 b g7 a t A n c from ⟨P.out, Xa.out, X4.out, X5.out, X7.out.nw, X8.out.nw, HG.out, by have := HB.out; omega, X8.out.lt⟩)
    clear P Xa X4 X5 X7 X8 HG
    have a0 := E.out.ba.c0
    have a1 := E.out.ba.c1

    refine wp_region_tail (S := (fun w' => w'.cell? ⟨b, 0, none⟩ = some (.bool t) ∧ w'.cell? ⟨b, 1, none⟩ = some (.slice A n c))) 4 (by kernel_rfl) (by kernel_rfl) (by intro c a d v w h; cases d <;> exact h) ⟨cell_dr a0, cell_dr a1⟩ (fun QT hT hP hHeld => ?_)
    simp only [List.extract_toArray, List.extract_eq_take_drop, List.drop_zero, Nat.sub_zero, List.take_succ_cons, List.take_zero]
    have HT := Lib.hid hT
    clear hT
    refine wpAnyH_take (i := 0) (v := ?v0_1) rfl (by kernel_rfl) (by kernel_rfl) (by kernel_rfl) (fun c a w h => hP c a _ _ w h) (Or.inl ⟨by rfl, ?h0_1⟩) (by assumption) ?r0_1
    case h0_1 => intro w hSw; obtain ⟨h0, h1⟩ := hSw; go_simp; rfl
    clear a0 a1
    replace E := Lib.hid (E.out.next (Below.refl W1.heap.size W1).drew)
    generalize W1.drew = D0 at E hHeld ⊢
    refine wpAnyH_ready (rs := [1, 2, 3]) (by kernel_rfl) (by simp) ?_
    refine AllReadyH.cons rfl (fun K hK => ?_) ?_
    ·
      go_simp
      refine (refOf_c 1 _ (by omega) (by omega)).mono ?_
      rintro e v0 h2
      obtain ⟨t2, A2, n2, c2, rfl, i2, hb⟩ := h2.numI
      have I1 := Lib.hid i2
      clear h2 i2
      replace E := Lib.hid (E.out.next hb)
      clear hb
      refine hK.out _ _ ⟨E.out.ba.c0, E.out.ba.c1⟩ (fun hHeld => ?_)
      clear hK K
      refine wpAnyH_ready (rs := [2, 3]) (by kernel_rfl) (by simp) ?_
      refine AllReadyH.cons rfl (fun K hK => ?_) ?_
      ·
        go_simp
        have hb := below_alloc v0 (.cells #[.bool false, .slice none 0 0] 24)
        have G9 := Lib.hid (show g7 + 1 < v0.heap.size from E.out.lt)
        have V9 := Lib.hid (Nvr.new (is_zero8 v0))
        replace I1 := Lib.hid (I1.out.below hb)
        replace E := Lib.hid (E.out.next hb)
        clear hb
        refine hK.out _ _ ⟨E.out.ba.c0, E.out.ba.c1⟩ (fun hHeld => ?_)
        clear hK K
        generalize (v0.alloc (.cells #[.bool false, .slice none 0 0] 24)) = y1 at E I1 V9 hHeld ⊢
        refine wpAnyH_ready (rs := [3]) (by kernel_rfl) (by simp) ?_
        refine AllReadyH.cons rfl (fun K hK => ?_) ?_
        ·
          go_simp
          have hb := below_alloc y1 (.cells #[.bool false, .slice none 0 0] 24)
          have G10 := Lib.hid (show g7 + 1 < y1.heap.size from E.out.lt)
          have GN := Lib.hid (show v0.heap.size ≠ y1.heap.size by have := V9.out.lt; omega)
          have V10 := Lib.hid (Nvr.new (is_zero8 y1))
          replace I1 := Lib.hid (I1.out.below hb)
          replace V9 := Lib.hid (V9.out.next hb)
          replace E := Lib.hid (E.out.next hb)
          clear hb
          refine hK.out _ _ ⟨E.out.ba.c0, E.out.ba.c1⟩ (fun hHeld => ?_)
          clear hK K
          generalize (y1.alloc (.cells #[.bool false, .slice none 0 0] 24)) = y2 at E I1 V9 V10 hHeld ⊢
          clear hHeld
          refine wpAnyH_done (by kernel_rfl) ?_ _
          refine HT.out _ _ ?_
          clear HT hP QT
          have p0 := V9.out.c0; have p1 := V9.out.c1; have p2 := V9.out.f0; have p3 := V9.out.f1
          refine wpList_step fun K hK => ?_
          go_simp
          refine hK _ _ ?_
          clear hK K
          have E1 := Lib.hid (E.out.put (t1 := t) (A1 := A) (n1 := n) (c1 := c) V9.out G9.out)
          replace V10 := Lib.hid (V10.out.far (by have := GN.out; omega) p0 p1 (.bool t) (.slice A n c))
          replace V9 := Lib.hid (V9.out.put (E.out.ba.is))
          replace I1 := Lib.hid (I1.out.store p0 p1 (.bool t) (.slice A n c))
          clear p0 p1 p2 p3 E; have E := E1; clear E1
          generalize ((y2.setCell ⟨v0.heap.size, 0, none⟩ (.bool t)).setCell ⟨v0.heap.size, 1, none⟩ (.slice A n c)) = X9 at E V9 V10 I1 ⊢
          have p0 := V10.out.c0; have p1 := V10.out.c1; have p2 := V10.out.f0; have p3 := V10.out.f1
          refine wpList_step fun K hK => ?_
          go_simp
          refine hK _ _ ?_
          clear hK K
          have E1 := Lib.hid (E.out.put (t1 := t2) (A1 := A2) (n1 := n2) (c1 := c2) V10.out G10.out)
          replace V9 := Lib.hid (V9.out.far (by have := GN.out; omega) p0 p1 (.bool t2) (.slice A2 n2 c2))
          replace V10 := Lib.hid (V10.out.put I1.out)
          clear p0 p1 p2 p3 E; have E := E1; clear E1
          generalize ((X9.setCell ⟨y1.heap.size, 0, none⟩ (.bool t2)).setCell ⟨y1.heap.size, 1, none⟩ (.slice A2 n2 c2)) = X10 at E V9 V10 ⊢
          refine wpList_nil ?_
          go_wp2
          go_meet
          exact ⟨v0.heap.size, y1.heap.size, rfl, rfl, E.out, V9.out.nw, V10.out.nw, G9.out, G10.out, GN.out⟩
        exact AllReadyH.nil
      refine AllReadyH.cons rfl (fun K hK => ?_) ?_
      ·
        go_simp
        have hb := below_alloc v0 (.cells #[.bool false, .slice none 0 0] 24)
        have G10 := Lib.hid (show g7 + 1 < v0.heap.size from E.out.lt)
        have V10 := Lib.hid (Nvr.new (is_zero8 v0))
        replace I1 := Lib.hid (I1.out.below hb)
        replace E := Lib.hid (E.out.next hb)
        clear hb
        refine hK.out _ _ ⟨E.out.ba.c0, E.out.ba.c1⟩ (fun hHeld => ?_)
        clear hK K
        generalize (v0.alloc (.cells #[.bool false, .slice none 0 0] 24)) = y1 at E I1 V10 hHeld ⊢
        refine wpAnyH_ready (rs := [2]) (by kernel_rfl) (by simp) ?_
        refine AllReadyH.cons rfl (fun K hK => ?_) ?_
        ·
          go_simp
          have hb := below_alloc y1 (.cells #[.bool false, .slice none 0 0] 24)
          have G9 := Lib.hid (show g7 + 1 < y1.heap.size from E.out.lt)
          have GN := Lib.hid (show y1.heap.size ≠ v0.heap.size by have := V10.out.lt; omega)
          have V9 := Lib.hid (Nvr.new (is_zero8 y1))
          replace I1 := Lib.hid (I1.out.below hb)
          replace V10 := Lib.hid (V10.out.next hb)
          replace E := Lib.hid (E.out.next hb)
          clear hb
          refine hK.out _ _ ⟨E.out.ba.c0, E.out.ba.c1⟩ (fun hHeld => ?_)
          clear hK K
          generalize (y1.alloc (.cells #[.bool false, .slice none 0 0] 24)) = y2 at E I1 V10 V9 hHeld ⊢
          clear hHeld
          refine wpAnyH_done (by kernel_rfl) ?_ _
          refine HT.out _ _ ?_
          clear HT hP QT
          have p0 := V9.out.c0; have p1 := V9.out.c1; have p2 := V9.out.f0; have p3 := V9.out.f1
          refine wpList_step fun K hK => ?_
          go_simp
          refine hK _ _ ?_
          clear hK K
          have E1 := Lib.hid (E.out.put (t1 := t) (A1 := A) (n1 := n) (c1 := c) V9.out G9.out)
          replace V10 := Lib.hid (V10.out.far (by have := GN.out; omega) p0 p1 (.bool t) (.slice A n c))
          replace V9 := Lib.hid (V9.out.put (E.out.ba.is))
          replace I1 := Lib.hid (I1.out.store p0 p1 (.bool t) (.slice A n c))
          clear p0 p1 p2 p3 E; have E := E1; clear E1
          generalize ((y2.setCell ⟨y1.heap.size, 0, none⟩ (.bool t)).setCell ⟨y1.heap.size, 1, none⟩ (.slice A n c)) = X9 at E V9 V10 I1 ⊢
          have p0 := V10.out.c0; have p1 := V10.out.c1; have p2 := V10.out.f0; have p3 := V10.out.f1
          refine wpList_step fun K hK => ?_
          go_simp
          refine hK _ _ ?_
          clear hK K
          have E1 := Lib.hid (E.out.put (t1 := t2) (A1 := A2) (n1 := n2) (c1 := c2) V10.out G10.out)
          replace V9 := Lib.hid (V9.out.far (by have := GN.out; omega) p0 p1 (.bool t2) (.slice A2 n2 c2))
          replace V10 := Lib.hid (V10.out.put I1.out)
          clear p0 p1 p2 p3 E; have E := E1; clear E1
          generalize ((X9.setCell ⟨v0.heap.size, 0, none⟩ (.bool t2)).setCell ⟨v0.heap.size, 1, none⟩ (.slice A2 n2 c2)) = X10 at E V9 V10 ⊢
          refine wpList_nil ?_
          go_wp2
          go_meet
          exact ⟨y1.heap.size, v0.heap.size, rfl, rfl, E.out, V9.out.nw, V10.out.nw, G9.out, G10.out, GN.out⟩
        exact AllReadyH.nil
      exact AllReadyH.nil
    refine AllReadyH.cons rfl (fun K hK => ?_) ?_
    ·
      go_simp
      have hb := below_alloc D0 (.cells #[.bool false, .slice none 0 0] 24)
      have G9 := Lib.hid (show g7 + 1 < D0.heap.size from E.out.lt)
      have V9 := Lib.hid (Nvr.new (is_zero8 D0))
      replace E := Lib.hid (E.out.next hb)
      clear hb
      refine hK.out _ _ ⟨E.out.ba.c0, E.out.ba.c1⟩ (fun hHeld => ?_)
      clear hK K
      generalize (D0.alloc (.cells #[.bool false, .slice none 0 0] 24)) = y0 at E V9 hHeld ⊢
      refine wpAnyH_ready (rs := [1, 3]) (by kernel_rfl) (by simp) ?_
      refine AllReadyH.cons rfl (fun K hK => ?_) ?_
      ·
        go_simp
        refine (refOf_c 1 _ (by omega) (by omega)).mono ?_
        rintro e v1 h2
        obtain ⟨t2, A2, n2, c2, rfl, i2, hb⟩ := h2.numI
        have I1 := Lib.hid i2
        clear h2 i2
        replace V9 := Lib.hid (V9.out.next hb)
        replace E := Lib.hid (E.out.next hb)
        clear hb
        refine hK.out _ _ ⟨E.out.ba.c0, E.out.ba.c1⟩ (fun hHeld => ?_)
        clear hK K
        refine wpAnyH_ready (rs := [3]) (by kernel_rfl) (by simp) ?_
        refine AllReadyH.cons rfl (fun K hK => ?_) ?_
        ·
          go_simp
          have hb := below_alloc v1 (.cells #[.bool false, .slice none 0 0] 24)
          have G10 := Lib.hid (show g7 + 1 < v1.heap.size from E.out.lt)
          have GN := Lib.hid (show D0.heap.size ≠ v1.heap.size by have := V9.out.lt; omega)
          have V10 := Lib.hid (Nvr.new (is_zero8 v1))
          replace V9 := Lib.hid (V9.out.next hb)
          replace I1 := Lib.hid (I1.out.below hb)
          replace E := Lib.hid (E.out.next hb)
          clear hb
          refine hK.out _ _ ⟨E.out.ba.c0, E.out.ba.c1⟩ (fun hHeld => ?_)
          clear hK K
          generalize (v1.alloc (.cells #[.bool false, .slice none 0 0] 24)) = y2 at E V9 I1 V10 hHeld ⊢
          clear hHeld
          refine wpAnyH_done (by kernel_rfl) ?_ _
          refine HT.out _ _ ?_
          clear HT hP QT
          have p0 := V9.out.c0; have p1 := V9.out.c1; have p2 := V9.out.f0; have p3 := V9.out.f1
          refine wpList_step fun K hK => ?_
          go_simp
          refine hK _ _ ?_
          clear hK K
          have E1 := Lib.hid (E.out.put (t1 := t) (A1 := A) (n1 := n) (c1 := c) V9.out G9.out)
          replace V10 := Lib.hid (V10.out.far (by have := GN.out; omega) p0 p1 (.bool t) (.slice A n c))
          replace V9 := Lib.hid (V9.out.put (E.out.ba.is))
          replace I1 := Lib.hid (I1.out.store p0 p1 (.bool t) (.slice A n c))
          clear p0 p1 p2 p3 E; have E := E1; clear E1
          generalize ((y2.setCell ⟨D0.heap.size, 0, none⟩ (.bool t)).setCell ⟨D0.heap.size, 1, none⟩ (.slice A n c)) = X9 at E V9 V10 I1 ⊢
          have p0 := V10.out.c0; have p1 := V10.out.c1; have p2 := V10.out.f0; have p3 := V10.out.f1
          refine wpList_step fun K hK => ?_
          go_simp
          refine hK _ _ ?_
          clear hK K
          have E1 := Lib.hid (E.out.put (t1 := t2) (A1 := A2) (n1 := n2) (c1 := c2) V10.out G10.out)
          replace V9 := Lib.hid (V9.out.far (by have := GN.out; omega) p0 p1 (.bool t2) (.slice A2 n2 c2))
          replace V10 := Lib.hid (V10.out.put I1.out)
          clear p0 p1 p2 p3 E; have E := E1; clear E1
          generalize ((X9.setCell ⟨v1.heap.size, 0, none⟩ (.bool t2)).setCell ⟨v1.heap.size, 1, none⟩ (.slice A2 n2 c2)) = X10 at E V9 V10 ⊢
          refine wpList_nil ?_
          go_wp2
          go_meet
          exact ⟨D0.heap.size, v1.heap.size, rfl, rfl, E.out, V9.out.nw, V10.out.nw, G9.out, G10.out, GN.out⟩
        exact AllReadyH.nil
      refine AllReadyH.cons rfl (fun K hK => ?_) ?_
      ·
        go_simp
        have hb := below_alloc y0 (.cells #[.bool false, .slice none 0 0] 24)
        have G10 := Lib.hid (show g7 + 1 < y0.heap.size from E.out.lt)
        have GN := Lib.hid (show D0.heap.size ≠ y0.heap.size by have := V9.out.lt; omega)
        have V10 := Lib.hid (Nvr.new (is_zero8 y0))
        replace V9 := Lib.hid (V9.out.next hb)
        replace E := Lib.hid (E.out.next hb)
        clear hb
        refine hK.out _ _ ⟨E.out.ba.c0, E.out.ba.c1⟩ (fun hHeld => ?_)
        clear hK K
        generalize (y0.alloc (.cells #[.bool false, .slice none 0 0] 24)) = y1 at E V9 V10 hHeld ⊢
        refine wpAnyH_ready (rs := [1]) (by kernel_rfl) (by simp) ?_
        refine AllReadyH.cons rfl (fun K hK => ?_) ?_
        ·
          go_simp
          refine (refOf_c 1 _ (by omega) (by omega)).mono ?_
          rintro e v2 h2
          obtain ⟨t2, A2, n2, c2, rfl, i2, hb⟩ := h2.numI
          have I1 := Lib.hid i2
          clear h2 i2
          replace V9 := Lib.hid (V9.out.next hb)
          replace V10 := Lib.hid (V10.out.next hb)
          replace E := Lib.hid (E.out.next hb)
          clear hb
          refine hK.out _ _ ⟨E.out.ba.c0, E.out.ba.c1⟩ (fun hHeld => ?_)
          clear hK K
          clear hHeld
          refine wpAnyH_done (by kernel_rfl) ?_ _
          refine HT.out _ _ ?_
          clear HT hP QT
          have p0 := V9.out.c0; have p1 := V9.out.c1; have p2 := V9.out.f0; have p3 := V9.out.f1
          refine wpList_step fun K hK => ?_
          go_simp
          refine hK _ _ ?_
          clear hK K
          have E1 := Lib.hid (E.out.put (t1 := t) (A1 := A) (n1 := n) (c1 := c) V9.out G9.out)
          replace V10 := Lib.hid (V10.out.far (by have := GN.out; omega) p0 p1 (.bool t) (.slice A n c))
          replace V9 := Lib.hid (V9.out.put (E.out.ba.is))
          replace I1 := Lib.hid (I1.out.store p0 p1 (.bool t) (.slice A n c))
          clear p0 p1 p2 p3 E; have E := E1; clear E1
          generalize ((v2.setCell ⟨D0.heap.size, 0, none⟩ (.bool t)).setCell ⟨D0.heap.size, 1, none⟩ (.slice A n c)) = X9 at E V9 V10 I1 ⊢
          have p0 := V10.out.c0; have p1 := V10.out.c1; have p2 := V10.out.f0; have p3 := V10.out.f1
          refine wpList_step fun K hK => ?_
          go_simp
          refine hK _ _ ?_
          clear hK K
          have E1 := Lib.hid (E.out.put (t1 := t2) (A1 := A2) (n1 := n2) (c1 := c2) V10.out G10.out)
          replace V9 := Lib.hid (V9.out.far (by have := GN.out; omega) p0 p1 (.bool t2) (.slice A2 n2 c2))
          replace V10 := Lib.hid (V10.out.put I1.out)
          clear p0 p1 p2 p3 E; have E := E1; clear E1
          generalize ((X9.setCell ⟨y0.heap.size, 0, none⟩ (.bool t2)).setCell ⟨y0.heap.size, 1, none⟩ (.slice A2 n2 c2)) = X10 at E V9 V10 ⊢
          refine wpList_nil ?_
          go_wp2
          go_meet
          exact ⟨D0.heap.size, y0.heap.size, rfl, rfl, E.out, V9.out.nw, V10.out.nw, G9.out, G10.out, GN.out⟩
        exact AllReadyH.nil
      exact AllReadyH.nil
    refine AllReadyH.cons rfl (fun K hK => ?_) ?_
    ·
      go_simp
      have hb := below_alloc D0 (.cells #[.bool false, .slice none 0 0] 24)
      have G10 := Lib.hid (show g7 + 1 < D0.heap.size from E.out.lt)
      have V10 := Lib.hid (Nvr.new (is_zero8 D0))
      replace E := Lib.hid (E.out.next hb)
      clear hb
      refine hK.out _ _ ⟨E.out.ba.c0, E.out.ba.c1⟩ (fun hHeld => ?_)
      clear hK K
      generalize (D0.alloc (.cells #[.bool false, .slice none 0 0] 24)) = y0 at E V10 hHeld ⊢
      refine wpAnyH_ready (rs := [1, 2]) (by kernel_rfl) (by simp) ?_
      refine AllReadyH.cons rfl (fun K hK => ?_) ?_
      ·
        go_simp
        refine (refOf_c 1 _ (by omega) (by omega)).mono ?_
        rintro e v1 h2
        obtain ⟨t2, A2, n2, c2, rfl, i2, hb⟩ := h2.numI
        have I1 := Lib.hid i2
        clear h2 i2
        replace V10 := Lib.hid (V10.out.next hb)
        replace E := Lib.hid (E.out.next hb)
        clear hb
        refine hK.out _ _ ⟨E.out.ba.c0, E.out.ba.c1⟩ (fun hHeld => ?_)
        clear hK K
        refine wpAnyH_ready (rs := [2]) (by kernel_rfl) (by simp) ?_
        refine AllReadyH.cons rfl (fun K hK => ?_) ?_
        ·
          go_simp
          have hb := below_alloc v1 (.cells #[.bool false, .slice none 0 0] 24)
          have G9 := Lib.hid (show g7 + 1 < v1.heap.size from E.out.lt)
          have GN := Lib.hid (show v1.heap.size ≠ D0.heap.size by have := V10.out.lt; omega)
          have V9 := Lib.hid (Nvr.new (is_zero8 v1))
          replace V10 := Lib.hid (V10.out.next hb)
          replace I1 := Lib.hid (I1.out.below hb)
          replace E := Lib.hid (E.out.next hb)
          clear hb
          refine hK.out _ _ ⟨E.out.ba.c0, E.out.ba.c1⟩ (fun hHeld => ?_)
          clear hK K
          generalize (v1.alloc (.cells #[.bool false, .slice none 0 0] 24)) = y2 at E V10 I1 V9 hHeld ⊢
          clear hHeld
          refine wpAnyH_done (by kernel_rfl) ?_ _
          refine HT.out _ _ ?_
          clear HT hP QT
          have p0 := V9.out.c0; have p1 := V9.out.c1; have p2 := V9.out.f0; have p3 := V9.out.f1
          refine wpList_step fun K hK => ?_
          go_simp
          refine hK _ _ ?_
          clear hK K
          have E1 := Lib.hid (E.out.put (t1 := t) (A1 := A) (n1 := n) (c1 := c) V9.out G9.out)
          replace V10 := Lib.hid (V10.out.far (by have := GN.out; omega) p0 p1 (.bool t) (.slice A n c))
          replace V9 := Lib.hid (V9.out.put (E.out.ba.is))
          replace I1 := Lib.hid (I1.out.store p0 p1 (.bool t) (.slice A n c))
          clear p0 p1 p2 p3 E; have E := E1; clear E1
          generalize ((y2.setCell ⟨v1.heap.size, 0, none⟩ (.bool t)).setCell ⟨v1.heap.size, 1, none⟩ (.slice A n c)) = X9 at E V9 V10 I1 ⊢
          have p0 := V10.out.c0; have p1 := V10.out.c1; have p2 := V10.out.f0; have p3 := V10.out.f1
          refine wpList_step fun K hK => ?_
          go_simp
          refine hK _ _ ?_
          clear hK K
          have E1 := Lib.hid (E.out.put (t1 := t2) (A1 := A2) (n1 := n2) (c1 := c2) V10.out G10.out)
          replace V9 := Lib.hid (V9.out.far (by have := GN.out; omega) p0 p1 (.bool t2) (.slice A2 n2 c2))
          replace V10 := Lib.hid (V10.out.put I1.out)
          clear p0 p1 p2 p3 E; have E := E1; clear E1
          generalize ((X9.setCell ⟨D0.heap.size, 0, none⟩ (.bool t2)).setCell ⟨D0.heap.size, 1, none⟩ (.slice A2 n2 c2)) = X10 at E V9 V10 ⊢
          refine wpList_nil ?_
          go_wp2
          go_meet
          exact ⟨v1.heap.size, D0.heap.size, rfl, rfl, E.out, V9.out.nw, V10.out.nw, G9.out, G10.out, GN.out⟩
        exact AllReadyH.nil
      refine AllReadyH.cons rfl (fun K hK => ?_) ?_
      ·
        go_simp
        have hb := below_alloc y0 (.cells #[.bool false, .slice none 0 0] 24)
        have G9 := Lib.hid (show g7 + 1 < y0.heap.size from E.out.lt)
        have GN := Lib.hid (show y0.heap.size ≠ D0.heap.size by have := V10.out.lt; omega)
        have V9 := Lib.hid (Nvr.new (is_zero8 y0))
        replace V10 := Lib.hid (V10.out.next hb)
        replace E := Lib.hid (E.out.next hb)
        clear hb
        refine hK.out _ _ ⟨E.out.ba.c0, E.out.ba.c1⟩ (fun hHeld => ?_)
        clear hK K
        generalize (y0.alloc (.cells #[.bool false, .slice none 0 0] 24)) = y1 at E V10 V9 hHeld ⊢
        refine wpAnyH_ready (rs := [1]) (by kernel_rfl) (by simp) ?_
        refine AllReadyH.cons rfl (fun K hK => ?_) ?_
        ·
          go_simp
          refine (refOf_c 1 _ (by omega) (by omega)).mono ?_
          rintro e v2 h2
          obtain ⟨t2, A2, n2, c2, rfl, i2, hb⟩ := h2.numI
          have I1 := Lib.hid i2
          clear h2 i2
          replace V10 := Lib.hid (V10.out.next hb)
          replace V9 := Lib.hid (V9.out.next hb)
          replace E := Lib.hid (E.out.next hb)
          clear hb
          refine hK.out _ _ ⟨E.out.ba.c0, E.out.ba.c1⟩ (fun hHeld => ?_)
          clear hK K
          clear hHeld
          refine wpAnyH_done (by kernel_rfl) ?_ _
          refine HT.out _ _ ?_
          clear HT hP QT
          have p0 := V9.out.c0; have p1 := V9.out.c1; have p2 := V9.out.f0; have p3 := V9.out.f1
          refine wpList_step fun K hK => ?_
          go_simp
          refine hK _ _ ?_
          clear hK K
          have E1 := Lib.hid (E.out.put (t1 := t) (A1 := A) (n1 := n) (c1 := c) V9.out G9.out)
          replace V10 := Lib.hid (V10.out.far (by have := GN.out; omega) p0 p1 (.bool t) (.slice A n c))
          replace V9 := Lib.hid (V9.out.put (E.out.ba.is))
          replace I1 := Lib.hid (I1.out.store p0 p1 (.bool t) (.slice A n c))
          clear p0 p1 p2 p3 E; have E := E1; clear E1
          generalize ((v2.setCell ⟨y0.heap.size, 0, none⟩ (.bool t)).setCell ⟨y0.heap.size, 1, none⟩ (.slice A n c)) = X9 at E V9 V10 I1 ⊢
          have p0 := V10.out.c0; have p1 := V10.out.c1; have p2 := V10.out.f0; have p3 := V10.out.f1
          refine wpList_step fun K hK => ?_
          go_simp
          refine hK _ _ ?_
          clear hK K
          have E1 := Lib.hid (E.out.put (t1 := t2) (A1 := A2) (n1 := n2) (c1 := c2) V10.out G10.out)
          replace V9 := Lib.hid (V9.out.far (by have := GN.out; omega) p0 p1 (.bool t2) (.slice A2 n2 c2))
          replace V10 := Lib.hid (V10.out.put I1.out)
          clear p0 p1 p2 p3 E; have E := E1; clear E1
          generalize ((X9.setCell ⟨D0.heap.size, 0, none⟩ (.bool t2)).setCell ⟨D0.heap.size, 1, none⟩ (.slice A2 n2 c2)) = X10 at E V9 V10 ⊢
          refine wpList_nil ?_
          go_wp2
          go_meet
          exact ⟨y0.heap.size, D0.heap.size, rfl, rfl, E.out, V9.out.nw, V10.out.nw, G9.out, G10.out, GN.out⟩
        exact AllReadyH.nil
      exact AllReadyH.nil
    exact AllReadyH.nil
  case rest =>
    obtain ⟨g9, g10, rfl, rfl, hE, h9, h10, i9, i10, hn⟩ := hcut
    clear P Xa X4 X5 X7 X8
    have E := Lib.hid hE
    have H9 := Lib.hid h9
    have H10 := Lib.hid h10
    have HI := Lib.hid (And.intro i9 (And.intro i10 hn))
    clear hE h9 h10 i9 i10 hn
    have a0 := E.out.ba.c0
    have a1 := E.out.ba.c1
    go_wp2_with fail
    have la : n ≤ 8796093022208 := Nat.le_trans (E.out.ba.is.len HS.out) (by omega)
    refine (refAdd_c E.out.ba.is E.out.ba.is la la).mono ?_
    rintro e w2 ⟨t3, A3, n3, c3, rfl, i3, hb⟩
    replace E := Lib.hid (E.out.next hb)
    have E2 := Lib.hid (show RP w (w2.alloc (.cells #[.bool t3, .slice A3 n3 c3] 24)) b g7 (g7 + 1) g9 g10 w2.heap.size 1 0 a 1 (a + a) from
      ⟨E.out.below.alloc E.out.below.size _, E.out.r4.alloc _, E.out.r5.alloc _, E.out.ge, E.out.b7.next (below_alloc _ _), E.out.b8.next (below_alloc _ _), (H9.out.next hb).next (below_alloc _ _), (H10.out.next hb).next (below_alloc _ _), (Nvr.new i3).nw, E.out.i7, rfl, HI.out.1, HI.out.2.1, HI.out.2.2, (H9.out.next hb).lt, (H10.out.next hb).lt⟩)
    clear hb i3 a0 a1 la E H9 H10 HI
    have E := E2
    clear E2
    go_upto_region 4 with (fail)
    generalize w2.alloc (.cells #[.bool t3, .slice A3 n3 c3] 24) = W2 at E ⊢
    generalize w2.heap.size = g11 at E ⊢
    generalize g7 + 1 = g8 at E ⊢
    go_wp2
    go_loopw [12] (fun v wr => ∃ i : Nat, v = .int .i64 (i : Int) ∧ i ≤ N ∧ Sz (psi a i) 8192 ∧ RP w wr b g7 g8 g9 g10 g11 (chi a i) (psi a i) (chi a (i + 1)) (psi a (i + 1)) (a + a)) (fun v _ => N - (intOf v).toNat)
    case atStart => exact ⟨0, rfl, Nat.zero_le _, sz_zero, E.out⟩
    case round =>
      clear E
      obtain ⟨i, rfl, h1, h2, hE⟩ := hrel
      have E := Lib.hid hE
      have HZ := Lib.hid (And.intro h2 (pair_sizes HA.out HS.out h2))
      clear hE h2
      obtain ⟨t7, A7, n7, c7, h7⟩ := E.out.b7
      obtain ⟨t8, A8, n8, c8, h8⟩ := E.out.b8
      obtain ⟨t9, A9, n9, c9, h9⟩ := E.out.b9
      obtain ⟨t10, A10, n10, c10, h10⟩ := E.out.b10
      obtain ⟨t11, A11, n11, c11, h11⟩ := E.out.b11
      have N7 := Lib.hid h7
      have N8 := Lib.hid h8
      have N9 := Lib.hid h9
      have N10 := Lib.hid h10
      have N11 := Lib.hid h11
      clear h7 h8 h9 h10 h11
      by_cases hiN : i < N
      · have hiM : (i : Int) < M := by have := HM.out; omega
        have m2 : (i : Int) + 1 < 9223372036854775808 := by omega
        clear h1
        go_upto_region 7 with (fail)
        have p0 := N7.out.c0; have p1 := N7.out.c1
        have q0 := N9.out.c0; have q1 := N9.out.c1
        have r0 := N11.out.c0; have r1 := N11.out.c1
        refine wp_region_tail (S := (fun w' => w'.cell? ⟨g7, 0, none⟩ = some (.bool t7) ∧ w'.cell? ⟨g7, 1, none⟩ = some (.slice A7 n7 c7) ∧ w'.cell? ⟨g9, 0, none⟩ = some (.bool t9) ∧ w'.cell? ⟨g9, 1, none⟩ = some (.slice A9 n9 c9) ∧ w'.cell? ⟨g11, 0, none⟩ = some (.bool t11) ∧ w'.cell? ⟨g11, 1, none⟩ = some (.slice A11 n11 c11))) 6 (by kernel_rfl) (by kernel_rfl) (by intro c a d v w h; cases d <;> exact h) ⟨cell_dr p0, cell_dr p1, cell_dr q0, cell_dr q1, cell_dr r0, cell_dr r1⟩ (fun QT hT hP hHeld => ?_)
        simp only [List.extract_toArray, List.extract_eq_take_drop, List.drop_zero, Nat.sub_zero, List.take_succ_cons, List.take_zero]
        have HT := Lib.hid hT
        clear hT
        refine wpAnyH_take (i := 0) (v := ?v0_2) rfl (by kernel_rfl) (by kernel_rfl) (by kernel_rfl) (fun c a w h => hP c a _ _ w h) (Or.inl ⟨by rfl, ?h0_2⟩) (by assumption) ?r0_2
        case h0_2 => intro w hSw; obtain ⟨h0, h1, h2, h3, h4, h5⟩ := hSw; go_simp; rfl
        refine wpAnyH_take (i := 1) (v := ?v1_3) rfl (by kernel_rfl) (by kernel_rfl) (by kernel_rfl) (fun c a w h => hP c a _ _ w h) (Or.inl ⟨by rfl, ?h1_3⟩) (by assumption) ?r1_3
        case h1_3 => intro w hSw; obtain ⟨h0, h1, h2, h3, h4, h5⟩ := hSw; go_simp; rfl
        refine wpAnyH_take (i := 2) (v := ?v2_4) rfl (by kernel_rfl) (by kernel_rfl) (by kernel_rfl) (fun c a w h => hP c a _ _ w h) (Or.inl ⟨by rfl, ?h2_4⟩) (by assumption) ?r2_4
        case h2_4 => intro w hSw; obtain ⟨h0, h1, h2, h3, h4, h5⟩ := hSw; go_simp; rfl
        refine wpAnyH_take (i := 4) (v := ?v4_5) rfl (by kernel_rfl) (by kernel_rfl) (by kernel_rfl) (fun c a w h => hP c a _ _ w h) (Or.inl ⟨by rfl, ?h4_5⟩) (by assumption) ?r4_5
        case h4_5 => intro w hSw; obtain ⟨h0, h1, h2, h3, h4, h5⟩ := hSw; go_simp; rfl
        clear p0 p1 q0 q1 r0 r1
        refine wpAnyH_ready (rs := [3]) (by kernel_rfl) (by simp) ?_
        refine AllReadyH.cons rfl (fun K hK => ?_) AllReadyH.nil
        go_simp
        refine (refMul_c (N11.out.is.below (Below.refl _ _).drew) (N9.out.is.below (Below.refl _ _).drew) (Nat.le_trans (N11.out.is.len HZ.out.2.1) (by omega)) (Nat.le_trans (N9.out.is.len HZ.out.2.2.2.2.1) (by omega))).mono ?_
        rintro e x1 ⟨t20, A20, n20, c20, rfl, i20, hb⟩
        replace hb := (Below.refl wr.heap.size wr).drew.trans hb
        replace N7 := Lib.hid (N7.out.next hb)
        replace N8 := Lib.hid (N8.out.next hb)
        replace N9 := Lib.hid (N9.out.next hb)
        replace N10 := Lib.hid (N10.out.next hb)
        replace N11 := Lib.hid (N11.out.next hb)
        replace E := Lib.hid (E.out.next hb)
        have I20 := Lib.hid i20; clear hb i20 hHeld
        refine hK.out _ _ ⟨N7.out.c0, N7.out.c1, N9.out.c0, N9.out.c1, N11.out.c0, N11.out.c1⟩ (fun hHeld => ?_)
        clear hK K
        refine wpAnyH_ready (rs := [5]) (by kernel_rfl) (by simp) ?_
        refine AllReadyH.cons rfl (fun K hK => ?_) AllReadyH.nil
        go_simp
        refine (refSub_c I20.out N7.out.is (Nat.le_trans (I20.out.len HZ.out.2.2.2.2.2.2) (by omega)) (Nat.le_trans (N7.out.is.len HZ.out.2.2.2.1) (by omega))).mono ?_
        rintro e x2 ⟨t21, A21, n21, c21, rfl, i21, hb⟩
        replace N7 := Lib.hid (N7.out.next hb)
        replace N8 := Lib.hid (N8.out.next hb)
        replace N9 := Lib.hid (N9.out.next hb)
        replace N10 := Lib.hid (N10.out.next hb)
        replace N11 := Lib.hid (N11.out.next hb)
        replace E := Lib.hid (E.out.next hb)
        have I21 := Lib.hid i21; clear hb i21 I20
        refine hK.out _ _ ⟨N7.out.c0, N7.out.c1, N9.out.c0, N9.out.c1, N11.out.c0, N11.out.c1⟩ (fun hHeld => ?_)
        clear hK K
        clear hHeld
        refine wpAnyH_done (by kernel_rfl) ?_ _
        refine HT.out _ _ ?_
        clear HT hP QT
        have p0 := N7.out.c0; have p1 := N7.out.c1; have p2 := N7.out.f0; have p3 := N7.out.f1
        refine wpList_step fun K hK => ?_
        go_simp
        refine hK _ _ ?_
        clear hK K
        have E1 := Lib.hid (E.out.put7 N7.out N9.out.is)
        have j0 := E.out.i7; have j1 := E.out.i8; have j2 := E.out.i9; have j3 := E.out.i10; have j4 := E.out.n; have j5 := E.out.i11
        replace I21 := Lib.hid (I21.out.store p0 p1 (.bool t9) (.slice A9 n9 c9))
        have M7 := Lib.hid (N7.out.put N9.out.is)
        replace N8 := Lib.hid (N8.out.far (by omega) p0 p1 (.bool t9) (.slice A9 n9 c9))
        replace N9 := Lib.hid (N9.out.far (by omega) p0 p1 (.bool t9) (.slice A9 n9 c9))
        replace N10 := Lib.hid (N10.out.far (by omega) p0 p1 (.bool t9) (.slice A9 n9 c9))
        replace N11 := Lib.hid (N11.out.far (by omega) p0 p1 (.bool t9) (.slice A9 n9 c9))
        clear N7 E p0 p1 p2 p3 j0 j1 j2 j3 j4 j5; have N7 := M7; have E := E1; clear M7 E1
        generalize (x2.setCell ⟨g7, 0, none⟩ (.bool t9)).setCell ⟨g7, 1, none⟩ (.slice A9 n9 c9) = x3 at E N7 N8 N9 N10 N11 I21 ⊢
        have p0 := N9.out.c0; have p1 := N9.out.c1; have p2 := N9.out.f0; have p3 := N9.out.f1
        refine wpList_step fun K hK => ?_
        go_simp
        refine hK _ _ ?_
        clear hK K
        have I22 := Lib.hid (show Is x3 (chi a (i + 2)) t21 A21 n21 c21 by rw [chi_two, show 2 * a = a + a by omega]; exact I21.out)
        have E1 := Lib.hid (E.out.put9 N9.out I22.out)
        have j0 := E.out.i7; have j1 := E.out.i8; have j2 := E.out.i9; have j3 := E.out.i10; have j4 := E.out.n; have j5 := E.out.i11
        have M9 := Lib.hid (N9.out.put I22.out)
        replace N7 := Lib.hid (N7.out.far (by omega) p0 p1 (.bool t21) (.slice A21 n21 c21))
        replace N8 := Lib.hid (N8.out.far (by omega) p0 p1 (.bool t21) (.slice A21 n21 c21))
        replace N10 := Lib.hid (N10.out.far (by omega) p0 p1 (.bool t21) (.slice A21 n21 c21))
        replace N11 := Lib.hid (N11.out.far (by omega) p0 p1 (.bool t21) (.slice A21 n21 c21))
        clear N9 E p0 p1 p2 p3 j0 j1 j2 j3 j4 j5; have N9 := M9; have E := E1; clear M9 E1
        clear I22 I21
        generalize (x3.setCell ⟨g9, 0, none⟩ (.bool t21)).setCell ⟨g9, 1, none⟩ (.slice A21 n21 c21) = x4 at E N7 N8 N9 N10 N11 ⊢
        refine wpList_nil ?_
        go_upto_region 8 with (fail)
        have p0 := N8.out.c0; have p1 := N8.out.c1
        have q0 := N10.out.c0; have q1 := N10.out.c1
        have r0 := N11.out.c0; have r1 := N11.out.c1
        refine wp_region_tail (S := (fun w' => w'.cell? ⟨g8, 0, none⟩ = some (.bool t8) ∧ w'.cell? ⟨g8, 1, none⟩ = some (.slice A8 n8 c8) ∧ w'.cell? ⟨g10, 0, none⟩ = some (.bool t10) ∧ w'.cell? ⟨g10, 1, none⟩ = some (.slice A10 n10 c10) ∧ w'.cell? ⟨g11, 0, none⟩ = some (.bool t11) ∧ w'.cell? ⟨g11, 1, none⟩ = some (.slice A11 n11 c11))) 6 (by kernel_rfl) (by kernel_rfl) (by intro c a d v w h; cases d <;> exact h) ⟨cell_dr p0, cell_dr p1, cell_dr q0, cell_dr q1, cell_dr r0, cell_dr r1⟩ (fun QT hT hP hHeld => ?_)
        simp only [List.extract_toArray, List.extract_eq_take_drop, List.drop_zero, Nat.sub_zero, List.take_succ_cons, List.take_zero]
        have HT := Lib.hid hT
        clear hT
        refine wpAnyH_take (i := 0) (v := ?v0_6) rfl (by kernel_rfl) (by kernel_rfl) (by kernel_rfl) (fun c a w h => hP c a _ _ w h) (Or.inl ⟨by rfl, ?h0_6⟩) (by assumption) ?r0_6
        case h0_6 => intro w hSw; obtain ⟨h0, h1, h2, h3, h4, h5⟩ := hSw; go_simp; rfl
        refine wpAnyH_take (i := 1) (v := ?v1_7) rfl (by kernel_rfl) (by kernel_rfl) (by kernel_rfl) (fun c a w h => hP c a _ _ w h) (Or.inl ⟨by rfl, ?h1_7⟩) (by assumption) ?r1_7
        case h1_7 => intro w hSw; obtain ⟨h0, h1, h2, h3, h4, h5⟩ := hSw; go_simp; rfl
        refine wpAnyH_take (i := 2) (v := ?v2_8) rfl (by kernel_rfl) (by kernel_rfl) (by kernel_rfl) (fun c a w h => hP c a _ _ w h) (Or.inl ⟨by rfl, ?h2_8⟩) (by assumption) ?r2_8
        case h2_8 => intro w hSw; obtain ⟨h0, h1, h2, h3, h4, h5⟩ := hSw; go_simp; rfl
        refine wpAnyH_take (i := 4) (v := ?v4_9) rfl (by kernel_rfl) (by kernel_rfl) (by kernel_rfl) (fun c a w h => hP c a _ _ w h) (Or.inl ⟨by rfl, ?h4_9⟩) (by assumption) ?r4_9
        case h4_9 => intro w hSw; obtain ⟨h0, h1, h2, h3, h4, h5⟩ := hSw; go_simp; rfl
        clear p0 p1 q0 q1 r0 r1
        refine wpAnyH_ready (rs := [3]) (by kernel_rfl) (by simp) ?_
        refine AllReadyH.cons rfl (fun K hK => ?_) AllReadyH.nil
        go_simp
        refine (refMul_c (N11.out.is.below (Below.refl _ _).drew) (N10.out.is.below (Below.refl _ _).drew) (Nat.le_trans (N11.out.is.len HZ.out.2.1) (by omega)) (Nat.le_trans (N10.out.is.len HZ.out.2.2.1) (by omega))).mono ?_
        rintro e y1 ⟨t20, A20, n20, c20, rfl, i20, hb⟩
        replace hb := (Below.refl x4.heap.size x4).drew.trans hb
        replace N7 := Lib.hid (N7.out.next hb)
        replace N8 := Lib.hid (N8.out.next hb)
        replace N9 := Lib.hid (N9.out.next hb)
        replace N10 := Lib.hid (N10.out.next hb)
        replace N11 := Lib.hid (N11.out.next hb)
        replace E := Lib.hid (E.out.next hb)
        have I20 := Lib.hid i20; clear hb i20 hHeld
        refine hK.out _ _ ⟨N8.out.c0, N8.out.c1, N10.out.c0, N10.out.c1, N11.out.c0, N11.out.c1⟩ (fun hHeld => ?_)
        clear hK K
        refine wpAnyH_ready (rs := [5]) (by kernel_rfl) (by simp) ?_
        refine AllReadyH.cons rfl (fun K hK => ?_) AllReadyH.nil
        go_simp
        refine (refSub_c I20.out N8.out.is (Nat.le_trans (I20.out.len HZ.out.2.2.2.2.2.1) (by omega)) (Nat.le_trans (N8.out.is.len (HZ.out.1)) (by omega))).mono ?_
        rintro e y2 ⟨t21, A21, n21, c21, rfl, i21, hb⟩
        replace N7 := Lib.hid (N7.out.next hb)
        replace N8 := Lib.hid (N8.out.next hb)
        replace N9 := Lib.hid (N9.out.next hb)
        replace N10 := Lib.hid (N10.out.next hb)
        replace N11 := Lib.hid (N11.out.next hb)
        replace E := Lib.hid (E.out.next hb)
        have I21 := Lib.hid i21; clear hb i21 I20
        refine hK.out _ _ ⟨N8.out.c0, N8.out.c1, N10.out.c0, N10.out.c1, N11.out.c0, N11.out.c1⟩ (fun hHeld => ?_)
        clear hK K
        clear hHeld
        refine wpAnyH_done (by kernel_rfl) ?_ _
        refine HT.out _ _ ?_
        clear HT hP QT
        have p0 := N8.out.c0; have p1 := N8.out.c1; have p2 := N8.out.f0; have p3 := N8.out.f1
        refine wpList_step fun K hK => ?_
        go_simp
        refine hK _ _ ?_
        clear hK K
        have E1 := Lib.hid (E.out.put8 N8.out N10.out.is)
        have j0 := E.out.i7; have j1 := E.out.i8; have j2 := E.out.i9; have j3 := E.out.i10; have j4 := E.out.n; have j5 := E.out.i11
        replace I21 := Lib.hid (I21.out.store p0 p1 (.bool t10) (.slice A10 n10 c10))
        have M8 := Lib.hid (N8.out.put N10.out.is)
        replace N7 := Lib.hid (N7.out.far (by omega) p0 p1 (.bool t10) (.slice A10 n10 c10))
        replace N9 := Lib.hid (N9.out.far (by omega) p0 p1 (.bool t10) (.slice A10 n10 c10))
        replace N10 := Lib.hid (N10.out.far (by omega) p0 p1 (.bool t10) (.slice A10 n10 c10))
        replace N11 := Lib.hid (N11.out.far (by omega) p0 p1 (.bool t10) (.slice A10 n10 c10))
        clear N8 E p0 p1 p2 p3 j0 j1 j2 j3 j4 j5; have N8 := M8; have E := E1; clear M8 E1
        generalize (y2.setCell ⟨g8, 0, none⟩ (.bool t10)).setCell ⟨g8, 1, none⟩ (.slice A10 n10 c10) = y3 at E N7 N8 N9 N10 N11 I21 ⊢
        have p0 := N10.out.c0; have p1 := N10.out.c1; have p2 := N10.out.f0; have p3 := N10.out.f1
        refine wpList_step fun K hK => ?_
        go_simp
        refine hK _ _ ?_
        clear hK K
        have I22 := Lib.hid (show Is y3 (psi a (i + 2)) t21 A21 n21 c21 by rw [psi_two, show 2 * a = a + a by omega]; exact I21.out)
        have E1 := Lib.hid (E.out.put10 N10.out I22.out)
        have j0 := E.out.i7; have j1 := E.out.i8; have j2 := E.out.i9; have j3 := E.out.i10; have j4 := E.out.n; have j5 := E.out.i11
        have M10 := Lib.hid (N10.out.put I22.out)
        replace N7 := Lib.hid (N7.out.far (by omega) p0 p1 (.bool t21) (.slice A21 n21 c21))
        replace N8 := Lib.hid (N8.out.far (by omega) p0 p1 (.bool t21) (.slice A21 n21 c21))
        replace N9 := Lib.hid (N9.out.far (by omega) p0 p1 (.bool t21) (.slice A21 n21 c21))
        replace N11 := Lib.hid (N11.out.far (by omega) p0 p1 (.bool t21) (.slice A21 n21 c21))
        clear N10 E p0 p1 p2 p3 j0 j1 j2 j3 j4 j5; have N10 := M10; have E := E1; clear M10 E1
        clear I22 I21
        generalize (y3.setCell ⟨g10, 0, none⟩ (.bool t21)).setCell ⟨g10, 1, none⟩ (.slice A21 n21 c21) = y4 at E N7 N8 N9 N10 N11 ⊢
        refine wpList_nil ?_
        have hlen := N8.out.is.2.1
        have q0 := N8.out.c0
        have q1 := N8.out.c1
        by_cases hl : n10 ≤ 8192
        · have HL := Lib.hid (show Sz (psi a (i + 1)) 8192 from words_len_le.1 (hlen ▸ hl))
          have tl : decide ((8192 : Int) < (n10 : Int)) = false := decide_eq_false (by omega)
          have tl2 : (n10 : Int) ≤ 8192 := by omega
          clear hlen
          go_wp2
          go_roundw
          case measure => simp [intOf]; omega
          case rel => exact ⟨i + 1, by go_num, by omega, HL.out, E.out⟩
        · have HL := Lib.hid (show ¬ Sz (psi a (i + 1)) 8192 from fun h => hl (by rw [hlen]; exact words_len_le.2 h))
          have tl : decide ((8192 : Int) < (n10 : Int)) = true := decide_eq_true (by omega)
          have tl2 : (8192 : Int) < (n10 : Int) := by omega
          have HLN := Lib.hid (show ¬ Sz (psi a N) 8192 from fun h => HL.out (sz_mono HA.out (by omega) h))
          clear hlen hl
          have r0 := E.out.r4.c0
          have r1 := E.out.r4.c1
          have r2 := E.out.r4.f0
          have r3 := E.out.r4.f1
          have s0 := E.out.r5.c0
          have s1 := E.out.r5.c1
          have s2 := E.out.r5.f0
          have s3 := E.out.r5.f1
          have e0 : ¬ b + 1 = b + 1 + 1 := by omega
          have e1 : ¬ b + 1 + 1 = b + 1 := by omega
          rw [show b + 2 = b + 1 + 1 from rfl] at s0 s1 s2 s3
          go_wp2
          generalize hX : (((y4.setCell ⟨b + 1, 0, none⟩ (.bool false)).setCell ⟨b + 1, 1, none⟩ (.slice none 0 0)).setCell ⟨b + 1 + 1, 0, none⟩ (.bool false)).setCell ⟨b + 1 + 1, 1, none⟩ (.slice none 0 0) = X
          obtain ⟨y0, y1, y2, y3, v1, v2, v3⟩ := two_res E.out.r4 E.out.r5 (by omega) (is_zero8 _) (is_zero8 _) E.out.below (by have := E.out.ge; omega) (by have := E.out.ge; omega) hX
          rw [show b + 2 = b + 1 + 1 from rfl] at y2 y3
          refine bodyPost_ret (v := .tuple #[.agg #[.bool false, .slice none 0 0], .agg #[.bool false, .slice none 0 0], .bool false]) (by simp [results, Try.results20, go_sem, y0, y1, y2, y3]) rfl ?_
          exact ⟨_, _, _, _, _, _, _, _, false, rfl, v3, .inr ⟨rfl, v1, v2, HLN.out⟩⟩
      · have hNM : ¬ (i : Int) < M := by have := HM.out; omega
        have HE := Lib.hid (show i = N by omega)
        have r0 := E.out.r4.c0
        have r1 := E.out.r4.c1
        have r2 := E.out.r4.f0
        have r3 := E.out.r4.f1
        have s0 := E.out.r5.c0
        have s1 := E.out.r5.c1
        have s2 := E.out.r5.f0
        have s3 := E.out.r5.f1
        have p0 := N7.out.c0
        have p1 := N7.out.c1
        have q0 := N8.out.c0
        have q1 := N8.out.c1
        have e0 : ¬ b + 1 = b + 1 + 1 := by omega
        have e1 : ¬ b + 1 + 1 = b + 1 := by omega
        have e2 : ¬ b + 1 = g7 := by have := E.out.i7; omega
        have e3 : ¬ b + 1 = g8 := by have := E.out.i7; have := E.out.i8; omega
        have e4 : ¬ b + 1 + 1 = g7 := by have := E.out.i7; omega
        have e5 : ¬ b + 1 + 1 = g8 := by have := E.out.i7; have := E.out.i8; omega
        rw [show b + 2 = b + 1 + 1 from rfl] at s0 s1 s2 s3
        clear h1 hiN
        go_wp2
        go_region
        go_wp2
        generalize hX : (((wr.setCell ⟨b + 1, 0, none⟩ (.bool t7)).setCell ⟨b + 1, 1, none⟩ (.slice A7 n7 c7)).setCell ⟨b + 1 + 1, 0, none⟩ (.bool t8)).setCell ⟨b + 1 + 1, 1, none⟩ (.slice A8 n8 c8) = X
        obtain ⟨y0, y1, y2, y3, v1, v2, v3⟩ := two_res E.out.r4 E.out.r5 (by omega) N7.out.is N8.out.is E.out.below (by have := E.out.ge; omega) (by have := E.out.ge; omega) hX
        rw [show b + 2 = b + 1 + 1 from rfl] at y2 y3
        replace y0 := cell_dr y0
        replace y1 := cell_dr y1
        replace y2 := cell_dr y2
        replace y3 := cell_dr y3
        refine bodyPost_ret (v := .tuple #[.agg #[.bool t7, .slice A7 n7 c7], .agg #[.bool t8, .slice A8 n8 c8], .bool true]) (by simp [results, Try.results20, go_sem, y0, y1, y2, y3]) rfl ?_
        have hi := HE.out
        subst hi
        exact ⟨_, _, _, _, _, _, _, _, true, rfl, v3.trans ((Below.refl _ _).drew.mono v3.size), .inl ⟨rfl, v1.below (Below.refl _ _).drew, v2.below (Below.refl _ _).drew, HZ.out.1⟩⟩
end Go.Proofs.Ytbblckaplddggaa
