import Derived.Test.YthjdnidapbhdlaaDoorHv
set_option maxRecDepth 100000
namespace Go.Proofs.YthjdnidapbhdlaaDoor
open Go.RowKit
theorem BxI.put3 {W : World} {g : Nat} {a b c d : Int} (h : BxI W g ⟨a, b, c, d⟩) (z : Int) : BxI (W.setCell ⟨g, 3, none⟩ (.int .i64 z)) g ⟨a, b, c, z⟩ := by
  have c0 := h.c0
  have c1 := h.c1
  have c2 := h.c2
  have c3 := h.c3
  have fr := h.fr
  exact ⟨by rw [World.size_setCell]; exact h.lt, by go_simp, by go_simp, by go_simp, by go_simp, fun i => by go_simp⟩
set_option maxHeartbeats 4000000 in
theorem insn_j (m : Int) (s : ByteArray) (r n z : Nat) (hr : r < 100) (hn : n < 100) (hzz : z < 100) (w : World) (hm : w.cell? ⟨1, 0, none⟩ = some (.int .i64 m)) (hw : 1 < w.heap.size) (e1 : (s.toList == [104]) = false) (e2 : s.toList.isEmpty = false) (hs : 0 < s.size) (hb : s[0] = 106) (hl : (s.extract 1 s.size).data.toList = Lib.decDigits r ++ 62 :: (Lib.decDigits n ++ 58 :: Lib.decDigits z)) :
    Calls Tryd.prog 72 #[.string s] w fun e w' => e = .returned (aggI ⟨2, r, n, z⟩) ∧ Below w.heap.size w w' := by
  have HB := Lib.hid (bel_alloc w (celI ⟨0, 0, 0, 0⟩))
  have BX := Lib.hid (BxI.new w ⟨0, 0, 0, 0⟩)
  have HI := Lib.hid (letter_at 2 (by omega) s[0] hb)
  have HN := Lib.hid (number_y n hn)
  have HR := Lib.hid (number_y r hr)
  have HZ := Lib.hid (number_y z hzz)
  have hz : (Lib.decDigits r ++ 62 :: (Lib.decDigits n ++ 58 :: Lib.decDigits z)).length < 4294967281 ∧ (Lib.decDigits n ++ 58 :: Lib.decDigits z).length < 4294967281 := by
    have h1 := (atoi_dd r hr).2
    have h2 := (atoi_dd n hn).2
    have h3 := (atoi_dd z hzz).2
    simp only [List.length_append, List.length_cons]
    omega
  have HC := Lib.hid (cut_at m _ _ _ 62 (dd_no r hr 62 (by decide)) rfl hz.1 (s.extract 1 s.size) hl)
  have HC2 := Lib.hid (cut_at m _ _ _ 58 (dd_no n hn 58 (by decide)) rfl hz.2 (tx (Lib.decDigits n ++ 58 :: Lib.decDigits z)) rfl)
  have HM := Lib.hid hm
  have HW := Lib.hid hw
  generalize Lib.decDigits r = dr at *
  generalize Lib.decDigits n = dn at *
  generalize Lib.decDigits z = dz at *
  clear hb hr hn hzz hl hm hw hz
  go_enter Tryd.func72, Tryd.ntmps72
  go_upto_region 5 with (fail)
  generalize w.alloc (celI ⟨0, 0, 0, 0⟩) = W0 at HB BX ⊢
  obtain ⟨g, hg⟩ : ∃ g, g = w.heap.size := ⟨_, rfl⟩
  rw [← hg] at BX ⊢
  have HG := Lib.hid hg
  have X0 := Lib.hid ((BxI.new W0 ⟨2, 0, 0, 0⟩).next ((Below.refl (W0.alloc (celI ⟨2, 0, 0, 0⟩)).heap.size (W0.alloc (celI ⟨2, 0, 0, 0⟩))).drew))
  have B0 := Lib.hid ((bel_alloc W0 (celI ⟨2, 0, 0, 0⟩)).drew)
  clear hg
  go_cut [3] (fun v3 W => ∃ gi, v3 = .pointer (some ⟨gi, 0, none⟩) ∧ BxI W gi ⟨2, 0, 0, 0⟩ ∧ W0.heap.size ≤ gi ∧ Below W0.heap.size W0 W)
  case first =>
    go_region_with (go_at_call 101; refine (HI.out _).mono ?_; rintro e w1 ⟨rfl, rfl⟩)
    all_goals (go_wp2; go_meet; exact ⟨W0.heap.size, rfl, X0.out, Nat.le_refl _, B0.out⟩)
  case rest =>
    obtain ⟨gi, rfl, hx, hgi, hb1⟩ := hcut
    clear X0 B0 HI
    have X1 := Lib.hid hx
    have B1 := Lib.hid (HB.out.trans (hb1.mono HB.out.size))
    have hne : gi ≠ g := by have h2 := BX.out.lt; omega
    have HGW := Lib.hid (show w.heap.size ≤ gi from Nat.le_trans HB.out.size hgi)
    have BX := Lib.hid (BX.out.next hb1)
    have hne2 : g ≠ gi := fun e => hne e.symm
    clear hx hgi hb1 HB
    have hm := B1.out.cell (p := ⟨1, 0, none⟩) HW.out
    rw [HM.out] at hm
    go_wp2_with fail
    refine (HC.out _ hm).mono ?_
    rintro e w2 ⟨rfl, j, rfl⟩
    have B2 := Lib.hid (bel_drew B1.out j)
    have X2 := Lib.hid (X1.out.next (bel_drew (Below.refl _ _) j))
    have Y2 := Lib.hid (BX.out.next (bel_drew (Below.refl _ _) j))
    clear X1 BX B1 hm
    generalize wc.drewN j = W2 at B2 X2 Y2 ⊢
    have x0 := X2.out.c0
    have hm := B2.out.cell (p := ⟨1, 0, none⟩) HW.out
    rw [HM.out] at hm
    go_wp2_with fail
    refine (HC2.out _ hm).mono ?_
    rintro e w2b ⟨rfl, j2, rfl⟩
    have B2 := Lib.hid (bel_drew B2.out j2)
    have X2 := Lib.hid (X2.out.next (bel_drew (Below.refl _ _) j2))
    have Y2 := Lib.hid (Y2.out.next (bel_drew (Below.refl _ _) j2))
    clear hm x0
    generalize W2.drewN j2 = W2 at B2 X2 Y2 ⊢
    go_wp2_with fail
    refine (HZ.out _).mono ?_
    rintro e w3z ⟨rfl, hb⟩
    have B2 := Lib.hid (B2.out.trans (hb.mono B2.out.size))
    have X2 := Lib.hid (X2.out.next hb)
    have Y2 := Lib.hid (Y2.out.next hb)
    clear hb
    have x3 := X2.out.c3
    have f3 := X2.out.fr 3
    go_wp2_with fail
    have B2 := Lib.hid (bel_set B2.out HGW.out (p := ⟨gi, 3, none⟩) (.int .i64 (z : Int)))
    have X2 := Lib.hid (X2.out.put3 z)
    have Y2 := Lib.hid (Y2.out.off (p := ⟨gi, 3, none⟩) hne (.int .i64 (z : Int)))
    clear x3 f3
    generalize w3z.setCell ⟨gi, 3, none⟩ (.int .i64 (z : Int)) = W2 at B2 X2 Y2 ⊢
    refine (HR.out _).mono ?_
    rintro e w3 ⟨rfl, hb⟩
    have B3 := Lib.hid (B2.out.trans (hb.mono B2.out.size))
    have X3 := Lib.hid (X2.out.next hb)
    have Y3 := Lib.hid (Y2.out.next hb)
    clear X2 Y2 B2 hb
    go_wp2_with fail
    refine (HN.out _).mono ?_
    rintro e w4 ⟨rfl, hb⟩
    have B4 := Lib.hid (B3.out.trans (hb.mono B3.out.size))
    have X4 := Lib.hid (X3.out.next hb)
    have Y4 := Lib.hid (Y3.out.next hb)
    clear X3 Y3 B3 hb
    have x0 := X4.out.c0
    have x1 := X4.out.c1
    have x2 := X4.out.c2
    have x3 := X4.out.c3
    have f1 := X4.out.fr 1
    have f2 := X4.out.fr 2
    have y0 := Y4.out.fr 0
    have y1 := Y4.out.fr 1
    have y2 := Y4.out.fr 2
    have y3 := Y4.out.fr 3
    have z0 := Y4.out.c0
    have z1 := Y4.out.c1
    have z2 := Y4.out.c2
    have z3 := Y4.out.c3
    go_wp2
    have Z := ((Y4.out.off (p := ⟨gi, 1, none⟩) hne (.int .i64 (r : Int))).off (p := ⟨gi, 2, none⟩) hne (.int .i64 (n : Int))).put ⟨2, r, n, z⟩
    have v0 := Z.c0
    have v1 := Z.c1
    have v2 := Z.c2
    have v3 := Z.c3
    clear x0 x1 x2 x3 f1 f2 y0 y1 y2 y3 z0 z1 z2 z3
    refine bodyPost_ret (v := aggI ⟨2, r, n, z⟩) (by simp [results, Tryd.results72, go_sem, v0, v1, v2, v3]) rfl ?_
    have hg : w.heap.size ≤ g := Nat.le_of_eq HG.out.symm
    exact ⟨rfl, bel_set (bel_set (bel_set (bel_set (bel_set (bel_set B4.out HGW.out _) HGW.out _) hg _) hg _) hg _) hg _⟩
end Go.Proofs.YthjdnidapbhdlaaDoor
