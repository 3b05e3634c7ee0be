/- the reference's instruction of a text -/
import Derived.Test.YthjdnidapbhdlaaDoorIa
import Derived.Test.YthjdnidapbhdlaaDoorHn
set_option maxRecDepth 100000
namespace Go.Proofs.YthjdnidapbhdlaaDoor
open Go.RowKit
def opT (b : Nat) : Int := if b = 105 then 0 else if b = 100 then 1 else if b = 106 then 2 else 3
/-- the instruction of a word -/
def insT (s : ByteArray) : Ins :=
  if s.size < 2 then ⟨3, 0, 0, 0⟩
  else ⟨opT (bt s 0), (digN s 1 : Int), (digN s (digE s 1 + 1) : Int), if opT (bt s 0) = 2 then (digN s (digE s (digE s 1 + 1) + 1) : Int) else 0⟩
def InsR (x : Ins) (w : World) (e : Ending) (w' : World) : Prop := e = .returned (aggI x) ∧ Below w.heap.size w w'
theorem digE_le (s : ByteArray) (a : Nat) : a ≤ digE s a ∧ digE s a ≤ a + 2 := by
  unfold digE
  split
  · split <;> omega
  · omega
theorem BxI.one {W : World} {g : Nat} {x : Ins} (h : BxI W g x) (i : Nat) (z : Int) (y : Ins) (hy : y = match i with | 0 => ⟨z, x.reg, x.nx, x.zr⟩ | 1 => ⟨x.op, z, x.nx, x.zr⟩ | 2 => ⟨x.op, x.reg, z, x.zr⟩ | _ => ⟨x.op, x.reg, x.nx, z⟩) (hi : i < 4) : BxI (W.setCell ⟨g, i, none⟩ (.int .i64 z)) g y := by
  have c0 := h.c0
  have c1 := h.c1
  have c2 := h.c2
  have c3 := h.c3
  subst hy
  match i, hi with
  | 0, _ => exact ⟨by rw [World.size_setCell]; exact h.lt, by go_simp, by go_simp, by go_simp, by go_simp, fun i => by simp only [World.frozen?_setCell]; exact h.fr i⟩
  | 1, _ => exact ⟨by rw [World.size_setCell]; exact h.lt, by go_simp, by go_simp, by go_simp, by go_simp, fun i => by simp only [World.frozen?_setCell]; exact h.fr i⟩
  | 2, _ => exact ⟨by rw [World.size_setCell]; exact h.lt, by go_simp, by go_simp, by go_simp, by go_simp, fun i => by simp only [World.frozen?_setCell]; exact h.fr i⟩
  | 3, _ => exact ⟨by rw [World.size_setCell]; exact h.lt, by go_simp, by go_simp, by go_simp, by go_simp, fun i => by simp only [World.frozen?_setCell]; exact h.fr i⟩
abbrev celI2 (x : Ins) : Obj := .cells #[.int .i64 x.op, .int .i64 x.reg, .int .i64 x.nx, .int .i64 x.zr] 70
set_option maxHeartbeats 2000000 in
theorem refIns_short (s : ByteArray) (w : World) (hs : s.size < 2) :
    Calls Tryd.prog 74 #[.string s] w (InsR (insT s) w) := by
  have HR := Lib.hid (show insT s = ⟨3, 0, 0, 0⟩ by unfold insT; rw [if_pos hs])
  have t1 : decide ((s.size : Int) < 2) = true := decide_eq_true (by omega)
  have B0 := Lib.hid ((bel_alloc w (celI2 ⟨3, 0, 0, 0⟩)).trans ((bel_alloc (w.alloc (celI2 ⟨3, 0, 0, 0⟩)) (celI2 ⟨3, 0, 0, 0⟩)).mono (bel_alloc w (celI2 ⟨3, 0, 0, 0⟩)).size))
  go_enter Tryd.func74, Tryd.ntmps74
  go_wp2
  refine bodyPost_ret (v := aggI ⟨3, 0, 0, 0⟩) (by simp [results, Tryd.results74, go_sem]) rfl ?_
  exact ⟨by rw [HR.out], B0.out⟩
set_option maxHeartbeats 4000000 in
theorem refIns_inc (s : ByteArray) (w : World) (hs : s.size ≤ 100000) (h2 : 1 < s.size) (hb : s[0].toNat = 105) :
    Calls Tryd.prog 74 #[.string s] w (InsR (insT s) w) := by
  have h0 : 0 < s.size := by omega
  have hb0 : bt s 0 = s[0].toNat := by unfold bt; rw [dif_pos h0]
  have hl1 := digE_le s 1
  have hl2 := digE_le s (digE s 1 + 1)
  have HD1 := Lib.hid (refDigits_c s 1)
  have HD2 := Lib.hid (refDigits_c s (digE s 1 + 1))
  have HD3 := Lib.hid (refDigits_c s (digE s (digE s 1 + 1) + 1))
  have HR := Lib.hid (show insT s = ⟨0, (digN s 1 : Int), (digN s (digE s 1 + 1) : Int), 0⟩ by
    have e : opT (bt s 0) = 0 := by rw [hb0]; unfold opT; simp [hb]
    unfold insT
    rw [if_neg (by omega), e]
    simp)
  generalize digN s (digE s (digE s 1 + 1) + 1) = dz at *
  generalize digE s (digE s (digE s 1 + 1) + 1) = ez at *
  generalize digN s (digE s 1 + 1) = dn at *
  generalize digE s (digE s 1 + 1) = e2 at *
  generalize digN s 1 = dr at *
  generalize digE s 1 = e1 at *
  have t1 : decide ((s.size : Int) < 2) = false := decide_eq_false (by omega)
  have q105 : ((s[0].toNat : Int) == 105) = true := by simp; omega
  clear hb hb0
  have HS := Lib.hid hs
  have HB := Lib.hid (bel_alloc w (celI2 ⟨0, 0, 0, 0⟩))
  have BX := Lib.hid (BxI.new w ⟨0, 0, 0, 0⟩)
  go_enter Tryd.func74, Tryd.ntmps74
  go_upto_region 1 with (fail)
  generalize w.alloc (celI2 ⟨0, 0, 0, 0⟩) = W0 at HB BX ⊢
  obtain ⟨g, hg⟩ : ∃ g, g = w.heap.size := ⟨_, rfl⟩
  rw [← hg] at BX ⊢
  have HG := Lib.hid hg
  clear hg
  have X := Lib.hid (BxI.new W0 ⟨3, 0, 0, 0⟩)
  have hbb := bel_alloc W0 (celI2 ⟨3, 0, 0, 0⟩)
  go_upto_region 4 with (fail)
  generalize hW1 : W0.alloc (celI2 ⟨3, 0, 0, 0⟩) = W1 at X hbb ⊢
  clear hW1
  obtain ⟨gx, hgx⟩ : ∃ g, g = W0.heap.size := ⟨_, rfl⟩
  rw [← hgx] at X ⊢
  have hne : gx ≠ g := by have := BX.out.lt; omega
  have hne2 : g ≠ gx := fun e => hne e.symm
  have HGX := Lib.hid (show w.heap.size ≤ gx by have := HB.out.size; omega)
  replace BX := Lib.hid (BX.out.next hbb)
  replace HB := Lib.hid (HB.out.trans (hbb.mono HB.out.size))
  clear hbb hgx
  have HNE := Lib.hid (And.intro hne hne2)
  clear hne hne2
  have x0 := X.out.c0
  have f0 := X.out.fr 0
  go_wp2_with fail
  replace HB := Lib.hid (bel_set HB.out (p := ⟨gx, 0, none⟩) HGX.out (.int .i64 0))
  replace BX := Lib.hid (BX.out.off (p := ⟨gx, 0, none⟩) HNE.out.1 (.int .i64 0))
  replace X := Lib.hid (X.out.one 0 0 ⟨0, 0, 0, 0⟩ rfl (by omega))
  generalize W1.setCell ⟨gx, 0, none⟩ (.int .i64 0) = W1 at X BX HB ⊢
  clear x0 f0
  refine (HD1.out W1 (by omega) (by omega)).mono ?_
  rintro e w2 ⟨rfl, rfl⟩
  have x1 := X.out.c1
  have f1 := X.out.fr 1
  go_wp2_with fail
  clear x1 f1
  replace HB := Lib.hid (bel_set HB.out (p := ⟨gx, 1, none⟩) HGX.out (.int .i64 (dr : Int)))
  replace BX := Lib.hid (BX.out.off (p := ⟨gx, 1, none⟩) HNE.out.1 (.int .i64 (dr : Int)))
  replace X := Lib.hid (X.out.one 1 dr ⟨0, dr, 0, 0⟩ rfl (by omega))
  generalize w2.setCell ⟨gx, 1, none⟩ (.int .i64 (dr : Int)) = W2 at X BX HB ⊢
  refine (HD2.out W2 (by omega) (by omega)).mono ?_
  rintro e w3 ⟨rfl, rfl⟩
  have x0 := X.out.c0
  have x2 := X.out.c2
  have f2 := X.out.fr 2
  clear x0 x2
  have t9 : ((0 : Int) == 2) = false := by decide
  have f2b := f2
  clear f2b
  have x0 := X.out.c0
  have x1 := X.out.c1
  have x2 := X.out.c2
  have x3 := X.out.c3
  have y0 := BX.out.c0
  have y1 := BX.out.c1
  have y2 := BX.out.c2
  have y3 := BX.out.c3
  have z0 := BX.out.fr 0
  have z1 := BX.out.fr 1
  have z2 := BX.out.fr 2
  have z3 := BX.out.fr 3
  have hne := HNE.out.1
  have hne2 := HNE.out.2
  go_wp2
  clear x0 x1 x2 x3 f2 y0 y1 y2 y3 z0 z1 z2 z3
  have Z := (BX.out.off (p := ⟨gx, 2, none⟩) hne (.int .i64 (dn : Int))).put ⟨0, dr, dn, 0⟩
  have v0 := Z.c0
  have v1 := Z.c1
  have v2 := Z.c2
  have v3 := Z.c3
  refine bodyPost_ret (v := aggI ⟨0, dr, dn, 0⟩) (by simp [results, Tryd.results74, go_sem, v0, v1, v2, v3]) rfl ?_
  have hg : w.heap.size ≤ g := Nat.le_of_eq HG.out.symm
  exact ⟨by rw [HR.out], bel_set (bel_set (bel_set (bel_set (bel_set HB.out (p := ⟨gx, 2, none⟩) HGX.out _) hg _) hg _) hg _) hg _⟩
set_option maxHeartbeats 4000000 in
theorem refIns_dec (s : ByteArray) (w : World) (hs : s.size ≤ 100000) (h2 : 1 < s.size) (hb : s[0].toNat = 100) :
    Calls Tryd.prog 74 #[.string s] w (InsR (insT s) w) := by
  have h0 : 0 < s.size := by omega
  have hb0 : bt s 0 = s[0].toNat := by unfold bt; rw [dif_pos h0]
  have hl1 := digE_le s 1
  have hl2 := digE_le s (digE s 1 + 1)
  have HD1 := Lib.hid (refDigits_c s 1)
  have HD2 := Lib.hid (refDigits_c s (digE s 1 + 1))
  have HD3 := Lib.hid (refDigits_c s (digE s (digE s 1 + 1) + 1))
  have HR := Lib.hid (show insT s = ⟨1, (digN s 1 : Int), (digN s (digE s 1 + 1) : Int), 0⟩ by
    have e : opT (bt s 0) = 1 := by rw [hb0]; unfold opT; simp [hb]
    unfold insT
    rw [if_neg (by omega), e]
    simp)
  generalize digN s (digE s (digE s 1 + 1) + 1) = dz at *
  generalize digE s (digE s (digE s 1 + 1) + 1) = ez at *
  generalize digN s (digE s 1 + 1) = dn at *
  generalize digE s (digE s 1 + 1) = e2 at *
  generalize digN s 1 = dr at *
  generalize digE s 1 = e1 at *
  have t1 : decide ((s.size : Int) < 2) = false := decide_eq_false (by omega)
  have q105 : ((s[0].toNat : Int) == 105) = false := by simp; omega
  have q100 : ((s[0].toNat : Int) == 100) = true := by simp; omega
  clear hb hb0
  have HS := Lib.hid hs
  have HB := Lib.hid (bel_alloc w (celI2 ⟨0, 0, 0, 0⟩))
  have BX := Lib.hid (BxI.new w ⟨0, 0, 0, 0⟩)
  go_enter Tryd.func74, Tryd.ntmps74
  go_upto_region 1 with (fail)
  generalize w.alloc (celI2 ⟨0, 0, 0, 0⟩) = W0 at HB BX ⊢
  obtain ⟨g, hg⟩ : ∃ g, g = w.heap.size := ⟨_, rfl⟩
  rw [← hg] at BX ⊢
  have HG := Lib.hid hg
  clear hg
  have X := Lib.hid (BxI.new W0 ⟨3, 0, 0, 0⟩)
  have hbb := bel_alloc W0 (celI2 ⟨3, 0, 0, 0⟩)
  go_upto_region 4 with (fail)
  generalize hW1 : W0.alloc (celI2 ⟨3, 0, 0, 0⟩) = W1 at X hbb ⊢
  clear hW1
  obtain ⟨gx, hgx⟩ : ∃ g, g = W0.heap.size := ⟨_, rfl⟩
  rw [← hgx] at X ⊢
  have hne : gx ≠ g := by have := BX.out.lt; omega
  have hne2 : g ≠ gx := fun e => hne e.symm
  have HGX := Lib.hid (show w.heap.size ≤ gx by have := HB.out.size; omega)
  replace BX := Lib.hid (BX.out.next hbb)
  replace HB := Lib.hid (HB.out.trans (hbb.mono HB.out.size))
  clear hbb hgx
  have HNE := Lib.hid (And.intro hne hne2)
  clear hne hne2
  have x0 := X.out.c0
  have f0 := X.out.fr 0
  go_wp2_with fail
  replace HB := Lib.hid (bel_set HB.out (p := ⟨gx, 0, none⟩) HGX.out (.int .i64 1))
  replace BX := Lib.hid (BX.out.off (p := ⟨gx, 0, none⟩) HNE.out.1 (.int .i64 1))
  replace X := Lib.hid (X.out.one 0 1 ⟨1, 0, 0, 0⟩ rfl (by omega))
  generalize W1.setCell ⟨gx, 0, none⟩ (.int .i64 1) = W1 at X BX HB ⊢
  clear x0 f0
  refine (HD1.out W1 (by omega) (by omega)).mono ?_
  rintro e w2 ⟨rfl, rfl⟩
  have x1 := X.out.c1
  have f1 := X.out.fr 1
  go_wp2_with fail
  clear x1 f1
  replace HB := Lib.hid (bel_set HB.out (p := ⟨gx, 1, none⟩) HGX.out (.int .i64 (dr : Int)))
  replace BX := Lib.hid (BX.out.off (p := ⟨gx, 1, none⟩) HNE.out.1 (.int .i64 (dr : Int)))
  replace X := Lib.hid (X.out.one 1 dr ⟨1, dr, 0, 0⟩ rfl (by omega))
  generalize w2.setCell ⟨gx, 1, none⟩ (.int .i64 (dr : Int)) = W2 at X BX HB ⊢
  refine (HD2.out W2 (by omega) (by omega)).mono ?_
  rintro e w3 ⟨rfl, rfl⟩
  have x0 := X.out.c0
  have x2 := X.out.c2
  have f2 := X.out.fr 2
  clear x0 x2
  have t9 : ((1 : Int) == 2) = false := by decide
  have f2b := f2
  clear f2b
  have x0 := X.out.c0
  have x1 := X.out.c1
  have x2 := X.out.c2
  have x3 := X.out.c3
  have y0 := BX.out.c0
  have y1 := BX.out.c1
  have y2 := BX.out.c2
  have y3 := BX.out.c3
  have z0 := BX.out.fr 0
  have z1 := BX.out.fr 1
  have z2 := BX.out.fr 2
  have z3 := BX.out.fr 3
  have hne := HNE.out.1
  have hne2 := HNE.out.2
  go_wp2
  clear x0 x1 x2 x3 f2 y0 y1 y2 y3 z0 z1 z2 z3
  have Z := (BX.out.off (p := ⟨gx, 2, none⟩) hne (.int .i64 (dn : Int))).put ⟨1, dr, dn, 0⟩
  have v0 := Z.c0
  have v1 := Z.c1
  have v2 := Z.c2
  have v3 := Z.c3
  refine bodyPost_ret (v := aggI ⟨1, dr, dn, 0⟩) (by simp [results, Tryd.results74, go_sem, v0, v1, v2, v3]) rfl ?_
  have hg : w.heap.size ≤ g := Nat.le_of_eq HG.out.symm
  exact ⟨by rw [HR.out], bel_set (bel_set (bel_set (bel_set (bel_set HB.out (p := ⟨gx, 2, none⟩) HGX.out _) hg _) hg _) hg _) hg _⟩
set_option maxHeartbeats 4000000 in
theorem refIns_jump (s : ByteArray) (w : World) (hs : s.size ≤ 100000) (h2 : 1 < s.size) (hb : s[0].toNat = 106) :
    Calls Tryd.prog 74 #[.string s] w (InsR (insT s) w) := by
  have h0 : 0 < s.size := by omega
  have hb0 : bt s 0 = s[0].toNat := by unfold bt; rw [dif_pos h0]
  have hl1 := digE_le s 1
  have hl2 := digE_le s (digE s 1 + 1)
  have HD1 := Lib.hid (refDigits_c s 1)
  have HD2 := Lib.hid (refDigits_c s (digE s 1 + 1))
  have HD3 := Lib.hid (refDigits_c s (digE s (digE s 1 + 1) + 1))
  have HR := Lib.hid (show insT s = ⟨2, (digN s 1 : Int), (digN s (digE s 1 + 1) : Int), (digN s (digE s (digE s 1 + 1) + 1) : Int)⟩ by
    have e : opT (bt s 0) = 2 := by rw [hb0]; unfold opT; simp [hb]
    unfold insT
    rw [if_neg (by omega), e]
    simp)
  generalize digN s (digE s (digE s 1 + 1) + 1) = dz at *
  generalize digE s (digE s (digE s 1 + 1) + 1) = ez at *
  generalize digN s (digE s 1 + 1) = dn at *
  generalize digE s (digE s 1 + 1) = e2 at *
  generalize digN s 1 = dr at *
  generalize digE s 1 = e1 at *
  have t1 : decide ((s.size : Int) < 2) = false := decide_eq_false (by omega)
  have q105 : ((s[0].toNat : Int) == 105) = false := by simp; omega
  have q100 : ((s[0].toNat : Int) == 100) = false := by simp; omega
  have q106 : ((s[0].toNat : Int) == 106) = true := by simp; omega
  clear hb hb0
  have HS := Lib.hid hs
  have HB := Lib.hid (bel_alloc w (celI2 ⟨0, 0, 0, 0⟩))
  have BX := Lib.hid (BxI.new w ⟨0, 0, 0, 0⟩)
  go_enter Tryd.func74, Tryd.ntmps74
  go_upto_region 1 with (fail)
  generalize w.alloc (celI2 ⟨0, 0, 0, 0⟩) = W0 at HB BX ⊢
  obtain ⟨g, hg⟩ : ∃ g, g = w.heap.size := ⟨_, rfl⟩
  rw [← hg] at BX ⊢
  have HG := Lib.hid hg
  clear hg
  have X := Lib.hid (BxI.new W0 ⟨3, 0, 0, 0⟩)
  have hbb := bel_alloc W0 (celI2 ⟨3, 0, 0, 0⟩)
  go_upto_region 4 with (fail)
  generalize hW1 : W0.alloc (celI2 ⟨3, 0, 0, 0⟩) = W1 at X hbb ⊢
  clear hW1
  obtain ⟨gx, hgx⟩ : ∃ g, g = W0.heap.size := ⟨_, rfl⟩
  rw [← hgx] at X ⊢
  have hne : gx ≠ g := by have := BX.out.lt; omega
  have hne2 : g ≠ gx := fun e => hne e.symm
  have HGX := Lib.hid (show w.heap.size ≤ gx by have := HB.out.size; omega)
  replace BX := Lib.hid (BX.out.next hbb)
  replace HB := Lib.hid (HB.out.trans (hbb.mono HB.out.size))
  clear hbb hgx
  have HNE := Lib.hid (And.intro hne hne2)
  clear hne hne2
  have x0 := X.out.c0
  have f0 := X.out.fr 0
  go_wp2_with fail
  replace HB := Lib.hid (bel_set HB.out (p := ⟨gx, 0, none⟩) HGX.out (.int .i64 2))
  replace BX := Lib.hid (BX.out.off (p := ⟨gx, 0, none⟩) HNE.out.1 (.int .i64 2))
  replace X := Lib.hid (X.out.one 0 2 ⟨2, 0, 0, 0⟩ rfl (by omega))
  generalize W1.setCell ⟨gx, 0, none⟩ (.int .i64 2) = W1 at X BX HB ⊢
  clear x0 f0
  refine (HD1.out W1 (by omega) (by omega)).mono ?_
  rintro e w2 ⟨rfl, rfl⟩
  have x1 := X.out.c1
  have f1 := X.out.fr 1
  go_wp2_with fail
  clear x1 f1
  replace HB := Lib.hid (bel_set HB.out (p := ⟨gx, 1, none⟩) HGX.out (.int .i64 (dr : Int)))
  replace BX := Lib.hid (BX.out.off (p := ⟨gx, 1, none⟩) HNE.out.1 (.int .i64 (dr : Int)))
  replace X := Lib.hid (X.out.one 1 dr ⟨2, dr, 0, 0⟩ rfl (by omega))
  generalize w2.setCell ⟨gx, 1, none⟩ (.int .i64 (dr : Int)) = W2 at X BX HB ⊢
  refine (HD2.out W2 (by omega) (by omega)).mono ?_
  rintro e w3 ⟨rfl, rfl⟩
  have x0 := X.out.c0
  have x2 := X.out.c2
  have f2 := X.out.fr 2
  go_wp2_with fail
  clear x0 x2 f2
  replace HB := Lib.hid (bel_set HB.out (p := ⟨gx, 2, none⟩) HGX.out (.int .i64 (dn : Int)))
  replace BX := Lib.hid (BX.out.off (p := ⟨gx, 2, none⟩) HNE.out.1 (.int .i64 (dn : Int)))
  replace X := Lib.hid (X.out.one 2 dn ⟨2, dr, dn, 0⟩ rfl (by omega))
  generalize w3.setCell ⟨gx, 2, none⟩ (.int .i64 (dn : Int)) = W3 at X BX HB ⊢
  refine (HD3.out W3 (by omega) (by omega)).mono ?_
  rintro e w4 ⟨rfl, rfl⟩
  have x0 := X.out.c0
  have x1 := X.out.c1
  have x2 := X.out.c2
  have x3 := X.out.c3
  have f3 := X.out.fr 3
  have y0 := BX.out.c0
  have y1 := BX.out.c1
  have y2 := BX.out.c2
  have y3 := BX.out.c3
  have z0 := BX.out.fr 0
  have z1 := BX.out.fr 1
  have z2 := BX.out.fr 2
  have z3 := BX.out.fr 3
  have hne := HNE.out.1
  have hne2 := HNE.out.2
  go_wp2
  clear x0 x1 x2 x3 f3 y0 y1 y2 y3 z0 z1 z2 z3
  have Z := (BX.out.off (p := ⟨gx, 3, none⟩) hne (.int .i64 (dz : Int))).put ⟨2, dr, dn, (dz : Int)⟩
  have v0 := Z.c0
  have v1 := Z.c1
  have v2 := Z.c2
  have v3 := Z.c3
  refine bodyPost_ret (v := aggI ⟨2, dr, dn, (dz : Int)⟩) (by simp [results, Tryd.results74, go_sem, v0, v1, v2, v3]) rfl ?_
  have hg : w.heap.size ≤ g := Nat.le_of_eq HG.out.symm
  exact ⟨by rw [HR.out], bel_set (bel_set (bel_set (bel_set (bel_set HB.out (p := ⟨gx, 3, none⟩) HGX.out _) hg _) hg _) hg _) hg _⟩
set_option maxHeartbeats 4000000 in
theorem refIns_none (s : ByteArray) (w : World) (hs : s.size ≤ 100000) (h2 : 1 < s.size) (hb : s[0].toNat ≠ 105 ∧ s[0].toNat ≠ 100 ∧ s[0].toNat ≠ 106) :
    Calls Tryd.prog 74 #[.string s] w (InsR (insT s) w) := by
  have h0 : 0 < s.size := by omega
  have hb0 : bt s 0 = s[0].toNat := by unfold bt; rw [dif_pos h0]
  have hl1 := digE_le s 1
  have hl2 := digE_le s (digE s 1 + 1)
  have HD1 := Lib.hid (refDigits_c s 1)
  have HD2 := Lib.hid (refDigits_c s (digE s 1 + 1))
  have HD3 := Lib.hid (refDigits_c s (digE s (digE s 1 + 1) + 1))
  have HR := Lib.hid (show insT s = ⟨3, (digN s 1 : Int), (digN s (digE s 1 + 1) : Int), 0⟩ by
    have e : opT (bt s 0) = 3 := by rw [hb0]; unfold opT; rw [if_neg hb.1, if_neg hb.2.1, if_neg hb.2.2]
    unfold insT
    rw [if_neg (by omega), e]
    simp)
  generalize digN s (digE s (digE s 1 + 1) + 1) = dz at *
  generalize digE s (digE s (digE s 1 + 1) + 1) = ez at *
  generalize digN s (digE s 1 + 1) = dn at *
  generalize digE s (digE s 1 + 1) = e2 at *
  generalize digN s 1 = dr at *
  generalize digE s 1 = e1 at *
  have t1 : decide ((s.size : Int) < 2) = false := decide_eq_false (by omega)
  have q105 : ((s[0].toNat : Int) == 105) = false := by simp; omega
  have q100 : ((s[0].toNat : Int) == 100) = false := by simp; omega
  have q106 : ((s[0].toNat : Int) == 106) = false := by simp; omega
  clear hb hb0
  have HS := Lib.hid hs
  have HB := Lib.hid (bel_alloc w (celI2 ⟨0, 0, 0, 0⟩))
  have BX := Lib.hid (BxI.new w ⟨0, 0, 0, 0⟩)
  go_enter Tryd.func74, Tryd.ntmps74
  go_upto_region 1 with (fail)
  generalize w.alloc (celI2 ⟨0, 0, 0, 0⟩) = W0 at HB BX ⊢
  obtain ⟨g, hg⟩ : ∃ g, g = w.heap.size := ⟨_, rfl⟩
  rw [← hg] at BX ⊢
  have HG := Lib.hid hg
  clear hg
  have X := Lib.hid (BxI.new W0 ⟨3, 0, 0, 0⟩)
  have hbb := bel_alloc W0 (celI2 ⟨3, 0, 0, 0⟩)
  go_upto_region 4 with (fail)
  generalize hW1 : W0.alloc (celI2 ⟨3, 0, 0, 0⟩) = W1 at X hbb ⊢
  clear hW1
  obtain ⟨gx, hgx⟩ : ∃ g, g = W0.heap.size := ⟨_, rfl⟩
  rw [← hgx] at X ⊢
  have hne : gx ≠ g := by have := BX.out.lt; omega
  have hne2 : g ≠ gx := fun e => hne e.symm
  have HGX := Lib.hid (show w.heap.size ≤ gx by have := HB.out.size; omega)
  replace BX := Lib.hid (BX.out.next hbb)
  replace HB := Lib.hid (HB.out.trans (hbb.mono HB.out.size))
  clear hbb hgx
  have HNE := Lib.hid (And.intro hne hne2)
  clear hne hne2
  have x0 := X.out.c0
  have f0 := X.out.fr 0
  go_wp2_with fail
  clear x0 f0
  refine (HD1.out W1 (by omega) (by omega)).mono ?_
  rintro e w2 ⟨rfl, rfl⟩
  have x1 := X.out.c1
  have f1 := X.out.fr 1
  go_wp2_with fail
  clear x1 f1
  replace HB := Lib.hid (bel_set HB.out (p := ⟨gx, 1, none⟩) HGX.out (.int .i64 (dr : Int)))
  replace BX := Lib.hid (BX.out.off (p := ⟨gx, 1, none⟩) HNE.out.1 (.int .i64 (dr : Int)))
  replace X := Lib.hid (X.out.one 1 dr ⟨3, dr, 0, 0⟩ rfl (by omega))
  generalize w2.setCell ⟨gx, 1, none⟩ (.int .i64 (dr : Int)) = W2 at X BX HB ⊢
  refine (HD2.out W2 (by omega) (by omega)).mono ?_
  rintro e w3 ⟨rfl, rfl⟩
  have x0 := X.out.c0
  have x2 := X.out.c2
  have f2 := X.out.fr 2
  clear x0 x2
  have t9 : ((3 : Int) == 2) = false := by decide
  have f2b := f2
  clear f2b
  have x0 := X.out.c0
  have x1 := X.out.c1
  have x2 := X.out.c2
  have x3 := X.out.c3
  have y0 := BX.out.c0
  have y1 := BX.out.c1
  have y2 := BX.out.c2
  have y3 := BX.out.c3
  have z0 := BX.out.fr 0
  have z1 := BX.out.fr 1
  have z2 := BX.out.fr 2
  have z3 := BX.out.fr 3
  have hne := HNE.out.1
  have hne2 := HNE.out.2
  go_wp2
  clear x0 x1 x2 x3 f2 y0 y1 y2 y3 z0 z1 z2 z3
  have Z := (BX.out.off (p := ⟨gx, 2, none⟩) hne (.int .i64 (dn : Int))).put ⟨3, dr, dn, 0⟩
  have v0 := Z.c0
  have v1 := Z.c1
  have v2 := Z.c2
  have v3 := Z.c3
  refine bodyPost_ret (v := aggI ⟨3, dr, dn, 0⟩) (by simp [results, Tryd.results74, go_sem, v0, v1, v2, v3]) rfl ?_
  have hg : w.heap.size ≤ g := Nat.le_of_eq HG.out.symm
  exact ⟨by rw [HR.out], bel_set (bel_set (bel_set (bel_set (bel_set HB.out (p := ⟨gx, 2, none⟩) HGX.out _) hg _) hg _) hg _) hg _⟩
theorem refIns_c (s : ByteArray) (w : World) (hs : s.size ≤ 100000) : Calls Tryd.prog 74 #[.string s] w (InsR (insT s) w) := by
  rcases Nat.lt_or_ge s.size 2 with h | h
  · exact refIns_short s w h
  · by_cases h1 : s[0].toNat = 105
    · exact refIns_inc s w hs h h1
    · by_cases h2 : s[0].toNat = 100
      · exact refIns_dec s w hs h h2
      · by_cases h3 : s[0].toNat = 106
        · exact refIns_jump s w hs h h3
        · exact refIns_none s w hs h ⟨h1, h2, h3⟩
end Go.Proofs.YthjdnidapbhdlaaDoor
