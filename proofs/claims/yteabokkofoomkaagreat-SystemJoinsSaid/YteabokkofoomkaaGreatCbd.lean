import Derived.Test.YteabokkofoomkaaGreatCau
import Derived.Deep.RegionWith
import Derived.Deep.DeepMust
import Derived.Deep.DeepCutAuto
set_option maxRecDepth 100000
namespace Go.Proofs.YteabokkofoomkaaGreat
open Go.RowKit Go.Shelf
section
variable {w w' W W' : World} {T b f : Nat} {caps : Array Value} {g : Int → Int} {Ev : World → Prop} {k k' zt zx zy za z : Int} {ta : Bool} {Aa : Option Addr} {na ca : Nat} {tt : Bool} {At : Option Addr} {nt ct : Nat} {t : Bool} {A : Option Addr} {n c : Nat} {t' : Bool} {A' : Option Addr} {n' c' : Nat} {e : Ending}
def AtPost (T b f : Nat) (caps : Array Value) (g : Int → Int) (Ev : World → Prop) (zt za : Int) (ta : Bool) (Aa : Option Addr) (na ca : Nat) (tt : Bool) (At : Option Addr) (nt ct : Nat) (k z z' : Int) (w : World) (e : Ending) (w' : World) : Prop :=
 ∃ t A n c t' A' n' c' k', e = .returned (.tuple #[.agg #[.bool t, .slice A n c], .agg #[.bool t', .slice A' n' c']]) ∧ Stp b w w' ∧ Ms T b f caps g Ev zt za ta Aa na ca tt At nt ct w' k' ∧ (k' = 0 → k = 0) ∧ Vn w' k' z t A n c ∧ Vn w' k' z' t' A' n' c'
structure AtRel (T b f : Nat) (caps : Array Value) (g : Int → Int) (Ev : World → Prop) (zt za : Int) (ta : Bool) (Aa : Option Addr) (na ca : Nat) (tt : Bool) (At : Option Addr) (nt ct : Nat) (k : Int) (w : World) (p q : Nat) (P : Nat → Int) (N L : Nat) (v : Value) (wr : World) : Prop where
 of : ∃ j : Nat, j ≤ L ∧ v = .int .i64 ((j : Int) - 1) ∧ ∃ k1 tl Al nl cl th Ah nh ch, AtV T b f caps g Ev zt za ta Aa na ca tt At nt ct k w wr p q k1 (P (N / 2 ^ j)) (P (N / 2 ^ j + 1)) tl Al nl cl th Ah nh ch
def AtMid (T b f : Nat) (caps : Array Value) (g : Int → Int) (Ev : World → Prop) (zt za : Int) (ta : Bool) (Aa : Option Addr) (na ca : Nat) (tt : Bool) (At : Option Addr) (nt ct : Nat) (k : Int) (w : World) (v6 v7 : Value) (W : World) : Prop :=
 ∃ p q k' tl Al nl cl th Ah nh ch, v6 = .pointer (some ⟨p, 0, none⟩) ∧ v7 = .pointer (some ⟨q, 0, none⟩) ∧ AtV T b f caps g Ev zt za ta Aa na ca tt At nt ct k w W p q k' (g 0) (g 1) tl Al nl cl th Ah nh ch
set_option maxHeartbeats 16000000 in
theorem at_c (h : Ms T b f caps g Ev zt za ta Aa na ca tt At nt ct w k) (N : Nat) (hN : N < 9223372036854775808) (P : Nat → Int) (hP : Sq T g zt P N) :
 Calls Tryz.prog 152 #[.pointer (some ⟨b, 0, none⟩), .int .i64 (N : Int)] w (AtPost T b f caps g Ev zt za ta Aa na ca tt At nt ct k (P N) (P (N + 1)) w) := by
 have HQ := Lib.hid hP
 clear hP
 have heg := h.ea.enters
 have hlt := h.cc.lt
 have hb0 : Below w.heap.size w ((w.alloc (.cells #[.bool false, .slice none 0 0] 58)).alloc (.cells #[.bool false, .slice none 0 0] 58)) := ((Below.refl _ _).alloc (Nat.le_refl _) _).alloc (by simp) _
 have HM := Lib.hid (h.below hb0)
 have H0 := Lib.hid h
 have HP := Lib.hid (Stp.of_below hlt hb0)
 have R4 := Lib.hid ((Vb.new w w false none 0 0 (Nat.le_refl _)).below (below_alloc _ (.cells #[.bool false, .slice none 0 0] 58)))
 have R5 := Lib.hid (Vb.new w (w.alloc (.cells #[.bool false, .slice none 0 0] 58)) false none 0 0 (by simp))
 rw [World.size_alloc] at R5
 have HZ : Hid (k = 0 → k = 0) := fun e => e
 clear hb0 h
 go_enter Tryz.func152, Tryz.ntmps152
 go_upto_region 1 with (fail)
 have hz0 : w.heap.size + 2 ≤ ((w.alloc (.cells #[.bool false, .slice none 0 0] 58)).alloc (.cells #[.bool false, .slice none 0 0] 58)).heap.size := by simp
 generalize (w.alloc (.cells #[.bool false, .slice none 0 0] 58)).alloc (.cells #[.bool false, .slice none 0 0] 58) = W0 at HM HP R4 R5 hz0 ⊢
 go_cut [6, 7] (fun v6 v7 W => AtMid T b f caps g Ev zt za ta Aa na ca tt At nt ct k w v6 v7 W)
 case first =>
  have e1 := HM.out.wk.e1
  have HS := Lib.hid (show w.heap.size ≤ W0.heap.size by omega)
  go_region_held3 (fun w' => w'.cell? ⟨b, 1, none⟩ = some (.func (.func f) #[] caps)) (first | (with_reducible exact e1) | (with_reducible exact cell_dr e1) | (with_reducible exact cell_al e1 _) | (with_reducible exact cell_dr (cell_al e1 _)) | (with_reducible exact cell_al (cell_dr e1) _) | (with_reducible exact cell_al (cell_al e1 _) _) | (with_reducible exact cell_dr (cell_al (cell_al e1 _) _)) | (with_reducible exact cell_al (cell_al (cell_dr e1) _) _) | (with_reducible exact cell_two (by omega) e1) | (with_reducible exact cell_two (by omega) (cell_two (by omega) e1)) | (with_reducible exact cell_two (by omega) (cell_al e1 _)) | (with_reducible exact cell_al (cell_two (by omega) e1) _) | fail)
   (first
    | (go_at_call 97; (with_reducible refine (OfV 0 _ (by omega) (by omega)).mono ?_); rintro e W1 ⟨tx0, Bx0, mx0, dx0, rfl, v1, s9⟩; have s0 := Stp.of_below (HM.out.below (Below.refl _ _).drew).cc.lt s9; have s1 : Stp b W0 W1 := (Stp.of_below HM.out.cc.lt (Below.refl _ _).drew).trans s0; have U0 : Hid (Vn _ k (0) _ _ _ _) := fun _ => v1; have hm0 := s1.size; replace HM := Lib.hid ((HM.out.below (Below.refl _ _).drew).below s9); replace HP := Lib.hid (HP.out.trans s1); replace R4 := Lib.hid (R4.out.next s1 hlt); replace R5 := Lib.hid (R5.out.next s1 hlt); replace HS := Lib.hid (Nat.le_trans HS.out s1.size); have hz1 := Nat.le_trans hz0 s1.size; clear s0 s1 v1 e1 s9; have e1 := HM.out.wk.e1)
    | (go_at_call 97; (with_reducible refine (OfV 0 _ (by omega) (by omega)).mono ?_); rintro e W1 ⟨tx0, Bx0, mx0, dx0, rfl, v1, s9⟩; have s0 := Stp.of_below (HM.out.below (below_alloc _ (.cells #[.bool false, .slice none 0 0] 58)).drew).cc.lt s9; have s1 : Stp b W0 W1 := (Stp.of_below HM.out.cc.lt (below_alloc _ (.cells #[.bool false, .slice none 0 0] 58)).drew).trans s0; have U0 : Hid (Vn _ k (0) _ _ _ _) := fun _ => v1; have VA0 := Lib.hid (((Vb.new w W0 false none 0 0 HS.out).below (Below.refl _ _).drew).next s0 hlt); have hm0 := s1.size; have hl0 : W0.heap.size + 0 < W1.heap.size := (by have := s0.size; simp at this; omega); replace HM := Lib.hid ((HM.out.below (below_alloc _ (.cells #[.bool false, .slice none 0 0] 58)).drew).below s9); replace HP := Lib.hid (HP.out.trans s1); replace R4 := Lib.hid (R4.out.next s1 hlt); replace R5 := Lib.hid (R5.out.next s1 hlt); replace HS := Lib.hid (Nat.le_trans HS.out s1.size); have hz1 := Nat.le_trans hz0 s1.size; clear s0 s1 v1 e1 s9; have e1 := HM.out.wk.e1)
    | (go_at_call 97; (with_reducible refine (OfV 0 _ (by omega) (by omega)).mono ?_); rintro e W1 ⟨tx0, Bx0, mx0, dx0, rfl, v1, s9⟩; have s0 := Stp.of_below (HM.out.below (((below_alloc _ (.cells #[.bool false, .slice none 0 0] 58)).trans ((below_alloc _ (.cells #[.bool false, .slice none 0 0] 58)).mono (by simp))).drew)).cc.lt s9; have s1 : Stp b W0 W1 := (Stp.of_below HM.out.cc.lt (((below_alloc _ (.cells #[.bool false, .slice none 0 0] 58)).trans ((below_alloc _ (.cells #[.bool false, .slice none 0 0] 58)).mono (by simp))).drew)).trans s0; have U0 : Hid (Vn _ k (0) _ _ _ _) := fun _ => v1; have VA0 := Lib.hid ((((Vb.new w W0 false none 0 0 HS.out).below (below_alloc _ (.cells #[.bool false, .slice none 0 0] 58))).below (Below.refl _ _).drew).next s0 hlt); have VC0 := Lib.hid (((Vb.new1 w W0 (.cells #[.bool false, .slice none 0 0] 58) false none 0 0 HS.out).below (Below.refl _ _).drew).next s0 hlt); have hm0 := s1.size; have hl0 : W0.heap.size + 1 < W1.heap.size := (by have := s0.size; simp at this; omega); replace HM := Lib.hid ((HM.out.below (((below_alloc _ (.cells #[.bool false, .slice none 0 0] 58)).trans ((below_alloc _ (.cells #[.bool false, .slice none 0 0] 58)).mono (by simp))).drew)).below s9); replace HP := Lib.hid (HP.out.trans s1); replace R4 := Lib.hid (R4.out.next s1 hlt); replace R5 := Lib.hid (R5.out.next s1 hlt); replace HS := Lib.hid (Nat.le_trans HS.out s1.size); have hz1 := Nat.le_trans hz0 s1.size; clear s0 s1 v1 e1 s9; have e1 := HM.out.wk.e1)
    | ((with_reducible refine (HM.out.ea.call _ k (0) tx0 Bx0 mx0 dx0 HM.out.ev HM.out.cc HM.out.st U0.out).mono ?_); rintro e W2 ⟨tx1, Bx1, mx1, dx1, k1, rfl, s0, c1, v1, st1⟩; have s1 : Stp b W1 W2 := s0; have z1 := fun e => (v1 e).1; have U1 : Hid (Vn _ _ (g 0) _ _ _ _) := fun e => (v1 e).2; replace U0 := Lib.hid (U0.out.next HM.out.cc s1 z1); (try (replace VA0 := Lib.hid (VA0.out.next s1 hlt))); (try (replace VC0 := Lib.hid (VC0.out.next s1 hlt))); have hm1 := s1.size; replace HM := Lib.hid (HM.out.next s1 c1 st1 z1); replace HP := Lib.hid (HP.out.trans s1); replace R4 := Lib.hid (R4.out.next s1 hlt); replace R5 := Lib.hid (R5.out.next s1 hlt); replace HS := Lib.hid (Nat.le_trans HS.out s1.size); have hz2 := Nat.le_trans hz1 s1.size; replace HZ := Lib.hid (fun e => HZ.out (z1 e)); clear s0 s1 v1 e1 st1 c1 z1; have e1 := HM.out.wk.e1)
    | ((with_reducible refine (HM.out.ea.call _ k (0) tx0 Bx0 mx0 dx0 (HM.out.below (below_alloc _ (.cells #[.bool false, .slice none 0 0] 58))).ev (HM.out.below (below_alloc _ (.cells #[.bool false, .slice none 0 0] 58))).cc HM.out.st (Vn.below U0.out (below_alloc _ (.cells #[.bool false, .slice none 0 0] 58)))).mono ?_); rintro e W2 ⟨tx1, Bx1, mx1, dx1, k1, rfl, s0, c1, v1, st1⟩; have s1 : Stp b W1 W2 := (Stp.of_below HM.out.cc.lt (below_alloc _ (.cells #[.bool false, .slice none 0 0] 58))).trans s0; have z1 := fun e => (v1 e).1; have U1 : Hid (Vn _ _ (g 0) _ _ _ _) := fun e => (v1 e).2; replace U0 := Lib.hid (U0.out.next HM.out.cc s1 z1); (try (replace VA0 := Lib.hid (VA0.out.next s1 hlt))); (try (replace VC0 := Lib.hid (VC0.out.next s1 hlt))); have VA1 := Lib.hid (((Vb.new w W1 false none 0 0 HS.out)).next s0 hlt); have hm1 := s1.size; have hl1 : W1.heap.size + 0 < W2.heap.size := (by have := s0.size; simp at this; omega); replace HM := Lib.hid (HM.out.next s1 c1 st1 z1); replace HP := Lib.hid (HP.out.trans s1); replace R4 := Lib.hid (R4.out.next s1 hlt); replace R5 := Lib.hid (R5.out.next s1 hlt); replace HS := Lib.hid (Nat.le_trans HS.out s1.size); have hz2 := Nat.le_trans hz1 s1.size; replace HZ := Lib.hid (fun e => HZ.out (z1 e)); clear s0 s1 v1 e1 st1 c1 z1; have e1 := HM.out.wk.e1)
    | ((with_reducible refine (HM.out.ea.call _ k (0) tx0 Bx0 mx0 dx0 (HM.out.below (((below_alloc _ (.cells #[.bool false, .slice none 0 0] 58)).trans ((below_alloc _ (.cells #[.bool false, .slice none 0 0] 58)).mono (by simp))))).ev (HM.out.below (((below_alloc _ (.cells #[.bool false, .slice none 0 0] 58)).trans ((below_alloc _ (.cells #[.bool false, .slice none 0 0] 58)).mono (by simp))))).cc HM.out.st (Vn.below U0.out (((below_alloc _ (.cells #[.bool false, .slice none 0 0] 58)).trans ((below_alloc _ (.cells #[.bool false, .slice none 0 0] 58)).mono (by simp)))))).mono ?_); rintro e W2 ⟨tx1, Bx1, mx1, dx1, k1, rfl, s0, c1, v1, st1⟩; have s1 : Stp b W1 W2 := (Stp.of_below HM.out.cc.lt (((below_alloc _ (.cells #[.bool false, .slice none 0 0] 58)).trans ((below_alloc _ (.cells #[.bool false, .slice none 0 0] 58)).mono (by simp))))).trans s0; have z1 := fun e => (v1 e).1; have U1 : Hid (Vn _ _ (g 0) _ _ _ _) := fun e => (v1 e).2; replace U0 := Lib.hid (U0.out.next HM.out.cc s1 z1); (try (replace VA0 := Lib.hid (VA0.out.next s1 hlt))); (try (replace VC0 := Lib.hid (VC0.out.next s1 hlt))); have VA1 := Lib.hid ((((Vb.new w W1 false none 0 0 HS.out).below (below_alloc _ (.cells #[.bool false, .slice none 0 0] 58)))).next s0 hlt); have VC1 := Lib.hid (((Vb.new1 w W1 (.cells #[.bool false, .slice none 0 0] 58) false none 0 0 HS.out)).next s0 hlt); have hm1 := s1.size; have hl1 : W1.heap.size + 1 < W2.heap.size := (by have := s0.size; simp at this; omega); replace HM := Lib.hid (HM.out.next s1 c1 st1 z1); replace HP := Lib.hid (HP.out.trans s1); replace R4 := Lib.hid (R4.out.next s1 hlt); replace R5 := Lib.hid (R5.out.next s1 hlt); replace HS := Lib.hid (Nat.le_trans HS.out s1.size); have hz2 := Nat.le_trans hz1 s1.size; replace HZ := Lib.hid (fun e => HZ.out (z1 e)); clear s0 s1 v1 e1 st1 c1 z1; have e1 := HM.out.wk.e1)
    | (go_at_call 97; (with_reducible refine (OfV 1 _ (by omega) (by omega)).mono ?_); rintro e W3 ⟨tx2, Bx2, mx2, dx2, rfl, v1, s9⟩; have s0 := Stp.of_below HM.out.cc.lt s9; have s1 : Stp b W2 W3 := s0; have U2 : Hid (Vn _ k1 (1) _ _ _ _) := fun _ => v1; replace U0 := Lib.hid (U0.out.next HM.out.cc s1 id); replace U1 := Lib.hid (U1.out.next HM.out.cc s1 id); (try (replace VA0 := Lib.hid (VA0.out.next s1 hlt))); (try (replace VC0 := Lib.hid (VC0.out.next s1 hlt))); (try (replace VA1 := Lib.hid (VA1.out.next s1 hlt))); (try (replace VC1 := Lib.hid (VC1.out.next s1 hlt))); have hm2 := s1.size; replace HM := Lib.hid (HM.out.below s9); replace HP := Lib.hid (HP.out.trans s1); replace R4 := Lib.hid (R4.out.next s1 hlt); replace R5 := Lib.hid (R5.out.next s1 hlt); replace HS := Lib.hid (Nat.le_trans HS.out s1.size); have hz3 := Nat.le_trans hz2 s1.size; clear s0 s1 v1 e1 s9; have e1 := HM.out.wk.e1)
    | (go_at_call 97; (with_reducible refine (OfV 1 _ (by omega) (by omega)).mono ?_); rintro e W3 ⟨tx2, Bx2, mx2, dx2, rfl, v1, s9⟩; have s0 := Stp.of_below (HM.out.below (below_alloc _ (.cells #[.bool false, .slice none 0 0] 58))).cc.lt s9; have s1 : Stp b W2 W3 := (Stp.of_below HM.out.cc.lt (below_alloc _ (.cells #[.bool false, .slice none 0 0] 58))).trans s0; have U2 : Hid (Vn _ k1 (1) _ _ _ _) := fun _ => v1; replace U0 := Lib.hid (U0.out.next HM.out.cc s1 id); replace U1 := Lib.hid (U1.out.next HM.out.cc s1 id); (try (replace VA0 := Lib.hid (VA0.out.next s1 hlt))); (try (replace VC0 := Lib.hid (VC0.out.next s1 hlt))); (try (replace VA1 := Lib.hid (VA1.out.next s1 hlt))); (try (replace VC1 := Lib.hid (VC1.out.next s1 hlt))); have VA2 := Lib.hid (((Vb.new w W2 false none 0 0 HS.out)).next s0 hlt); have hm2 := s1.size; have hl2 : W2.heap.size + 0 < W3.heap.size := (by have := s0.size; simp at this; omega); replace HM := Lib.hid ((HM.out.below (below_alloc _ (.cells #[.bool false, .slice none 0 0] 58))).below s9); replace HP := Lib.hid (HP.out.trans s1); replace R4 := Lib.hid (R4.out.next s1 hlt); replace R5 := Lib.hid (R5.out.next s1 hlt); replace HS := Lib.hid (Nat.le_trans HS.out s1.size); have hz3 := Nat.le_trans hz2 s1.size; clear s0 s1 v1 e1 s9; have e1 := HM.out.wk.e1)
    | (go_at_call 97; (with_reducible refine (OfV 1 _ (by omega) (by omega)).mono ?_); rintro e W3 ⟨tx2, Bx2, mx2, dx2, rfl, v1, s9⟩; have s0 := Stp.of_below (HM.out.below (((below_alloc _ (.cells #[.bool false, .slice none 0 0] 58)).trans ((below_alloc _ (.cells #[.bool false, .slice none 0 0] 58)).mono (by simp))))).cc.lt s9; have s1 : Stp b W2 W3 := (Stp.of_below HM.out.cc.lt (((below_alloc _ (.cells #[.bool false, .slice none 0 0] 58)).trans ((below_alloc _ (.cells #[.bool false, .slice none 0 0] 58)).mono (by simp))))).trans s0; have U2 : Hid (Vn _ k1 (1) _ _ _ _) := fun _ => v1; replace U0 := Lib.hid (U0.out.next HM.out.cc s1 id); replace U1 := Lib.hid (U1.out.next HM.out.cc s1 id); (try (replace VA0 := Lib.hid (VA0.out.next s1 hlt))); (try (replace VC0 := Lib.hid (VC0.out.next s1 hlt))); (try (replace VA1 := Lib.hid (VA1.out.next s1 hlt))); (try (replace VC1 := Lib.hid (VC1.out.next s1 hlt))); have VA2 := Lib.hid ((((Vb.new w W2 false none 0 0 HS.out).below (below_alloc _ (.cells #[.bool false, .slice none 0 0] 58)))).next s0 hlt); have VC2 := Lib.hid (((Vb.new1 w W2 (.cells #[.bool false, .slice none 0 0] 58) false none 0 0 HS.out)).next s0 hlt); have hm2 := s1.size; have hl2 : W2.heap.size + 1 < W3.heap.size := (by have := s0.size; simp at this; omega); replace HM := Lib.hid ((HM.out.below (((below_alloc _ (.cells #[.bool false, .slice none 0 0] 58)).trans ((below_alloc _ (.cells #[.bool false, .slice none 0 0] 58)).mono (by simp))))).below s9); replace HP := Lib.hid (HP.out.trans s1); replace R4 := Lib.hid (R4.out.next s1 hlt); replace R5 := Lib.hid (R5.out.next s1 hlt); replace HS := Lib.hid (Nat.le_trans HS.out s1.size); have hz3 := Nat.le_trans hz2 s1.size; clear s0 s1 v1 e1 s9; have e1 := HM.out.wk.e1)
    | ((with_reducible refine (HM.out.ea.call _ k1 (1) tx2 Bx2 mx2 dx2 HM.out.ev HM.out.cc HM.out.st U2.out).mono ?_); rintro e W4 ⟨tx3, Bx3, mx3, dx3, k3, rfl, s0, c1, v1, st1⟩; have s1 : Stp b W3 W4 := s0; have z1 := fun e => (v1 e).1; have U3 : Hid (Vn _ _ (g 1) _ _ _ _) := fun e => (v1 e).2; replace U0 := Lib.hid (U0.out.next HM.out.cc s1 z1); replace U1 := Lib.hid (U1.out.next HM.out.cc s1 z1); replace U2 := Lib.hid (U2.out.next HM.out.cc s1 z1); (try (replace VA0 := Lib.hid (VA0.out.next s1 hlt))); (try (replace VC0 := Lib.hid (VC0.out.next s1 hlt))); (try (replace VA1 := Lib.hid (VA1.out.next s1 hlt))); (try (replace VC1 := Lib.hid (VC1.out.next s1 hlt))); (try (replace VA2 := Lib.hid (VA2.out.next s1 hlt))); (try (replace VC2 := Lib.hid (VC2.out.next s1 hlt))); have hm3 := s1.size; replace HM := Lib.hid (HM.out.next s1 c1 st1 z1); replace HP := Lib.hid (HP.out.trans s1); replace R4 := Lib.hid (R4.out.next s1 hlt); replace R5 := Lib.hid (R5.out.next s1 hlt); replace HS := Lib.hid (Nat.le_trans HS.out s1.size); have hz4 := Nat.le_trans hz3 s1.size; replace HZ := Lib.hid (fun e => HZ.out (z1 e)); clear s0 s1 v1 e1 st1 c1 z1; have e1 := HM.out.wk.e1; (try (have p0 := VA0.out.c0; have p1 := VA0.out.c1; have p2 := VA0.out.f0; have p3 := VA0.out.f1; have p4 := VA0.out.lt)); (try (have p0 := VC0.out.c0; have p1 := VC0.out.c1; have p2 := VC0.out.f0; have p3 := VC0.out.f1; have p4 := VC0.out.lt)); (try (have p0 := VA1.out.c0; have p1 := VA1.out.c1; have p2 := VA1.out.f0; have p3 := VA1.out.f1; have p4 := VA1.out.lt)); (try (have p0 := VC1.out.c0; have p1 := VC1.out.c1; have p2 := VC1.out.f0; have p3 := VC1.out.f1; have p4 := VC1.out.lt)); (try (have p0 := VA2.out.c0; have p1 := VA2.out.c1; have p2 := VA2.out.f0; have p3 := VA2.out.f1; have p4 := VA2.out.lt)); (try (have p0 := VC2.out.c0; have p1 := VC2.out.c1; have p2 := VC2.out.f0; have p3 := VC2.out.f1; have p4 := VC2.out.lt)); (try (have p0 := VA3.out.c0; have p1 := VA3.out.c1; have p2 := VA3.out.f0; have p3 := VA3.out.f1; have p4 := VA3.out.lt)); (try (have p0 := VC3.out.c0; have p1 := VC3.out.c1; have p2 := VC3.out.f0; have p3 := VC3.out.f1; have p4 := VC3.out.lt)); (try (have n9 : Vb w W4 (W0.heap.size) false none 0 0 ∧ Vb w W4 (W0.heap.size + 1) false none 0 0 := ⟨VA0.out, VC0.out⟩; clear n9; have n9 : ¬ W0.heap.size = W0.heap.size + 1 := by omega)); (try (have n9 : Vb w W4 (W0.heap.size) false none 0 0 ∧ Vb w W4 (W1.heap.size) false none 0 0 := ⟨VA0.out, VA1.out⟩; clear n9; have n9 : ¬ W0.heap.size = W1.heap.size := by omega)); (try (have n9 : Vb w W4 (W0.heap.size) false none 0 0 ∧ Vb w W4 (W1.heap.size + 1) false none 0 0 := ⟨VA0.out, VC1.out⟩; clear n9; have n9 : ¬ W0.heap.size = W1.heap.size + 1 := by omega)); (try (have n9 : Vb w W4 (W0.heap.size) false none 0 0 ∧ Vb w W4 (W2.heap.size) false none 0 0 := ⟨VA0.out, VA2.out⟩; clear n9; have n9 : ¬ W0.heap.size = W2.heap.size := by omega)); (try (have n9 : Vb w W4 (W0.heap.size) false none 0 0 ∧ Vb w W4 (W2.heap.size + 1) false none 0 0 := ⟨VA0.out, VC2.out⟩; clear n9; have n9 : ¬ W0.heap.size = W2.heap.size + 1 := by omega)); (try (have n9 : Vb w W4 (W0.heap.size) false none 0 0 ∧ Vb w W4 (W3.heap.size) false none 0 0 := ⟨VA0.out, VA3.out⟩; clear n9; have n9 : ¬ W0.heap.size = W3.heap.size := by omega)); (try (have n9 : Vb w W4 (W0.heap.size) false none 0 0 ∧ Vb w W4 (W3.heap.size + 1) false none 0 0 := ⟨VA0.out, VC3.out⟩; clear n9; have n9 : ¬ W0.heap.size = W3.heap.size + 1 := by omega)); (try (have n9 : Vb w W4 (W0.heap.size + 1) false none 0 0 ∧ Vb w W4 (W0.heap.size) false none 0 0 := ⟨VC0.out, VA0.out⟩; clear n9; have n9 : ¬ W0.heap.size + 1 = W0.heap.size := by omega)); (try (have n9 : Vb w W4 (W0.heap.size + 1) false none 0 0 ∧ Vb w W4 (W1.heap.size) false none 0 0 := ⟨VC0.out, VA1.out⟩; clear n9; have n9 : ¬ W0.heap.size + 1 = W1.heap.size := by omega)); (try (have n9 : Vb w W4 (W0.heap.size + 1) false none 0 0 ∧ Vb w W4 (W1.heap.size + 1) false none 0 0 := ⟨VC0.out, VC1.out⟩; clear n9; have n9 : ¬ W0.heap.size + 1 = W1.heap.size + 1 := by omega)); (try (have n9 : Vb w W4 (W0.heap.size + 1) false none 0 0 ∧ Vb w W4 (W2.heap.size) false none 0 0 := ⟨VC0.out, VA2.out⟩; clear n9; have n9 : ¬ W0.heap.size + 1 = W2.heap.size := by omega)); (try (have n9 : Vb w W4 (W0.heap.size + 1) false none 0 0 ∧ Vb w W4 (W2.heap.size + 1) false none 0 0 := ⟨VC0.out, VC2.out⟩; clear n9; have n9 : ¬ W0.heap.size + 1 = W2.heap.size + 1 := by omega)); (try (have n9 : Vb w W4 (W0.heap.size + 1) false none 0 0 ∧ Vb w W4 (W3.heap.size) false none 0 0 := ⟨VC0.out, VA3.out⟩; clear n9; have n9 : ¬ W0.heap.size + 1 = W3.heap.size := by omega)); (try (have n9 : Vb w W4 (W0.heap.size + 1) false none 0 0 ∧ Vb w W4 (W3.heap.size + 1) false none 0 0 := ⟨VC0.out, VC3.out⟩; clear n9; have n9 : ¬ W0.heap.size + 1 = W3.heap.size + 1 := by omega)); (try (have n9 : Vb w W4 (W1.heap.size) false none 0 0 ∧ Vb w W4 (W0.heap.size) false none 0 0 := ⟨VA1.out, VA0.out⟩; clear n9; have n9 : ¬ W1.heap.size = W0.heap.size := by omega)); (try (have n9 : Vb w W4 (W1.heap.size) false none 0 0 ∧ Vb w W4 (W0.heap.size + 1) false none 0 0 := ⟨VA1.out, VC0.out⟩; clear n9; have n9 : ¬ W1.heap.size = W0.heap.size + 1 := by omega)); (try (have n9 : Vb w W4 (W1.heap.size) false none 0 0 ∧ Vb w W4 (W1.heap.size + 1) false none 0 0 := ⟨VA1.out, VC1.out⟩; clear n9; have n9 : ¬ W1.heap.size = W1.heap.size + 1 := by omega)); (try (have n9 : Vb w W4 (W1.heap.size) false none 0 0 ∧ Vb w W4 (W2.heap.size) false none 0 0 := ⟨VA1.out, VA2.out⟩; clear n9; have n9 : ¬ W1.heap.size = W2.heap.size := by omega)); (try (have n9 : Vb w W4 (W1.heap.size) false none 0 0 ∧ Vb w W4 (W2.heap.size + 1) false none 0 0 := ⟨VA1.out, VC2.out⟩; clear n9; have n9 : ¬ W1.heap.size = W2.heap.size + 1 := by omega)); (try (have n9 : Vb w W4 (W1.heap.size) false none 0 0 ∧ Vb w W4 (W3.heap.size) false none 0 0 := ⟨VA1.out, VA3.out⟩; clear n9; have n9 : ¬ W1.heap.size = W3.heap.size := by omega)); (try (have n9 : Vb w W4 (W1.heap.size) false none 0 0 ∧ Vb w W4 (W3.heap.size + 1) false none 0 0 := ⟨VA1.out, VC3.out⟩; clear n9; have n9 : ¬ W1.heap.size = W3.heap.size + 1 := by omega)); (try (have n9 : Vb w W4 (W1.heap.size + 1) false none 0 0 ∧ Vb w W4 (W0.heap.size) false none 0 0 := ⟨VC1.out, VA0.out⟩; clear n9; have n9 : ¬ W1.heap.size + 1 = W0.heap.size := by omega)); (try (have n9 : Vb w W4 (W1.heap.size + 1) false none 0 0 ∧ Vb w W4 (W0.heap.size + 1) false none 0 0 := ⟨VC1.out, VC0.out⟩; clear n9; have n9 : ¬ W1.heap.size + 1 = W0.heap.size + 1 := by omega)); (try (have n9 : Vb w W4 (W1.heap.size + 1) false none 0 0 ∧ Vb w W4 (W1.heap.size) false none 0 0 := ⟨VC1.out, VA1.out⟩; clear n9; have n9 : ¬ W1.heap.size + 1 = W1.heap.size := by omega)); (try (have n9 : Vb w W4 (W1.heap.size + 1) false none 0 0 ∧ Vb w W4 (W2.heap.size) false none 0 0 := ⟨VC1.out, VA2.out⟩; clear n9; have n9 : ¬ W1.heap.size + 1 = W2.heap.size := by omega)); (try (have n9 : Vb w W4 (W1.heap.size + 1) false none 0 0 ∧ Vb w W4 (W2.heap.size + 1) false none 0 0 := ⟨VC1.out, VC2.out⟩; clear n9; have n9 : ¬ W1.heap.size + 1 = W2.heap.size + 1 := by omega)); (try (have n9 : Vb w W4 (W1.heap.size + 1) false none 0 0 ∧ Vb w W4 (W3.heap.size) false none 0 0 := ⟨VC1.out, VA3.out⟩; clear n9; have n9 : ¬ W1.heap.size + 1 = W3.heap.size := by omega)); (try (have n9 : Vb w W4 (W1.heap.size + 1) false none 0 0 ∧ Vb w W4 (W3.heap.size + 1) false none 0 0 := ⟨VC1.out, VC3.out⟩; clear n9; have n9 : ¬ W1.heap.size + 1 = W3.heap.size + 1 := by omega)); (try (have n9 : Vb w W4 (W2.heap.size) false none 0 0 ∧ Vb w W4 (W0.heap.size) false none 0 0 := ⟨VA2.out, VA0.out⟩; clear n9; have n9 : ¬ W2.heap.size = W0.heap.size := by omega)); (try (have n9 : Vb w W4 (W2.heap.size) false none 0 0 ∧ Vb w W4 (W0.heap.size + 1) false none 0 0 := ⟨VA2.out, VC0.out⟩; clear n9; have n9 : ¬ W2.heap.size = W0.heap.size + 1 := by omega)); (try (have n9 : Vb w W4 (W2.heap.size) false none 0 0 ∧ Vb w W4 (W1.heap.size) false none 0 0 := ⟨VA2.out, VA1.out⟩; clear n9; have n9 : ¬ W2.heap.size = W1.heap.size := by omega)); (try (have n9 : Vb w W4 (W2.heap.size) false none 0 0 ∧ Vb w W4 (W1.heap.size + 1) false none 0 0 := ⟨VA2.out, VC1.out⟩; clear n9; have n9 : ¬ W2.heap.size = W1.heap.size + 1 := by omega)); (try (have n9 : Vb w W4 (W2.heap.size) false none 0 0 ∧ Vb w W4 (W2.heap.size + 1) false none 0 0 := ⟨VA2.out, VC2.out⟩; clear n9; have n9 : ¬ W2.heap.size = W2.heap.size + 1 := by omega)); (try (have n9 : Vb w W4 (W2.heap.size) false none 0 0 ∧ Vb w W4 (W3.heap.size) false none 0 0 := ⟨VA2.out, VA3.out⟩; clear n9; have n9 : ¬ W2.heap.size = W3.heap.size := by omega)); (try (have n9 : Vb w W4 (W2.heap.size) false none 0 0 ∧ Vb w W4 (W3.heap.size + 1) false none 0 0 := ⟨VA2.out, VC3.out⟩; clear n9; have n9 : ¬ W2.heap.size = W3.heap.size + 1 := by omega)); (try (have n9 : Vb w W4 (W2.heap.size + 1) false none 0 0 ∧ Vb w W4 (W0.heap.size) false none 0 0 := ⟨VC2.out, VA0.out⟩; clear n9; have n9 : ¬ W2.heap.size + 1 = W0.heap.size := by omega)); (try (have n9 : Vb w W4 (W2.heap.size + 1) false none 0 0 ∧ Vb w W4 (W0.heap.size + 1) false none 0 0 := ⟨VC2.out, VC0.out⟩; clear n9; have n9 : ¬ W2.heap.size + 1 = W0.heap.size + 1 := by omega)); (try (have n9 : Vb w W4 (W2.heap.size + 1) false none 0 0 ∧ Vb w W4 (W1.heap.size) false none 0 0 := ⟨VC2.out, VA1.out⟩; clear n9; have n9 : ¬ W2.heap.size + 1 = W1.heap.size := by omega)); (try (have n9 : Vb w W4 (W2.heap.size + 1) false none 0 0 ∧ Vb w W4 (W1.heap.size + 1) false none 0 0 := ⟨VC2.out, VC1.out⟩; clear n9; have n9 : ¬ W2.heap.size + 1 = W1.heap.size + 1 := by omega)); (try (have n9 : Vb w W4 (W2.heap.size + 1) false none 0 0 ∧ Vb w W4 (W2.heap.size) false none 0 0 := ⟨VC2.out, VA2.out⟩; clear n9; have n9 : ¬ W2.heap.size + 1 = W2.heap.size := by omega)); (try (have n9 : Vb w W4 (W2.heap.size + 1) false none 0 0 ∧ Vb w W4 (W3.heap.size) false none 0 0 := ⟨VC2.out, VA3.out⟩; clear n9; have n9 : ¬ W2.heap.size + 1 = W3.heap.size := by omega)); (try (have n9 : Vb w W4 (W2.heap.size + 1) false none 0 0 ∧ Vb w W4 (W3.heap.size + 1) false none 0 0 := ⟨VC2.out, VC3.out⟩; clear n9; have n9 : ¬ W2.heap.size + 1 = W3.heap.size + 1 := by omega)); (try (have n9 : Vb w W4 (W3.heap.size) false none 0 0 ∧ Vb w W4 (W0.heap.size) false none 0 0 := ⟨VA3.out, VA0.out⟩; clear n9; have n9 : ¬ W3.heap.size = W0.heap.size := by omega)); (try (have n9 : Vb w W4 (W3.heap.size) false none 0 0 ∧ Vb w W4 (W0.heap.size + 1) false none 0 0 := ⟨VA3.out, VC0.out⟩; clear n9; have n9 : ¬ W3.heap.size = W0.heap.size + 1 := by omega)); (try (have n9 : Vb w W4 (W3.heap.size) false none 0 0 ∧ Vb w W4 (W1.heap.size) false none 0 0 := ⟨VA3.out, VA1.out⟩; clear n9; have n9 : ¬ W3.heap.size = W1.heap.size := by omega)); (try (have n9 : Vb w W4 (W3.heap.size) false none 0 0 ∧ Vb w W4 (W1.heap.size + 1) false none 0 0 := ⟨VA3.out, VC1.out⟩; clear n9; have n9 : ¬ W3.heap.size = W1.heap.size + 1 := by omega)); (try (have n9 : Vb w W4 (W3.heap.size) false none 0 0 ∧ Vb w W4 (W2.heap.size) false none 0 0 := ⟨VA3.out, VA2.out⟩; clear n9; have n9 : ¬ W3.heap.size = W2.heap.size := by omega)); (try (have n9 : Vb w W4 (W3.heap.size) false none 0 0 ∧ Vb w W4 (W2.heap.size + 1) false none 0 0 := ⟨VA3.out, VC2.out⟩; clear n9; have n9 : ¬ W3.heap.size = W2.heap.size + 1 := by omega)); (try (have n9 : Vb w W4 (W3.heap.size) false none 0 0 ∧ Vb w W4 (W3.heap.size + 1) false none 0 0 := ⟨VA3.out, VC3.out⟩; clear n9; have n9 : ¬ W3.heap.size = W3.heap.size + 1 := by omega)); (try (have n9 : Vb w W4 (W3.heap.size + 1) false none 0 0 ∧ Vb w W4 (W0.heap.size) false none 0 0 := ⟨VC3.out, VA0.out⟩; clear n9; have n9 : ¬ W3.heap.size + 1 = W0.heap.size := by omega)); (try (have n9 : Vb w W4 (W3.heap.size + 1) false none 0 0 ∧ Vb w W4 (W0.heap.size + 1) false none 0 0 := ⟨VC3.out, VC0.out⟩; clear n9; have n9 : ¬ W3.heap.size + 1 = W0.heap.size + 1 := by omega)); (try (have n9 : Vb w W4 (W3.heap.size + 1) false none 0 0 ∧ Vb w W4 (W1.heap.size) false none 0 0 := ⟨VC3.out, VA1.out⟩; clear n9; have n9 : ¬ W3.heap.size + 1 = W1.heap.size := by omega)); (try (have n9 : Vb w W4 (W3.heap.size + 1) false none 0 0 ∧ Vb w W4 (W1.heap.size + 1) false none 0 0 := ⟨VC3.out, VC1.out⟩; clear n9; have n9 : ¬ W3.heap.size + 1 = W1.heap.size + 1 := by omega)); (try (have n9 : Vb w W4 (W3.heap.size + 1) false none 0 0 ∧ Vb w W4 (W2.heap.size) false none 0 0 := ⟨VC3.out, VA2.out⟩; clear n9; have n9 : ¬ W3.heap.size + 1 = W2.heap.size := by omega)); (try (have n9 : Vb w W4 (W3.heap.size + 1) false none 0 0 ∧ Vb w W4 (W2.heap.size + 1) false none 0 0 := ⟨VC3.out, VC2.out⟩; clear n9; have n9 : ¬ W3.heap.size + 1 = W2.heap.size + 1 := by omega)); (try (have n9 : Vb w W4 (W3.heap.size + 1) false none 0 0 ∧ Vb w W4 (W3.heap.size) false none 0 0 := ⟨VC3.out, VA3.out⟩; clear n9; have n9 : ¬ W3.heap.size + 1 = W3.heap.size := by omega)))
    | ((with_reducible refine (HM.out.ea.call _ k1 (1) tx2 Bx2 mx2 dx2 (HM.out.below (below_alloc _ (.cells #[.bool false, .slice none 0 0] 58))).ev (HM.out.below (below_alloc _ (.cells #[.bool false, .slice none 0 0] 58))).cc HM.out.st (Vn.below U2.out (below_alloc _ (.cells #[.bool false, .slice none 0 0] 58)))).mono ?_); rintro e W4 ⟨tx3, Bx3, mx3, dx3, k3, rfl, s0, c1, v1, st1⟩; have s1 : Stp b W3 W4 := (Stp.of_below HM.out.cc.lt (below_alloc _ (.cells #[.bool false, .slice none 0 0] 58))).trans s0; have z1 := fun e => (v1 e).1; have U3 : Hid (Vn _ _ (g 1) _ _ _ _) := fun e => (v1 e).2; replace U0 := Lib.hid (U0.out.next HM.out.cc s1 z1); replace U1 := Lib.hid (U1.out.next HM.out.cc s1 z1); replace U2 := Lib.hid (U2.out.next HM.out.cc s1 z1); (try (replace VA0 := Lib.hid (VA0.out.next s1 hlt))); (try (replace VC0 := Lib.hid (VC0.out.next s1 hlt))); (try (replace VA1 := Lib.hid (VA1.out.next s1 hlt))); (try (replace VC1 := Lib.hid (VC1.out.next s1 hlt))); (try (replace VA2 := Lib.hid (VA2.out.next s1 hlt))); (try (replace VC2 := Lib.hid (VC2.out.next s1 hlt))); have VA3 := Lib.hid (((Vb.new w W3 false none 0 0 HS.out)).next s0 hlt); have hm3 := s1.size; have hl3 : W3.heap.size + 0 < W4.heap.size := (by have := s0.size; simp at this; omega); replace HM := Lib.hid (HM.out.next s1 c1 st1 z1); replace HP := Lib.hid (HP.out.trans s1); replace R4 := Lib.hid (R4.out.next s1 hlt); replace R5 := Lib.hid (R5.out.next s1 hlt); replace HS := Lib.hid (Nat.le_trans HS.out s1.size); have hz4 := Nat.le_trans hz3 s1.size; replace HZ := Lib.hid (fun e => HZ.out (z1 e)); clear s0 s1 v1 e1 st1 c1 z1; have e1 := HM.out.wk.e1; (try (have p0 := VA0.out.c0; have p1 := VA0.out.c1; have p2 := VA0.out.f0; have p3 := VA0.out.f1; have p4 := VA0.out.lt)); (try (have p0 := VC0.out.c0; have p1 := VC0.out.c1; have p2 := VC0.out.f0; have p3 := VC0.out.f1; have p4 := VC0.out.lt)); (try (have p0 := VA1.out.c0; have p1 := VA1.out.c1; have p2 := VA1.out.f0; have p3 := VA1.out.f1; have p4 := VA1.out.lt)); (try (have p0 := VC1.out.c0; have p1 := VC1.out.c1; have p2 := VC1.out.f0; have p3 := VC1.out.f1; have p4 := VC1.out.lt)); (try (have p0 := VA2.out.c0; have p1 := VA2.out.c1; have p2 := VA2.out.f0; have p3 := VA2.out.f1; have p4 := VA2.out.lt)); (try (have p0 := VC2.out.c0; have p1 := VC2.out.c1; have p2 := VC2.out.f0; have p3 := VC2.out.f1; have p4 := VC2.out.lt)); (try (have p0 := VA3.out.c0; have p1 := VA3.out.c1; have p2 := VA3.out.f0; have p3 := VA3.out.f1; have p4 := VA3.out.lt)); (try (have p0 := VC3.out.c0; have p1 := VC3.out.c1; have p2 := VC3.out.f0; have p3 := VC3.out.f1; have p4 := VC3.out.lt)); (try (have n9 : Vb w W4 (W0.heap.size) false none 0 0 ∧ Vb w W4 (W0.heap.size + 1) false none 0 0 := ⟨VA0.out, VC0.out⟩; clear n9; have n9 : ¬ W0.heap.size = W0.heap.size + 1 := by omega)); (try (have n9 : Vb w W4 (W0.heap.size) false none 0 0 ∧ Vb w W4 (W1.heap.size) false none 0 0 := ⟨VA0.out, VA1.out⟩; clear n9; have n9 : ¬ W0.heap.size = W1.heap.size := by omega)); (try (have n9 : Vb w W4 (W0.heap.size) false none 0 0 ∧ Vb w W4 (W1.heap.size + 1) false none 0 0 := ⟨VA0.out, VC1.out⟩; clear n9; have n9 : ¬ W0.heap.size = W1.heap.size + 1 := by omega)); (try (have n9 : Vb w W4 (W0.heap.size) false none 0 0 ∧ Vb w W4 (W2.heap.size) false none 0 0 := ⟨VA0.out, VA2.out⟩; clear n9; have n9 : ¬ W0.heap.size = W2.heap.size := by omega)); (try (have n9 : Vb w W4 (W0.heap.size) false none 0 0 ∧ Vb w W4 (W2.heap.size + 1) false none 0 0 := ⟨VA0.out, VC2.out⟩; clear n9; have n9 : ¬ W0.heap.size = W2.heap.size + 1 := by omega)); (try (have n9 : Vb w W4 (W0.heap.size) false none 0 0 ∧ Vb w W4 (W3.heap.size) false none 0 0 := ⟨VA0.out, VA3.out⟩; clear n9; have n9 : ¬ W0.heap.size = W3.heap.size := by omega)); (try (have n9 : Vb w W4 (W0.heap.size) false none 0 0 ∧ Vb w W4 (W3.heap.size + 1) false none 0 0 := ⟨VA0.out, VC3.out⟩; clear n9; have n9 : ¬ W0.heap.size = W3.heap.size + 1 := by omega)); (try (have n9 : Vb w W4 (W0.heap.size + 1) false none 0 0 ∧ Vb w W4 (W0.heap.size) false none 0 0 := ⟨VC0.out, VA0.out⟩; clear n9; have n9 : ¬ W0.heap.size + 1 = W0.heap.size := by omega)); (try (have n9 : Vb w W4 (W0.heap.size + 1) false none 0 0 ∧ Vb w W4 (W1.heap.size) false none 0 0 := ⟨VC0.out, VA1.out⟩; clear n9; have n9 : ¬ W0.heap.size + 1 = W1.heap.size := by omega)); (try (have n9 : Vb w W4 (W0.heap.size + 1) false none 0 0 ∧ Vb w W4 (W1.heap.size + 1) false none 0 0 := ⟨VC0.out, VC1.out⟩; clear n9; have n9 : ¬ W0.heap.size + 1 = W1.heap.size + 1 := by omega)); (try (have n9 : Vb w W4 (W0.heap.size + 1) false none 0 0 ∧ Vb w W4 (W2.heap.size) false none 0 0 := ⟨VC0.out, VA2.out⟩; clear n9; have n9 : ¬ W0.heap.size + 1 = W2.heap.size := by omega)); (try (have n9 : Vb w W4 (W0.heap.size + 1) false none 0 0 ∧ Vb w W4 (W2.heap.size + 1) false none 0 0 := ⟨VC0.out, VC2.out⟩; clear n9; have n9 : ¬ W0.heap.size + 1 = W2.heap.size + 1 := by omega)); (try (have n9 : Vb w W4 (W0.heap.size + 1) false none 0 0 ∧ Vb w W4 (W3.heap.size) false none 0 0 := ⟨VC0.out, VA3.out⟩; clear n9; have n9 : ¬ W0.heap.size + 1 = W3.heap.size := by omega)); (try (have n9 : Vb w W4 (W0.heap.size + 1) false none 0 0 ∧ Vb w W4 (W3.heap.size + 1) false none 0 0 := ⟨VC0.out, VC3.out⟩; clear n9; have n9 : ¬ W0.heap.size + 1 = W3.heap.size + 1 := by omega)); (try (have n9 : Vb w W4 (W1.heap.size) false none 0 0 ∧ Vb w W4 (W0.heap.size) false none 0 0 := ⟨VA1.out, VA0.out⟩; clear n9; have n9 : ¬ W1.heap.size = W0.heap.size := by omega)); (try (have n9 : Vb w W4 (W1.heap.size) false none 0 0 ∧ Vb w W4 (W0.heap.size + 1) false none 0 0 := ⟨VA1.out, VC0.out⟩; clear n9; have n9 : ¬ W1.heap.size = W0.heap.size + 1 := by omega)); (try (have n9 : Vb w W4 (W1.heap.size) false none 0 0 ∧ Vb w W4 (W1.heap.size + 1) false none 0 0 := ⟨VA1.out, VC1.out⟩; clear n9; have n9 : ¬ W1.heap.size = W1.heap.size + 1 := by omega)); (try (have n9 : Vb w W4 (W1.heap.size) false none 0 0 ∧ Vb w W4 (W2.heap.size) false none 0 0 := ⟨VA1.out, VA2.out⟩; clear n9; have n9 : ¬ W1.heap.size = W2.heap.size := by omega)); (try (have n9 : Vb w W4 (W1.heap.size) false none 0 0 ∧ Vb w W4 (W2.heap.size + 1) false none 0 0 := ⟨VA1.out, VC2.out⟩; clear n9; have n9 : ¬ W1.heap.size = W2.heap.size + 1 := by omega)); (try (have n9 : Vb w W4 (W1.heap.size) false none 0 0 ∧ Vb w W4 (W3.heap.size) false none 0 0 := ⟨VA1.out, VA3.out⟩; clear n9; have n9 : ¬ W1.heap.size = W3.heap.size := by omega)); (try (have n9 : Vb w W4 (W1.heap.size) false none 0 0 ∧ Vb w W4 (W3.heap.size + 1) false none 0 0 := ⟨VA1.out, VC3.out⟩; clear n9; have n9 : ¬ W1.heap.size = W3.heap.size + 1 := by omega)); (try (have n9 : Vb w W4 (W1.heap.size + 1) false none 0 0 ∧ Vb w W4 (W0.heap.size) false none 0 0 := ⟨VC1.out, VA0.out⟩; clear n9; have n9 : ¬ W1.heap.size + 1 = W0.heap.size := by omega)); (try (have n9 : Vb w W4 (W1.heap.size + 1) false none 0 0 ∧ Vb w W4 (W0.heap.size + 1) false none 0 0 := ⟨VC1.out, VC0.out⟩; clear n9; have n9 : ¬ W1.heap.size + 1 = W0.heap.size + 1 := by omega)); (try (have n9 : Vb w W4 (W1.heap.size + 1) false none 0 0 ∧ Vb w W4 (W1.heap.size) false none 0 0 := ⟨VC1.out, VA1.out⟩; clear n9; have n9 : ¬ W1.heap.size + 1 = W1.heap.size := by omega)); (try (have n9 : Vb w W4 (W1.heap.size + 1) false none 0 0 ∧ Vb w W4 (W2.heap.size) false none 0 0 := ⟨VC1.out, VA2.out⟩; clear n9; have n9 : ¬ W1.heap.size + 1 = W2.heap.size := by omega)); (try (have n9 : Vb w W4 (W1.heap.size + 1) false none 0 0 ∧ Vb w W4 (W2.heap.size + 1) false none 0 0 := ⟨VC1.out, VC2.out⟩; clear n9; have n9 : ¬ W1.heap.size + 1 = W2.heap.size + 1 := by omega)); (try (have n9 : Vb w W4 (W1.heap.size + 1) false none 0 0 ∧ Vb w W4 (W3.heap.size) false none 0 0 := ⟨VC1.out, VA3.out⟩; clear n9; have n9 : ¬ W1.heap.size + 1 = W3.heap.size := by omega)); (try (have n9 : Vb w W4 (W1.heap.size + 1) false none 0 0 ∧ Vb w W4 (W3.heap.size + 1) false none 0 0 := ⟨VC1.out, VC3.out⟩; clear n9; have n9 : ¬ W1.heap.size + 1 = W3.heap.size + 1 := by omega)); (try (have n9 : Vb w W4 (W2.heap.size) false none 0 0 ∧ Vb w W4 (W0.heap.size) false none 0 0 := ⟨VA2.out, VA0.out⟩; clear n9; have n9 : ¬ W2.heap.size = W0.heap.size := by omega)); (try (have n9 : Vb w W4 (W2.heap.size) false none 0 0 ∧ Vb w W4 (W0.heap.size + 1) false none 0 0 := ⟨VA2.out, VC0.out⟩; clear n9; have n9 : ¬ W2.heap.size = W0.heap.size + 1 := by omega)); (try (have n9 : Vb w W4 (W2.heap.size) false none 0 0 ∧ Vb w W4 (W1.heap.size) false none 0 0 := ⟨VA2.out, VA1.out⟩; clear n9; have n9 : ¬ W2.heap.size = W1.heap.size := by omega)); (try (have n9 : Vb w W4 (W2.heap.size) false none 0 0 ∧ Vb w W4 (W1.heap.size + 1) false none 0 0 := ⟨VA2.out, VC1.out⟩; clear n9; have n9 : ¬ W2.heap.size = W1.heap.size + 1 := by omega)); (try (have n9 : Vb w W4 (W2.heap.size) false none 0 0 ∧ Vb w W4 (W2.heap.size + 1) false none 0 0 := ⟨VA2.out, VC2.out⟩; clear n9; have n9 : ¬ W2.heap.size = W2.heap.size + 1 := by omega)); (try (have n9 : Vb w W4 (W2.heap.size) false none 0 0 ∧ Vb w W4 (W3.heap.size) false none 0 0 := ⟨VA2.out, VA3.out⟩; clear n9; have n9 : ¬ W2.heap.size = W3.heap.size := by omega)); (try (have n9 : Vb w W4 (W2.heap.size) false none 0 0 ∧ Vb w W4 (W3.heap.size + 1) false none 0 0 := ⟨VA2.out, VC3.out⟩; clear n9; have n9 : ¬ W2.heap.size = W3.heap.size + 1 := by omega)); (try (have n9 : Vb w W4 (W2.heap.size + 1) false none 0 0 ∧ Vb w W4 (W0.heap.size) false none 0 0 := ⟨VC2.out, VA0.out⟩; clear n9; have n9 : ¬ W2.heap.size + 1 = W0.heap.size := by omega)); (try (have n9 : Vb w W4 (W2.heap.size + 1) false none 0 0 ∧ Vb w W4 (W0.heap.size + 1) false none 0 0 := ⟨VC2.out, VC0.out⟩; clear n9; have n9 : ¬ W2.heap.size + 1 = W0.heap.size + 1 := by omega)); (try (have n9 : Vb w W4 (W2.heap.size + 1) false none 0 0 ∧ Vb w W4 (W1.heap.size) false none 0 0 := ⟨VC2.out, VA1.out⟩; clear n9; have n9 : ¬ W2.heap.size + 1 = W1.heap.size := by omega)); (try (have n9 : Vb w W4 (W2.heap.size + 1) false none 0 0 ∧ Vb w W4 (W1.heap.size + 1) false none 0 0 := ⟨VC2.out, VC1.out⟩; clear n9; have n9 : ¬ W2.heap.size + 1 = W1.heap.size + 1 := by omega)); (try (have n9 : Vb w W4 (W2.heap.size + 1) false none 0 0 ∧ Vb w W4 (W2.heap.size) false none 0 0 := ⟨VC2.out, VA2.out⟩; clear n9; have n9 : ¬ W2.heap.size + 1 = W2.heap.size := by omega)); (try (have n9 : Vb w W4 (W2.heap.size + 1) false none 0 0 ∧ Vb w W4 (W3.heap.size) false none 0 0 := ⟨VC2.out, VA3.out⟩; clear n9; have n9 : ¬ W2.heap.size + 1 = W3.heap.size := by omega)); (try (have n9 : Vb w W4 (W2.heap.size + 1) false none 0 0 ∧ Vb w W4 (W3.heap.size + 1) false none 0 0 := ⟨VC2.out, VC3.out⟩; clear n9; have n9 : ¬ W2.heap.size + 1 = W3.heap.size + 1 := by omega)); (try (have n9 : Vb w W4 (W3.heap.size) false none 0 0 ∧ Vb w W4 (W0.heap.size) false none 0 0 := ⟨VA3.out, VA0.out⟩; clear n9; have n9 : ¬ W3.heap.size = W0.heap.size := by omega)); (try (have n9 : Vb w W4 (W3.heap.size) false none 0 0 ∧ Vb w W4 (W0.heap.size + 1) false none 0 0 := ⟨VA3.out, VC0.out⟩; clear n9; have n9 : ¬ W3.heap.size = W0.heap.size + 1 := by omega)); (try (have n9 : Vb w W4 (W3.heap.size) false none 0 0 ∧ Vb w W4 (W1.heap.size) false none 0 0 := ⟨VA3.out, VA1.out⟩; clear n9; have n9 : ¬ W3.heap.size = W1.heap.size := by omega)); (try (have n9 : Vb w W4 (W3.heap.size) false none 0 0 ∧ Vb w W4 (W1.heap.size + 1) false none 0 0 := ⟨VA3.out, VC1.out⟩; clear n9; have n9 : ¬ W3.heap.size = W1.heap.size + 1 := by omega)); (try (have n9 : Vb w W4 (W3.heap.size) false none 0 0 ∧ Vb w W4 (W2.heap.size) false none 0 0 := ⟨VA3.out, VA2.out⟩; clear n9; have n9 : ¬ W3.heap.size = W2.heap.size := by omega)); (try (have n9 : Vb w W4 (W3.heap.size) false none 0 0 ∧ Vb w W4 (W2.heap.size + 1) false none 0 0 := ⟨VA3.out, VC2.out⟩; clear n9; have n9 : ¬ W3.heap.size = W2.heap.size + 1 := by omega)); (try (have n9 : Vb w W4 (W3.heap.size) false none 0 0 ∧ Vb w W4 (W3.heap.size + 1) false none 0 0 := ⟨VA3.out, VC3.out⟩; clear n9; have n9 : ¬ W3.heap.size = W3.heap.size + 1 := by omega)); (try (have n9 : Vb w W4 (W3.heap.size + 1) false none 0 0 ∧ Vb w W4 (W0.heap.size) false none 0 0 := ⟨VC3.out, VA0.out⟩; clear n9; have n9 : ¬ W3.heap.size + 1 = W0.heap.size := by omega)); (try (have n9 : Vb w W4 (W3.heap.size + 1) false none 0 0 ∧ Vb w W4 (W0.heap.size + 1) false none 0 0 := ⟨VC3.out, VC0.out⟩; clear n9; have n9 : ¬ W3.heap.size + 1 = W0.heap.size + 1 := by omega)); (try (have n9 : Vb w W4 (W3.heap.size + 1) false none 0 0 ∧ Vb w W4 (W1.heap.size) false none 0 0 := ⟨VC3.out, VA1.out⟩; clear n9; have n9 : ¬ W3.heap.size + 1 = W1.heap.size := by omega)); (try (have n9 : Vb w W4 (W3.heap.size + 1) false none 0 0 ∧ Vb w W4 (W1.heap.size + 1) false none 0 0 := ⟨VC3.out, VC1.out⟩; clear n9; have n9 : ¬ W3.heap.size + 1 = W1.heap.size + 1 := by omega)); (try (have n9 : Vb w W4 (W3.heap.size + 1) false none 0 0 ∧ Vb w W4 (W2.heap.size) false none 0 0 := ⟨VC3.out, VA2.out⟩; clear n9; have n9 : ¬ W3.heap.size + 1 = W2.heap.size := by omega)); (try (have n9 : Vb w W4 (W3.heap.size + 1) false none 0 0 ∧ Vb w W4 (W2.heap.size + 1) false none 0 0 := ⟨VC3.out, VC2.out⟩; clear n9; have n9 : ¬ W3.heap.size + 1 = W2.heap.size + 1 := by omega)); (try (have n9 : Vb w W4 (W3.heap.size + 1) false none 0 0 ∧ Vb w W4 (W3.heap.size) false none 0 0 := ⟨VC3.out, VA3.out⟩; clear n9; have n9 : ¬ W3.heap.size + 1 = W3.heap.size := by omega)))
    | ((with_reducible refine (HM.out.ea.call _ k1 (1) tx2 Bx2 mx2 dx2 (HM.out.below (((below_alloc _ (.cells #[.bool false, .slice none 0 0] 58)).trans ((below_alloc _ (.cells #[.bool false, .slice none 0 0] 58)).mono (by simp))))).ev (HM.out.below (((below_alloc _ (.cells #[.bool false, .slice none 0 0] 58)).trans ((below_alloc _ (.cells #[.bool false, .slice none 0 0] 58)).mono (by simp))))).cc HM.out.st (Vn.below U2.out (((below_alloc _ (.cells #[.bool false, .slice none 0 0] 58)).trans ((below_alloc _ (.cells #[.bool false, .slice none 0 0] 58)).mono (by simp)))))).mono ?_); rintro e W4 ⟨tx3, Bx3, mx3, dx3, k3, rfl, s0, c1, v1, st1⟩; have s1 : Stp b W3 W4 := (Stp.of_below HM.out.cc.lt (((below_alloc _ (.cells #[.bool false, .slice none 0 0] 58)).trans ((below_alloc _ (.cells #[.bool false, .slice none 0 0] 58)).mono (by simp))))).trans s0; have z1 := fun e => (v1 e).1; have U3 : Hid (Vn _ _ (g 1) _ _ _ _) := fun e => (v1 e).2; replace U0 := Lib.hid (U0.out.next HM.out.cc s1 z1); replace U1 := Lib.hid (U1.out.next HM.out.cc s1 z1); replace U2 := Lib.hid (U2.out.next HM.out.cc s1 z1); (try (replace VA0 := Lib.hid (VA0.out.next s1 hlt))); (try (replace VC0 := Lib.hid (VC0.out.next s1 hlt))); (try (replace VA1 := Lib.hid (VA1.out.next s1 hlt))); (try (replace VC1 := Lib.hid (VC1.out.next s1 hlt))); (try (replace VA2 := Lib.hid (VA2.out.next s1 hlt))); (try (replace VC2 := Lib.hid (VC2.out.next s1 hlt))); have VA3 := Lib.hid ((((Vb.new w W3 false none 0 0 HS.out).below (below_alloc _ (.cells #[.bool false, .slice none 0 0] 58)))).next s0 hlt); have VC3 := Lib.hid (((Vb.new1 w W3 (.cells #[.bool false, .slice none 0 0] 58) false none 0 0 HS.out)).next s0 hlt); have hm3 := s1.size; have hl3 : W3.heap.size + 1 < W4.heap.size := (by have := s0.size; simp at this; omega); replace HM := Lib.hid (HM.out.next s1 c1 st1 z1); replace HP := Lib.hid (HP.out.trans s1); replace R4 := Lib.hid (R4.out.next s1 hlt); replace R5 := Lib.hid (R5.out.next s1 hlt); replace HS := Lib.hid (Nat.le_trans HS.out s1.size); have hz4 := Nat.le_trans hz3 s1.size; replace HZ := Lib.hid (fun e => HZ.out (z1 e)); clear s0 s1 v1 e1 st1 c1 z1; have e1 := HM.out.wk.e1; (try (have p0 := VA0.out.c0; have p1 := VA0.out.c1; have p2 := VA0.out.f0; have p3 := VA0.out.f1; have p4 := VA0.out.lt)); (try (have p0 := VC0.out.c0; have p1 := VC0.out.c1; have p2 := VC0.out.f0; have p3 := VC0.out.f1; have p4 := VC0.out.lt)); (try (have p0 := VA1.out.c0; have p1 := VA1.out.c1; have p2 := VA1.out.f0; have p3 := VA1.out.f1; have p4 := VA1.out.lt)); (try (have p0 := VC1.out.c0; have p1 := VC1.out.c1; have p2 := VC1.out.f0; have p3 := VC1.out.f1; have p4 := VC1.out.lt)); (try (have p0 := VA2.out.c0; have p1 := VA2.out.c1; have p2 := VA2.out.f0; have p3 := VA2.out.f1; have p4 := VA2.out.lt)); (try (have p0 := VC2.out.c0; have p1 := VC2.out.c1; have p2 := VC2.out.f0; have p3 := VC2.out.f1; have p4 := VC2.out.lt)); (try (have p0 := VA3.out.c0; have p1 := VA3.out.c1; have p2 := VA3.out.f0; have p3 := VA3.out.f1; have p4 := VA3.out.lt)); (try (have p0 := VC3.out.c0; have p1 := VC3.out.c1; have p2 := VC3.out.f0; have p3 := VC3.out.f1; have p4 := VC3.out.lt)); (try (have n9 : Vb w W4 (W0.heap.size) false none 0 0 ∧ Vb w W4 (W0.heap.size + 1) false none 0 0 := ⟨VA0.out, VC0.out⟩; clear n9; have n9 : ¬ W0.heap.size = W0.heap.size + 1 := by omega)); (try (have n9 : Vb w W4 (W0.heap.size) false none 0 0 ∧ Vb w W4 (W1.heap.size) false none 0 0 := ⟨VA0.out, VA1.out⟩; clear n9; have n9 : ¬ W0.heap.size = W1.heap.size := by omega)); (try (have n9 : Vb w W4 (W0.heap.size) false none 0 0 ∧ Vb w W4 (W1.heap.size + 1) false none 0 0 := ⟨VA0.out, VC1.out⟩; clear n9; have n9 : ¬ W0.heap.size = W1.heap.size + 1 := by omega)); (try (have n9 : Vb w W4 (W0.heap.size) false none 0 0 ∧ Vb w W4 (W2.heap.size) false none 0 0 := ⟨VA0.out, VA2.out⟩; clear n9; have n9 : ¬ W0.heap.size = W2.heap.size := by omega)); (try (have n9 : Vb w W4 (W0.heap.size) false none 0 0 ∧ Vb w W4 (W2.heap.size + 1) false none 0 0 := ⟨VA0.out, VC2.out⟩; clear n9; have n9 : ¬ W0.heap.size = W2.heap.size + 1 := by omega)); (try (have n9 : Vb w W4 (W0.heap.size) false none 0 0 ∧ Vb w W4 (W3.heap.size) false none 0 0 := ⟨VA0.out, VA3.out⟩; clear n9; have n9 : ¬ W0.heap.size = W3.heap.size := by omega)); (try (have n9 : Vb w W4 (W0.heap.size) false none 0 0 ∧ Vb w W4 (W3.heap.size + 1) false none 0 0 := ⟨VA0.out, VC3.out⟩; clear n9; have n9 : ¬ W0.heap.size = W3.heap.size + 1 := by omega)); (try (have n9 : Vb w W4 (W0.heap.size + 1) false none 0 0 ∧ Vb w W4 (W0.heap.size) false none 0 0 := ⟨VC0.out, VA0.out⟩; clear n9; have n9 : ¬ W0.heap.size + 1 = W0.heap.size := by omega)); (try (have n9 : Vb w W4 (W0.heap.size + 1) false none 0 0 ∧ Vb w W4 (W1.heap.size) false none 0 0 := ⟨VC0.out, VA1.out⟩; clear n9; have n9 : ¬ W0.heap.size + 1 = W1.heap.size := by omega)); (try (have n9 : Vb w W4 (W0.heap.size + 1) false none 0 0 ∧ Vb w W4 (W1.heap.size + 1) false none 0 0 := ⟨VC0.out, VC1.out⟩; clear n9; have n9 : ¬ W0.heap.size + 1 = W1.heap.size + 1 := by omega)); (try (have n9 : Vb w W4 (W0.heap.size + 1) false none 0 0 ∧ Vb w W4 (W2.heap.size) false none 0 0 := ⟨VC0.out, VA2.out⟩; clear n9; have n9 : ¬ W0.heap.size + 1 = W2.heap.size := by omega)); (try (have n9 : Vb w W4 (W0.heap.size + 1) false none 0 0 ∧ Vb w W4 (W2.heap.size + 1) false none 0 0 := ⟨VC0.out, VC2.out⟩; clear n9; have n9 : ¬ W0.heap.size + 1 = W2.heap.size + 1 := by omega)); (try (have n9 : Vb w W4 (W0.heap.size + 1) false none 0 0 ∧ Vb w W4 (W3.heap.size) false none 0 0 := ⟨VC0.out, VA3.out⟩; clear n9; have n9 : ¬ W0.heap.size + 1 = W3.heap.size := by omega)); (try (have n9 : Vb w W4 (W0.heap.size + 1) false none 0 0 ∧ Vb w W4 (W3.heap.size + 1) false none 0 0 := ⟨VC0.out, VC3.out⟩; clear n9; have n9 : ¬ W0.heap.size + 1 = W3.heap.size + 1 := by omega)); (try (have n9 : Vb w W4 (W1.heap.size) false none 0 0 ∧ Vb w W4 (W0.heap.size) false none 0 0 := ⟨VA1.out, VA0.out⟩; clear n9; have n9 : ¬ W1.heap.size = W0.heap.size := by omega)); (try (have n9 : Vb w W4 (W1.heap.size) false none 0 0 ∧ Vb w W4 (W0.heap.size + 1) false none 0 0 := ⟨VA1.out, VC0.out⟩; clear n9; have n9 : ¬ W1.heap.size = W0.heap.size + 1 := by omega)); (try (have n9 : Vb w W4 (W1.heap.size) false none 0 0 ∧ Vb w W4 (W1.heap.size + 1) false none 0 0 := ⟨VA1.out, VC1.out⟩; clear n9; have n9 : ¬ W1.heap.size = W1.heap.size + 1 := by omega)); (try (have n9 : Vb w W4 (W1.heap.size) false none 0 0 ∧ Vb w W4 (W2.heap.size) false none 0 0 := ⟨VA1.out, VA2.out⟩; clear n9; have n9 : ¬ W1.heap.size = W2.heap.size := by omega)); (try (have n9 : Vb w W4 (W1.heap.size) false none 0 0 ∧ Vb w W4 (W2.heap.size + 1) false none 0 0 := ⟨VA1.out, VC2.out⟩; clear n9; have n9 : ¬ W1.heap.size = W2.heap.size + 1 := by omega)); (try (have n9 : Vb w W4 (W1.heap.size) false none 0 0 ∧ Vb w W4 (W3.heap.size) false none 0 0 := ⟨VA1.out, VA3.out⟩; clear n9; have n9 : ¬ W1.heap.size = W3.heap.size := by omega)); (try (have n9 : Vb w W4 (W1.heap.size) false none 0 0 ∧ Vb w W4 (W3.heap.size + 1) false none 0 0 := ⟨VA1.out, VC3.out⟩; clear n9; have n9 : ¬ W1.heap.size = W3.heap.size + 1 := by omega)); (try (have n9 : Vb w W4 (W1.heap.size + 1) false none 0 0 ∧ Vb w W4 (W0.heap.size) false none 0 0 := ⟨VC1.out, VA0.out⟩; clear n9; have n9 : ¬ W1.heap.size + 1 = W0.heap.size := by omega)); (try (have n9 : Vb w W4 (W1.heap.size + 1) false none 0 0 ∧ Vb w W4 (W0.heap.size + 1) false none 0 0 := ⟨VC1.out, VC0.out⟩; clear n9; have n9 : ¬ W1.heap.size + 1 = W0.heap.size + 1 := by omega)); (try (have n9 : Vb w W4 (W1.heap.size + 1) false none 0 0 ∧ Vb w W4 (W1.heap.size) false none 0 0 := ⟨VC1.out, VA1.out⟩; clear n9; have n9 : ¬ W1.heap.size + 1 = W1.heap.size := by omega)); (try (have n9 : Vb w W4 (W1.heap.size + 1) false none 0 0 ∧ Vb w W4 (W2.heap.size) false none 0 0 := ⟨VC1.out, VA2.out⟩; clear n9; have n9 : ¬ W1.heap.size + 1 = W2.heap.size := by omega)); (try (have n9 : Vb w W4 (W1.heap.size + 1) false none 0 0 ∧ Vb w W4 (W2.heap.size + 1) false none 0 0 := ⟨VC1.out, VC2.out⟩; clear n9; have n9 : ¬ W1.heap.size + 1 = W2.heap.size + 1 := by omega)); (try (have n9 : Vb w W4 (W1.heap.size + 1) false none 0 0 ∧ Vb w W4 (W3.heap.size) false none 0 0 := ⟨VC1.out, VA3.out⟩; clear n9; have n9 : ¬ W1.heap.size + 1 = W3.heap.size := by omega)); (try (have n9 : Vb w W4 (W1.heap.size + 1) false none 0 0 ∧ Vb w W4 (W3.heap.size + 1) false none 0 0 := ⟨VC1.out, VC3.out⟩; clear n9; have n9 : ¬ W1.heap.size + 1 = W3.heap.size + 1 := by omega)); (try (have n9 : Vb w W4 (W2.heap.size) false none 0 0 ∧ Vb w W4 (W0.heap.size) false none 0 0 := ⟨VA2.out, VA0.out⟩; clear n9; have n9 : ¬ W2.heap.size = W0.heap.size := by omega)); (try (have n9 : Vb w W4 (W2.heap.size) false none 0 0 ∧ Vb w W4 (W0.heap.size + 1) false none 0 0 := ⟨VA2.out, VC0.out⟩; clear n9; have n9 : ¬ W2.heap.size = W0.heap.size + 1 := by omega)); (try (have n9 : Vb w W4 (W2.heap.size) false none 0 0 ∧ Vb w W4 (W1.heap.size) false none 0 0 := ⟨VA2.out, VA1.out⟩; clear n9; have n9 : ¬ W2.heap.size = W1.heap.size := by omega)); (try (have n9 : Vb w W4 (W2.heap.size) false none 0 0 ∧ Vb w W4 (W1.heap.size + 1) false none 0 0 := ⟨VA2.out, VC1.out⟩; clear n9; have n9 : ¬ W2.heap.size = W1.heap.size + 1 := by omega)); (try (have n9 : Vb w W4 (W2.heap.size) false none 0 0 ∧ Vb w W4 (W2.heap.size + 1) false none 0 0 := ⟨VA2.out, VC2.out⟩; clear n9; have n9 : ¬ W2.heap.size = W2.heap.size + 1 := by omega)); (try (have n9 : Vb w W4 (W2.heap.size) false none 0 0 ∧ Vb w W4 (W3.heap.size) false none 0 0 := ⟨VA2.out, VA3.out⟩; clear n9; have n9 : ¬ W2.heap.size = W3.heap.size := by omega)); (try (have n9 : Vb w W4 (W2.heap.size) false none 0 0 ∧ Vb w W4 (W3.heap.size + 1) false none 0 0 := ⟨VA2.out, VC3.out⟩; clear n9; have n9 : ¬ W2.heap.size = W3.heap.size + 1 := by omega)); (try (have n9 : Vb w W4 (W2.heap.size + 1) false none 0 0 ∧ Vb w W4 (W0.heap.size) false none 0 0 := ⟨VC2.out, VA0.out⟩; clear n9; have n9 : ¬ W2.heap.size + 1 = W0.heap.size := by omega)); (try (have n9 : Vb w W4 (W2.heap.size + 1) false none 0 0 ∧ Vb w W4 (W0.heap.size + 1) false none 0 0 := ⟨VC2.out, VC0.out⟩; clear n9; have n9 : ¬ W2.heap.size + 1 = W0.heap.size + 1 := by omega)); (try (have n9 : Vb w W4 (W2.heap.size + 1) false none 0 0 ∧ Vb w W4 (W1.heap.size) false none 0 0 := ⟨VC2.out, VA1.out⟩; clear n9; have n9 : ¬ W2.heap.size + 1 = W1.heap.size := by omega)); (try (have n9 : Vb w W4 (W2.heap.size + 1) false none 0 0 ∧ Vb w W4 (W1.heap.size + 1) false none 0 0 := ⟨VC2.out, VC1.out⟩; clear n9; have n9 : ¬ W2.heap.size + 1 = W1.heap.size + 1 := by omega)); (try (have n9 : Vb w W4 (W2.heap.size + 1) false none 0 0 ∧ Vb w W4 (W2.heap.size) false none 0 0 := ⟨VC2.out, VA2.out⟩; clear n9; have n9 : ¬ W2.heap.size + 1 = W2.heap.size := by omega)); (try (have n9 : Vb w W4 (W2.heap.size + 1) false none 0 0 ∧ Vb w W4 (W3.heap.size) false none 0 0 := ⟨VC2.out, VA3.out⟩; clear n9; have n9 : ¬ W2.heap.size + 1 = W3.heap.size := by omega)); (try (have n9 : Vb w W4 (W2.heap.size + 1) false none 0 0 ∧ Vb w W4 (W3.heap.size + 1) false none 0 0 := ⟨VC2.out, VC3.out⟩; clear n9; have n9 : ¬ W2.heap.size + 1 = W3.heap.size + 1 := by omega)); (try (have n9 : Vb w W4 (W3.heap.size) false none 0 0 ∧ Vb w W4 (W0.heap.size) false none 0 0 := ⟨VA3.out, VA0.out⟩; clear n9; have n9 : ¬ W3.heap.size = W0.heap.size := by omega)); (try (have n9 : Vb w W4 (W3.heap.size) false none 0 0 ∧ Vb w W4 (W0.heap.size + 1) false none 0 0 := ⟨VA3.out, VC0.out⟩; clear n9; have n9 : ¬ W3.heap.size = W0.heap.size + 1 := by omega)); (try (have n9 : Vb w W4 (W3.heap.size) false none 0 0 ∧ Vb w W4 (W1.heap.size) false none 0 0 := ⟨VA3.out, VA1.out⟩; clear n9; have n9 : ¬ W3.heap.size = W1.heap.size := by omega)); (try (have n9 : Vb w W4 (W3.heap.size) false none 0 0 ∧ Vb w W4 (W1.heap.size + 1) false none 0 0 := ⟨VA3.out, VC1.out⟩; clear n9; have n9 : ¬ W3.heap.size = W1.heap.size + 1 := by omega)); (try (have n9 : Vb w W4 (W3.heap.size) false none 0 0 ∧ Vb w W4 (W2.heap.size) false none 0 0 := ⟨VA3.out, VA2.out⟩; clear n9; have n9 : ¬ W3.heap.size = W2.heap.size := by omega)); (try (have n9 : Vb w W4 (W3.heap.size) false none 0 0 ∧ Vb w W4 (W2.heap.size + 1) false none 0 0 := ⟨VA3.out, VC2.out⟩; clear n9; have n9 : ¬ W3.heap.size = W2.heap.size + 1 := by omega)); (try (have n9 : Vb w W4 (W3.heap.size) false none 0 0 ∧ Vb w W4 (W3.heap.size + 1) false none 0 0 := ⟨VA3.out, VC3.out⟩; clear n9; have n9 : ¬ W3.heap.size = W3.heap.size + 1 := by omega)); (try (have n9 : Vb w W4 (W3.heap.size + 1) false none 0 0 ∧ Vb w W4 (W0.heap.size) false none 0 0 := ⟨VC3.out, VA0.out⟩; clear n9; have n9 : ¬ W3.heap.size + 1 = W0.heap.size := by omega)); (try (have n9 : Vb w W4 (W3.heap.size + 1) false none 0 0 ∧ Vb w W4 (W0.heap.size + 1) false none 0 0 := ⟨VC3.out, VC0.out⟩; clear n9; have n9 : ¬ W3.heap.size + 1 = W0.heap.size + 1 := by omega)); (try (have n9 : Vb w W4 (W3.heap.size + 1) false none 0 0 ∧ Vb w W4 (W1.heap.size) false none 0 0 := ⟨VC3.out, VA1.out⟩; clear n9; have n9 : ¬ W3.heap.size + 1 = W1.heap.size := by omega)); (try (have n9 : Vb w W4 (W3.heap.size + 1) false none 0 0 ∧ Vb w W4 (W1.heap.size + 1) false none 0 0 := ⟨VC3.out, VC1.out⟩; clear n9; have n9 : ¬ W3.heap.size + 1 = W1.heap.size + 1 := by omega)); (try (have n9 : Vb w W4 (W3.heap.size + 1) false none 0 0 ∧ Vb w W4 (W2.heap.size) false none 0 0 := ⟨VC3.out, VA2.out⟩; clear n9; have n9 : ¬ W3.heap.size + 1 = W2.heap.size := by omega)); (try (have n9 : Vb w W4 (W3.heap.size + 1) false none 0 0 ∧ Vb w W4 (W2.heap.size + 1) false none 0 0 := ⟨VC3.out, VC2.out⟩; clear n9; have n9 : ¬ W3.heap.size + 1 = W2.heap.size + 1 := by omega)); (try (have n9 : Vb w W4 (W3.heap.size + 1) false none 0 0 ∧ Vb w W4 (W3.heap.size) false none 0 0 := ⟨VC3.out, VA3.out⟩; clear n9; have n9 : ¬ W3.heap.size + 1 = W3.heap.size := by omega)))
    | fail "no arm")
  all_goals
   go_wp2
   go_meet
   have A4 : AtW T b f caps g Ev zt za ta Aa na ca tt At nt ct k w W4 k3 (g 0) (g 1) tx1 Bx1 mx1 dx1 tx3 Bx3 mx3 dx3 := ⟨H0.out, hz4, HP.out, HM.out, R4.out, R5.out, HZ.out, U1.out, U3.out⟩
   refine ⟨_, _, k3, tx1, Bx1, mx1, dx1, tx3, Bx3, mx3, dx3, rfl, rfl, ?_⟩
   first
    | (with_reducible exact A4.dd)
    | (with_reducible exact A4.dd2)
    | (with_reducible exact A4.de (by omega) VA0.out)
    | (with_reducible exact A4.ed (by omega) VA0.out)
    | (with_reducible exact A4.de (by omega) VC0.out)
    | (with_reducible exact A4.ed (by omega) VC0.out)
    | (with_reducible exact A4.de (by omega) VA1.out)
    | (with_reducible exact A4.ed (by omega) VA1.out)
    | (with_reducible exact A4.de (by omega) VC1.out)
    | (with_reducible exact A4.ed (by omega) VC1.out)
    | (with_reducible exact A4.de (by omega) VA2.out)
    | (with_reducible exact A4.ed (by omega) VA2.out)
    | (with_reducible exact A4.de (by omega) VC2.out)
    | (with_reducible exact A4.ed (by omega) VC2.out)
    | (with_reducible exact A4.de (by omega) VA3.out)
    | (with_reducible exact A4.ed (by omega) VA3.out)
    | (with_reducible exact A4.de (by omega) VC3.out)
    | (with_reducible exact A4.ed (by omega) VC3.out)
    | (with_reducible exact A4.ee (by omega) (by omega) (by omega) VA0.out VC0.out)
    | (with_reducible exact A4.ee2 (by omega) (by omega) (by omega) VA0.out VC0.out)
    | (with_reducible exact A4.ee (by omega) (by omega) (by omega) VA0.out VA1.out)
    | (with_reducible exact A4.ee2 (by omega) (by omega) (by omega) VA0.out VA1.out)
    | (with_reducible exact A4.ee (by omega) (by omega) (by omega) VA0.out VC1.out)
    | (with_reducible exact A4.ee2 (by omega) (by omega) (by omega) VA0.out VC1.out)
    | (with_reducible exact A4.ee (by omega) (by omega) (by omega) VA0.out VA2.out)
    | (with_reducible exact A4.ee2 (by omega) (by omega) (by omega) VA0.out VA2.out)
    | (with_reducible exact A4.ee (by omega) (by omega) (by omega) VA0.out VC2.out)
    | (with_reducible exact A4.ee2 (by omega) (by omega) (by omega) VA0.out VC2.out)
    | (with_reducible exact A4.ee (by omega) (by omega) (by omega) VA0.out VA3.out)
    | (with_reducible exact A4.ee2 (by omega) (by omega) (by omega) VA0.out VA3.out)
    | (with_reducible exact A4.ee (by omega) (by omega) (by omega) VA0.out VC3.out)
    | (with_reducible exact A4.ee2 (by omega) (by omega) (by omega) VA0.out VC3.out)
    | (with_reducible exact A4.ee (by omega) (by omega) (by omega) VC0.out VA0.out)
    | (with_reducible exact A4.ee2 (by omega) (by omega) (by omega) VC0.out VA0.out)
    | (with_reducible exact A4.ee (by omega) (by omega) (by omega) VC0.out VA1.out)
    | (with_reducible exact A4.ee2 (by omega) (by omega) (by omega) VC0.out VA1.out)
    | (with_reducible exact A4.ee (by omega) (by omega) (by omega) VC0.out VC1.out)
    | (with_reducible exact A4.ee2 (by omega) (by omega) (by omega) VC0.out VC1.out)
    | (with_reducible exact A4.ee (by omega) (by omega) (by omega) VC0.out VA2.out)
    | (with_reducible exact A4.ee2 (by omega) (by omega) (by omega) VC0.out VA2.out)
    | (with_reducible exact A4.ee (by omega) (by omega) (by omega) VC0.out VC2.out)
    | (with_reducible exact A4.ee2 (by omega) (by omega) (by omega) VC0.out VC2.out)
    | (with_reducible exact A4.ee (by omega) (by omega) (by omega) VC0.out VA3.out)
    | (with_reducible exact A4.ee2 (by omega) (by omega) (by omega) VC0.out VA3.out)
    | (with_reducible exact A4.ee (by omega) (by omega) (by omega) VC0.out VC3.out)
    | (with_reducible exact A4.ee2 (by omega) (by omega) (by omega) VC0.out VC3.out)
    | (with_reducible exact A4.ee (by omega) (by omega) (by omega) VA1.out VA0.out)
    | (with_reducible exact A4.ee2 (by omega) (by omega) (by omega) VA1.out VA0.out)
    | (with_reducible exact A4.ee (by omega) (by omega) (by omega) VA1.out VC0.out)
    | (with_reducible exact A4.ee2 (by omega) (by omega) (by omega) VA1.out VC0.out)
    | (with_reducible exact A4.ee (by omega) (by omega) (by omega) VA1.out VC1.out)
    | (with_reducible exact A4.ee2 (by omega) (by omega) (by omega) VA1.out VC1.out)
    | (with_reducible exact A4.ee (by omega) (by omega) (by omega) VA1.out VA2.out)
    | (with_reducible exact A4.ee2 (by omega) (by omega) (by omega) VA1.out VA2.out)
    | (with_reducible exact A4.ee (by omega) (by omega) (by omega) VA1.out VC2.out)
    | (with_reducible exact A4.ee2 (by omega) (by omega) (by omega) VA1.out VC2.out)
    | (with_reducible exact A4.ee (by omega) (by omega) (by omega) VA1.out VA3.out)
    | (with_reducible exact A4.ee2 (by omega) (by omega) (by omega) VA1.out VA3.out)
    | (with_reducible exact A4.ee (by omega) (by omega) (by omega) VA1.out VC3.out)
    | (with_reducible exact A4.ee2 (by omega) (by omega) (by omega) VA1.out VC3.out)
    | (with_reducible exact A4.ee (by omega) (by omega) (by omega) VC1.out VA0.out)
    | (with_reducible exact A4.ee2 (by omega) (by omega) (by omega) VC1.out VA0.out)
    | (with_reducible exact A4.ee (by omega) (by omega) (by omega) VC1.out VC0.out)
    | (with_reducible exact A4.ee2 (by omega) (by omega) (by omega) VC1.out VC0.out)
    | (with_reducible exact A4.ee (by omega) (by omega) (by omega) VC1.out VA1.out)
    | (with_reducible exact A4.ee2 (by omega) (by omega) (by omega) VC1.out VA1.out)
    | (with_reducible exact A4.ee (by omega) (by omega) (by omega) VC1.out VA2.out)
    | (with_reducible exact A4.ee2 (by omega) (by omega) (by omega) VC1.out VA2.out)
    | (with_reducible exact A4.ee (by omega) (by omega) (by omega) VC1.out VC2.out)
    | (with_reducible exact A4.ee2 (by omega) (by omega) (by omega) VC1.out VC2.out)
    | (with_reducible exact A4.ee (by omega) (by omega) (by omega) VC1.out VA3.out)
    | (with_reducible exact A4.ee2 (by omega) (by omega) (by omega) VC1.out VA3.out)
    | (with_reducible exact A4.ee (by omega) (by omega) (by omega) VC1.out VC3.out)
    | (with_reducible exact A4.ee2 (by omega) (by omega) (by omega) VC1.out VC3.out)
    | (with_reducible exact A4.ee (by omega) (by omega) (by omega) VA2.out VA0.out)
    | (with_reducible exact A4.ee2 (by omega) (by omega) (by omega) VA2.out VA0.out)
    | (with_reducible exact A4.ee (by omega) (by omega) (by omega) VA2.out VC0.out)
    | (with_reducible exact A4.ee2 (by omega) (by omega) (by omega) VA2.out VC0.out)
    | (with_reducible exact A4.ee (by omega) (by omega) (by omega) VA2.out VA1.out)
    | (with_reducible exact A4.ee2 (by omega) (by omega) (by omega) VA2.out VA1.out)
    | (with_reducible exact A4.ee (by omega) (by omega) (by omega) VA2.out VC1.out)
    | (with_reducible exact A4.ee2 (by omega) (by omega) (by omega) VA2.out VC1.out)
    | (with_reducible exact A4.ee (by omega) (by omega) (by omega) VA2.out VC2.out)
    | (with_reducible exact A4.ee2 (by omega) (by omega) (by omega) VA2.out VC2.out)
    | (with_reducible exact A4.ee (by omega) (by omega) (by omega) VA2.out VA3.out)
    | (with_reducible exact A4.ee2 (by omega) (by omega) (by omega) VA2.out VA3.out)
    | (with_reducible exact A4.ee (by omega) (by omega) (by omega) VA2.out VC3.out)
    | (with_reducible exact A4.ee2 (by omega) (by omega) (by omega) VA2.out VC3.out)
    | (with_reducible exact A4.ee (by omega) (by omega) (by omega) VC2.out VA0.out)
    | (with_reducible exact A4.ee2 (by omega) (by omega) (by omega) VC2.out VA0.out)
    | (with_reducible exact A4.ee (by omega) (by omega) (by omega) VC2.out VC0.out)
    | (with_reducible exact A4.ee2 (by omega) (by omega) (by omega) VC2.out VC0.out)
    | (with_reducible exact A4.ee (by omega) (by omega) (by omega) VC2.out VA1.out)
    | (with_reducible exact A4.ee2 (by omega) (by omega) (by omega) VC2.out VA1.out)
    | (with_reducible exact A4.ee (by omega) (by omega) (by omega) VC2.out VC1.out)
    | (with_reducible exact A4.ee2 (by omega) (by omega) (by omega) VC2.out VC1.out)
    | (with_reducible exact A4.ee (by omega) (by omega) (by omega) VC2.out VA2.out)
    | (with_reducible exact A4.ee2 (by omega) (by omega) (by omega) VC2.out VA2.out)
    | (with_reducible exact A4.ee (by omega) (by omega) (by omega) VC2.out VA3.out)
    | (with_reducible exact A4.ee2 (by omega) (by omega) (by omega) VC2.out VA3.out)
    | (with_reducible exact A4.ee (by omega) (by omega) (by omega) VC2.out VC3.out)
    | (with_reducible exact A4.ee2 (by omega) (by omega) (by omega) VC2.out VC3.out)
    | (with_reducible exact A4.ee (by omega) (by omega) (by omega) VA3.out VA0.out)
    | (with_reducible exact A4.ee2 (by omega) (by omega) (by omega) VA3.out VA0.out)
    | (with_reducible exact A4.ee (by omega) (by omega) (by omega) VA3.out VC0.out)
    | (with_reducible exact A4.ee2 (by omega) (by omega) (by omega) VA3.out VC0.out)
    | (with_reducible exact A4.ee (by omega) (by omega) (by omega) VA3.out VA1.out)
    | (with_reducible exact A4.ee2 (by omega) (by omega) (by omega) VA3.out VA1.out)
    | (with_reducible exact A4.ee (by omega) (by omega) (by omega) VA3.out VC1.out)
    | (with_reducible exact A4.ee2 (by omega) (by omega) (by omega) VA3.out VC1.out)
    | (with_reducible exact A4.ee (by omega) (by omega) (by omega) VA3.out VA2.out)
    | (with_reducible exact A4.ee2 (by omega) (by omega) (by omega) VA3.out VA2.out)
    | (with_reducible exact A4.ee (by omega) (by omega) (by omega) VA3.out VC2.out)
    | (with_reducible exact A4.ee2 (by omega) (by omega) (by omega) VA3.out VC2.out)
    | (with_reducible exact A4.ee (by omega) (by omega) (by omega) VA3.out VC3.out)
    | (with_reducible exact A4.ee2 (by omega) (by omega) (by omega) VA3.out VC3.out)
    | (with_reducible exact A4.ee (by omega) (by omega) (by omega) VC3.out VA0.out)
    | (with_reducible exact A4.ee2 (by omega) (by omega) (by omega) VC3.out VA0.out)
    | (with_reducible exact A4.ee (by omega) (by omega) (by omega) VC3.out VC0.out)
    | (with_reducible exact A4.ee2 (by omega) (by omega) (by omega) VC3.out VC0.out)
    | (with_reducible exact A4.ee (by omega) (by omega) (by omega) VC3.out VA1.out)
    | (with_reducible exact A4.ee2 (by omega) (by omega) (by omega) VC3.out VA1.out)
    | (with_reducible exact A4.ee (by omega) (by omega) (by omega) VC3.out VC1.out)
    | (with_reducible exact A4.ee2 (by omega) (by omega) (by omega) VC3.out VC1.out)
    | (with_reducible exact A4.ee (by omega) (by omega) (by omega) VC3.out VA2.out)
    | (with_reducible exact A4.ee2 (by omega) (by omega) (by omega) VC3.out VA2.out)
    | (with_reducible exact A4.ee (by omega) (by omega) (by omega) VC3.out VC2.out)
    | (with_reducible exact A4.ee2 (by omega) (by omega) (by omega) VC3.out VC2.out)
    | (with_reducible exact A4.ee (by omega) (by omega) (by omega) VC3.out VA3.out)
    | (with_reducible exact A4.ee2 (by omega) (by omega) (by omega) VC3.out VA3.out)
    | fail "no end"
 case rest =>
  clear HZ heg
  obtain ⟨p, q, k1, tl, Al, nl, cl, th, Ah, nh, ch, rfl, rfl, av⟩ := hcut
  have HN := Lib.hid (rfl : (N : Int) = (N : Int))
  rw [← HQ.out.p0, ← HQ.out.p1] at av
  have HA := Lib.hid av
  clear av
  obtain ⟨K, hK⟩ : ∃ K : Int, K = (N : Int) := ⟨_, rfl⟩
  have hK0 : 0 ≤ K := by omega
  have hK1 : K < 9223372036854775808 := by omega
  rw [← hK]
  have HKN := Lib.hid hK
  have HNN := Lib.hid hN
  clear hK hN HN
  go_wp2_with fail
  refine (len_i K _ (by omega) (by omega)).mono ?_
  rintro e w4 ⟨rfl, rfl⟩
  have hL : Lib.bitLen K.toNat = blen N := by rw [HKN.out, Int.toNat_natCast, bitLen_blen N (by have := HNN.out; omega)]
  rw [hL]
  clear hL
  have hL1 : blen N ≤ 63 := blen_le.2 (Nat.lt_of_lt_of_le HNN.out (by decide))
  have hL2 := blen_lt N
  obtain ⟨L, hL⟩ : ∃ L, L = blen N := ⟨_, rfl⟩
  rw [← hL]
  rw [← hL] at hL1 hL2
  have HL2 := Lib.hid hL2
  clear hL hL2
  go_wp2_with fail
  go_loopw [8] (fun i wr => AtRel T b f caps g Ev zt za ta Aa na ca tt At nt ct k w p q P N L i wr) (fun i _ => (intOf i + 1).toNat)
  case atStart =>
   exact ⟨⟨L, Nat.le_refl _, rfl, _, _, _, _, _, _, _, _, _, by rw [Nat.div_eq_of_lt HL2.out]; exact HA.out⟩⟩
  case round =>
   clear HA
   obtain ⟨j, hj, rfl, k1, tl, Al, nl, cl, th, Ah, nh, ch, hA⟩ := hrel.of
   have HA := Lib.hid hA
   clear hA
   rcases Nat.eq_zero_or_pos j with hj0 | hj0
   · subst hj0
     rw [Nat.pow_zero, Nat.div_one] at HA
     have hgp := HA.out.gp
     have hgq := HA.out.gq
     have e1 : ¬ w.heap.size = p := by omega
     have e2 : ¬ w.heap.size = q := by omega
     have e3 : ¬ w.heap.size + 1 = p := by omega
     have e4 : ¬ w.heap.size + 1 = q := by omega
     have e5 : ¬ p = w.heap.size := by omega
     have e6 : ¬ q = w.heap.size := by omega
     have e7 : ¬ p = w.heap.size + 1 := by omega
     have e8 : ¬ q = w.heap.size + 1 := by omega
     have c0 := HA.out.vp.c0
     have c1 := HA.out.vp.c1
     have d0 := HA.out.vq.c0
     have d1 := HA.out.vq.c1
     have r0 := HA.out.r4.c0
     have r1 := HA.out.r4.c1
     have r2 := HA.out.r4.f0
     have r3 := HA.out.r4.f1
     have x0 := HA.out.r5.c0
     have x1 := HA.out.r5.c1
     have x2 := HA.out.r5.f0
     have x3 := HA.out.r5.f1
     go_wp2
     go_region
     go_wp2
     generalize hX : ((((wr.setCell ⟨w.heap.size, 0, none⟩ (.bool tl)).setCell ⟨w.heap.size, 1, none⟩ (.slice Al nl cl)).setCell ⟨w.heap.size + 1, 0, none⟩ (.bool th)).setCell ⟨w.heap.size + 1, 1, none⟩ (.slice Ah nh ch)).drew = X
     obtain ⟨y0, y1, y2, y3, st, ms, v1, v2⟩ := HA.out.fin H0.out hX
     refine bodyPost_ret (v := .tuple #[.agg #[.bool tl, .slice Al nl cl], .agg #[.bool th, .slice Ah nh ch]]) (by simp [results, Tryz.results152, go_sem, y0, y1, y2, y3]) rfl ?_
     exact ⟨tl, Al, nl, cl, th, Ah, nh, ch, k1, rfl, st, ms, HA.out.z0, v1, v2⟩
   · obtain ⟨i, rfl⟩ : ∃ i, j = i + 1 := ⟨j - 1, by omega⟩
     have hgp := HA.out.gp
     have hgq := HA.out.gq
     have hpq := HA.out.ne
     have c0 := HA.out.vp.c0
     have c1 := HA.out.vp.c1
     have d0 := HA.out.vq.c0
     have d1 := HA.out.vq.c1
     obtain ⟨M, hM⟩ : ∃ M, M = N / 2 ^ (i + 1) := ⟨_, rfl⟩
     have hM2 : 2 * M ≤ N := by
      have h1 := Nat.div_mul_le_self N (2 ^ (i + 1))
      rw [← hM, Nat.pow_succ] at h1
      have h2 : M * 2 ≤ M * (2 ^ i * 2) := Nat.mul_le_mul_left _ (by have := two_pos i; omega)
      omega
     rw [← hM] at HA
     have HM := Lib.hid hM
     clear hM
     rw [show (((i + 1 : Nat) : Int) - 1) = (i : Int) by omega]
     go_upto_region 5 with (fail)
     go_cut [] (fun W => ∃ k2 t5 B5 m5 d5 t6 B6 m6 d6, AtV T b f caps g Ev zt za ta Aa na ca tt At nt ct k w W p q k2 (P (2 * M)) (P (2 * M + 1)) t5 B5 m5 d5 t6 B6 m6 d6)
     case first =>
      go_region_with (first
       | (go_at_call 153
          (with_reducible refine (even_m (Ms.below HA.out.ms (Below.refl _ _).drew) (Vn.below HA.out.vl (Below.refl _ _).drew) (Vn.below HA.out.vh (Below.refl _ _).drew) (HQ.out.a1 M hM2) (HQ.out.a2 M hM2) (HQ.out.a3 M hM2) (HQ.out.a4 M hM2)).mono ?_)
          rintro e w5 ⟨t5, B5, m5, d5, k5, rfl, s5, ms5, z5, v5⟩
          have s5' := (Stp.of_below HA.out.ms.cc.lt (Below.refl _ _).drew).trans s5
          have HB := Lib.hid (HA.out.next hlt s5' ms5 z5)
          rw [HQ.out.ev M hM2] at v5
          have V5 := Lib.hid v5
          clear c0 c1 d0 d1 s5 s5' ms5 z5 v5
          have c0 := HB.out.vp.c0
          have c1 := HB.out.vp.c1
          have d0 := HB.out.vq.c0
          have d1 := HB.out.vq.c1)
       | (go_at_call 154
          (with_reducible refine (odd_m HB.out.ms HB.out.vl HB.out.vh (HQ.out.b1 M hM2) (HQ.out.b2 M hM2) (HQ.out.b3 M hM2)).mono ?_)
          rintro e w6 ⟨t6, B6, m6, d6, k6, rfl, s6, ms6, z6, v6⟩
          have HC := Lib.hid (HB.out.next hlt s6 ms6 z6)
          rw [HQ.out.od M hM2] at v6
          have V6 := Lib.hid v6
          have V5' := Lib.hid (V5.out.next HB.out.ms.cc s6 z6)
          clear c0 c1 d0 d1 s6 ms6 z6 v6
          have c0 := HC.out.vp.c0
          have c1 := HC.out.vp.c1
          have d0 := HC.out.vq.c0
          have d1 := HC.out.vq.c1
          have f0 := HC.out.vp.f0
          have f1 := HC.out.vp.f1
          have g0 := HC.out.vq.f0
          have g1 := HC.out.vq.f1)
       | fail "no arm")
      all_goals
       go_wp2
       go_meet
       first
        | exact ⟨_, _, _, _, _, _, _, _, _, HC.out.put H0.out V5'.out V6.out⟩
        | exact ⟨_, _, _, _, _, _, _, _, _, HC.out.put' H0.out V5'.out V6.out⟩
        | fail "no end"
     case rest =>
      clear HA c0 c1 d0 d1
      obtain ⟨k2, t5, B5, m5, d5, t6, B6, m6, d6, hA⟩ := hcut
      have HA := Lib.hid hA
      clear hA
      have c0 := HA.out.vp.c0
      have c1 := HA.out.vp.c1
      have d0 := HA.out.vq.c0
      have d1 := HA.out.vq.c1
      have hMi : N / 2 ^ i / 2 = M := by rw [HM.out, Nat.pow_succ, Nat.div_div_eq_div_mul]
      by_cases hbit : N / 2 ^ i % 2 = 0
      · have tb : (bits BinOp.and IntKind.i64 (K / 2 ^ i) 1 == 1) = false := by rw [bit_at2 HKN.out HNN.out, hbit]; rfl
        have HB := Lib.hid (show N / 2 ^ i = 2 * M by omega)
        clear hbit hMi hM2
        go_wp2
        go_roundw
        case measure => simp [intOf]
        case rel =>
         exact ⟨⟨i, by omega, rfl, _, _, _, _, _, _, _, _, _, by rw [HB.out]; exact HA.out⟩⟩
      · have tb : (bits BinOp.and IntKind.i64 (K / 2 ^ i) 1 == 1) = true := by rw [bit_at2 HKN.out HNN.out, show N / 2 ^ i % 2 = 1 by omega]; rfl
        have HB := Lib.hid (show N / 2 ^ i = 2 * M + 1 by omega)
        have hM3 : 2 * M + 1 ≤ N := by
         have := Nat.div_le_self N (2 ^ i)
         have := HB.out
         omega
        clear hbit hMi hM2
        go_wp2_with fail
        go_region_with (first
         | (go_at_call 159
            (with_reducible refine (next_m (Ms.below HA.out.ms (Below.refl _ _).drew) (Vn.below HA.out.vl (Below.refl _ _).drew) (Vn.below HA.out.vh (Below.refl _ _).drew) (HQ.out.c1 M hM3) (HQ.out.c2 M hM3)).mono ?_)
            rintro e w7 ⟨t7, B7, m7, d7, k7, rfl, s7, ms7, z7, v7⟩
            have s7' := (Stp.of_below HA.out.ms.cc.lt (Below.refl _ _).drew).trans s7
            have HC := Lib.hid (HA.out.next hlt s7' ms7 z7)
            rw [HQ.out.nx M hM3] at v7
            have V7 := Lib.hid v7
            clear c0 c1 d0 d1 s7 s7' ms7 z7 v7
            have c0 := HC.out.vp.c0
            have c1 := HC.out.vp.c1
            have d0 := HC.out.vq.c0
            have d1 := HC.out.vq.c1
            have f0 := HC.out.vp.f0
            have f1 := HC.out.vp.f1
            have g0 := HC.out.vq.f0
            have g1 := HC.out.vq.f1)
         | fail "no arm")
        all_goals
         have HR1 := Lib.hid (HC.out.put H0.out HC.out.vh V7.out)
         have HR2 := Lib.hid (HC.out.put' H0.out HC.out.vh V7.out)
         clear c0 c1 d0 d1 f0 f1 g0 g1
         go_wp2
         go_roundw
         case measure => simp [intOf]
         case rel =>
          exact ⟨⟨i, by omega, rfl, _, _, _, _, _, _, _, _, _, by rw [HB.out]; first | (with_reducible exact HR1.out) | (with_reducible exact HR2.out)⟩⟩
end
end Go.Proofs.YteabokkofoomkaaGreat
