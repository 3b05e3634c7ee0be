import Derived.Test.YtbblckaplddggaaNf
import Derived.Test.YtbblckaplddggaaNh
set_option maxRecDepth 100000
namespace Go.Proofs.Ytbblckaplddggaa
open Go.RowKit Go.Shelf
section
variable {w W W' : World} {T b f : Nat} {caps : Array Value} {g : Int → Int} {Ev : World → Prop} {k k' zt zx zy za z : Int} {ta : Bool} {Aa : Option Addr} {na ca : Nat} {tt : Bool} {At : Option Addr} {nt ct : Nat} {t : Bool} {A : Option Addr} {n c : Nat} {t' : Bool} {A' : Option Addr} {n' c' : Nat} {e : Ending}

/-- where chi has found chi(m) -/
def ChiMid1 (b : Nat) (k O : Int) (t3 : Bool) (B3 : Option Addr) (m3 d3 : Nat) (W : World) (v8 v9 : Value) (W' : World) : Prop :=
  ∃ p q t4 B4 m4 d4, v8 = .pointer (some ⟨p, 0, none⟩) ∧ v9 = .pointer (some ⟨q, 0, none⟩) ∧ Rp2 b k W W' p q O t3 B3 m3 d3 1 t4 B4 m4 d4
def ChiPro1 (T b : Nat) (k0 : Int) (z : Int) (W : World) (v : Value) (W' : World) : Prop :=
  ∃ p t B m d k, v = .pointer (some ⟨p, 0, none⟩) ∧ Rp1 b k W W' p z t B m d ∧ St T k ∧ (k = 0 → k0 = 0)
set_option maxHeartbeats 8000000 in
theorem chi_o (h : Ms T b f caps g Ev zt za ta Aa na ca tt At nt ct w k) (N : Nat) (hN : N < 9223372036854775808) (hpar : N % 2 = 1) (P : Nat → Int) (hP : Sq T g zt P (N / 2)) (O : Int) (hO : g (P (N / 2 + 1) - za * P (N / 2)) = O)
    (q1 : (za * P (N / 2)).natAbs ≤ T) (q2 : (P (N / 2 + 1) - za * P (N / 2)).natAbs ≤ T) (q3 : (za * P (N / 2 + 1)).natAbs ≤ T) (q4 : (za * P (N / 2 + 1) - P (N / 2)).natAbs ≤ T) (q5 : (O * (za * P (N / 2 + 1) - P (N / 2))).natAbs ≤ T) (q6 : (O * (za * P (N / 2 + 1) - P (N / 2)) - za).natAbs ≤ T) (q7 : (O * (za * P (N / 2 + 1) - P (N / 2)) + (O * (za * P (N / 2 + 1) - P (N / 2)) - za)).natAbs ≤ T) :
    Calls Try.prog 58 #[.pointer (some ⟨b, 0, none⟩), .int .i64 (N : Int)] w (Wm T b f caps g Ev zt za ta Aa na ca tt At nt ct k (O * (za * P (N / 2 + 1) - P (N / 2)) + (O * (za * P (N / 2 + 1) - P (N / 2)) - za)) w) := by
  have hlt := h.cc.lt
  have H0 := Lib.hid h
  have HP := Lib.hid hP
  have HN := Lib.hid hN
  have HO := Lib.hid hO
  have Q1 := Lib.hid q1
  have Q2 := Lib.hid q2
  have Q3 := Lib.hid q3
  have Q4 := Lib.hid q4
  have Q5 := Lib.hid q5
  have Q6 := Lib.hid q6
  have Q7 := Lib.hid q7
  have hb0 : Below w.heap.size w (w.alloc (.cells #[.bool false, .slice none 0 0] 24)) := below_alloc _ _
  have HM := Lib.hid (h.below hb0)
  have R4 := Lib.hid (Vb.new w w false none 0 0 (Nat.le_refl _))
  have HS := Lib.hid (Stp.of_below hlt hb0)
  obtain ⟨K, hK⟩ : ∃ K : Int, K = (N : Int) := ⟨_, rfl⟩
  have hK0 : 0 ≤ K := by omega
  have hK1 : K < 9223372036854775808 := by omega
  have t0 : (K % 2 == 1) = true := by simp; omega
  rw [← hK]
  have HKN := Lib.hid hK
  clear h hP hN hb0 hK hO hpar q1 q2 q3 q4 q5 q6 q7
  go_enter Try.func58, Try.ntmps58
  go_wp2_with fail
  generalize w.alloc (.cells #[.bool false, .slice none 0 0] 24) = W0 at HM R4 HS ⊢
  rw [quo_two HKN.out]
  refine (at_c HM.out (N / 2) (Nat.lt_of_le_of_lt (Nat.div_le_self _ _) HN.out) P HP.out).mono ?_
  rintro e W1 ⟨tl, Al, nl, cl, th, Ah, nh, ch, k1, rfl, s1, ms1, z1, vl, vh⟩
  have b1 := below_alloc W1 (ob2 tl Al nl cl)
  have b2 := below_alloc (W1.alloc (ob2 tl Al nl cl)) (ob2 th Ah nh ch)
  have hsz : w.heap.size < W1.heap.size := Nat.lt_of_lt_of_le R4.out.lt s1.size
  replace R4 := Lib.hid (((R4.out.next s1 hlt).below b1).below b2)
  replace HS := Lib.hid (((HS.out.trans s1).trans (Stp.of_below ms1.cc.lt b1)).trans (Stp.of_below (ms1.below b1).cc.lt b2))
  replace HM := Lib.hid ((ms1.below b1).below b2)
  have HZ := Lib.hid z1
  have VL := Lib.hid ((vl.below b1).below b2)
  have VH := Lib.hid ((vh.below b1).below b2)
  have V5 := Lib.hid ((Vb.new w W1 tl Al nl cl (Nat.le_of_lt hsz)).below b2)
  have V6 := Lib.hid (Vb.new1 w W1 (ob2 tl Al nl cl) th Ah nh ch (Nat.le_of_lt hsz))
  obtain ⟨p5, e5⟩ : ∃ p5, p5 = W1.heap.size := ⟨_, rfl⟩
  rw [← e5] at V5 V6 hsz
  clear s1 ms1 z1 vl vh b1 b2
  go_upto_region 2 with (fail)
  generalize (W1.alloc (.cells #[.bool tl, .slice Al nl cl] 24)).alloc (.cells #[.bool th, .slice Ah nh ch] 24) = W2 at R4 HS HM VL VH V5 V6 ⊢
  rw [← e5]
  clear e5
  have c0 := V5.out.c0
  have c1 := V5.out.c1
  have d0 := V6.out.c0
  have d1 := V6.out.c1
  go_wp2_with fail
  refine (chiOf_m HM.out VL.out VH.out Q1.out Q2.out).mono ?_
  rw [HO.out]
  rintro e W3 ⟨t3, B3, m3, d3, k3, rfl, s3, ms3, z3, v3⟩
  replace R4 := Lib.hid (R4.out.next s3 hlt)
  replace V5 := Lib.hid (V5.out.next s3 hlt)
  replace V6 := Lib.hid (V6.out.next s3 hlt)
  replace VL := Lib.hid (VL.out.next HM.out.cc s3 z3)
  replace VH := Lib.hid (VH.out.next HM.out.cc s3 z3)
  have s4 := Stp.of_below ms3.cc.lt (below_alloc W3 (ob2 t3 B3 m3 d3))
  have hsz3 : p5 + 1 < W3.heap.size := V6.out.lt
  have V7 := Lib.hid (Vb.new w W3 t3 B3 m3 d3 (by omega))
  have VO := Lib.hid (v3.below (below_alloc W3 (ob2 t3 B3 m3 d3)))
  replace HS := Lib.hid ((HS.out.trans s3).trans s4)
  replace HM := Lib.hid (ms3.below (below_alloc W3 (ob2 t3 B3 m3 d3)))
  replace HZ := Lib.hid (fun e => HZ.out (z3 e))
  replace R4 := Lib.hid (R4.out.next s4 hlt)
  replace V5 := Lib.hid (V5.out.next s4 hlt)
  replace V6 := Lib.hid (V6.out.next s4 hlt)
  replace VL := Lib.hid (VL.out.next ms3.cc s4 id)
  replace VH := Lib.hid (VH.out.next ms3.cc s4 id)
  obtain ⟨p7, e7⟩ : ∃ p7, p7 = W3.heap.size := ⟨_, rfl⟩
  rw [← e7] at V7 hsz3
  clear s3 ms3 z3 v3 s4 c0 c1 d0 d1
  go_upto_region 3 with (fail)
  generalize W3.alloc (.cells #[.bool t3, .slice B3 m3 d3] 24) = W4 at R4 HS HM VL VH V5 V6 V7 VO ⊢
  rw [← e7]
  clear e7
  go_cut [8, 9] (fun v8 v9 W => ChiMid1 b k3 O t3 B3 m3 d3 W4 v8 v9 W)
  case first =>
    have c0 := V7.out.c0
    have c1 := V7.out.c1
    have h7 := V7.out.lt
    go_region_held3 (fun w' => w'.cell? ⟨p7, 0, none⟩ = some (.bool t3) ∧ w'.cell? ⟨p7, 1, none⟩ = some (.slice B3 m3 d3)) (first | (with_reducible exact ⟨c0, c1⟩) | (with_reducible exact ⟨cell_dr c0, cell_dr c1⟩) | (with_reducible exact ⟨cell_al c0 _, cell_al c1 _⟩) | (with_reducible exact ⟨cell_dr (cell_al c0 _), cell_dr (cell_al c1 _)⟩) | (with_reducible exact ⟨cell_al (cell_dr c0) _, cell_al (cell_dr c1) _⟩) | (with_reducible exact ⟨cell_al (cell_al c0 _) _, cell_al (cell_al c1 _) _⟩) | (with_reducible exact ⟨cell_dr (cell_al (cell_al c0 _) _), cell_dr (cell_al (cell_al c1 _) _)⟩) | (with_reducible exact ⟨cell_al (cell_al (cell_dr c0) _) _, cell_al (cell_al (cell_dr c1) _) _⟩) | (with_reducible exact ⟨cell_two (by omega) c0, cell_two (by omega) c1⟩) | (with_reducible exact ⟨cell_two (by omega) (cell_two (by omega) c0), cell_two (by omega) (cell_two (by omega) c1)⟩) | (with_reducible exact ⟨cell_two (by omega) (cell_al c0 _), cell_two (by omega) (cell_al c1 _)⟩) | (with_reducible exact ⟨cell_al (cell_two (by omega) c0) _, cell_al (cell_two (by omega) c1) _⟩) | fail)
      (first
        | (go_at_call 53; (with_reducible refine (OfV 1 _ (by omega) (by omega)).mono ?_); rintro e W5 ⟨t4, B4, m4, d4, rfl, v9, s9⟩; have s0 := Stp.of_below (HM.out.below (Below.refl _ _).drew).cc.lt s9; have s1 : Stp b W4 W5 := (Stp.of_below HM.out.cc.lt (Below.refl _ _).drew).trans s0; have U1 : Hid (Vn _ k3 1 _ _ _ _) := fun _ => v9; have HS1 := Lib.hid s1; have HC := Lib.hid (HM.out.next s1 ((HM.out.cc.below (Below.refl _ _).drew).below s9) HM.out.st id); replace VO := Lib.hid (VO.out.next HM.out.cc s1 id); have h7 := V7.out.lt; replace V7 := Lib.hid (V7.out.next s1 hlt); clear s0 s1 v9 s9 c0 c1; have c0 := V7.out.c0; have c1 := V7.out.c1)
        | (go_at_call 53; (with_reducible refine (OfV 1 _ (by omega) (by omega)).mono ?_); rintro e W5 ⟨t4, B4, m4, d4, rfl, v9, s9⟩; have s0 := Stp.of_below (HM.out.below (below_alloc _ (.cells #[.bool false, .slice none 0 0] 24)).drew).cc.lt s9; have s1 : Stp b W4 W5 := (Stp.of_below HM.out.cc.lt (below_alloc _ (.cells #[.bool false, .slice none 0 0] 24)).drew).trans s0; have U1 : Hid (Vn _ k3 1 _ _ _ _) := fun _ => v9; have HS1 := Lib.hid s1; have HC := Lib.hid (HM.out.next s1 ((HM.out.cc.below (below_alloc _ (.cells #[.bool false, .slice none 0 0] 24)).drew).below s9) HM.out.st id); replace VO := Lib.hid (VO.out.next HM.out.cc s1 id); have VA := Lib.hid (((Vb.new W4 W4 false none 0 0 (Nat.le_refl _)).below (Below.refl _ _).drew).next s0 HM.out.cc.lt); have p0 := VA.out.c0; have p1 := VA.out.c1; have p2 := VA.out.f0; have p3 := VA.out.f1; have p4 := VA.out.lt; have h7 := V7.out.lt; replace V7 := Lib.hid (V7.out.next s1 hlt); clear s0 s1 v9 s9 c0 c1; have c0 := V7.out.c0; have c1 := V7.out.c1)
        | (go_at_call 53; (with_reducible refine (OfV 1 _ (by omega) (by omega)).mono ?_); rintro e W5 ⟨t4, B4, m4, d4, rfl, v9, s9⟩; have s0 := Stp.of_below (HM.out.below ((below_alloc _ (.cells #[.bool false, .slice none 0 0] 24)).trans ((below_alloc _ (.cells #[.bool false, .slice none 0 0] 24)).mono (by simp))).drew).cc.lt s9; have s1 : Stp b W4 W5 := (Stp.of_below HM.out.cc.lt ((below_alloc _ (.cells #[.bool false, .slice none 0 0] 24)).trans ((below_alloc _ (.cells #[.bool false, .slice none 0 0] 24)).mono (by simp))).drew).trans s0; have U1 : Hid (Vn _ k3 1 _ _ _ _) := fun _ => v9; have HS1 := Lib.hid s1; have HC := Lib.hid (HM.out.next s1 ((HM.out.cc.below ((below_alloc _ (.cells #[.bool false, .slice none 0 0] 24)).trans ((below_alloc _ (.cells #[.bool false, .slice none 0 0] 24)).mono (by simp))).drew).below s9) HM.out.st id); replace VO := Lib.hid (VO.out.next HM.out.cc s1 id); have VA := Lib.hid ((((Vb.new W4 W4 false none 0 0 (Nat.le_refl _)).below (below_alloc _ (.cells #[.bool false, .slice none 0 0] 24))).below (Below.refl _ _).drew).next s0 HM.out.cc.lt); have p0 := VA.out.c0; have p1 := VA.out.c1; have p2 := VA.out.f0; have p3 := VA.out.f1; have p4 := VA.out.lt; have VC := Lib.hid (((Vb.new1 W4 W4 (.cells #[.bool false, .slice none 0 0] 24) false none 0 0 (Nat.le_refl _)).below (Below.refl _ _).drew).next s0 HM.out.cc.lt); have r0 := VC.out.c0; have r1 := VC.out.c1; have r2 := VC.out.f0; have r3 := VC.out.f1; have r4 := VC.out.lt; have n1 : ¬ W4.heap.size = W4.heap.size + 1 := (by omega); have n2 : ¬ W4.heap.size + 1 = W4.heap.size := (by omega); have h7 := V7.out.lt; replace V7 := Lib.hid (V7.out.next s1 hlt); clear s0 s1 v9 s9 c0 c1; have c0 := V7.out.c0; have c1 := V7.out.c1)
        | fail "no arm")
    all_goals
      go_wp2
      go_meet
      refine ⟨_, _, t4, B4, m4, d4, rfl, rfl, ?_⟩
      first
        | (with_reducible exact Rp2.dd HS1.out HC.out.cc VO.out U1.out)
        | (with_reducible exact Rp2.dd2 HS1.out HC.out.cc VO.out U1.out)
        | (with_reducible exact Rp2.de HS1.out HC.out.cc VO.out U1.out HM.out.cc.lt VA.out)
        | (with_reducible exact Rp2.ed HS1.out HC.out.cc VO.out U1.out HM.out.cc.lt VA.out)
        | (with_reducible exact Rp2.ee HS1.out HC.out.cc VO.out U1.out HM.out.cc.lt (by omega) VA.out VC.out)
        | (with_reducible exact Rp2.ee2 HS1.out HC.out.cc VO.out U1.out HM.out.cc.lt (by omega) VA.out VC.out)
        | (with_reducible exact Rp2.ee HS1.out HC.out.cc VO.out U1.out HM.out.cc.lt (by omega) VC.out VA.out)
        | (with_reducible exact Rp2.ee2 HS1.out HC.out.cc VO.out U1.out HM.out.cc.lt (by omega) VC.out VA.out)
        | fail "no end"
  case rest =>
    obtain ⟨p8, p9, t4, B4, m4, d4, rfl, rfl, rp⟩ := hcut
    have h8 := rp.vp.ge
    have h9 := rp.vq.ge
    have h89 := rp.ne
    have h7 := V7.out.lt
    have hsw : w.heap.size ≤ W4.heap.size := HS.out.size
    have V8 := Lib.hid (Vb.mk (w := w) (Nat.le_trans hsw h8) rp.vp.lt rp.vp.c0 rp.vp.c1 rp.vp.f0 rp.vp.f1)
    have V9 := Lib.hid (Vb.mk (w := w) (Nat.le_trans hsw h9) rp.vq.lt rp.vq.c0 rp.vq.c1 rp.vq.f0 rp.vq.f1)
    have s5 := rp.stp
    have m5 := HM.out.next s5 rp.cc HM.out.st id
    replace R4 := Lib.hid (R4.out.next s5 hlt)
    replace V5 := Lib.hid (V5.out.next s5 hlt)
    replace V6 := Lib.hid (V6.out.next s5 hlt)
    replace V7 := Lib.hid (V7.out.next s5 hlt)
    replace VL := Lib.hid (VL.out.next HM.out.cc s5 id)
    replace VH := Lib.hid (VH.out.next HM.out.cc s5 id)
    replace VO := Lib.hid rp.v1
    have VI := Lib.hid rp.v2
    replace HS := Lib.hid (HS.out.trans s5)
    replace HM := Lib.hid m5
    clear rp s5 m5 hsw
    go_upto_region 5 with (fail)
    have c0 := V5.out.c0
    have c1 := V5.out.c1
    have d0 := V6.out.c0
    have d1 := V6.out.c1
    have a0 := HM.out.wk.a0
    have a1 := HM.out.wk.a1
    have r0 := V8.out.c0
    have r1 := V8.out.c1
    have r2 := V8.out.f0
    have r3 := V8.out.f1
    have x0 := V9.out.c0
    have x1 := V9.out.c1
    have x2 := V9.out.f0
    have x3 := V9.out.f1
    have n1 : ¬ p8 = p9 := h89
    have n2 : ¬ p9 = p8 := Ne.symm h89
    go_region_held3 (fun w' => w'.cell? ⟨p5, 0, none⟩ = some (.bool tl) ∧ w'.cell? ⟨p5, 1, none⟩ = some (.slice Al nl cl) ∧ w'.cell? ⟨p5 + 1, 0, none⟩ = some (.bool th) ∧ w'.cell? ⟨p5 + 1, 1, none⟩ = some (.slice Ah nh ch) ∧ w'.cell? ⟨b, 2, none⟩ = some (.bool ta) ∧ w'.cell? ⟨b, 3, none⟩ = some (.slice Aa na ca)) (first | (with_reducible exact ⟨c0, c1, d0, d1, a0, a1⟩) | (with_reducible exact ⟨cell_dr c0, cell_dr c1, cell_dr d0, cell_dr d1, cell_dr a0, cell_dr a1⟩) | (with_reducible exact ⟨cell_al c0 _, cell_al c1 _, cell_al d0 _, cell_al d1 _, cell_al a0 _, cell_al a1 _⟩) | (with_reducible exact ⟨cell_dr (cell_al c0 _), cell_dr (cell_al c1 _), cell_dr (cell_al d0 _), cell_dr (cell_al d1 _), cell_dr (cell_al a0 _), cell_dr (cell_al a1 _)⟩) | (with_reducible exact ⟨cell_al (cell_dr c0) _, cell_al (cell_dr c1) _, cell_al (cell_dr d0) _, cell_al (cell_dr d1) _, cell_al (cell_dr a0) _, cell_al (cell_dr a1) _⟩) | (with_reducible exact ⟨cell_al (cell_al c0 _) _, cell_al (cell_al c1 _) _, cell_al (cell_al d0 _) _, cell_al (cell_al d1 _) _, cell_al (cell_al a0 _) _, cell_al (cell_al a1 _) _⟩) | (with_reducible exact ⟨cell_dr (cell_al (cell_al c0 _) _), cell_dr (cell_al (cell_al c1 _) _), cell_dr (cell_al (cell_al d0 _) _), cell_dr (cell_al (cell_al d1 _) _), cell_dr (cell_al (cell_al a0 _) _), cell_dr (cell_al (cell_al a1 _) _)⟩) | (with_reducible exact ⟨cell_al (cell_al (cell_dr c0) _) _, cell_al (cell_al (cell_dr c1) _) _, cell_al (cell_al (cell_dr d0) _) _, cell_al (cell_al (cell_dr d1) _) _, cell_al (cell_al (cell_dr a0) _) _, cell_al (cell_al (cell_dr a1) _) _⟩) | (with_reducible exact ⟨cell_two (by omega) c0, cell_two (by omega) c1, cell_two (by omega) d0, cell_two (by omega) d1, cell_two (by omega) a0, cell_two (by omega) a1⟩) | (with_reducible exact ⟨cell_two (by omega) (cell_two (by omega) c0), cell_two (by omega) (cell_two (by omega) c1), cell_two (by omega) (cell_two (by omega) d0), cell_two (by omega) (cell_two (by omega) d1), cell_two (by omega) (cell_two (by omega) a0), cell_two (by omega) (cell_two (by omega) a1)⟩) | (with_reducible exact ⟨cell_two (by omega) (cell_al c0 _), cell_two (by omega) (cell_al c1 _), cell_two (by omega) (cell_al d0 _), cell_two (by omega) (cell_al d1 _), cell_two (by omega) (cell_al a0 _), cell_two (by omega) (cell_al a1 _)⟩) | (with_reducible exact ⟨cell_al (cell_two (by omega) c0) _, cell_al (cell_two (by omega) c1) _, cell_al (cell_two (by omega) d0) _, cell_al (cell_two (by omega) d1) _, cell_al (cell_two (by omega) a0) _, cell_al (cell_two (by omega) a1) _⟩) | fail)
      (first
        | (go_at_call 95; (with_reducible refine (cMul_c T b k3 (za) ((P (N / 2 + 1))) ta th Aa Ah na ca nh ch _ (HM.out.cc.below (Below.refl _ _).drew) HM.out.st (fun _ => Q3.out) (Vn.pair (Vn.below HM.out.va (Below.refl _ _).drew) (Vn.below VH.out (Below.refl _ _).drew))).mono ?_); rintro e Y0 ⟨tx0, Bx0, mx0, dx0, g0, rfl, s0, c9, v9, st9⟩; have s1 : Stp b wc Y0 := (Stp.of_below HM.out.cc.lt (Below.refl _ _).drew).trans s0; have z9 := fun e => (v9 e).1; replace R4 := Lib.hid (R4.out.next s1 hlt); replace V5 := Lib.hid (V5.out.next s1 hlt); replace V6 := Lib.hid (V6.out.next s1 hlt); replace V7 := Lib.hid (V7.out.next s1 hlt); replace V8 := Lib.hid (V8.out.next s1 hlt); replace V9 := Lib.hid (V9.out.next s1 hlt); replace VL := Lib.hid (VL.out.next HM.out.cc s1 z9); replace VH := Lib.hid (VH.out.next HM.out.cc s1 z9); replace VO := Lib.hid (VO.out.next HM.out.cc s1 z9); replace VI := Lib.hid (VI.out.next HM.out.cc s1 z9); have U0 : Hid (Vn _ _ (za * P (N / 2 + 1)) _ _ _ _) := fun e => (v9 e).2; replace HZ := Lib.hid (fun e => HZ.out (z9 e)); replace HS := Lib.hid (HS.out.trans s1); replace HM := Lib.hid (HM.out.next s1 c9 st9 z9); clear s0 s1 c9 v9 st9 z9 c0 c1 d0 d1 a0 a1 r0 r1 r2 r3 x0 x1 x2 x3; have c0 := V5.out.c0; have c1 := V5.out.c1; have d0 := V6.out.c0; have d1 := V6.out.c1; have a0 := HM.out.wk.a0; have a1 := HM.out.wk.a1; have r0 := V8.out.c0; have r1 := V8.out.c1; have r2 := V8.out.f0; have r3 := V8.out.f1; have x0 := V9.out.c0; have x1 := V9.out.c1; have x2 := V9.out.f0; have x3 := V9.out.f1)
        | (go_at_call 94; (with_reducible refine (cSub_c T b g0 ((za * P (N / 2 + 1))) ((P (N / 2))) tx0 tl Bx0 Al mx0 dx0 nl cl _ HM.out.cc HM.out.st (fun _ => Q4.out) (Vn.pair U0.out VL.out)).mono ?_); rintro e Y1 ⟨tx1, Bx1, mx1, dx1, g1, rfl, s0, c9, v9, st9⟩; have s1 : Stp b Y0 Y1 := s0; have z9 := fun e => (v9 e).1; replace R4 := Lib.hid (R4.out.next s1 hlt); replace V5 := Lib.hid (V5.out.next s1 hlt); replace V6 := Lib.hid (V6.out.next s1 hlt); replace V7 := Lib.hid (V7.out.next s1 hlt); replace V8 := Lib.hid (V8.out.next s1 hlt); replace V9 := Lib.hid (V9.out.next s1 hlt); replace VL := Lib.hid (VL.out.next HM.out.cc s1 z9); replace VH := Lib.hid (VH.out.next HM.out.cc s1 z9); replace VO := Lib.hid (VO.out.next HM.out.cc s1 z9); replace VI := Lib.hid (VI.out.next HM.out.cc s1 z9); replace U0 := Lib.hid (U0.out.next HM.out.cc s1 z9); have U1 : Hid (Vn _ _ (za * P (N / 2 + 1) - P (N / 2)) _ _ _ _) := fun e => (v9 e).2; replace HZ := Lib.hid (fun e => HZ.out (z9 e)); replace HS := Lib.hid (HS.out.trans s1); replace HM := Lib.hid (HM.out.next s1 c9 st9 z9); clear s0 s1 c9 v9 st9 z9 c0 c1 d0 d1 a0 a1 r0 r1 r2 r3 x0 x1 x2 x3; have c0 := V5.out.c0; have c1 := V5.out.c1; have d0 := V6.out.c0; have d1 := V6.out.c1; have a0 := HM.out.wk.a0; have a1 := HM.out.wk.a1; have r0 := V8.out.c0; have r1 := V8.out.c1; have r2 := V8.out.f0; have r3 := V8.out.f1; have x0 := V9.out.c0; have x1 := V9.out.c1; have x2 := V9.out.f0; have x3 := V9.out.f1)
        | fail "no arm")
    have hA9 := HM.out.va
    have rp : Rp2 b g1 w (st2 (st2 Y1 p8 tx1 Bx1 mx1 dx1) p9 ta Aa na ca) p8 p9 (za * P (N / 2 + 1) - P (N / 2)) tx1 Bx1 mx1 dx1 za ta Aa na ca := Rp2.ee HS.out HM.out.cc U1.out hA9 hlt h89 V8.out V9.out
    have m6 := HM.out.two (p := p8) (by omega) V8.out.c0 V8.out.c1 (u := .bool tx1) (v := .slice Bx1 mx1 dx1) (HM.out.ea.stp _ _ _ H0.out.ev H0.out.cc (HS.out.two (by omega) (by omega) _ _))
    have v9 := V9.out.far h89 (.bool tx1) (.slice Bx1 mx1 dx1)
    have m7 := m6.two (p := p9) (by omega) v9.c0 v9.c1 (u := .bool ta) (v := .slice Aa na ca) (HM.out.ea.stp _ _ _ H0.out.ev H0.out.cc rp.stp)
    have VO' := Lib.hid ((VO.out.two V8.out.c0 V8.out.c1 (.bool tx1) (.slice Bx1 mx1 dx1)).two v9.c0 v9.c1 (.bool ta) (.slice Aa na ca))
    replace R4 := Lib.hid ((R4.out.far (g' := p8) (by omega) (.bool tx1) (.slice Bx1 mx1 dx1)).far (g' := p9) (by omega) (.bool ta) (.slice Aa na ca))
    replace V7 := Lib.hid ((V7.out.far (g' := p8) (by omega) (.bool tx1) (.slice Bx1 mx1 dx1)).far (g' := p9) (by omega) (.bool ta) (.slice Aa na ca))
    replace V8 := Lib.hid rp.vp
    replace V9 := Lib.hid rp.vq
    have VT := Lib.hid rp.v1
    replace VI := Lib.hid rp.v2
    replace VO := VO'
    replace HS := Lib.hid rp.stp
    replace HM := Lib.hid m7
    clear VO' rp m6 m7 v9 hA9 c0 c1 d0 d1 a0 a1 r0 r1 r2 r3 x0 x1 x2 x3 V5 V6 VL VH U0 U1
    simp only [st2] at R4 V7 V8 V9 VO VT VI HS HM
    go_upto_region 6 with (fail)
    generalize (((Y1.setCell ⟨p8, 0, none⟩ (.bool tx1)).setCell ⟨p8, 1, none⟩ (.slice Bx1 mx1 dx1)).setCell ⟨p9, 0, none⟩ (.bool ta)).setCell ⟨p9, 1, none⟩ (.slice Aa na ca) = W6 at R4 V7 V8 V9 VO VT VI HS HM ⊢
    go_cut [10] (fun v W => ChiPro1 T b g1 (O * (za * P (N / 2 + 1) - P (N / 2))) W6 v W)
    case first =>
      have c0 := V7.out.c0
      have c1 := V7.out.c1
      have d0 := V8.out.c0
      have d1 := V8.out.c1
      have l7 := V7.out.lt
      have l8 := V8.out.lt
      go_region_held3 (fun w' => w'.cell? ⟨p7, 0, none⟩ = some (.bool t3) ∧ w'.cell? ⟨p7, 1, none⟩ = some (.slice B3 m3 d3) ∧ w'.cell? ⟨p8, 0, none⟩ = some (.bool tx1) ∧ w'.cell? ⟨p8, 1, none⟩ = some (.slice Bx1 mx1 dx1)) (first | (with_reducible exact ⟨c0, c1, d0, d1⟩) | (with_reducible exact ⟨cell_dr c0, cell_dr c1, cell_dr d0, cell_dr d1⟩) | (with_reducible exact ⟨cell_al c0 _, cell_al c1 _, cell_al d0 _, cell_al d1 _⟩) | (with_reducible exact ⟨cell_dr (cell_al c0 _), cell_dr (cell_al c1 _), cell_dr (cell_al d0 _), cell_dr (cell_al d1 _)⟩) | (with_reducible exact ⟨cell_al (cell_dr c0) _, cell_al (cell_dr c1) _, cell_al (cell_dr d0) _, cell_al (cell_dr d1) _⟩) | (with_reducible exact ⟨cell_al (cell_al c0 _) _, cell_al (cell_al c1 _) _, cell_al (cell_al d0 _) _, cell_al (cell_al d1 _) _⟩) | (with_reducible exact ⟨cell_dr (cell_al (cell_al c0 _) _), cell_dr (cell_al (cell_al c1 _) _), cell_dr (cell_al (cell_al d0 _) _), cell_dr (cell_al (cell_al d1 _) _)⟩) | (with_reducible exact ⟨cell_al (cell_al (cell_dr c0) _) _, cell_al (cell_al (cell_dr c1) _) _, cell_al (cell_al (cell_dr d0) _) _, cell_al (cell_al (cell_dr d1) _) _⟩) | (with_reducible exact ⟨cell_two (by omega) c0, cell_two (by omega) c1, cell_two (by omega) d0, cell_two (by omega) d1⟩) | (with_reducible exact ⟨cell_two (by omega) (cell_two (by omega) c0), cell_two (by omega) (cell_two (by omega) c1), cell_two (by omega) (cell_two (by omega) d0), cell_two (by omega) (cell_two (by omega) d1)⟩) | (with_reducible exact ⟨cell_two (by omega) (cell_al c0 _), cell_two (by omega) (cell_al c1 _), cell_two (by omega) (cell_al d0 _), cell_two (by omega) (cell_al d1 _)⟩) | (with_reducible exact ⟨cell_al (cell_two (by omega) c0) _, cell_al (cell_two (by omega) c1) _, cell_al (cell_two (by omega) d0) _, cell_al (cell_two (by omega) d1) _⟩) | fail)
        (first
          | (go_at_call 95; (with_reducible refine (cMul_c T b g1 (O) ((za * P (N / 2 + 1) - P (N / 2))) t3 tx1 B3 Bx1 m3 d3 mx1 dx1 _ (HM.out.cc.below (Below.refl _ _).drew) HM.out.st (fun _ => Q5.out) (Vn.pair (Vn.below VO.out (Below.refl _ _).drew) (Vn.below VT.out (Below.refl _ _).drew))).mono ?_); rintro e W7 ⟨t5, B5, m5, d5, k5, rfl, s0, c9, v9, st9⟩; have s1 : Stp b W6 W7 := (Stp.of_below HM.out.cc.lt (Below.refl _ _).drew).trans s0; have z9 := fun e => (v9 e).1; have U5 : Hid (Vn _ _ (O * (za * P (N / 2 + 1) - P (N / 2))) _ _ _ _) := fun e => (v9 e).2; have HS1 := Lib.hid s1; have HC := Lib.hid c9; have HK := Lib.hid st9; have HZ5 := Lib.hid z9; replace V7 := Lib.hid (V7.out.next s1 hlt); replace V8 := Lib.hid (V8.out.next s1 hlt); clear s0 s1 c9 v9 st9 z9 c0 c1 d0 d1; have c0 := V7.out.c0; have c1 := V7.out.c1; have d0 := V8.out.c0; have d1 := V8.out.c1)
          | (go_at_call 95; (with_reducible refine (cMul_c T b g1 (O) ((za * P (N / 2 + 1) - P (N / 2))) t3 tx1 B3 Bx1 m3 d3 mx1 dx1 _ (HM.out.cc.below (below_alloc _ (.cells #[.bool false, .slice none 0 0] 24)).drew) HM.out.st (fun _ => Q5.out) (Vn.pair (Vn.below VO.out (below_alloc _ (.cells #[.bool false, .slice none 0 0] 24)).drew) (Vn.below VT.out (below_alloc _ (.cells #[.bool false, .slice none 0 0] 24)).drew))).mono ?_); rintro e W7 ⟨t5, B5, m5, d5, k5, rfl, s0, c9, v9, st9⟩; have s1 : Stp b W6 W7 := (Stp.of_below HM.out.cc.lt (below_alloc _ (.cells #[.bool false, .slice none 0 0] 24)).drew).trans s0; have z9 := fun e => (v9 e).1; have U5 : Hid (Vn _ _ (O * (za * P (N / 2 + 1) - P (N / 2))) _ _ _ _) := fun e => (v9 e).2; have HS1 := Lib.hid s1; have HC := Lib.hid c9; have HK := Lib.hid st9; have HZ5 := Lib.hid z9; have VA := Lib.hid (((Vb.new W6 W6 false none 0 0 (Nat.le_refl _)).below (Below.refl _ _).drew).next s0 HM.out.cc.lt); have p0 := VA.out.c0; have p1 := VA.out.c1; have p2 := VA.out.f0; have p3 := VA.out.f1; have p4 := VA.out.lt; replace V7 := Lib.hid (V7.out.next s1 hlt); replace V8 := Lib.hid (V8.out.next s1 hlt); clear s0 s1 c9 v9 st9 z9 c0 c1 d0 d1; have c0 := V7.out.c0; have c1 := V7.out.c1; have d0 := V8.out.c0; have d1 := V8.out.c1)
          | fail "no arm")
      all_goals
        go_wp2
        go_meet
        refine ⟨_, t5, B5, m5, d5, k5, rfl, ?_, HK.out, HZ5.out⟩
        first
          | (with_reducible exact Rp1.late HS1.out HC.out U5.out)
          | (with_reducible exact Rp1.early HS1.out HC.out U5.out HM.out.cc.lt VA.out)
          | fail "no end"
    case rest =>
      obtain ⟨pa, t5, B5, m5, d5, k5, rfl, rp, st5, z5⟩ := hcut
      have ha := rp.vb.ge
      have hsw : w.heap.size ≤ W6.heap.size := HS.out.size
      have hw6 : w.heap.size < W6.heap.size := R4.out.lt
      have VA := Lib.hid (Vb.mk (w := w) (Nat.le_trans hsw ha) rp.vb.lt rp.vb.c0 rp.vb.c1 rp.vb.f0 rp.vb.f1)
      have s5 := rp.stp
      have m5' := HM.out.next s5 rp.cc st5 z5
      replace R4 := Lib.hid (R4.out.next s5 hlt)
      replace V9 := Lib.hid (V9.out.next s5 hlt)
      replace VI := Lib.hid (VI.out.next HM.out.cc s5 z5)
      have VP := Lib.hid rp.vn
      replace HS := Lib.hid (HS.out.trans s5)
      replace HM := Lib.hid m5'
      replace HZ := Lib.hid (fun e => HZ.out (z5 e))
      clear rp s5 m5' hsw st5 z5 V7 V8 VO VT
      go_upto_region 7 with (fail)
      have c0 := VA.out.c0
      have c1 := VA.out.c1
      have d0 := V9.out.c0
      have d1 := V9.out.c1
      have r0 := R4.out.c0
      have r1 := R4.out.c1
      have f0 := R4.out.f0
      have f1 := R4.out.f1
      have hr9 : w.heap.size < p9 := by omega
      have hra : w.heap.size < pa := by omega
      go_region_held3 (fun w' => w'.cell? ⟨pa, 0, none⟩ = some (.bool t5) ∧ w'.cell? ⟨pa, 1, none⟩ = some (.slice B5 m5 d5) ∧ w'.cell? ⟨p9, 0, none⟩ = some (.bool ta) ∧ w'.cell? ⟨p9, 1, none⟩ = some (.slice Aa na ca)) (first | (with_reducible exact ⟨c0, c1, d0, d1⟩) | (with_reducible exact ⟨cell_dr c0, cell_dr c1, cell_dr d0, cell_dr d1⟩) | (with_reducible exact ⟨cell_al c0 _, cell_al c1 _, cell_al d0 _, cell_al d1 _⟩) | (with_reducible exact ⟨cell_dr (cell_al c0 _), cell_dr (cell_al c1 _), cell_dr (cell_al d0 _), cell_dr (cell_al d1 _)⟩) | (with_reducible exact ⟨cell_al (cell_dr c0) _, cell_al (cell_dr c1) _, cell_al (cell_dr d0) _, cell_al (cell_dr d1) _⟩) | (with_reducible exact ⟨cell_al (cell_al c0 _) _, cell_al (cell_al c1 _) _, cell_al (cell_al d0 _) _, cell_al (cell_al d1 _) _⟩) | (with_reducible exact ⟨cell_dr (cell_al (cell_al c0 _) _), cell_dr (cell_al (cell_al c1 _) _), cell_dr (cell_al (cell_al d0 _) _), cell_dr (cell_al (cell_al d1 _) _)⟩) | (with_reducible exact ⟨cell_al (cell_al (cell_dr c0) _) _, cell_al (cell_al (cell_dr c1) _) _, cell_al (cell_al (cell_dr d0) _) _, cell_al (cell_al (cell_dr d1) _) _⟩) | (with_reducible exact ⟨cell_two (by omega) c0, cell_two (by omega) c1, cell_two (by omega) d0, cell_two (by omega) d1⟩) | (with_reducible exact ⟨cell_two (by omega) (cell_two (by omega) c0), cell_two (by omega) (cell_two (by omega) c1), cell_two (by omega) (cell_two (by omega) d0), cell_two (by omega) (cell_two (by omega) d1)⟩) | (with_reducible exact ⟨cell_two (by omega) (cell_al c0 _), cell_two (by omega) (cell_al c1 _), cell_two (by omega) (cell_al d0 _), cell_two (by omega) (cell_al d1 _)⟩) | (with_reducible exact ⟨cell_al (cell_two (by omega) c0) _, cell_al (cell_two (by omega) c1) _, cell_al (cell_two (by omega) d0) _, cell_al (cell_two (by omega) d1) _⟩) | fail)
        (first
          | (go_at_call 94; (with_reducible refine (cSub_c T b k5 ((O * (za * P (N / 2 + 1) - P (N / 2)))) (za) t5 ta B5 Aa m5 d5 na ca _ (HM.out.cc.below (Below.refl _ _).drew) HM.out.st (fun _ => Q6.out) (Vn.pair (Vn.below VP.out (Below.refl _ _).drew) (Vn.below VI.out (Below.refl _ _).drew))).mono ?_); rintro e Z0 ⟨ty0, By0, my0, dy0, j0, rfl, s0, c9, v9, st9⟩; have s1 : Stp b wc Z0 := (Stp.of_below HM.out.cc.lt (Below.refl _ _).drew).trans s0; have z9 := fun e => (v9 e).1; replace R4 := Lib.hid (R4.out.next s1 hlt); replace VA := Lib.hid (VA.out.next s1 hlt); replace V9 := Lib.hid (V9.out.next s1 hlt); replace VI := Lib.hid (VI.out.next HM.out.cc s1 z9); replace VP := Lib.hid (VP.out.next HM.out.cc s1 z9); have X0 : Hid (Vn _ _ (O * (za * P (N / 2 + 1) - P (N / 2)) - za) _ _ _ _) := fun e => (v9 e).2; replace HZ := Lib.hid (fun e => HZ.out (z9 e)); replace HS := Lib.hid (HS.out.trans s1); replace HM := Lib.hid (HM.out.next s1 c9 st9 z9); clear s0 s1 c9 v9 st9 z9 c0 c1 d0 d1 r0 r1 f0 f1; have c0 := VA.out.c0; have c1 := VA.out.c1; have d0 := V9.out.c0; have d1 := V9.out.c1; have r0 := R4.out.c0; have r1 := R4.out.c1; have f0 := R4.out.f0; have f1 := R4.out.f1)
          | (go_at_call 90; (with_reducible refine (cAdd_c T b j0 ((O * (za * P (N / 2 + 1) - P (N / 2)))) ((O * (za * P (N / 2 + 1) - P (N / 2)) - za)) t5 ty0 B5 By0 m5 d5 my0 dy0 _ HM.out.cc HM.out.st (fun _ => Q7.out) (Vn.pair VP.out X0.out)).mono ?_); rintro e Z1 ⟨ty1, By1, my1, dy1, j1, rfl, s0, c9, v9, st9⟩; have s1 : Stp b Z0 Z1 := s0; have z9 := fun e => (v9 e).1; replace R4 := Lib.hid (R4.out.next s1 hlt); replace VA := Lib.hid (VA.out.next s1 hlt); replace V9 := Lib.hid (V9.out.next s1 hlt); replace VI := Lib.hid (VI.out.next HM.out.cc s1 z9); replace VP := Lib.hid (VP.out.next HM.out.cc s1 z9); replace X0 := Lib.hid (X0.out.next HM.out.cc s1 z9); have X1 : Hid (Vn _ _ (O * (za * P (N / 2 + 1) - P (N / 2)) + (O * (za * P (N / 2 + 1) - P (N / 2)) - za)) _ _ _ _) := fun e => (v9 e).2; replace HZ := Lib.hid (fun e => HZ.out (z9 e)); replace HS := Lib.hid (HS.out.trans s1); replace HM := Lib.hid (HM.out.next s1 c9 st9 z9); clear s0 s1 c9 v9 st9 z9 c0 c1 d0 d1 r0 r1 f0 f1; have c0 := VA.out.c0; have c1 := VA.out.c1; have d0 := V9.out.c0; have d1 := V9.out.c1; have r0 := R4.out.c0; have r1 := R4.out.c1; have f0 := R4.out.f0; have f1 := R4.out.f1)
          | fail "no arm")
      go_wp2
      have hne : w.heap.size ≠ b := by omega
      refine bodyPost_ret (v := .agg #[.bool ty1, .slice By1 my1 dy1]) (by simp [results, Try.results58, go_sem, r0, r1]) rfl ?_
      have st := HS.out.two (g := w.heap.size) (Nat.le_refl _) hne (.bool ty1) (.slice By1 my1 dy1)
      exact ⟨ty1, By1, my1, dy1, j1, rfl, st, HM.out.two hne r0 r1 (HM.out.ea.stp _ _ _ H0.out.ev H0.out.cc st), HZ.out, X1.out.two r0 r1 _ _⟩
end
end Go.Proofs.Ytbblckaplddggaa
