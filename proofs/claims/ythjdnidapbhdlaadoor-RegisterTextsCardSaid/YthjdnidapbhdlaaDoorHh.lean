/- equal lists, states, machines; where there is no step -/
import Derived.Test.YthjdnidapbhdlaaDoorHg
set_option maxRecDepth 100000
namespace Go.Proofs.YthjdnidapbhdlaaDoor
open Go.RowKit
theorem bel_drew {B : Nat} {a w : World} (h : Below B a w) (n : Nat) : Below B a (w.drewN n) := ⟨h.os, h.tape, h.output, h.size, h.block⟩
set_option maxHeartbeats 2000000 in
theorem sameInts_t (A B : Option Addr) (n c d : Nat) (zs : List Int) (w : World) (ha : RdI w A n zs) (hb : RdI w B n zs) (hn : n ≤ 9223372036854775800) :
    Calls Tryd.prog 58 #[.slice A n c, .slice B n d] w (RetB true w) := by
  have HA := Lib.hid ha
  have HB := Lib.hid hb
  have t : ((n : Int) != (n : Int)) = false := by simp
  clear ha hb
  go_enter Tryd.func58, Tryd.ntmps58
  go_wp2
  go_loopw [5] (fun v wr => ∃ k j : Nat, k ≤ n ∧ v = .int .i64 k ∧ wr = w.drewN j) (fun v _ => n - (intOf v).toNat)
  case atStart => exact ⟨0, 0, Nat.zero_le _, rfl, rfl⟩
  case round =>
    obtain ⟨k, j, hk, rfl, rfl⟩ := hrel
    clear t
    by_cases hkn : k < n
    · obtain ⟨b, o, rfl, _, hca⟩ := HA.out.at_ (by omega)
      obtain ⟨b', o', rfl, _, hcb⟩ := HB.out.at_ (by omega)
      have hci := hca k hkn
      have hdi := hcb k hkn
      generalize zs.getD k 0 = x at hci hdi
      have t : (x != x) = false := by simp
      clear hca hcb
      go_wp2
      go_quiet (fail)
      go_wp2
      go_roundw
      case measure => simp [intOf]; omega
      case rel => exact ⟨k + 1, _, by omega, by go_num, rfl⟩
    · go_wp2
      go_ret
      exact ⟨rfl, bel_drew (Below.refl _ _) j⟩
set_option maxHeartbeats 2000000 in
theorem sameState_t (at_ : Int) (A B : Option Addr) (n c d : Nat) (zs : List Int) (w : World) (ha : RdI w A n zs) (hb : RdI w B n zs) (hn : n ≤ 9223372036854775800) :
    Calls Tryd.prog 35 #[.agg #[.int .i64 at_, .slice A n c], .agg #[.int .i64 at_, .slice B n d]] w (RetB true w) := by
  have t : (at_ == at_) = true := by simp
  have k0 := bel2 w (.cells #[.int .i64 at_, .slice A n c] 46) (.cells #[.int .i64 at_, .slice B n d] 46)
  have HC := Lib.hid (sameInts_t A B n c d zs _ (ha.below k0) (hb.below k0) hn)
  have K0 := Lib.hid k0
  clear k0 ha hb
  go_enter Tryd.func35, Tryd.ntmps35
  go_wp2_with fail
  refine HC.out.mono ?_
  rintro e w1 ⟨rfl, hb⟩
  have HB := Lib.hid (K0.out.trans (hb.mono K0.out.size))
  clear hb HC K0
  go_wp2
  go_ret
  exact ⟨rfl, HB.out⟩
set_option maxHeartbeats 4000000 in
theorem sameM_t (R : Int) (A B : Option Addr) (n c d : Nat) (cs : List Ins) (w : World) (ha : RdC w A n cs) (hb : RdC w B n cs) (hn : n ≤ 9223372036854775800) :
    Calls Tryd.prog 32 #[.agg #[.int .i64 R, .slice A n c], .agg #[.int .i64 R, .slice B n d]] w (RetB true w) := by
  have t : ((n : Int) != (n : Int)) = false := by simp
  have t2 : (R != R) = false := by simp
  have k0 := bel_alloc w (.cells #[.int .i64 R, .slice A n c] 43)
  have k1 := bel_alloc (w.alloc (.cells #[.int .i64 R, .slice A n c] 43)) (.cells #[.int .i64 R, .slice B n d] 43)
  have P := Lib.hid (k0.trans (k1.mono k0.size))
  have HA := Lib.hid ((ha.below k0).below k1)
  have HB := Lib.hid ((hb.below k0).below k1)
  have Xa := Lib.hid ((BoxM.new w R A n c).next k1)
  have Xb := Lib.hid (BoxM.new (w.alloc (.cells #[.int .i64 R, .slice A n c] 43)) R B n d)
  rw [World.size_alloc] at Xb
  clear ha hb k0 k1
  go_enter Tryd.func32, Tryd.ntmps32
  go_upto_region 1 with (fail)
  generalize (w.alloc (.cells #[.int .i64 R, .slice A n c] 43)).alloc (.cells #[.int .i64 R, .slice B n d] 43) = W0 at P HA HB Xa Xb ⊢
  generalize w.heap.size = g at Xa Xb ⊢
  have a0 := Xa.out.c0
  have a1 := Xa.out.c1
  have b0 := Xb.out.c0
  have b1 := Xb.out.c1
  go_wp2
  go_loopw [5] (fun v wr => ∃ k j : Nat, k ≤ n ∧ v = .int .i64 k ∧ wr = W0.drewN j) (fun v _ => n - (intOf v).toNat)
  case atStart => exact ⟨0, 0, Nat.zero_le _, rfl, rfl⟩
  case round =>
    obtain ⟨k, j, hk, rfl, rfl⟩ := hrel
    clear t t2
    by_cases hkn : k < n
    · obtain ⟨b, o, rfl, _, hca⟩ := HA.out.at_ (by omega)
      obtain ⟨b', o', rfl, _, hcb⟩ := HB.out.at_ (by omega)
      obtain ⟨x0, x1, x2, x3⟩ := hca k hkn
      obtain ⟨y0, y1, y2, y3⟩ := hcb k hkn
      generalize insAt cs k = x at x0 x1 x2 x3 y0 y1 y2 y3
      clear hca hcb
      go_wp2
      go_quiet (fail)
      go_wp2
      go_roundw
      case measure => simp [intOf]; omega
      case rel => exact ⟨k + 1, _, by omega, by go_num, rfl⟩
    · go_wp2
      go_ret
      exact ⟨rfl, bel_drew P.out j⟩
/-- there is no step -/
def endM (x : Ins) (zs : List Int) : Bool := decide (x.op = 3) || (decide (x.op = 1) && decide (zs.getD x.reg.toNat 0 = 0))
set_option maxHeartbeats 4000000 in
theorem ended_c (R : Int) (A : Option Addr) (n c : Nat) (cs : List Ins) (k : Nat) (B : Option Addr) (m d : Nat) (zs : List Int) (w : World) (h : RdC w A n cs) (h' : RdI w B m zs) (hk : k < n) (hreg : (insAt cs k).op = 1 → 0 ≤ (insAt cs k).reg ∧ (insAt cs k).reg < (m : Int)) :
    Calls Tryd.prog 77 #[.agg #[.int .i64 R, .slice A n c], .agg #[.int .i64 (k : Int), .slice B m d]] w (RetB (endM (insAt cs k) zs) w) := by
  have E := Lib.hid (MS.start R A n c cs (k : Int) B m d zs w h h')
  clear h h'
  go_enter Tryd.func77, Tryd.ntmps77
  go_upto_region 1 with (fail)
  generalize (w.alloc (.cells #[.int .i64 R, .slice A n c] 43)).alloc (.cells #[.int .i64 (k : Int), .slice B m d] 46) = W0 at E ⊢
  generalize w.heap.size = g at E ⊢
  obtain ⟨b, o, rfl, hblt, hc⟩ := E.out.rc.at_ (by omega)
  obtain ⟨x0, x1, x2, x3⟩ := hc k hk
  obtain ⟨x, hx⟩ : ∃ x, x = insAt cs k := ⟨_, rfl⟩
  rw [← hx] at x0 x1 x2 x3 hreg
  have HX := Lib.hid hx
  clear hx
  obtain ⟨op, reg, nx, zr⟩ := x
  have gl : g + 1 < W0.heap.size := E.out.bs.lt
  have m0 := E.out.bm.c0
  have m1 := E.out.bm.c1
  have s0 := E.out.bs.c0
  have s1 := E.out.bs.c1
  have KB := Lib.hid (bel_alloc W0 (.cells #[.int .i64 op, .int .i64 reg, .int .i64 nx, .int .i64 zr] 70))
  have P := Lib.hid (E.out.below.trans (KB.out.mono E.out.below.size))
  have HI := Lib.hid (E.out.ri.below KB.out)
  clear hc
  by_cases h3 : op = 3
  · subst h3
    have HF := Lib.hid (show endM ⟨3, reg, nx, zr⟩ zs = true by simp [endM])
    clear hreg
    go_wp2
    go_ret
    exact ⟨by rw [← HX.out, HF.out]; rfl, P.out⟩
  · have t3 : (op == 3) = false := beq_eq_false_iff_ne.2 h3
    by_cases h1 : op = 1
    · subst h1
      obtain ⟨r0, r1⟩ := hreg rfl
      simp only at r0 r1
      obtain ⟨r, rfl⟩ := Int.eq_ofNat_of_zero_le r0
      have hr : r < m := by omega
      obtain ⟨b', o', rfl, hb', hc'⟩ := HI.out.at_ (by omega)
      have c0 := hc' r hr
      have HF := Lib.hid (show endM ⟨1, (r : Int), nx, zr⟩ zs = decide (zs.getD r 0 = 0) by simp [endM])
      generalize zs.getD r 0 = z at c0 HF
      clear hc' h3
      by_cases hz : z = 0
      · subst hz
        go_wp2
        go_ret
        exact ⟨by rw [← HX.out, HF.out]; rfl, P.out⟩
      · have tz : (z == 0) = false := beq_eq_false_iff_ne.2 hz
        have HZ := Lib.hid (decide_eq_false hz)
        clear hz
        go_wp2
        go_ret
        exact ⟨by rw [← HX.out, HF.out, HZ.out]; rfl, P.out⟩
    · have t1 : (op == 1) = false := beq_eq_false_iff_ne.2 h1
      have HF := Lib.hid (show endM ⟨op, reg, nx, zr⟩ zs = false by simp [endM, h1, h3])
      clear hreg h1 h3
      go_wp2
      go_ret
      exact ⟨by rw [← HX.out, HF.out]; rfl, P.out⟩
end Go.Proofs.YthjdnidapbhdlaaDoor
