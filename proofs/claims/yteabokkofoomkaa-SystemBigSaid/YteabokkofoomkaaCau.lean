import Derived.Test.YteabokkofoomkaaCat
set_option maxRecDepth 100000
namespace Go.Proofs.Yteabokkofoomkaa
open Go.RowKit Go.Shelf Go.Deep
def badPly (m : Nat) (p : Ply) : Bool := !(decide (p.V = (m : Int)) && validP p.V p.ts)
set_option maxHeartbeats 2000000 in
theorem validLink1_c (V : Int) (A : Option Addr) (n c : Nat) (ts : List Trm) (q : Nat) (B : Option Addr) (m d : Nat) (w : World) (h : RdT w A n ts) (hq : q < w.heap.size) (c1 : w.cell? ⟨q, 1, none⟩ = some (.slice B m d)) :
 Calls Try.prog 52 #[aggP V A n c, .pointer (some ⟨q, 0, none⟩)] w (RetB (badPly m ⟨V, ts⟩) w) := by
 have k0 := bel_alloc w (boxP V A n c)
 have P := Lib.hid k0
 have RT := Lib.hid (h.below k0)
 have X := Lib.hid (BxP.new w V A n c)
 have b1 := (k0.cell (p := ⟨q, 1, none⟩) hq).trans c1
 clear h k0 hq c1
 go_enter Try.func52, Try.ntmps52
 go_upto_region 1 with (fail)
 generalize w.alloc (boxP V A n c) = W0 at P RT X b1 ⊢
 obtain ⟨g, hg⟩ : ∃ g, g = w.heap.size := ⟨_, rfl⟩
 rw [← hg] at X ⊢
 clear hg
 have a0 := X.out.c0
 have a1 := X.out.c1
 by_cases hv : V = (m : Int)
 · have t0 : (V != (m : Int)) = false := by rw [hv]; exact bne_self_eq_false _
   have HB := Lib.hid (show badPly m ⟨V, ts⟩ = !validP V ts by unfold badPly; rw [decide_eq_true hv]; rfl)
   clear hv
   go_wp2_with fail
   refine (polyValid_c V A n c ts _ RT.out).mono ?_
   rintro e w1 ⟨rfl, hb⟩
   replace P := Lib.hid (P.out.trans (hb.mono P.out.size))
   clear hb a0 a1 b1 X RT
   generalize validP V ts = v at HB ⊢
   cases v with
   | false =>
     go_wp2
     go_ret
     exact ⟨by rw [HB.out] <;> rfl, P.out⟩
   | true =>
     go_wp2
     go_ret
     exact ⟨by rw [HB.out] <;> rfl, P.out⟩
 · have t0 : (V != (m : Int)) = true := by rw [bne_iff_ne]; exact hv
   have HB := Lib.hid (show badPly m ⟨V, ts⟩ = true by unfold badPly; rw [decide_eq_false hv]; rfl)
   clear hv
   go_wp2
   go_ret
   exact ⟨by rw [HB.out] <;> rfl, P.out⟩
def anyP (pred : Ply → Bool) (ps : List Ply) : Bool := decide (∃ k, k < ps.length ∧ pred (plyAt ps k) = true)
structure OnPly (f : Nat) (caps : Array Value) (Ev : World → Prop) (pred : Ply → Bool) : Prop where
 enters : ∀ args w, (callFunc f args).run Try.prog w = .ok (.enter f args) w
 next : ∀ W W', Ev W → Below W.heap.size W W' → Ev W'
 call : ∀ (W : World) (V : Int) (A : Option Addr) (n c : Nat) (ts : List Trm), Ev W → RdT W A n ts → Calls Try.prog f (#[aggP V A n c] ++ caps) W (RetB (pred ⟨V, ts⟩) W)
set_option maxHeartbeats 2000000 in
theorem indexFuncP_c {f : Nat} {caps : Array Value} {Ev : World → Prop} {pred : Ply → Bool} (H : OnPly f caps Ev pred) (A : Option Addr) (n c : Nat) (ps : List Ply) (w : World) (h : RdP w A n ps) (hE : Ev w) (hn : n ≤ 9223372036854775807) :
 Calls Try.prog 71 #[.slice A n c, .func (.func f) #[] caps] w fun e w' => ∃ i : Int, e = .returned (.int .i64 i) ∧ decide (0 ≤ i) = anyP pred ps ∧ Below w.heap.size w w' := by
 have HP := Lib.hid h
 have HL := Lib.hid (And.intro h.len hn)
 have EV := Lib.hid hE
 have heg := H.enters
 have HH := Lib.hid H
 clear h hn hE H
 go_enter Try.func71, Try.ntmps71
 go_wp2
 go_loopw [8] (fun v wr => ∃ k : Nat, v = .int .i64 (k : Int) ∧ k ≤ n ∧ Below w.heap.size w wr ∧ Ev wr ∧ ∀ i, i < k → pred (plyAt ps i) = false) (fun v _ => n - (intOf v).toNat)
 case atStart => exact ⟨0, rfl, Nat.zero_le _, Below.refl _ _, EV.out, fun i hi => absurd hi (by omega)⟩
 case round =>
  obtain ⟨k, rfl, hk, hp, hev, hall⟩ := hrel
  have hM := HL.out.2
  have P := Lib.hid hp
  have HA := Lib.hid hall
  replace EV := Lib.hid hev
  replace HP := Lib.hid (HP.out.below hp)
  clear hp hall hev
  by_cases hkn : k < n
  · have t1 : decide ((k : Int) < (n : Int)) = true := decide_eq_true (by omega)
    have t1n : decide (k < n) = true := decide_eq_true hkn
    have hkI : (k : Int) < (n : Int) := by omega
    obtain ⟨b, o, rfl, hblt, hcell⟩ := HP.out.at_ (by omega)
    obtain ⟨A1, n1, c1, hT⟩ := hcell k hkn
    obtain ⟨p, hpp⟩ : ∃ p, p = plyAt ps k := ⟨_, rfl⟩
    rw [← hpp] at hT
    have HPP := Lib.hid hpp
    clear hpp hcell
    obtain ⟨V, ts⟩ := p
    have c0 := hT.c0
    have c1' := hT.c1
    dsimp only at c0
    have HC := Lib.hid (HH.out.call wr V A1 n1 c1 ts EV.out hT.rt)
    clear hT
    go_wp2_with fail
    refine HC.out.mono ?_
    rintro e w1 ⟨rfl, hb⟩
    replace P := Lib.hid (P.out.trans (hb.mono P.out.size))
    replace EV := Lib.hid (HH.out.next _ _ EV.out hb)
    clear hb HC c0 c1' hblt
    obtain ⟨v, hv⟩ : ∃ v, v = pred ⟨V, ts⟩ := ⟨_, rfl⟩
    rw [← hv]
    have HV := Lib.hid hv
    clear hv
    cases v with
    | true =>
      have HF := Lib.hid (show decide (0 ≤ (k : Int)) = anyP pred ps by
       rw [decide_eq_true (by omega)]
       exact (decide_eq_true ⟨k, by rw [HL.out.1]; exact hkn, by rw [← HPP.out]; exact HV.out.symm⟩).symm)
      go_wp2
      go_ret
      exact ⟨(k : Int), rfl, HF.out, P.out⟩
    | false =>
      go_wp2
      go_roundw
      case measure => simp [intOf]; omega
      case rel => exact ⟨k + 1, by go_num, by omega, P.out, EV.out, fun i hi => by
       by_cases e : i = k
       · subst e; rw [← HPP.out]; exact HV.out.symm
       · exact HA.out i (by omega)⟩
  · have t1 : decide ((k : Int) < (n : Int)) = false := decide_eq_false (by omega)
    have t1n : decide (k < n) = false := decide_eq_false hkn
    have HF := Lib.hid (show decide (0 ≤ (-1 : Int)) = anyP pred ps by
     rw [decide_eq_false (by omega)]
     refine (decide_eq_false ?_).symm
     rintro ⟨i, hi, hp⟩
     rw [HA.out i (by rw [HL.out.1] at hi; omega)] at hp
     cases hp)
    go_wp2
    go_ret
    exact ⟨-1, rfl, HF.out, P.out⟩
set_option maxHeartbeats 2000000 in
theorem containsFuncP_c {f : Nat} {caps : Array Value} {Ev : World → Prop} {pred : Ply → Bool} (H : OnPly f caps Ev pred) (A : Option Addr) (n c : Nat) (ps : List Ply) (w : World) (h : RdP w A n ps) (hE : Ev w) (hn : n ≤ 9223372036854775807) :
 Calls Try.prog 51 #[.slice A n c, .func (.func f) #[] caps] w (RetB (anyP pred ps) w) := by
 have HI := Lib.hid (indexFuncP_c H A n c ps w h hE hn)
 clear h hE H
 go_enter Try.func51, Try.ntmps51
 go_wp2_with fail
 refine HI.out.mono ?_
 rintro e w1 ⟨i, rfl, hi, hb⟩
 have HB := Lib.hid (And.intro hi hb)
 clear hi hb HI
 go_wp2
 go_ret
 exact ⟨by rw [← HB.out.1] <;> rfl, HB.out.2⟩
end Go.Proofs.Yteabokkofoomkaa
