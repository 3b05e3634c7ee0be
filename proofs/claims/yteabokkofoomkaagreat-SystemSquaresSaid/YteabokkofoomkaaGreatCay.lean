import Derived.Test.YteabokkofoomkaaGreatCax
import Derived.Deep.QuietTactic
import Derived.BigQuiet
/- the reference's Load of polynomials -/
set_option maxRecDepth 100000
namespace Go.Proofs.YteabokkofoomkaaGreat
open Go.RowKit Go.Shelf Go.Deep
theorem raw_le {s : Bool} {xs : List Nat} (h : validB s xs = true) : xs.length ≤ 4096 := by
  unfold validB at h
  split at h
  · omega
  · simp at h; omega
end Go.Proofs.YteabokkofoomkaaGreat
/- degrees of polynomials; the same exponents -/
set_option maxRecDepth 100000
namespace Go.Proofs.YteabokkofoomkaaGreat
open Go.RowKit Go.Shelf Go.Deep
def degP (ts : List Trm) : Int := if ts.length = 0 then -1 else sumI (trmAt ts 0).es
def degV (V : Int) (ts : List Trm) : Int := if validP V ts = true then degP ts else -1
set_option maxHeartbeats 2000000 in
theorem polyDegree_c (V : Int) (A : Option Addr) (n c : Nat) (ts : List Trm) (w : World) (h : RdT w A n ts) :
    Calls Tryz.prog 36 #[aggP V A n c] w fun e w' => e = .returned (.int .i64 (degV V ts)) ∧ Below w.heap.size w w' := by
  have HI := Lib.hid h
  have HL := Lib.hid h.len
  have P := Lib.hid (bel_alloc w (boxP V A n c))
  have X := Lib.hid (BxP.new w V A n c)
  clear h
  go_enter Tryz.func36, Tryz.ntmps36
  go_upto_region 1 with (fail)
  generalize w.alloc (boxP V A n c) = W0 at P X ⊢
  obtain ⟨g, hg⟩ : ∃ g, g = w.heap.size := ⟨_, rfl⟩
  rw [← hg] at X ⊢
  clear hg
  have a0 := X.out.c0
  have a1 := X.out.c1
  go_wp2_with fail
  refine (polyValid_c V A n c ts _ (HI.out.below P.out)).mono ?_
  rintro e w1 ⟨rfl, hb⟩
  replace P := Lib.hid (P.out.trans (hb.mono P.out.size))
  replace X := Lib.hid (X.out.next hb)
  clear hb a0 a1
  obtain ⟨v, hv⟩ : ∃ v, v = validP V ts := ⟨_, rfl⟩
  rw [← hv]
  have HV := Lib.hid hv
  clear hv
  cases v with
  | false =>
    have HF := Lib.hid (show degV V ts = -1 by unfold degV; rw [← HV.out]; rfl)
    go_wp2
    go_ret
    exact ⟨by rw [HF.out] <;> rfl, P.out⟩
  | true =>
    have HD := Lib.hid (show degV V ts = degP ts by unfold degV; rw [← HV.out]; rfl)
    have a1 := X.out.c1
    by_cases hn : n = 0
    · have t0 : ((n : Int) == 0) = true := by rw [hn]; rfl
      have HF := Lib.hid (show degV V ts = -1 by rw [HD.out]; unfold degP; rw [if_pos (by rw [HL.out]; exact hn)])
      clear hn
      go_wp2
      go_ret
      exact ⟨by rw [HF.out] <;> rfl, P.out⟩
    · have t0 : ((n : Int) == 0) = false := by rw [beq_eq_false_iff_ne]; omega
      have HF := Lib.hid (show degV V ts = sumI (trmAt ts 0).es by rw [HD.out]; unfold degP; rw [if_neg (by rw [HL.out]; exact hn)])
      obtain ⟨bT, oT, rfl, hblt, hcell⟩ := HI.out.at_ (by omega)
      obtain ⟨A1, n1, c1, B1, m1, d1, hT0⟩ := hcell 0 (by omega)
      have T0 := Lib.hid (TrA.mk hblt hT0)
      have HVT := Lib.hid (vp_at HV.out.symm (k := 0) (by rw [HL.out]; omega))
      have hn0 : (0 : Int) < (n : Int) := by omega
      have hn1 : 0 < n := by omega
      clear hcell hT0 hblt hn
      have TW := Lib.hid (T0.out.next P.out)
      have c2 := TW.out.is.c2
      rw [Nat.zero_mul, Nat.add_zero] at c2
      go_wp2_with fail
      refine (degree_c B1 m1 d1 (trmAt ts 0).es _ TW.out.is.ri (vt_exps HVT.out).1 (by have e1 := TW.out.is.ri.len; have e2 := (vt_exps HVT.out).2; have e3 := vp_bounds HV.out.symm; omega)).mono ?_
      rintro e w2 ⟨rfl, hw⟩
      subst hw
      go_wp2
      go_ret
      exact ⟨by rw [HF.out] <;> rfl, P.out⟩
end Go.Proofs.YteabokkofoomkaaGreat
/- links and systems in memory; how many polynomials a kind has; the same exponents -/
set_option maxRecDepth 100000
namespace Go.Proofs.YteabokkofoomkaaGreat
open Go.RowKit Go.Shelf Go.Deep
structure Ply where
  V : Int
  ts : List Trm
def plyAt (ps : List Ply) (k : Nat) : Ply := ps.getD k ⟨0, []⟩
structure PlyIs (w : World) (b o : Nat) (p : Ply) (A : Option Addr) (n c : Nat) : Prop where
  c0 : w.cell? ⟨b, o, none⟩ = some (.int .i64 p.V)
  c1 : w.cell? ⟨b, o + 1, none⟩ = some (.slice A n c)
  rt : RdT w A n p.ts
  nc : n ≤ c
  cm : c ≤ 9223372036854775807
theorem PlyIs.below {w w' : World} {b o : Nat} {p : Ply} {A : Option Addr} {n c : Nat} (h : PlyIs w b o p A n c) (hlt : b < w.heap.size) (hb : Below w.heap.size w w') : PlyIs w' b o p A n c :=
  ⟨(hb.cell (p := ⟨b, o, none⟩) hlt).trans h.c0, (hb.cell (p := ⟨b, o + 1, none⟩) hlt).trans h.c1, h.rt.below hb, h.nc, h.cm⟩
/-- the polynomials of a slice -/
structure RdP (w : World) (A : Option Addr) (n : Nat) (ps : List Ply) : Prop where
  len : ps.length = n
  at_ : 0 < n → ∃ b o, A = some ⟨b, o, none⟩ ∧ b < w.heap.size ∧ ∀ k, k < n → ∃ A1 n1 c1, PlyIs w b (o + k * 2) (plyAt ps k) A1 n1 c1
theorem RdP.below {w w' : World} {A : Option Addr} {n : Nat} {ps : List Ply} (h : RdP w A n ps) (hb : Below w.heap.size w w') : RdP w' A n ps := by
  refine ⟨h.len, fun h0 => ?_⟩
  obtain ⟨b, o, e, hlt, hc⟩ := h.at_ h0
  refine ⟨b, o, e, Nat.lt_of_lt_of_le hlt hb.size, fun k hk => ?_⟩
  obtain ⟨A1, n1, c1, ht⟩ := hc k hk
  exact ⟨A1, n1, c1, ht.below hlt hb⟩
structure Lnk where
  kind : Int
  vs : List Int
  ps : List Ply
def lnkAt (ls : List Lnk) (k : Nat) : Lnk := ls.getD k ⟨0, [], []⟩
structure LnkIs (w : World) (b o : Nat) (l : Lnk) (B : Option Addr) (m d : Nat) (C : Option Addr) (p q : Nat) : Prop where
  c0 : w.cell? ⟨b, o, none⟩ = some (.int .i64 l.kind)
  c1 : w.cell? ⟨b, o + 1, none⟩ = some (.slice B m d)
  c2 : w.cell? ⟨b, o + 2, none⟩ = some (.slice C p q)
  ri : RdI w B m l.vs
  rp : RdP w C p l.ps
  md : m ≤ d
  dm : d ≤ 9223372036854775807
  pq : p ≤ q
  qm : q ≤ 9223372036854775807
theorem LnkIs.below {w w' : World} {b o : Nat} {l : Lnk} {B : Option Addr} {m d : Nat} {C : Option Addr} {p q : Nat} (h : LnkIs w b o l B m d C p q) (hlt : b < w.heap.size) (hb : Below w.heap.size w w') : LnkIs w' b o l B m d C p q :=
  ⟨(hb.cell (p := ⟨b, o, none⟩) hlt).trans h.c0, (hb.cell (p := ⟨b, o + 1, none⟩) hlt).trans h.c1, (hb.cell (p := ⟨b, o + 2, none⟩) hlt).trans h.c2, h.ri.below hb, h.rp.below hb, h.md, h.dm, h.pq, h.qm⟩
/-- the links of a slice -/
structure RdL (w : World) (A : Option Addr) (n : Nat) (ls : List Lnk) : Prop where
  len : ls.length = n
  at_ : 0 < n → ∃ b o, A = some ⟨b, o, none⟩ ∧ b < w.heap.size ∧ ∀ k, k < n → ∃ B1 m1 d1 C1 p1 q1, LnkIs w b (o + k * 3) (lnkAt ls k) B1 m1 d1 C1 p1 q1
theorem RdL.below {w w' : World} {A : Option Addr} {n : Nat} {ls : List Lnk} (h : RdL w A n ls) (hb : Below w.heap.size w w') : RdL w' A n ls := by
  refine ⟨h.len, fun h0 => ?_⟩
  obtain ⟨b, o, e, hlt, hc⟩ := h.at_ h0
  refine ⟨b, o, e, Nat.lt_of_lt_of_le hlt hb.size, fun k hk => ?_⟩
  obtain ⟨B1, m1, d1, C1, p1, q1, ht⟩ := hc k hk
  exact ⟨B1, m1, d1, C1, p1, q1, ht.below hlt hb⟩
/-- how many polynomials a kind has -/
def polysOf (kind : Int) : Int := if kind = 0 then 1 else if kind = 3 then 2 else 3
set_option maxHeartbeats 1000000 in
theorem polys_c (kind : Int) (w : World) : Calls Tryz.prog 82 #[.int .i64 kind] w fun e w' => e = .returned (.int .i64 (polysOf kind)) ∧ w' = w := by
  by_cases h0 : kind = 0
  · have H := Lib.hid (show polysOf kind = 1 by unfold polysOf; rw [if_pos h0])
    have t0 : (kind == 0) = true := by rw [h0]; rfl
    clear h0
    go_enter Tryz.func82, Tryz.ntmps82
    go_wp2
    go_ret
    exact ⟨by rw [H.out] <;> rfl, rfl⟩
  · have t0 : (kind == 0) = false := by rw [beq_eq_false_iff_ne]; exact h0
    by_cases h3 : kind = 3
    · have H := Lib.hid (show polysOf kind = 2 by unfold polysOf; rw [if_neg h0, if_pos h3])
      have t3 : (kind == 3) = true := by rw [h3]; rfl
      clear h0 h3
      go_enter Tryz.func82, Tryz.ntmps82
      go_wp2
      go_ret
      exact ⟨by rw [H.out] <;> rfl, rfl⟩
    · have H := Lib.hid (show polysOf kind = 3 by unfold polysOf; rw [if_neg h0, if_neg h3])
      have t3 : (kind == 3) = false := by rw [beq_eq_false_iff_ne]; exact h3
      clear h0 h3
      go_enter Tryz.func82, Tryz.ntmps82
      go_wp2
      go_ret
      exact ⟨by rw [H.out] <;> rfl, rfl⟩
end Go.Proofs.YteabokkofoomkaaGreat
/- the function that validLink hands to ContainsFunc -/
set_option maxRecDepth 100000
namespace Go.Proofs.YteabokkofoomkaaGreat
open Go.RowKit Go.Shelf Go.Deep
def badPly (m : Nat) (p : Ply) : Bool := !(decide (p.V = (m : Int)) && validP p.V p.ts)
set_option maxHeartbeats 2000000 in
theorem validLink1_c (V : Int) (A : Option Addr) (n c : Nat) (ts : List Trm) (q : Nat) (B : Option Addr) (m d : Nat) (w : World) (h : RdT w A n ts) (hq : q < w.heap.size) (c1 : w.cell? ⟨q, 1, none⟩ = some (.slice B m d)) :
    Calls Tryz.prog 84 #[aggP V A n c, .pointer (some ⟨q, 0, none⟩)] w (RetB (badPly m ⟨V, ts⟩) w) := by
  have k0 := bel_alloc w (boxP V A n c)
  have P := Lib.hid k0
  have RT := Lib.hid (h.below k0)
  have X := Lib.hid (BxP.new w V A n c)
  have b1 := (k0.cell (p := ⟨q, 1, none⟩) hq).trans c1
  clear h k0 hq c1
  go_enter Tryz.func84, Tryz.ntmps84
  go_upto_region 1 with (fail)
  generalize w.alloc (boxP V A n c) = W0 at P RT X b1 ⊢
  obtain ⟨g, hg⟩ : ∃ g, g = w.heap.size := ⟨_, rfl⟩
  rw [← hg] at X ⊢
  clear hg
  have a0 := X.out.c0
  have a1 := X.out.c1
  by_cases hv : V = (m : Int)
  · have t0 : (V != (m : Int)) = false := by rw [hv]; exact bne_self_eq_false _
    have HB := Lib.hid (show badPly m ⟨V, ts⟩ = !validP V ts by unfold badPly; rw [decide_eq_true hv]; rfl)
    clear hv
    go_wp2_with fail
    refine (polyValid_c V A n c ts _ RT.out).mono ?_
    rintro e w1 ⟨rfl, hb⟩
    replace P := Lib.hid (P.out.trans (hb.mono P.out.size))
    clear hb a0 a1 b1 X RT
    generalize validP V ts = v at HB ⊢
    cases v with
    | false =>
      go_wp2
      go_ret
      exact ⟨by rw [HB.out] <;> rfl, P.out⟩
    | true =>
      go_wp2
      go_ret
      exact ⟨by rw [HB.out] <;> rfl, P.out⟩
  · have t0 : (V != (m : Int)) = true := by rw [bne_iff_ne]; exact hv
    have HB := Lib.hid (show badPly m ⟨V, ts⟩ = true by unfold badPly; rw [decide_eq_false hv]; rfl)
    clear hv
    go_wp2
    go_ret
    exact ⟨by rw [HB.out] <;> rfl, P.out⟩
def anyP (pred : Ply → Bool) (ps : List Ply) : Bool := decide (∃ k, k < ps.length ∧ pred (plyAt ps k) = true)
/-- a function of a polynomial: what it says of each -/
structure OnPly (f : Nat) (caps : Array Value) (Ev : World → Prop) (pred : Ply → Bool) : Prop where
  enters : ∀ args w, (callFunc f args).run Tryz.prog w = .ok (.enter f args) w
  next : ∀ W W', Ev W → Below W.heap.size W W' → Ev W'
  call : ∀ (W : World) (V : Int) (A : Option Addr) (n c : Nat) (ts : List Trm), Ev W → RdT W A n ts → Calls Tryz.prog f (#[aggP V A n c] ++ caps) W (RetB (pred ⟨V, ts⟩) W)
set_option maxHeartbeats 2000000 in
theorem indexFuncP_c {f : Nat} {caps : Array Value} {Ev : World → Prop} {pred : Ply → Bool} (H : OnPly f caps Ev pred) (A : Option Addr) (n c : Nat) (ps : List Ply) (w : World) (h : RdP w A n ps) (hE : Ev w) (hn : n ≤ 9223372036854775807) :
    Calls Tryz.prog 121 #[.slice A n c, .func (.func f) #[] caps] w fun e w' => ∃ i : Int, e = .returned (.int .i64 i) ∧ decide (0 ≤ i) = anyP pred ps ∧ Below w.heap.size w w' := by
  have HP := Lib.hid h
  have HL := Lib.hid (And.intro h.len hn)
  have EV := Lib.hid hE
  have heg := H.enters
  have HH := Lib.hid H
  clear h hn hE H
  go_enter Tryz.func121, Tryz.ntmps121
  go_wp2
  go_loopw [8] (fun v wr => ∃ k : Nat, v = .int .i64 (k : Int) ∧ k ≤ n ∧ Below w.heap.size w wr ∧ Ev wr ∧ ∀ i, i < k → pred (plyAt ps i) = false) (fun v _ => n - (intOf v).toNat)
  case atStart => exact ⟨0, rfl, Nat.zero_le _, Below.refl _ _, EV.out, fun i hi => absurd hi (by omega)⟩
  case round =>
    obtain ⟨k, rfl, hk, hp, hev, hall⟩ := hrel
    have hM := HL.out.2
    have P := Lib.hid hp
    have HA := Lib.hid hall
    replace EV := Lib.hid hev
    replace HP := Lib.hid (HP.out.below hp)
    clear hp hall hev
    by_cases hkn : k < n
    · have t1 : decide ((k : Int) < (n : Int)) = true := decide_eq_true (by omega)
      have t1n : decide (k < n) = true := decide_eq_true hkn
      have hkI : (k : Int) < (n : Int) := by omega
      obtain ⟨b, o, rfl, hblt, hcell⟩ := HP.out.at_ (by omega)
      obtain ⟨A1, n1, c1, hT⟩ := hcell k hkn
      obtain ⟨p, hpp⟩ : ∃ p, p = plyAt ps k := ⟨_, rfl⟩
      rw [← hpp] at hT
      have HPP := Lib.hid hpp
      clear hpp hcell
      obtain ⟨V, ts⟩ := p
      have c0 := hT.c0
      have c1' := hT.c1
      dsimp only at c0
      have HC := Lib.hid (HH.out.call wr V A1 n1 c1 ts EV.out hT.rt)
      clear hT
      go_wp2_with fail
      refine HC.out.mono ?_
      rintro e w1 ⟨rfl, hb⟩
      replace P := Lib.hid (P.out.trans (hb.mono P.out.size))
      replace EV := Lib.hid (HH.out.next _ _ EV.out hb)
      clear hb HC c0 c1' hblt
      obtain ⟨v, hv⟩ : ∃ v, v = pred ⟨V, ts⟩ := ⟨_, rfl⟩
      rw [← hv]
      have HV := Lib.hid hv
      clear hv
      cases v with
      | true =>
        have HF := Lib.hid (show decide (0 ≤ (k : Int)) = anyP pred ps by
          rw [decide_eq_true (by omega)]
          exact (decide_eq_true ⟨k, by rw [HL.out.1]; exact hkn, by rw [← HPP.out]; exact HV.out.symm⟩).symm)
        go_wp2
        go_ret
        exact ⟨(k : Int), rfl, HF.out, P.out⟩
      | false =>
        go_wp2
        go_roundw
        case measure => simp [intOf]; omega
        case rel => exact ⟨k + 1, by go_num, by omega, P.out, EV.out, fun i hi => by
          by_cases e : i = k
          · subst e; rw [← HPP.out]; exact HV.out.symm
          · exact HA.out i (by omega)⟩
    · have t1 : decide ((k : Int) < (n : Int)) = false := decide_eq_false (by omega)
      have t1n : decide (k < n) = false := decide_eq_false hkn
      have HF := Lib.hid (show decide (0 ≤ (-1 : Int)) = anyP pred ps by
        rw [decide_eq_false (by omega)]
        refine (decide_eq_false ?_).symm
        rintro ⟨i, hi, hp⟩
        rw [HA.out i (by rw [HL.out.1] at hi; omega)] at hp
        cases hp)
      go_wp2
      go_ret
      exact ⟨-1, rfl, HF.out, P.out⟩
set_option maxHeartbeats 2000000 in
theorem containsFuncP_c {f : Nat} {caps : Array Value} {Ev : World → Prop} {pred : Ply → Bool} (H : OnPly f caps Ev pred) (A : Option Addr) (n c : Nat) (ps : List Ply) (w : World) (h : RdP w A n ps) (hE : Ev w) (hn : n ≤ 9223372036854775807) :
    Calls Tryz.prog 83 #[.slice A n c, .func (.func f) #[] caps] w (RetB (anyP pred ps) w) := by
  have HI := Lib.hid (indexFuncP_c H A n c ps w h hE hn)
  clear h hE H
  go_enter Tryz.func83, Tryz.ntmps83
  go_wp2_with fail
  refine HI.out.mono ?_
  rintro e w1 ⟨i, rfl, hi, hb⟩
  have HB := Lib.hid (And.intro hi hb)
  clear hi hb HI
  go_wp2
  go_ret
  exact ⟨by rw [← HB.out.1] <;> rfl, HB.out.2⟩
end Go.Proofs.YteabokkofoomkaaGreat
