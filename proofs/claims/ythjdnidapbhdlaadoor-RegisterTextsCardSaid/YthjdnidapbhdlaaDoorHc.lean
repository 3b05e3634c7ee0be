import Derived.Test.YthjdnidapbhdlaaDoorHb
set_option maxRecDepth 100000
namespace Go.Proofs.YthjdnidapbhdlaaDoor
open Go.RowKit
/-- the instructions of a machine are valid -/
def validCs (R : Int) (cs : List Ins) : Bool := decide (∀ i, i < cs.length → validI R cs.length (i : Int) (insAt cs i) = true)
def validM (R : Int) (cs : List Ins) : Bool := decide (1 ≤ R ∧ R ≤ 4 ∧ 1 ≤ cs.length ∧ cs.length ≤ 15) && validCs R cs
/-- the cells of a machine's variable -/
structure BoxM (W : World) (g : Nat) (R : Int) (A : Option Addr) (n c : Nat) : Prop where
  lt : g < W.heap.size
  c0 : W.cell? ⟨g, 0, none⟩ = some (.int .i64 R)
  c1 : W.cell? ⟨g, 1, none⟩ = some (.slice A n c)
theorem BoxM.next {W W' : World} {g : Nat} {R : Int} {A : Option Addr} {n c : Nat} (h : BoxM W g R A n c) (hb : Below W.heap.size W W') : BoxM W' g R A n c :=
  ⟨Nat.lt_of_lt_of_le h.lt hb.size, (hb.cell (p := ⟨g, 0, none⟩) h.lt).trans h.c0, (hb.cell (p := ⟨g, 1, none⟩) h.lt).trans h.c1⟩
theorem BoxM.new (W : World) (R : Int) (A : Option Addr) (n c : Nat) : BoxM (W.alloc (.cells #[.int .i64 R, .slice A n c] 43)) W.heap.size R A n c :=
  ⟨by simp, by go_simp, by go_simp⟩
set_option maxHeartbeats 4000000 in
theorem Valid_c (R : Int) (A : Option Addr) (n c : Nat) (cs : List Ins) (w : World) (h : RdC w A n cs) :
    Calls Tryd.prog 23 #[.agg #[.int .i64 R, .slice A n c]] w (RetB (validM R cs) w) := by
  have hl := h.len
  have BX := Lib.hid (BoxM.new w R A n c)
  have P := Lib.hid (bel_alloc w (.cells #[.int .i64 R, .slice A n c] 43))
  have RC := Lib.hid (h.below P.out)
  clear h
  go_enter Tryd.func23, Tryd.ntmps23
  go_upto_region 1 with (fail)
  generalize w.alloc (.cells #[.int .i64 R, .slice A n c] 43) = W0 at P BX RC ⊢
  obtain ⟨g, hg⟩ : ∃ g, g = w.heap.size := ⟨_, rfl⟩
  rw [← hg] at BX ⊢
  clear hg
  have a0 := BX.out.c0
  have a1 := BX.out.c1
  by_cases h1 : 1 ≤ R ∧ R ≤ 4 ∧ 1 ≤ n ∧ n ≤ 15
  · have HL := Lib.hid hl
    have HV := Lib.hid (show validM R cs = validCs R cs by unfold validM; rw [decide_eq_true (by rw [hl]; exact h1)]; rfl)
    obtain ⟨h1, h2, h3, h4⟩ := h1
    have t1 : decide (R < 1) = false := decide_eq_false (by omega)
    have t2 : decide (4 < R) = false := decide_eq_false (by omega)
    have t3 : decide ((n : Int) < 1) = false := decide_eq_false (by omega)
    have t4 : decide ((15 : Int) < (n : Int)) = false := decide_eq_false (by omega)
    have t5 : decide (n < 1) = false := decide_eq_false (by omega)
    have t6 : decide (15 < n) = false := decide_eq_false (by omega)
    clear hl
    go_wp2
    go_loopw [28] (fun v wr => ∃ k : Nat, v = .int .i64 (k : Int) ∧ k ≤ n ∧ Below w.heap.size w wr ∧ BoxM wr g R A n c ∧ RdC wr A n cs ∧ ∀ i, i < k → validI R n (i : Int) (insAt cs i) = true) (fun v _ => n - (intOf v).toNat)
    case atStart => exact ⟨0, rfl, Nat.zero_le _, P.out, BX.out, RC.out, fun i hi => by omega⟩
    case round =>
      obtain ⟨k, rfl, hk, hp, hbx, hrc, hv⟩ := hrel
      clear P BX RC a0 a1 t1 t2 t3 t4 t5 t6
      have HA := Lib.hid hv
      clear hv
      by_cases hkn : k < n
      · have P := Lib.hid hp
        have BX := Lib.hid hbx
        have RC := Lib.hid hrc
        obtain ⟨b, o, rfl, hblt, hcell⟩ := hrc.at_ (by omega)
        obtain ⟨c0, c1, c2, c3⟩ := hcell k hkn
        obtain ⟨x, hx⟩ : ∃ x, x = insAt cs k := ⟨_, rfl⟩
        rw [← hx] at c0 c1 c2 c3
        have HX := Lib.hid hx
        have a0 := hbx.c0
        have a1 := hbx.c1
        clear hp hbx hrc hcell hx
        have gl : g < wr.heap.size := BX.out.lt
        obtain ⟨v, hv⟩ : ∃ v, v = validI R n (k : Int) x := ⟨_, rfl⟩
        have HVI := Lib.hid (fun (W : World) => validInsn_c R (some ⟨b, o, none⟩) n c (k : Int) x W)
        rw [← hv] at HVI
        have HVV := Lib.hid hv
        clear hv
        have B1 := Lib.hid (bel_alloc wr (.cells #[.int .i64 x.op, .int .i64 x.reg, .int .i64 x.nx, .int .i64 x.zr] 70))
        replace P := Lib.hid (P.out.trans (B1.out.mono P.out.size))
        replace BX := Lib.hid (BX.out.next B1.out)
        replace RC := Lib.hid (RC.out.below B1.out)
        clear B1
        go_wp2_with fail
        refine (HVI.out _).mono ?_
        rintro e w1 ⟨rfl, hb⟩
        replace P := Lib.hid (P.out.trans (hb.mono P.out.size))
        replace BX := Lib.hid (BX.out.next hb)
        replace RC := Lib.hid (RC.out.below hb)
        clear hb a0 a1 c0 c1 c2 c3 HVI gl hblt
        cases v with
        | false =>
          have HF := Lib.hid (show validM R cs = false by
            rw [HV.out]
            refine decide_eq_false fun h => ?_
            have := h k (by rw [HL.out]; exact hkn)
            rw [HL.out, ← HX.out, ← HVV.out] at this
            cases this)
          go_wp2
          go_ret
          exact ⟨by rw [HF.out]; rfl, P.out⟩
        | true =>
          go_wp2
          go_roundw
          case measure => simp [intOf]; omega
          case rel => exact ⟨k + 1, by go_num, by omega, P.out, BX.out, RC.out, fun i hi => by
            by_cases e : i = k
            · subst e; rw [← HX.out, ← HVV.out]
            · exact HA.out i (by omega)⟩
      · have HF := Lib.hid (show validM R cs = true by
          rw [HV.out]
          exact decide_eq_true fun i hi => by rw [HL.out]; exact HA.out i (by rw [HL.out] at hi; omega))
        have P := Lib.hid hp
        have a0 := hbx.c0
        have a1 := hbx.c1
        clear hp hbx hrc
        go_wp2
        go_ret
        exact ⟨by rw [HF.out]; rfl, P.out⟩
  · have HF := Lib.hid (show validM R cs = false by unfold validM; rw [decide_eq_false (by rw [hl]; exact h1)]; rfl)
    clear RC hl
    by_cases q1 : R < 1
    · have t1 : decide (R < 1) = true := decide_eq_true q1
      go_wp2
      go_ret
      exact ⟨by rw [HF.out]; rfl, P.out⟩
    · have t1 : decide (R < 1) = false := decide_eq_false q1
      by_cases q2 : 4 < R
      · have t2 : decide (4 < R) = true := decide_eq_true q2
        go_wp2
        go_ret
        exact ⟨by rw [HF.out]; rfl, P.out⟩
      · have t2 : decide (4 < R) = false := decide_eq_false q2
        by_cases q3 : n < 1
        · have t3 : decide ((n : Int) < 1) = true := decide_eq_true (by omega)
          have t5 : decide (n < 1) = true := decide_eq_true q3
          go_wp2
          go_ret
          exact ⟨by rw [HF.out]; rfl, P.out⟩
        · have t3 : decide ((n : Int) < 1) = false := decide_eq_false (by omega)
          have t5 : decide (n < 1) = false := decide_eq_false q3
          have q4 : 15 < n := by omega
          have t4 : decide ((15 : Int) < (n : Int)) = true := decide_eq_true (by omega)
          have t6 : decide (15 < n) = true := decide_eq_true q4
          go_wp2
          go_ret
          exact ⟨by rw [HF.out]; rfl, P.out⟩
end Go.Proofs.YthjdnidapbhdlaaDoor
