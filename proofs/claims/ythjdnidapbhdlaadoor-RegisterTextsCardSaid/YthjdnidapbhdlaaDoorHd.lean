import Derived.Test.YthjdnidapbhdlaaDoorHc
set_option maxRecDepth 100000
namespace Go.Proofs.YthjdnidapbhdlaaDoor
open Go.RowKit
section
variable {R : Int} {n : Nat} {i reg nx zr : Int}
theorem v0_f (h : reg < 0 ∨ R ≤ reg ∨ nx < 0 ∨ (n : Int) ≤ nx ∨ zr ≠ 0) : validI R n i ⟨0, reg, nx, zr⟩ = false := by
  simp [validI, inB]; omega
theorem v0_t (h : 0 ≤ reg ∧ reg < R ∧ 0 ≤ nx ∧ nx < (n : Int) ∧ zr = 0) : validI R n i ⟨0, reg, nx, zr⟩ = true := by
  simp [validI, inB]; omega
theorem v1_f (h : reg < 0 ∨ R ≤ reg ∨ nx < 0 ∨ (n : Int) ≤ nx ∨ zr ≠ 0) : validI R n i ⟨1, reg, nx, zr⟩ = false := by
  simp [validI, inB]; omega
theorem v1_t (h : 0 ≤ reg ∧ reg < R ∧ 0 ≤ nx ∧ nx < (n : Int) ∧ zr = 0) : validI R n i ⟨1, reg, nx, zr⟩ = true := by
  simp [validI, inB]; omega
theorem v2_f (h : reg < 0 ∨ R ≤ reg ∨ nx < 0 ∨ (n : Int) ≤ nx ∨ zr < 0 ∨ (n : Int) ≤ zr ∨ nx = i) : validI R n i ⟨2, reg, nx, zr⟩ = false := by
  simp [validI, inB]; omega
theorem v2_t (h : 0 ≤ reg ∧ reg < R ∧ 0 ≤ nx ∧ nx < (n : Int) ∧ 0 ≤ zr ∧ zr < (n : Int) ∧ nx ≠ i) : validI R n i ⟨2, reg, nx, zr⟩ = true := by
  simp [validI, inB]; omega
theorem v3_f (h : reg ≠ 0 ∨ nx ≠ 0 ∨ zr ≠ 0) : validI R n i ⟨3, reg, nx, zr⟩ = false := by
  simp [validI]; omega
theorem v3_t : validI R n i ⟨3, 0, 0, 0⟩ = true := by
  simp [validI]
theorem v4_f {op : Int} (h : op ≠ 0 ∧ op ≠ 1 ∧ op ≠ 2 ∧ op ≠ 3) : validI R n i ⟨op, reg, nx, zr⟩ = false := by
  obtain ⟨a, b, c, d⟩ := h
  simp [validI, a, b, c, d]
end
set_option maxHeartbeats 8000000 in
theorem refValid13_c (R : Int) (A : Option Addr) (n c : Nat) (cs : List Ins) (w : World) (h : RdC w A n cs) :
    Calls Tryd.prog 24 #[.agg #[.int .i64 R, .slice A n c]] w (RetB (validM R cs) w) := by
  have hl := h.len
  have BX := Lib.hid (BoxM.new w R A n c)
  have P := Lib.hid (bel_alloc w (.cells #[.int .i64 R, .slice A n c] 43))
  have RC := Lib.hid (h.below P.out)
  clear h
  go_enter Tryd.func24, Tryd.ntmps24
  go_upto_region 1 with (fail)
  generalize w.alloc (.cells #[.int .i64 R, .slice A n c] 43) = W0 at P BX RC ⊢
  obtain ⟨g, hg⟩ : ∃ g, g = w.heap.size := ⟨_, rfl⟩
  rw [← hg] at BX ⊢
  clear hg
  have a0 := BX.out.c0
  have a1 := BX.out.c1
  by_cases h1 : 1 ≤ R ∧ R ≤ 4 ∧ 1 ≤ n ∧ n ≤ 15
  · have HL := Lib.hid hl
    have HV := Lib.hid (show validM R cs = validCs R cs by unfold validM; rw [decide_eq_true (by rw [hl]; exact h1)]; rfl)
    obtain ⟨h1, h2, h3, h4⟩ := h1
    have t1 : decide (R < 1) = false := decide_eq_false (by omega)
    have t2 : decide (4 < R) = false := decide_eq_false (by omega)
    have t3 : decide ((n : Int) < 1) = false := decide_eq_false (by omega)
    have t4 : decide ((15 : Int) < (n : Int)) = false := decide_eq_false (by omega)
    have t5 : decide (n < 1) = false := decide_eq_false (by omega)
    have t6 : decide (15 < n) = false := decide_eq_false (by omega)
    clear hl
    go_wp2
    go_loopw [3] (fun v wr => ∃ k : Nat, v = .int .i64 (k : Int) ∧ k ≤ n ∧ Below w.heap.size w wr ∧ BoxM wr g R A n c ∧ RdC wr A n cs ∧ ∀ i, i < k → validI R n (i : Int) (insAt cs i) = true) (fun v _ => n - (intOf v).toNat)
    case atStart => exact ⟨0, rfl, Nat.zero_le _, P.out, BX.out, RC.out, fun i hi => by omega⟩
    case round =>
      obtain ⟨k, rfl, hk, hp, hbx, hrc, hv⟩ := hrel
      clear P BX RC a0 a1 t1 t2 t3 t4 t5 t6
      have HA := Lib.hid hv
      clear hv
      by_cases hkn : k < n
      · obtain ⟨b, o, rfl, hblt, hcell⟩ := hrc.at_ (by omega)
        obtain ⟨c0, c1, c2, c3⟩ := hcell k hkn
        obtain ⟨x, hx⟩ : ∃ x, x = insAt cs k := ⟨_, rfl⟩
        rw [← hx] at c0 c1 c2 c3
        have HX := Lib.hid hx
        have a0 := hbx.c0
        have a1 := hbx.c1
        have gl : g < wr.heap.size := hbx.lt
        have HF := Lib.hid (fun (hf : validI R n (k : Int) x = false) => show validM R cs = false by
            rw [HV.out]
            refine decide_eq_false fun h => ?_
            have := h k (by rw [HL.out]; exact hkn)
            rw [HL.out, ← HX.out, hf] at this
            cases this)
        have HT := Lib.hid (fun (hf : validI R n (k : Int) x = true) => show ∀ i, i < k + 1 → validI R n (i : Int) (insAt cs i) = true from fun i hi => by
            by_cases e : i = k
            · subst e; rw [← HX.out]; exact hf
            · exact HA.out i (by omega))
        obtain ⟨op, reg, nx, zr⟩ := x
        have B1 := Lib.hid (bel_alloc wr (.cells #[.int .i64 op, .int .i64 reg, .int .i64 nx, .int .i64 zr] 70))
        have P := Lib.hid (hp.trans (B1.out.mono hp.size))
        have BX := Lib.hid (hbx.next B1.out)
        have RC := Lib.hid (hrc.below B1.out)
        clear hp hbx hrc hcell hx B1 HA HX HV HL
        by_cases h0 : op = 0
        · subst h0
          by_cases hz : zr = 0
          · have q : (zr != 0) = false := by simp [hz]
            have HZ := Lib.hid hz
            clear hz
            go_wp2
            all_goals have hz := HZ.out
            all_goals first
              | (go_ret; exact ⟨by rw [HF.out (v0_f (by omega))]; rfl, P.out⟩)
              | (go_roundw; (case measure => simp [intOf]; omega); (case rel => exact ⟨k + 1, by go_num, by omega, P.out, BX.out, RC.out, HT.out (v0_t (by omega))⟩))
              | fail "no arm"
          · have q : (zr != 0) = true := by simp [hz]
            go_wp2
            all_goals first
              | (go_ret; exact ⟨by rw [HF.out (v0_f (by omega))]; rfl, P.out⟩)
              | (go_roundw; (case measure => simp [intOf]; omega); (case rel => exact ⟨k + 1, by go_num, by omega, P.out, BX.out, RC.out, HT.out (v0_t (by omega))⟩))
              | fail "no arm"
        · skip
          by_cases h1 : op = 1
          · subst h1
            by_cases hz : zr = 0
            · have q : (zr != 0) = false := by simp [hz]
              have HZ := Lib.hid hz
              clear hz
              go_wp2
              all_goals have hz := HZ.out
              all_goals first
                | (go_ret; exact ⟨by rw [HF.out (v1_f (by omega))]; rfl, P.out⟩)
                | (go_roundw; (case measure => simp [intOf]; omega); (case rel => exact ⟨k + 1, by go_num, by omega, P.out, BX.out, RC.out, HT.out (v1_t (by omega))⟩))
                | fail "no arm"
            · have q : (zr != 0) = true := by simp [hz]
              go_wp2
              all_goals first
                | (go_ret; exact ⟨by rw [HF.out (v1_f (by omega))]; rfl, P.out⟩)
                | (go_roundw; (case measure => simp [intOf]; omega); (case rel => exact ⟨k + 1, by go_num, by omega, P.out, BX.out, RC.out, HT.out (v1_t (by omega))⟩))
                | fail "no arm"
          · skip
            by_cases h2 : op = 2
            · subst h2
              by_cases hz : nx = (k : Int)
              · have q : (nx == (k : Int)) = true := beq_iff_eq.2 hz
                have HZ := Lib.hid hz
                clear hz
                go_wp2
                all_goals have hz := HZ.out
                all_goals first
                  | (go_ret; exact ⟨by rw [HF.out (v2_f (by omega))]; rfl, P.out⟩)
                  | (go_roundw; (case measure => simp [intOf]; omega); (case rel => exact ⟨k + 1, by go_num, by omega, P.out, BX.out, RC.out, HT.out (v2_t (by omega))⟩))
                  | fail "no arm"
              · have q : (nx == (k : Int)) = false := beq_eq_false_iff_ne.2 hz
                go_wp2
                all_goals first
                  | (go_ret; exact ⟨by rw [HF.out (v2_f (by omega))]; rfl, P.out⟩)
                  | (go_roundw; (case measure => simp [intOf]; omega); (case rel => exact ⟨k + 1, by go_num, by omega, P.out, BX.out, RC.out, HT.out (v2_t (by omega))⟩))
                  | fail "no arm"
            · by_cases h3 : op = 3
              · subst h3
                by_cases q0 : reg = 0
                · subst q0
                  by_cases q1 : nx = 0
                  · subst q1
                    by_cases q2 : zr = 0
                    · subst q2
                      go_wp2
                      go_roundw
                      case measure => simp [intOf]; omega
                      case rel => exact ⟨k + 1, by go_num, by omega, P.out, BX.out, RC.out, HT.out v3_t⟩
                    · skip
                      go_wp2
                      go_ret
                      exact ⟨by rw [HF.out (v3_f (by omega))]; rfl, P.out⟩
                  · skip
                    go_wp2
                    go_ret
                    exact ⟨by rw [HF.out (v3_f (by omega))]; rfl, P.out⟩
                · skip
                  go_wp2
                  go_ret
                  exact ⟨by rw [HF.out (v3_f (by omega))]; rfl, P.out⟩
              · have p0 : (op == 0) = false := beq_eq_false_iff_ne.2 h0
                have p1 : (op == 1) = false := beq_eq_false_iff_ne.2 h1
                have p2 : (op == 2) = false := beq_eq_false_iff_ne.2 h2
                have p3 : (op == 3) = false := beq_eq_false_iff_ne.2 h3
                have HN := Lib.hid (And.intro h0 (And.intro h1 (And.intro h2 h3)))
                clear h0 h1 h2 h3
                go_wp2
                go_ret
                exact ⟨by rw [HF.out (v4_f HN.out)]; rfl, P.out⟩
      · have HF := Lib.hid (show validM R cs = true by
          rw [HV.out]
          exact decide_eq_true fun i hi => by rw [HL.out]; exact HA.out i (by rw [HL.out] at hi; omega))
        have P := Lib.hid hp
        have a0 := hbx.c0
        have a1 := hbx.c1
        clear hp hbx hrc
        go_wp2
        go_ret
        exact ⟨by rw [HF.out]; rfl, P.out⟩
  · have HF := Lib.hid (show validM R cs = false by unfold validM; rw [decide_eq_false (by rw [hl]; exact h1)]; rfl)
    clear RC hl
    by_cases q1 : R < 1
    · have t1 : decide (R < 1) = true := decide_eq_true q1
      go_wp2
      go_ret
      exact ⟨by rw [HF.out]; rfl, P.out⟩
    · have t1 : decide (R < 1) = false := decide_eq_false q1
      by_cases q2 : 4 < R
      · have t2 : decide (4 < R) = true := decide_eq_true q2
        go_wp2
        go_ret
        exact ⟨by rw [HF.out]; rfl, P.out⟩
      · have t2 : decide (4 < R) = false := decide_eq_false q2
        by_cases q3 : n < 1
        · have t3 : decide ((n : Int) < 1) = true := decide_eq_true (by omega)
          have t5 : decide (n < 1) = true := decide_eq_true q3
          go_wp2
          go_ret
          exact ⟨by rw [HF.out]; rfl, P.out⟩
        · have t3 : decide ((n : Int) < 1) = false := decide_eq_false (by omega)
          have t5 : decide (n < 1) = false := decide_eq_false q3
          have q4 : 15 < n := by omega
          have t4 : decide ((15 : Int) < (n : Int)) = true := decide_eq_true (by omega)
          have t6 : decide (15 < n) = true := decide_eq_true q4
          go_wp2
          go_ret
          exact ⟨by rw [HF.out]; rfl, P.out⟩
end Go.Proofs.YthjdnidapbhdlaaDoor
