import Derived.Test.YthjdnidapbhdlaaDoorHa
set_option maxRecDepth 100000
namespace Go.Proofs.YthjdnidapbhdlaaDoor
open Go.RowKit
theorem bel2 (w : World) (o o' : Obj) : Below w.heap.size w ((w.alloc o).alloc o') := (bel_alloc w o).trans ((bel_alloc (w.alloc o) o').mono (bel_alloc w o).size)
/-- an instruction may be the one with number i -/
def validI (R : Int) (n : Nat) (i : Int) (x : Ins) : Bool :=
  if x.op = 0 ∨ x.op = 1 then decide (0 ≤ x.reg) && decide (x.reg < R) && inB n x.nx && decide (x.zr = 0)
  else if x.op = 2 then decide (0 ≤ x.reg) && decide (x.reg < R) && inB n x.nx && inB n x.zr && decide (x.nx ≠ i)
  else if x.op = 3 then decide (x.reg = 0) && decide (x.nx = 0) && decide (x.zr = 0)
  else false
set_option maxHeartbeats 4000000 in
theorem validInsn_reg0 (R : Int) (A : Option Addr) (n c : Nat) (i op reg nx zr : Int) (w : World) (h : reg < 0 ∨ R ≤ reg) (hop : op = 0) :
    Calls Tryd.prog 59 #[.agg #[.int .i64 R, .slice A n c], .int .i64 i, .agg #[.int .i64 op, .int .i64 reg, .int .i64 nx, .int .i64 zr]] w (RetB (validI R n i ⟨op, reg, nx, zr⟩) w) := by
  have hb := (bel_alloc w (.cells #[.int .i64 R, .slice A n c] 43)).trans ((bel_alloc (w.alloc (.cells #[.int .i64 R, .slice A n c] 43)) (.cells #[.int .i64 op, .int .i64 reg, .int .i64 nx, .int .i64 zr] 70)).mono (bel_alloc w (.cells #[.int .i64 R, .slice A n c] 43)).size)
  have HB := Lib.hid hb
  have HI := Lib.hid (fun (W : World) (j : Int) => isIndex_c R A n c j W)
  clear hb
  subst hop
  rcases h with h | h
  · have q0 : decide (0 ≤ reg) = false := decide_eq_false (by omega)
    have H := Lib.hid (show validI R n i ⟨0, reg, nx, zr⟩ = false by simp [validI, q0])
    go_enter Tryd.func59, Tryd.ntmps59
    go_wp2
    go_ret
    exact ⟨by rw [H.out]; rfl, HB.out⟩
  · have q1 : decide (reg < R) = false := decide_eq_false (by omega)
    have H := Lib.hid (show validI R n i ⟨0, reg, nx, zr⟩ = false by simp [validI, q1])
    by_cases hz : 0 ≤ reg
    · have q0 : decide (0 ≤ reg) = true := decide_eq_true (by omega)
      go_enter Tryd.func59, Tryd.ntmps59
      go_wp2
      go_ret
      exact ⟨by rw [H.out]; rfl, HB.out⟩
    · have q0 : decide (0 ≤ reg) = false := decide_eq_false (by omega)
      go_enter Tryd.func59, Tryd.ntmps59
      go_wp2
      go_ret
      exact ⟨by rw [H.out]; rfl, HB.out⟩
set_option maxHeartbeats 4000000 in
theorem validInsn_reg1 (R : Int) (A : Option Addr) (n c : Nat) (i op reg nx zr : Int) (w : World) (h : reg < 0 ∨ R ≤ reg) (hop : op = 1) :
    Calls Tryd.prog 59 #[.agg #[.int .i64 R, .slice A n c], .int .i64 i, .agg #[.int .i64 op, .int .i64 reg, .int .i64 nx, .int .i64 zr]] w (RetB (validI R n i ⟨op, reg, nx, zr⟩) w) := by
  have hb := (bel_alloc w (.cells #[.int .i64 R, .slice A n c] 43)).trans ((bel_alloc (w.alloc (.cells #[.int .i64 R, .slice A n c] 43)) (.cells #[.int .i64 op, .int .i64 reg, .int .i64 nx, .int .i64 zr] 70)).mono (bel_alloc w (.cells #[.int .i64 R, .slice A n c] 43)).size)
  have HB := Lib.hid hb
  have HI := Lib.hid (fun (W : World) (j : Int) => isIndex_c R A n c j W)
  clear hb
  subst hop
  rcases h with h | h
  · have q0 : decide (0 ≤ reg) = false := decide_eq_false (by omega)
    have H := Lib.hid (show validI R n i ⟨1, reg, nx, zr⟩ = false by simp [validI, q0])
    go_enter Tryd.func59, Tryd.ntmps59
    go_wp2
    go_ret
    exact ⟨by rw [H.out]; rfl, HB.out⟩
  · have q1 : decide (reg < R) = false := decide_eq_false (by omega)
    have H := Lib.hid (show validI R n i ⟨1, reg, nx, zr⟩ = false by simp [validI, q1])
    by_cases hz : 0 ≤ reg
    · have q0 : decide (0 ≤ reg) = true := decide_eq_true (by omega)
      go_enter Tryd.func59, Tryd.ntmps59
      go_wp2
      go_ret
      exact ⟨by rw [H.out]; rfl, HB.out⟩
    · have q0 : decide (0 ≤ reg) = false := decide_eq_false (by omega)
      go_enter Tryd.func59, Tryd.ntmps59
      go_wp2
      go_ret
      exact ⟨by rw [H.out]; rfl, HB.out⟩
set_option maxHeartbeats 4000000 in
theorem validInsn_reg2 (R : Int) (A : Option Addr) (n c : Nat) (i op reg nx zr : Int) (w : World) (h : reg < 0 ∨ R ≤ reg) (hop : op = 2) :
    Calls Tryd.prog 59 #[.agg #[.int .i64 R, .slice A n c], .int .i64 i, .agg #[.int .i64 op, .int .i64 reg, .int .i64 nx, .int .i64 zr]] w (RetB (validI R n i ⟨op, reg, nx, zr⟩) w) := by
  have hb := (bel_alloc w (.cells #[.int .i64 R, .slice A n c] 43)).trans ((bel_alloc (w.alloc (.cells #[.int .i64 R, .slice A n c] 43)) (.cells #[.int .i64 op, .int .i64 reg, .int .i64 nx, .int .i64 zr] 70)).mono (bel_alloc w (.cells #[.int .i64 R, .slice A n c] 43)).size)
  have HB := Lib.hid hb
  have HI := Lib.hid (fun (W : World) (j : Int) => isIndex_c R A n c j W)
  clear hb
  subst hop
  rcases h with h | h
  · have q0 : decide (0 ≤ reg) = false := decide_eq_false (by omega)
    have H := Lib.hid (show validI R n i ⟨2, reg, nx, zr⟩ = false by simp [validI, q0])
    go_enter Tryd.func59, Tryd.ntmps59
    go_wp2
    go_ret
    exact ⟨by rw [H.out]; rfl, HB.out⟩
  · have q1 : decide (reg < R) = false := decide_eq_false (by omega)
    have H := Lib.hid (show validI R n i ⟨2, reg, nx, zr⟩ = false by simp [validI, q1])
    by_cases hz : 0 ≤ reg
    · have q0 : decide (0 ≤ reg) = true := decide_eq_true (by omega)
      go_enter Tryd.func59, Tryd.ntmps59
      go_wp2
      go_ret
      exact ⟨by rw [H.out]; rfl, HB.out⟩
    · have q0 : decide (0 ≤ reg) = false := decide_eq_false (by omega)
      go_enter Tryd.func59, Tryd.ntmps59
      go_wp2
      go_ret
      exact ⟨by rw [H.out]; rfl, HB.out⟩
set_option maxHeartbeats 4000000 in
theorem validInsn_ok0t (R : Int) (A : Option Addr) (n c : Nat) (i op reg nx zr : Int) (w : World) (h0 : 0 ≤ reg) (h1 : reg < R) (hop : op = 0) (hb1 : inB n nx = true) :
    Calls Tryd.prog 59 #[.agg #[.int .i64 R, .slice A n c], .int .i64 i, .agg #[.int .i64 op, .int .i64 reg, .int .i64 nx, .int .i64 zr]] w (RetB (validI R n i ⟨op, reg, nx, zr⟩) w) := by
  have hb := (bel_alloc w (.cells #[.int .i64 R, .slice A n c] 43)).trans ((bel_alloc (w.alloc (.cells #[.int .i64 R, .slice A n c] 43)) (.cells #[.int .i64 op, .int .i64 reg, .int .i64 nx, .int .i64 zr] 70)).mono (bel_alloc w (.cells #[.int .i64 R, .slice A n c] 43)).size)
  have HB := Lib.hid hb
  have HI := Lib.hid (fun (W : World) (j : Int) => isIndex_c R A n c j W)
  clear hb
  subst hop
  have q0 : decide (0 ≤ reg) = true := decide_eq_true (by omega)
  have q1 : decide (reg < R) = true := decide_eq_true (by omega)
  have B1 := Lib.hid hb1
  by_cases hz : zr = 0
  · have H := Lib.hid (show validI R n i ⟨0, reg, nx, zr⟩ = true by simp [validI, hb1, q0, q1, hz])
    have q2 : (zr == 0) = true := by simp [*]
    clear hb1 hz
    have M0 := Lib.hid (show ((w.alloc (.cells #[.int .i64 R, .slice A n c] 43)).alloc (.cells #[.int .i64 0, .int .i64 reg, .int .i64 nx, .int .i64 zr] 70)).cell? ⟨w.heap.size, 0, none⟩ = some (.int .i64 R) by go_simp)
    have M1 := Lib.hid (show ((w.alloc (.cells #[.int .i64 R, .slice A n c] 43)).alloc (.cells #[.int .i64 0, .int .i64 reg, .int .i64 nx, .int .i64 zr] 70)).cell? ⟨w.heap.size, 1, none⟩ = some (.slice A n c) by go_simp)
    have X0 := Lib.hid (show ((w.alloc (.cells #[.int .i64 R, .slice A n c] 43)).alloc (.cells #[.int .i64 0, .int .i64 reg, .int .i64 nx, .int .i64 zr] 70)).cell? ⟨w.heap.size + 1, 0, none⟩ = some (.int .i64 0) by go_simp)
    have X1 := Lib.hid (show ((w.alloc (.cells #[.int .i64 R, .slice A n c] 43)).alloc (.cells #[.int .i64 0, .int .i64 reg, .int .i64 nx, .int .i64 zr] 70)).cell? ⟨w.heap.size + 1, 1, none⟩ = some (.int .i64 reg) by go_simp)
    have X2 := Lib.hid (show ((w.alloc (.cells #[.int .i64 R, .slice A n c] 43)).alloc (.cells #[.int .i64 0, .int .i64 reg, .int .i64 nx, .int .i64 zr] 70)).cell? ⟨w.heap.size + 1, 2, none⟩ = some (.int .i64 nx) by go_simp)
    have X3 := Lib.hid (show ((w.alloc (.cells #[.int .i64 R, .slice A n c] 43)).alloc (.cells #[.int .i64 0, .int .i64 reg, .int .i64 nx, .int .i64 zr] 70)).cell? ⟨w.heap.size + 1, 3, none⟩ = some (.int .i64 zr) by go_simp)
    have HL0 := Lib.hid (show w.heap.size < ((w.alloc (.cells #[.int .i64 R, .slice A n c] 43)).alloc (.cells #[.int .i64 0, .int .i64 reg, .int .i64 nx, .int .i64 zr] 70)).heap.size by simp; omega)
    have HL1 := Lib.hid (show w.heap.size + 1 < ((w.alloc (.cells #[.int .i64 R, .slice A n c] 43)).alloc (.cells #[.int .i64 0, .int .i64 reg, .int .i64 nx, .int .i64 zr] 70)).heap.size by simp)
    go_enter Tryd.func59, Tryd.ntmps59
    go_wp2_with fail
    refine (HI.out _ nx).mono ?_
    rw [B1.out]
    rintro e w1 ⟨rfl, hb⟩
    replace HB := Lib.hid (HB.out.trans (hb.mono HB.out.size))
    have m0 := (hb.cell (p := ⟨w.heap.size, 0, none⟩) HL0.out).trans M0.out
    have m1 := (hb.cell (p := ⟨w.heap.size, 1, none⟩) HL0.out).trans M1.out
    have x0 := (hb.cell (p := ⟨w.heap.size + 1, 0, none⟩) HL1.out).trans X0.out
    have x1 := (hb.cell (p := ⟨w.heap.size + 1, 1, none⟩) HL1.out).trans X1.out
    have x2 := (hb.cell (p := ⟨w.heap.size + 1, 2, none⟩) HL1.out).trans X2.out
    have x3 := (hb.cell (p := ⟨w.heap.size + 1, 3, none⟩) HL1.out).trans X3.out
    have HZ := Lib.hid hb.size
    clear hb
    go_wp2
    go_ret
    exact ⟨by rw [H.out]; rfl, HB.out⟩
  · have H := Lib.hid (show validI R n i ⟨0, reg, nx, zr⟩ = false by simp [validI, hb1, q0, q1, hz])
    have q2 : (zr == 0) = false := beq_eq_false_iff_ne.2 (by omega)
    clear hb1 hz
    have M0 := Lib.hid (show ((w.alloc (.cells #[.int .i64 R, .slice A n c] 43)).alloc (.cells #[.int .i64 0, .int .i64 reg, .int .i64 nx, .int .i64 zr] 70)).cell? ⟨w.heap.size, 0, none⟩ = some (.int .i64 R) by go_simp)
    have M1 := Lib.hid (show ((w.alloc (.cells #[.int .i64 R, .slice A n c] 43)).alloc (.cells #[.int .i64 0, .int .i64 reg, .int .i64 nx, .int .i64 zr] 70)).cell? ⟨w.heap.size, 1, none⟩ = some (.slice A n c) by go_simp)
    have X0 := Lib.hid (show ((w.alloc (.cells #[.int .i64 R, .slice A n c] 43)).alloc (.cells #[.int .i64 0, .int .i64 reg, .int .i64 nx, .int .i64 zr] 70)).cell? ⟨w.heap.size + 1, 0, none⟩ = some (.int .i64 0) by go_simp)
    have X1 := Lib.hid (show ((w.alloc (.cells #[.int .i64 R, .slice A n c] 43)).alloc (.cells #[.int .i64 0, .int .i64 reg, .int .i64 nx, .int .i64 zr] 70)).cell? ⟨w.heap.size + 1, 1, none⟩ = some (.int .i64 reg) by go_simp)
    have X2 := Lib.hid (show ((w.alloc (.cells #[.int .i64 R, .slice A n c] 43)).alloc (.cells #[.int .i64 0, .int .i64 reg, .int .i64 nx, .int .i64 zr] 70)).cell? ⟨w.heap.size + 1, 2, none⟩ = some (.int .i64 nx) by go_simp)
    have X3 := Lib.hid (show ((w.alloc (.cells #[.int .i64 R, .slice A n c] 43)).alloc (.cells #[.int .i64 0, .int .i64 reg, .int .i64 nx, .int .i64 zr] 70)).cell? ⟨w.heap.size + 1, 3, none⟩ = some (.int .i64 zr) by go_simp)
    have HL0 := Lib.hid (show w.heap.size < ((w.alloc (.cells #[.int .i64 R, .slice A n c] 43)).alloc (.cells #[.int .i64 0, .int .i64 reg, .int .i64 nx, .int .i64 zr] 70)).heap.size by simp; omega)
    have HL1 := Lib.hid (show w.heap.size + 1 < ((w.alloc (.cells #[.int .i64 R, .slice A n c] 43)).alloc (.cells #[.int .i64 0, .int .i64 reg, .int .i64 nx, .int .i64 zr] 70)).heap.size by simp)
    go_enter Tryd.func59, Tryd.ntmps59
    go_wp2_with fail
    refine (HI.out _ nx).mono ?_
    rw [B1.out]
    rintro e w1 ⟨rfl, hb⟩
    replace HB := Lib.hid (HB.out.trans (hb.mono HB.out.size))
    have m0 := (hb.cell (p := ⟨w.heap.size, 0, none⟩) HL0.out).trans M0.out
    have m1 := (hb.cell (p := ⟨w.heap.size, 1, none⟩) HL0.out).trans M1.out
    have x0 := (hb.cell (p := ⟨w.heap.size + 1, 0, none⟩) HL1.out).trans X0.out
    have x1 := (hb.cell (p := ⟨w.heap.size + 1, 1, none⟩) HL1.out).trans X1.out
    have x2 := (hb.cell (p := ⟨w.heap.size + 1, 2, none⟩) HL1.out).trans X2.out
    have x3 := (hb.cell (p := ⟨w.heap.size + 1, 3, none⟩) HL1.out).trans X3.out
    have HZ := Lib.hid hb.size
    clear hb
    go_wp2
    go_ret
    exact ⟨by rw [H.out]; rfl, HB.out⟩
set_option maxHeartbeats 4000000 in
theorem validInsn_ok0f (R : Int) (A : Option Addr) (n c : Nat) (i op reg nx zr : Int) (w : World) (h0 : 0 ≤ reg) (h1 : reg < R) (hop : op = 0) (hb1 : inB n nx = false) :
    Calls Tryd.prog 59 #[.agg #[.int .i64 R, .slice A n c], .int .i64 i, .agg #[.int .i64 op, .int .i64 reg, .int .i64 nx, .int .i64 zr]] w (RetB (validI R n i ⟨op, reg, nx, zr⟩) w) := by
  have hb := (bel_alloc w (.cells #[.int .i64 R, .slice A n c] 43)).trans ((bel_alloc (w.alloc (.cells #[.int .i64 R, .slice A n c] 43)) (.cells #[.int .i64 op, .int .i64 reg, .int .i64 nx, .int .i64 zr] 70)).mono (bel_alloc w (.cells #[.int .i64 R, .slice A n c] 43)).size)
  have HB := Lib.hid hb
  have HI := Lib.hid (fun (W : World) (j : Int) => isIndex_c R A n c j W)
  clear hb
  subst hop
  have q0 : decide (0 ≤ reg) = true := decide_eq_true (by omega)
  have q1 : decide (reg < R) = true := decide_eq_true (by omega)
  have B1 := Lib.hid hb1
  have H := Lib.hid (show validI R n i ⟨0, reg, nx, zr⟩ = false by simp [validI, hb1])
  clear hb1
  go_enter Tryd.func59, Tryd.ntmps59
  go_wp2_with fail
  refine (HI.out _ nx).mono ?_
  rw [B1.out]
  rintro e w1 ⟨rfl, hb⟩
  replace HB := Lib.hid (HB.out.trans (hb.mono HB.out.size))
  clear hb
  go_wp2
  go_ret
  exact ⟨by rw [H.out]; rfl, HB.out⟩
set_option maxHeartbeats 4000000 in
theorem validInsn_ok1t (R : Int) (A : Option Addr) (n c : Nat) (i op reg nx zr : Int) (w : World) (h0 : 0 ≤ reg) (h1 : reg < R) (hop : op = 1) (hb1 : inB n nx = true) :
    Calls Tryd.prog 59 #[.agg #[.int .i64 R, .slice A n c], .int .i64 i, .agg #[.int .i64 op, .int .i64 reg, .int .i64 nx, .int .i64 zr]] w (RetB (validI R n i ⟨op, reg, nx, zr⟩) w) := by
  have hb := (bel_alloc w (.cells #[.int .i64 R, .slice A n c] 43)).trans ((bel_alloc (w.alloc (.cells #[.int .i64 R, .slice A n c] 43)) (.cells #[.int .i64 op, .int .i64 reg, .int .i64 nx, .int .i64 zr] 70)).mono (bel_alloc w (.cells #[.int .i64 R, .slice A n c] 43)).size)
  have HB := Lib.hid hb
  have HI := Lib.hid (fun (W : World) (j : Int) => isIndex_c R A n c j W)
  clear hb
  subst hop
  have q0 : decide (0 ≤ reg) = true := decide_eq_true (by omega)
  have q1 : decide (reg < R) = true := decide_eq_true (by omega)
  have B1 := Lib.hid hb1
  by_cases hz : zr = 0
  · have H := Lib.hid (show validI R n i ⟨1, reg, nx, zr⟩ = true by simp [validI, hb1, q0, q1, hz])
    have q2 : (zr == 0) = true := by simp [*]
    clear hb1 hz
    have M0 := Lib.hid (show ((w.alloc (.cells #[.int .i64 R, .slice A n c] 43)).alloc (.cells #[.int .i64 1, .int .i64 reg, .int .i64 nx, .int .i64 zr] 70)).cell? ⟨w.heap.size, 0, none⟩ = some (.int .i64 R) by go_simp)
    have M1 := Lib.hid (show ((w.alloc (.cells #[.int .i64 R, .slice A n c] 43)).alloc (.cells #[.int .i64 1, .int .i64 reg, .int .i64 nx, .int .i64 zr] 70)).cell? ⟨w.heap.size, 1, none⟩ = some (.slice A n c) by go_simp)
    have X0 := Lib.hid (show ((w.alloc (.cells #[.int .i64 R, .slice A n c] 43)).alloc (.cells #[.int .i64 1, .int .i64 reg, .int .i64 nx, .int .i64 zr] 70)).cell? ⟨w.heap.size + 1, 0, none⟩ = some (.int .i64 1) by go_simp)
    have X1 := Lib.hid (show ((w.alloc (.cells #[.int .i64 R, .slice A n c] 43)).alloc (.cells #[.int .i64 1, .int .i64 reg, .int .i64 nx, .int .i64 zr] 70)).cell? ⟨w.heap.size + 1, 1, none⟩ = some (.int .i64 reg) by go_simp)
    have X2 := Lib.hid (show ((w.alloc (.cells #[.int .i64 R, .slice A n c] 43)).alloc (.cells #[.int .i64 1, .int .i64 reg, .int .i64 nx, .int .i64 zr] 70)).cell? ⟨w.heap.size + 1, 2, none⟩ = some (.int .i64 nx) by go_simp)
    have X3 := Lib.hid (show ((w.alloc (.cells #[.int .i64 R, .slice A n c] 43)).alloc (.cells #[.int .i64 1, .int .i64 reg, .int .i64 nx, .int .i64 zr] 70)).cell? ⟨w.heap.size + 1, 3, none⟩ = some (.int .i64 zr) by go_simp)
    have HL0 := Lib.hid (show w.heap.size < ((w.alloc (.cells #[.int .i64 R, .slice A n c] 43)).alloc (.cells #[.int .i64 1, .int .i64 reg, .int .i64 nx, .int .i64 zr] 70)).heap.size by simp; omega)
    have HL1 := Lib.hid (show w.heap.size + 1 < ((w.alloc (.cells #[.int .i64 R, .slice A n c] 43)).alloc (.cells #[.int .i64 1, .int .i64 reg, .int .i64 nx, .int .i64 zr] 70)).heap.size by simp)
    go_enter Tryd.func59, Tryd.ntmps59
    go_wp2_with fail
    refine (HI.out _ nx).mono ?_
    rw [B1.out]
    rintro e w1 ⟨rfl, hb⟩
    replace HB := Lib.hid (HB.out.trans (hb.mono HB.out.size))
    have m0 := (hb.cell (p := ⟨w.heap.size, 0, none⟩) HL0.out).trans M0.out
    have m1 := (hb.cell (p := ⟨w.heap.size, 1, none⟩) HL0.out).trans M1.out
    have x0 := (hb.cell (p := ⟨w.heap.size + 1, 0, none⟩) HL1.out).trans X0.out
    have x1 := (hb.cell (p := ⟨w.heap.size + 1, 1, none⟩) HL1.out).trans X1.out
    have x2 := (hb.cell (p := ⟨w.heap.size + 1, 2, none⟩) HL1.out).trans X2.out
    have x3 := (hb.cell (p := ⟨w.heap.size + 1, 3, none⟩) HL1.out).trans X3.out
    have HZ := Lib.hid hb.size
    clear hb
    go_wp2
    go_ret
    exact ⟨by rw [H.out]; rfl, HB.out⟩
  · have H := Lib.hid (show validI R n i ⟨1, reg, nx, zr⟩ = false by simp [validI, hb1, q0, q1, hz])
    have q2 : (zr == 0) = false := beq_eq_false_iff_ne.2 (by omega)
    clear hb1 hz
    have M0 := Lib.hid (show ((w.alloc (.cells #[.int .i64 R, .slice A n c] 43)).alloc (.cells #[.int .i64 1, .int .i64 reg, .int .i64 nx, .int .i64 zr] 70)).cell? ⟨w.heap.size, 0, none⟩ = some (.int .i64 R) by go_simp)
    have M1 := Lib.hid (show ((w.alloc (.cells #[.int .i64 R, .slice A n c] 43)).alloc (.cells #[.int .i64 1, .int .i64 reg, .int .i64 nx, .int .i64 zr] 70)).cell? ⟨w.heap.size, 1, none⟩ = some (.slice A n c) by go_simp)
    have X0 := Lib.hid (show ((w.alloc (.cells #[.int .i64 R, .slice A n c] 43)).alloc (.cells #[.int .i64 1, .int .i64 reg, .int .i64 nx, .int .i64 zr] 70)).cell? ⟨w.heap.size + 1, 0, none⟩ = some (.int .i64 1) by go_simp)
    have X1 := Lib.hid (show ((w.alloc (.cells #[.int .i64 R, .slice A n c] 43)).alloc (.cells #[.int .i64 1, .int .i64 reg, .int .i64 nx, .int .i64 zr] 70)).cell? ⟨w.heap.size + 1, 1, none⟩ = some (.int .i64 reg) by go_simp)
    have X2 := Lib.hid (show ((w.alloc (.cells #[.int .i64 R, .slice A n c] 43)).alloc (.cells #[.int .i64 1, .int .i64 reg, .int .i64 nx, .int .i64 zr] 70)).cell? ⟨w.heap.size + 1, 2, none⟩ = some (.int .i64 nx) by go_simp)
    have X3 := Lib.hid (show ((w.alloc (.cells #[.int .i64 R, .slice A n c] 43)).alloc (.cells #[.int .i64 1, .int .i64 reg, .int .i64 nx, .int .i64 zr] 70)).cell? ⟨w.heap.size + 1, 3, none⟩ = some (.int .i64 zr) by go_simp)
    have HL0 := Lib.hid (show w.heap.size < ((w.alloc (.cells #[.int .i64 R, .slice A n c] 43)).alloc (.cells #[.int .i64 1, .int .i64 reg, .int .i64 nx, .int .i64 zr] 70)).heap.size by simp; omega)
    have HL1 := Lib.hid (show w.heap.size + 1 < ((w.alloc (.cells #[.int .i64 R, .slice A n c] 43)).alloc (.cells #[.int .i64 1, .int .i64 reg, .int .i64 nx, .int .i64 zr] 70)).heap.size by simp)
    go_enter Tryd.func59, Tryd.ntmps59
    go_wp2_with fail
    refine (HI.out _ nx).mono ?_
    rw [B1.out]
    rintro e w1 ⟨rfl, hb⟩
    replace HB := Lib.hid (HB.out.trans (hb.mono HB.out.size))
    have m0 := (hb.cell (p := ⟨w.heap.size, 0, none⟩) HL0.out).trans M0.out
    have m1 := (hb.cell (p := ⟨w.heap.size, 1, none⟩) HL0.out).trans M1.out
    have x0 := (hb.cell (p := ⟨w.heap.size + 1, 0, none⟩) HL1.out).trans X0.out
    have x1 := (hb.cell (p := ⟨w.heap.size + 1, 1, none⟩) HL1.out).trans X1.out
    have x2 := (hb.cell (p := ⟨w.heap.size + 1, 2, none⟩) HL1.out).trans X2.out
    have x3 := (hb.cell (p := ⟨w.heap.size + 1, 3, none⟩) HL1.out).trans X3.out
    have HZ := Lib.hid hb.size
    clear hb
    go_wp2
    go_ret
    exact ⟨by rw [H.out]; rfl, HB.out⟩
set_option maxHeartbeats 4000000 in
theorem validInsn_ok1f (R : Int) (A : Option Addr) (n c : Nat) (i op reg nx zr : Int) (w : World) (h0 : 0 ≤ reg) (h1 : reg < R) (hop : op = 1) (hb1 : inB n nx = false) :
    Calls Tryd.prog 59 #[.agg #[.int .i64 R, .slice A n c], .int .i64 i, .agg #[.int .i64 op, .int .i64 reg, .int .i64 nx, .int .i64 zr]] w (RetB (validI R n i ⟨op, reg, nx, zr⟩) w) := by
  have hb := (bel_alloc w (.cells #[.int .i64 R, .slice A n c] 43)).trans ((bel_alloc (w.alloc (.cells #[.int .i64 R, .slice A n c] 43)) (.cells #[.int .i64 op, .int .i64 reg, .int .i64 nx, .int .i64 zr] 70)).mono (bel_alloc w (.cells #[.int .i64 R, .slice A n c] 43)).size)
  have HB := Lib.hid hb
  have HI := Lib.hid (fun (W : World) (j : Int) => isIndex_c R A n c j W)
  clear hb
  subst hop
  have q0 : decide (0 ≤ reg) = true := decide_eq_true (by omega)
  have q1 : decide (reg < R) = true := decide_eq_true (by omega)
  have B1 := Lib.hid hb1
  have H := Lib.hid (show validI R n i ⟨1, reg, nx, zr⟩ = false by simp [validI, hb1])
  clear hb1
  go_enter Tryd.func59, Tryd.ntmps59
  go_wp2_with fail
  refine (HI.out _ nx).mono ?_
  rw [B1.out]
  rintro e w1 ⟨rfl, hb⟩
  replace HB := Lib.hid (HB.out.trans (hb.mono HB.out.size))
  clear hb
  go_wp2
  go_ret
  exact ⟨by rw [H.out]; rfl, HB.out⟩
set_option maxHeartbeats 4000000 in
theorem validInsn_ok2tt (R : Int) (A : Option Addr) (n c : Nat) (i op reg nx zr : Int) (w : World) (h0 : 0 ≤ reg) (h1 : reg < R) (hop : op = 2) (hb1 : inB n nx = true) (hb2 : inB n zr = true) :
    Calls Tryd.prog 59 #[.agg #[.int .i64 R, .slice A n c], .int .i64 i, .agg #[.int .i64 op, .int .i64 reg, .int .i64 nx, .int .i64 zr]] w (RetB (validI R n i ⟨op, reg, nx, zr⟩) w) := by
  have hb := (bel_alloc w (.cells #[.int .i64 R, .slice A n c] 43)).trans ((bel_alloc (w.alloc (.cells #[.int .i64 R, .slice A n c] 43)) (.cells #[.int .i64 op, .int .i64 reg, .int .i64 nx, .int .i64 zr] 70)).mono (bel_alloc w (.cells #[.int .i64 R, .slice A n c] 43)).size)
  have HB := Lib.hid hb
  have HI := Lib.hid (fun (W : World) (j : Int) => isIndex_c R A n c j W)
  clear hb
  subst hop
  have q0 : decide (0 ≤ reg) = true := decide_eq_true (by omega)
  have q1 : decide (reg < R) = true := decide_eq_true (by omega)
  have B1 := Lib.hid hb1
  have B2 := Lib.hid hb2
  have M0 := Lib.hid (show ((w.alloc (.cells #[.int .i64 R, .slice A n c] 43)).alloc (.cells #[.int .i64 2, .int .i64 reg, .int .i64 nx, .int .i64 zr] 70)).cell? ⟨w.heap.size, 0, none⟩ = some (.int .i64 R) by go_simp)
  have M1 := Lib.hid (show ((w.alloc (.cells #[.int .i64 R, .slice A n c] 43)).alloc (.cells #[.int .i64 2, .int .i64 reg, .int .i64 nx, .int .i64 zr] 70)).cell? ⟨w.heap.size, 1, none⟩ = some (.slice A n c) by go_simp)
  have X0 := Lib.hid (show ((w.alloc (.cells #[.int .i64 R, .slice A n c] 43)).alloc (.cells #[.int .i64 2, .int .i64 reg, .int .i64 nx, .int .i64 zr] 70)).cell? ⟨w.heap.size + 1, 0, none⟩ = some (.int .i64 2) by go_simp)
  have X1 := Lib.hid (show ((w.alloc (.cells #[.int .i64 R, .slice A n c] 43)).alloc (.cells #[.int .i64 2, .int .i64 reg, .int .i64 nx, .int .i64 zr] 70)).cell? ⟨w.heap.size + 1, 1, none⟩ = some (.int .i64 reg) by go_simp)
  have X2 := Lib.hid (show ((w.alloc (.cells #[.int .i64 R, .slice A n c] 43)).alloc (.cells #[.int .i64 2, .int .i64 reg, .int .i64 nx, .int .i64 zr] 70)).cell? ⟨w.heap.size + 1, 2, none⟩ = some (.int .i64 nx) by go_simp)
  have X3 := Lib.hid (show ((w.alloc (.cells #[.int .i64 R, .slice A n c] 43)).alloc (.cells #[.int .i64 2, .int .i64 reg, .int .i64 nx, .int .i64 zr] 70)).cell? ⟨w.heap.size + 1, 3, none⟩ = some (.int .i64 zr) by go_simp)
  have HL0 := Lib.hid (show w.heap.size < ((w.alloc (.cells #[.int .i64 R, .slice A n c] 43)).alloc (.cells #[.int .i64 2, .int .i64 reg, .int .i64 nx, .int .i64 zr] 70)).heap.size by simp; omega)
  have HL1 := Lib.hid (show w.heap.size + 1 < ((w.alloc (.cells #[.int .i64 R, .slice A n c] 43)).alloc (.cells #[.int .i64 2, .int .i64 reg, .int .i64 nx, .int .i64 zr] 70)).heap.size by simp)
  by_cases hz : nx = i
  · have H := Lib.hid (show validI R n i ⟨2, reg, nx, zr⟩ = false by simp [validI, hb2, q0, q1, hz])
    have q2 : (nx != i) = false := by simp [hz]
    have q3 : (nx == i) = true := by simp [*]
    have NX := Lib.hid hz
    clear hb1 hb2 hz
    go_enter Tryd.func59, Tryd.ntmps59
    go_wp2_with fail
    refine (HI.out _ nx).mono ?_
    rw [B1.out]
    rintro e w1 ⟨rfl, hb⟩
    replace HB := Lib.hid (HB.out.trans (hb.mono HB.out.size))
    have m0 := (hb.cell (p := ⟨w.heap.size, 0, none⟩) HL0.out).trans M0.out
    have m1 := (hb.cell (p := ⟨w.heap.size, 1, none⟩) HL0.out).trans M1.out
    have x0 := (hb.cell (p := ⟨w.heap.size + 1, 0, none⟩) HL1.out).trans X0.out
    have x1 := (hb.cell (p := ⟨w.heap.size + 1, 1, none⟩) HL1.out).trans X1.out
    have x2 := (hb.cell (p := ⟨w.heap.size + 1, 2, none⟩) HL1.out).trans X2.out
    have x3 := (hb.cell (p := ⟨w.heap.size + 1, 3, none⟩) HL1.out).trans X3.out
    have HZ := Lib.hid hb.size
    clear hb
    go_wp2_with fail
    refine (HI.out _ zr).mono ?_
    rw [B2.out]
    rintro e w1 ⟨rfl, hb⟩
    replace HB := Lib.hid (HB.out.trans (hb.mono HB.out.size))
    have y2 := (hb.cell (p := ⟨w.heap.size + 1, 2, none⟩) (Nat.lt_of_lt_of_le HL1.out HZ.out)).trans x2
    clear hb
    go_wp2
    go_ret
    exact ⟨by rw [H.out]; rfl, HB.out⟩
  · have H := Lib.hid (show validI R n i ⟨2, reg, nx, zr⟩ = true by simp [validI, hb1, hb2, q0, q1, hz])
    have q2 : (nx != i) = true := by simp [hz]
    have q3 : (nx == i) = false := beq_eq_false_iff_ne.2 (by omega)
    have NX := Lib.hid hz
    clear hb1 hb2 hz
    go_enter Tryd.func59, Tryd.ntmps59
    go_wp2_with fail
    refine (HI.out _ nx).mono ?_
    rw [B1.out]
    rintro e w1 ⟨rfl, hb⟩
    replace HB := Lib.hid (HB.out.trans (hb.mono HB.out.size))
    have m0 := (hb.cell (p := ⟨w.heap.size, 0, none⟩) HL0.out).trans M0.out
    have m1 := (hb.cell (p := ⟨w.heap.size, 1, none⟩) HL0.out).trans M1.out
    have x0 := (hb.cell (p := ⟨w.heap.size + 1, 0, none⟩) HL1.out).trans X0.out
    have x1 := (hb.cell (p := ⟨w.heap.size + 1, 1, none⟩) HL1.out).trans X1.out
    have x2 := (hb.cell (p := ⟨w.heap.size + 1, 2, none⟩) HL1.out).trans X2.out
    have x3 := (hb.cell (p := ⟨w.heap.size + 1, 3, none⟩) HL1.out).trans X3.out
    have HZ := Lib.hid hb.size
    clear hb
    go_wp2_with fail
    refine (HI.out _ zr).mono ?_
    rw [B2.out]
    rintro e w1 ⟨rfl, hb⟩
    replace HB := Lib.hid (HB.out.trans (hb.mono HB.out.size))
    have y2 := (hb.cell (p := ⟨w.heap.size + 1, 2, none⟩) (Nat.lt_of_lt_of_le HL1.out HZ.out)).trans x2
    clear hb
    go_wp2
    go_ret
    exact ⟨by rw [H.out]; rfl, HB.out⟩
set_option maxHeartbeats 4000000 in
theorem validInsn_ok2tf (R : Int) (A : Option Addr) (n c : Nat) (i op reg nx zr : Int) (w : World) (h0 : 0 ≤ reg) (h1 : reg < R) (hop : op = 2) (hb1 : inB n nx = true) (hb2 : inB n zr = false) :
    Calls Tryd.prog 59 #[.agg #[.int .i64 R, .slice A n c], .int .i64 i, .agg #[.int .i64 op, .int .i64 reg, .int .i64 nx, .int .i64 zr]] w (RetB (validI R n i ⟨op, reg, nx, zr⟩) w) := by
  have hb := (bel_alloc w (.cells #[.int .i64 R, .slice A n c] 43)).trans ((bel_alloc (w.alloc (.cells #[.int .i64 R, .slice A n c] 43)) (.cells #[.int .i64 op, .int .i64 reg, .int .i64 nx, .int .i64 zr] 70)).mono (bel_alloc w (.cells #[.int .i64 R, .slice A n c] 43)).size)
  have HB := Lib.hid hb
  have HI := Lib.hid (fun (W : World) (j : Int) => isIndex_c R A n c j W)
  clear hb
  subst hop
  have q0 : decide (0 ≤ reg) = true := decide_eq_true (by omega)
  have q1 : decide (reg < R) = true := decide_eq_true (by omega)
  have B1 := Lib.hid hb1
  have B2 := Lib.hid hb2
  have M0 := Lib.hid (show ((w.alloc (.cells #[.int .i64 R, .slice A n c] 43)).alloc (.cells #[.int .i64 2, .int .i64 reg, .int .i64 nx, .int .i64 zr] 70)).cell? ⟨w.heap.size, 0, none⟩ = some (.int .i64 R) by go_simp)
  have M1 := Lib.hid (show ((w.alloc (.cells #[.int .i64 R, .slice A n c] 43)).alloc (.cells #[.int .i64 2, .int .i64 reg, .int .i64 nx, .int .i64 zr] 70)).cell? ⟨w.heap.size, 1, none⟩ = some (.slice A n c) by go_simp)
  have X0 := Lib.hid (show ((w.alloc (.cells #[.int .i64 R, .slice A n c] 43)).alloc (.cells #[.int .i64 2, .int .i64 reg, .int .i64 nx, .int .i64 zr] 70)).cell? ⟨w.heap.size + 1, 0, none⟩ = some (.int .i64 2) by go_simp)
  have X1 := Lib.hid (show ((w.alloc (.cells #[.int .i64 R, .slice A n c] 43)).alloc (.cells #[.int .i64 2, .int .i64 reg, .int .i64 nx, .int .i64 zr] 70)).cell? ⟨w.heap.size + 1, 1, none⟩ = some (.int .i64 reg) by go_simp)
  have X2 := Lib.hid (show ((w.alloc (.cells #[.int .i64 R, .slice A n c] 43)).alloc (.cells #[.int .i64 2, .int .i64 reg, .int .i64 nx, .int .i64 zr] 70)).cell? ⟨w.heap.size + 1, 2, none⟩ = some (.int .i64 nx) by go_simp)
  have X3 := Lib.hid (show ((w.alloc (.cells #[.int .i64 R, .slice A n c] 43)).alloc (.cells #[.int .i64 2, .int .i64 reg, .int .i64 nx, .int .i64 zr] 70)).cell? ⟨w.heap.size + 1, 3, none⟩ = some (.int .i64 zr) by go_simp)
  have HL0 := Lib.hid (show w.heap.size < ((w.alloc (.cells #[.int .i64 R, .slice A n c] 43)).alloc (.cells #[.int .i64 2, .int .i64 reg, .int .i64 nx, .int .i64 zr] 70)).heap.size by simp; omega)
  have HL1 := Lib.hid (show w.heap.size + 1 < ((w.alloc (.cells #[.int .i64 R, .slice A n c] 43)).alloc (.cells #[.int .i64 2, .int .i64 reg, .int .i64 nx, .int .i64 zr] 70)).heap.size by simp)
  have H := Lib.hid (show validI R n i ⟨2, reg, nx, zr⟩ = false by simp [validI, hb2])
  clear hb1 hb2
  go_enter Tryd.func59, Tryd.ntmps59
  go_wp2_with fail
  refine (HI.out _ nx).mono ?_
  rw [B1.out]
  rintro e w1 ⟨rfl, hb⟩
  replace HB := Lib.hid (HB.out.trans (hb.mono HB.out.size))
  have m0 := (hb.cell (p := ⟨w.heap.size, 0, none⟩) HL0.out).trans M0.out
  have m1 := (hb.cell (p := ⟨w.heap.size, 1, none⟩) HL0.out).trans M1.out
  have x0 := (hb.cell (p := ⟨w.heap.size + 1, 0, none⟩) HL1.out).trans X0.out
  have x1 := (hb.cell (p := ⟨w.heap.size + 1, 1, none⟩) HL1.out).trans X1.out
  have x2 := (hb.cell (p := ⟨w.heap.size + 1, 2, none⟩) HL1.out).trans X2.out
  have x3 := (hb.cell (p := ⟨w.heap.size + 1, 3, none⟩) HL1.out).trans X3.out
  have HZ := Lib.hid hb.size
  clear hb
  go_wp2_with fail
  refine (HI.out _ zr).mono ?_
  rw [B2.out]
  rintro e w1 ⟨rfl, hb⟩
  replace HB := Lib.hid (HB.out.trans (hb.mono HB.out.size))
  clear hb
  go_wp2
  go_ret
  exact ⟨by rw [H.out]; rfl, HB.out⟩
set_option maxHeartbeats 4000000 in
theorem validInsn_ok2ff (R : Int) (A : Option Addr) (n c : Nat) (i op reg nx zr : Int) (w : World) (h0 : 0 ≤ reg) (h1 : reg < R) (hop : op = 2) (hb1 : inB n nx = false) :
    Calls Tryd.prog 59 #[.agg #[.int .i64 R, .slice A n c], .int .i64 i, .agg #[.int .i64 op, .int .i64 reg, .int .i64 nx, .int .i64 zr]] w (RetB (validI R n i ⟨op, reg, nx, zr⟩) w) := by
  have hb := (bel_alloc w (.cells #[.int .i64 R, .slice A n c] 43)).trans ((bel_alloc (w.alloc (.cells #[.int .i64 R, .slice A n c] 43)) (.cells #[.int .i64 op, .int .i64 reg, .int .i64 nx, .int .i64 zr] 70)).mono (bel_alloc w (.cells #[.int .i64 R, .slice A n c] 43)).size)
  have HB := Lib.hid hb
  have HI := Lib.hid (fun (W : World) (j : Int) => isIndex_c R A n c j W)
  clear hb
  subst hop
  have q0 : decide (0 ≤ reg) = true := decide_eq_true (by omega)
  have q1 : decide (reg < R) = true := decide_eq_true (by omega)
  have B1 := Lib.hid hb1
  have H := Lib.hid (show validI R n i ⟨2, reg, nx, zr⟩ = false by simp [validI, hb1])
  clear hb1
  go_enter Tryd.func59, Tryd.ntmps59
  go_wp2_with fail
  refine (HI.out _ nx).mono ?_
  rw [B1.out]
  rintro e w1 ⟨rfl, hb⟩
  replace HB := Lib.hid (HB.out.trans (hb.mono HB.out.size))
  clear hb
  go_wp2
  go_ret
  exact ⟨by rw [H.out]; rfl, HB.out⟩
set_option maxHeartbeats 4000000 in
theorem validInsn_halt (R : Int) (A : Option Addr) (n c : Nat) (i op reg nx zr : Int) (w : World) (hop : op = 3) :
    Calls Tryd.prog 59 #[.agg #[.int .i64 R, .slice A n c], .int .i64 i, .agg #[.int .i64 op, .int .i64 reg, .int .i64 nx, .int .i64 zr]] w (RetB (validI R n i ⟨op, reg, nx, zr⟩) w) := by
  have hb := (bel_alloc w (.cells #[.int .i64 R, .slice A n c] 43)).trans ((bel_alloc (w.alloc (.cells #[.int .i64 R, .slice A n c] 43)) (.cells #[.int .i64 op, .int .i64 reg, .int .i64 nx, .int .i64 zr] 70)).mono (bel_alloc w (.cells #[.int .i64 R, .slice A n c] 43)).size)
  have HB := Lib.hid hb
  have HI := Lib.hid (fun (W : World) (j : Int) => isIndex_c R A n c j W)
  clear hb
  subst hop
  have H := Lib.hid (show validI R n i ⟨3, reg, nx, zr⟩ = (decide (reg = 0) && decide (nx = 0) && decide (zr = 0)) from rfl)
  by_cases h0 : 0 ≤ reg
  · by_cases h1 : reg < R
    · have q0 : decide (0 ≤ reg) = true := decide_eq_true (by omega)
      have q1 : decide (reg < R) = true := decide_eq_true (by omega)
      go_enter Tryd.func59, Tryd.ntmps59
      go_wp2
      all_goals
        go_ret
        refine ⟨?_, bel2 _ _ _⟩
        show Ending.returned (Value.bool _) = Ending.returned (Value.bool _)
        first | rfl | (congr 2; simp [validI, *]; done) | (congr 2; simp [validI, *]; omega)
    · have q0 : decide (0 ≤ reg) = true := decide_eq_true (by omega)
      have q1 : decide (reg < R) = false := decide_eq_false (by omega)
      go_enter Tryd.func59, Tryd.ntmps59
      go_wp2
      all_goals
        go_ret
        refine ⟨?_, bel2 _ _ _⟩
        show Ending.returned (Value.bool _) = Ending.returned (Value.bool _)
        first | rfl | (congr 2; simp [validI, *]; done) | (congr 2; simp [validI, *]; omega)
  · have q0 : decide (0 ≤ reg) = false := decide_eq_false (by omega)
    go_enter Tryd.func59, Tryd.ntmps59
    go_wp2
    all_goals
      go_ret
      refine ⟨?_, bel2 _ _ _⟩
      show Ending.returned (Value.bool _) = Ending.returned (Value.bool _)
      first | rfl | (congr 2; simp [validI, *]; done) | (congr 2; simp [validI, *]; omega)
set_option maxHeartbeats 4000000 in
theorem validInsn_none (R : Int) (A : Option Addr) (n c : Nat) (i op reg nx zr : Int) (w : World) (hop : op ≠ 0 ∧ op ≠ 1 ∧ op ≠ 2 ∧ op ≠ 3) :
    Calls Tryd.prog 59 #[.agg #[.int .i64 R, .slice A n c], .int .i64 i, .agg #[.int .i64 op, .int .i64 reg, .int .i64 nx, .int .i64 zr]] w (RetB (validI R n i ⟨op, reg, nx, zr⟩) w) := by
  have hb := (bel_alloc w (.cells #[.int .i64 R, .slice A n c] 43)).trans ((bel_alloc (w.alloc (.cells #[.int .i64 R, .slice A n c] 43)) (.cells #[.int .i64 op, .int .i64 reg, .int .i64 nx, .int .i64 zr] 70)).mono (bel_alloc w (.cells #[.int .i64 R, .slice A n c] 43)).size)
  have HB := Lib.hid hb
  have HI := Lib.hid (fun (W : World) (j : Int) => isIndex_c R A n c j W)
  clear hb
  have H := Lib.hid (show validI R n i ⟨op, reg, nx, zr⟩ = false by obtain ⟨a, b, c, d⟩ := hop; simp [validI, a, b, c, d])
  have p0 : (op == 0) = false := beq_eq_false_iff_ne.2 (by omega)
  have p1 : (op == 1) = false := beq_eq_false_iff_ne.2 (by omega)
  have p2 : (op == 2) = false := beq_eq_false_iff_ne.2 (by omega)
  have p3 : (op == 3) = false := beq_eq_false_iff_ne.2 (by omega)
  clear hop
  by_cases h0 : 0 ≤ reg
  · by_cases h1 : reg < R
    · have q0 : decide (0 ≤ reg) = true := decide_eq_true (by omega)
      have q1 : decide (reg < R) = true := decide_eq_true (by omega)
      go_enter Tryd.func59, Tryd.ntmps59
      go_wp2
      go_ret
      exact ⟨by rw [H.out]; rfl, HB.out⟩
    · have q0 : decide (0 ≤ reg) = true := decide_eq_true (by omega)
      have q1 : decide (reg < R) = false := decide_eq_false (by omega)
      go_enter Tryd.func59, Tryd.ntmps59
      go_wp2
      go_ret
      exact ⟨by rw [H.out]; rfl, HB.out⟩
  · have q0 : decide (0 ≤ reg) = false := decide_eq_false (by omega)
    go_enter Tryd.func59, Tryd.ntmps59
    go_wp2
    go_ret
    exact ⟨by rw [H.out]; rfl, HB.out⟩
theorem validInsn_c (R : Int) (A : Option Addr) (n c : Nat) (i : Int) (x : Ins) (w : World) :
    Calls Tryd.prog 59 #[.agg #[.int .i64 R, .slice A n c], .int .i64 i, .agg #[.int .i64 x.op, .int .i64 x.reg, .int .i64 x.nx, .int .i64 x.zr]] w (RetB (validI R n i x) w) := by
  obtain ⟨op, reg, nx, zr⟩ := x
  by_cases h3 : op = 3
  · exact validInsn_halt R A n c i op reg nx zr w h3
  by_cases h0 : op = 0 ∨ op = 1 ∨ op = 2
  · by_cases hr : reg < 0 ∨ R ≤ reg
    · rcases h0 with h | h | h
      · exact validInsn_reg0 R A n c i op reg nx zr w hr h
      · exact validInsn_reg1 R A n c i op reg nx zr w hr h
      · exact validInsn_reg2 R A n c i op reg nx zr w hr h
    · have r0 : 0 ≤ reg := by omega
      have r1 : reg < R := by omega
      rcases h0 with h | h | h
      · cases hb : inB n nx with
        | false => exact validInsn_ok0f R A n c i op reg nx zr w r0 r1 h hb
        | true => exact validInsn_ok0t R A n c i op reg nx zr w r0 r1 h hb
      · cases hb : inB n nx with
        | false => exact validInsn_ok1f R A n c i op reg nx zr w r0 r1 h hb
        | true => exact validInsn_ok1t R A n c i op reg nx zr w r0 r1 h hb
      · cases hb : inB n nx with
        | false => exact validInsn_ok2ff R A n c i op reg nx zr w r0 r1 h hb
        | true =>
          cases hb2 : inB n zr with
          | false => exact validInsn_ok2tf R A n c i op reg nx zr w r0 r1 h hb hb2
          | true => exact validInsn_ok2tt R A n c i op reg nx zr w r0 r1 h hb hb2
  · exact validInsn_none R A n c i op reg nx zr w (by omega)
end Go.Proofs.YthjdnidapbhdlaaDoor
