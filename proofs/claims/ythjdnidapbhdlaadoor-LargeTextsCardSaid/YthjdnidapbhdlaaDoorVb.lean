import Derived.Test.YthjdnidapbhdlaaDoorWj
namespace Go.Proofs.YthjdnidapbhdlaaDoor
open Go.RowKit

theorem mod_and (a b : Nat) : (a &&& b) % 4294967296 = a % 4294967296 &&& b % 4294967296 := by
  have h := @Nat.and_mod_two_pow a b 32
  simpa using h
theorem div_and (a b : Nat) : (a &&& b) / 4294967296 = a / 4294967296 &&& b / 4294967296 := by
  have h := @Nat.shiftRight_and_distrib 32 a b
  simpa [Nat.shiftRight_eq_div_pow] using h
theorem and_split (x y X Y : Nat) (hx : x < 4294967296) (hy : y < 4294967296) : (x + 4294967296 * X) &&& (y + 4294967296 * Y) = (x &&& y) + 4294967296 * (X &&& Y) := by
  have h1 := mod_and (x + 4294967296 * X) (y + 4294967296 * Y)
  have h2 := div_and (x + 4294967296 * X) (y + 4294967296 * Y)
  rw [show (x + 4294967296 * X) % 4294967296 = x by omega, show (y + 4294967296 * Y) % 4294967296 = y by omega] at h1
  rw [show (x + 4294967296 * X) / 4294967296 = X by omega, show (y + 4294967296 * Y) / 4294967296 = Y by omega] at h2
  omega
theorem not_under (x y : Nat) (hy : y < 4294967296) : x < 4294967296 → (x &&& (4294967295 - y) = 0 ↔ x &&& y = x) := by
  intro hx
  have hb : ∀ i, (4294967295 - y).testBit i = (decide (i < 32) && !y.testBit i) := fun i => by
    have := @Nat.testBit_two_pow_sub_succ y 32 (by simpa using hy) i
    simpa using this
  have hxi : ∀ i, x.testBit i = true → i < 32 := fun i h => by
    rcases Nat.lt_or_ge i 32 with h1 | h1
    · exact h1
    · have := Nat.testBit_lt_two_pow (x := x) (i := i) (Nat.lt_of_lt_of_le hx (by
        have := Nat.pow_le_pow_right (n := 2) (by omega) h1
        simpa using this))
      rw [this] at h
      cases h
  constructor
  · intro h
    apply Nat.eq_of_testBit_eq
    intro i
    rw [Nat.testBit_and]
    have hi := congrArg (fun z : Nat => z.testBit i) h
    simp only [Nat.testBit_and, hb, Nat.zero_testBit] at hi
    cases hxb : x.testBit i with
    | false => rfl
    | true =>
      have := hxi i hxb
      rw [hxb] at hi
      simpa [this] using hi
  · intro h
    apply Nat.eq_of_testBit_eq
    intro i
    rw [Nat.testBit_and, hb, Nat.zero_testBit]
    have hi := congrArg (fun z : Nat => z.testBit i) h
    simp only [Nat.testBit_and] at hi
    cases hxb : x.testBit i with
    | false => rfl
    | true =>
      rw [hxb] at hi
      have hyb : y.testBit i = true := by simpa using hi
      simp [hyb]

theorem under_iff {xs ys : List Nat} (hx : small xs) (hy : small ys) : (∀ j, j < xs.length → xs.getD j 0 &&& ys.getD j 0 = xs.getD j 0) ↔ val xs &&& val ys = val xs := by
  induction xs generalizing ys with
  | nil => simp [val]
  | cons x xs ih =>
    obtain ⟨h1, h2⟩ := small_cons.1 hx
    obtain ⟨y, ys', hys, hyl, hysm⟩ : ∃ y ys', (∀ j, ys.getD j 0 = (y :: ys').getD j 0) ∧ val ys = val (y :: ys') ∧ small (y :: ys') := by
      cases ys with
      | nil => exact ⟨0, [], fun j => by cases j <;> simp, by simp [val], small_cons.2 ⟨by omega, small_nil⟩⟩
      | cons y ys => exact ⟨y, ys, fun _ => rfl, rfl, hy⟩
    obtain ⟨h3, h4⟩ := small_cons.1 hysm
    rw [hyl, val_cons, val_cons, and_split x y _ _ h1 h3]
    have ih' := ih h2 h4
    constructor
    · intro h
      have a := h 0 (by simp)
      rw [hys] at a
      simp only [List.getD_cons_zero] at a
      have b := ih'.1 (fun j hj => by
        have := h (j + 1) (by simpa using hj)
        rw [hys] at this
        simpa using this)
      rw [a, b]
    · intro h
      have hle : x &&& y ≤ x := Nat.and_le_left
      have hlt : x &&& y < 4294967296 := by omega
      have a : x &&& y = x := by omega
      have b : val xs &&& val ys' = val xs := by omega
      intro j hj
      rw [hys]
      cases j with
      | zero => simpa using a
      | succ j => simpa using ih'.2 b j (by simpa using hj)

theorem under_len {xs ys : List Nat} (cx : canon xs) (cy : canon ys) (h : ys.length < xs.length) : ¬ val xs &&& val ys = val xs := by
  intro e
  have h1 := cmp_len cy.1 cx h
  have h2 : val xs &&& val ys ≤ val ys := Nat.and_le_right
  omega

set_option maxHeartbeats 1000000 in
set_option maxRecDepth 100000 in
theorem Under_ok (A A' : Option Addr) (n c n' c' : Nat) (xs ys : List Nat) (w : World) (h : Rd w A n xs) (h' : Rd w A' n' ys) (vx : validB false xs = true) (vy : validB false ys = true) :
    Calls Tryd.prog 38 #[.agg #[.bool false, .slice A n c], .agg #[.bool false, .slice A' n' c']] w (fun e w' => e = .returned (.tuple #[.bool (decide (val xs &&& val ys = val xs)), .int .i64 0]) ∧ Below w.heap.size w w') := by
  have VX := Lib.hid (valid_canon h.sm vx)
  have VY := Lib.hid (valid_canon h'.sm vy)
  have HV := Lib.hid (show (validB false xs && validB false ys) = true by rw [vx, vy]; rfl)
  have hn := VX.out.2.1
  have hn' := VY.out.2.1
  rw [h.len] at hn
  rw [h'.len] at hn'
  have HX := Lib.hid h.len
  have HY := Lib.hid h'.len
  have hsx := h.sm
  have hsy := h'.sm
  have HU := Lib.hid (under_iff hsx hsy)
  have HW := Lib.hid (under_len VX.out.1 VY.out.1)
  clear vx vy
  go_enter Tryd.func38, Tryd.ntmps38
  go_wp2_with fail
  have E := (Env2.start w false false A A' n c n' c').alloc (.cells #[.bool false, .slice A n c, .bool false, .slice A' n' c'] 24)
  refine (allValid_c (w.heap.size + 1 + 1) false false A A' n c n' c' xs ys _ (h.below E.below) (h'.below E.below) (by simp) (by go_simp) (by go_simp) (by go_simp) (by go_simp)).mono ?_
  rintro e w1 ⟨rfl, hb⟩
  rw [HV.out]
  have E1 := Lib.hid (E.next hb)
  clear E hb
  have a0 := E1.out.a0
  have a1 := E1.out.a1
  have b0 := E1.out.b0
  have b1 := E1.out.b1
  by_cases hnn : n' < n
  · have HF := Lib.hid (HW.out (by rw [HX.out, HY.out]; exact hnn))
    clear hsx hsy
    go_wp2
    go_ret2
    exact ⟨by rw [decide_eq_false HF.out]; rfl, E1.out.below⟩
  · have hcell : 0 < n → ∃ b o, A = some ⟨b, o, none⟩ ∧ b < w1.heap.size ∧ ∀ k, k < n → w1.cell? ⟨b, o + k, none⟩ = some (.int .u32 ((xs.getD k 0 : Nat) : Int)) := (h.below E1.out.below).at_
    have hcell' : 0 < n' → ∃ b o, A' = some ⟨b, o, none⟩ ∧ b < w1.heap.size ∧ ∀ k, k < n' → w1.cell? ⟨b, o + k, none⟩ = some (.int .u32 ((ys.getD k 0 : Nat) : Int)) := (h'.below E1.out.below).at_
    have CA := Lib.hid hcell
    have CB := Lib.hid hcell'
    clear hcell hcell' h h'
    go_wp2
    go_loop [29] (fun v => ∃ i : Nat, v = .int .i64 i ∧ i ≤ n ∧ ∀ j, j < i → xs.getD j 0 &&& ys.getD j 0 = xs.getD j 0) (fun v => n - (intOf v).toNat)
    case atStart => exact ⟨0, rfl, Nat.zero_le _, fun j hj => by omega⟩
    case round =>
      obtain ⟨i, rfl, hi, hall⟩ := hrel
      have HA := Lib.hid hall
      clear hall
      by_cases hin : i < n
      · obtain ⟨b, o, rfl, _, hca⟩ := CA.out (by omega)
        obtain ⟨b', o', rfl, _, hcb⟩ := CB.out (by omega)
        have hci := hca i hin
        have hdi := hcb i (by omega)
        have hx1 := small_get hsx i
        have hy1 := small_get hsy i
        have NU := Lib.hid (not_under _ _ hy1 hx1)
        obtain ⟨x, hx2⟩ : ∃ x, x = xs.getD i 0 := ⟨_, rfl⟩
        obtain ⟨y, hy2⟩ : ∃ y, y = ys.getD i 0 := ⟨_, rfl⟩
        have HX2 := Lib.hid hx2
        have HY2 := Lib.hid hy2
        rw [← hx2, ← hy2] at NU
        rw [← hx2] at hci hx1
        rw [← hy2] at hdi hy1
        have han := u32_andNot_nat x y hx1 hy1
        obtain ⟨z, hz⟩ : ∃ z, z = x &&& (4294967295 - y) := ⟨_, rfl⟩
        rw [← hz] at han NU
        clear hx2 hy2 hca hcb hsx hsy hz
        by_cases hz0 : z = 0
        · have t : ((z : Int) != 0) = false := by rw [hz0]; rfl
          have HN := Lib.hid (NU.out.1 hz0)
          clear hz0
          go_wp2
          go_round
          case measure => simp [intOf]; omega
          case rel => exact ⟨i + 1, by go_num, by omega, fun j hj => by
            by_cases hji : j = i
            · subst hji; rw [← HX2.out, ← HY2.out]; exact HN.out
            · exact HA.out j (by omega)⟩
        · have t : ((z : Int) != 0) = true := by rw [bne_iff_ne]; omega
          have HF := Lib.hid (show ¬ val xs &&& val ys = val xs from fun e => hz0 (NU.out.2 (by
            have := HU.out.2 e i (by rw [HX.out]; exact hin)
            rw [HX2.out, HY2.out]; exact this)))
          clear hz0
          go_wp2
          go_ret2
          exact ⟨by rw [decide_eq_false HF.out]; rfl, E1.out.below⟩
      · have HF := Lib.hid (HU.out.1 (fun j hj => HA.out j (by rw [HX.out] at hj; omega)))
        go_wp2
        go_ret2
        exact ⟨by rw [decide_eq_true HF.out]; rfl, E1.out.below⟩
end Go.Proofs.YthjdnidapbhdlaaDoor
