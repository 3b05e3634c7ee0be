/- runs in parts -/
import Derived.Test.YthjdnidapbhdlaaDoorIg
set_option maxRecDepth 100000
namespace Go.Proofs.YthjdnidapbhdlaaDoor
open Go.RowKit
theorem run_end {cs : List Ins} {at_ : Int} {zs : List Int} (h : endM (insAt cs at_.toNat) zs = true) (n : Nat) : runM cs n at_ zs = ⟨at_, zs, 0, false⟩ := by
  cases n with
  | zero => rfl
  | succ n => unfold runM; simp only [h, if_true]
theorem run_big (cs : List Ins) : ∀ (n : Nat) (at_ : Int) (zs : List Int), (runM cs n at_ zs).big = true → runM cs n at_ zs = ⟨0, [], 0, true⟩
  | 0, at_, zs, h => by cases h
  | n + 1, at_, zs, h => by
    unfold runM at h ⊢
    by_cases h1 : endM (insAt cs at_.toNat) zs = true
    · simp only [h1, if_true] at h; cases h
    · simp only [if_neg h1] at h ⊢
      by_cases h2 : advOk (insAt cs at_.toNat) zs = false
      · simp only [if_pos h2]
      · simp only [if_neg h2] at h ⊢
        by_cases h3 : (runM cs n (advAt (insAt cs at_.toNat) zs) (advZs (insAt cs at_.toNat) zs)).big = true
        · simp only [if_pos h3]
        · simp only [if_neg h3] at h; cases h
/-- n steps and then k -/
def andThen (cs : List Ins) (r : RunE) (k : Nat) : RunE :=
  if r.big = true then ⟨0, [], 0, true⟩
  else if (runM cs k r.at_ r.zs).big = true then ⟨0, [], 0, true⟩
  else ⟨(runM cs k r.at_ r.zs).at_, (runM cs k r.at_ r.zs).zs, r.k + (runM cs k r.at_ r.zs).k, false⟩
theorem run_add (cs : List Ins) (k : Nat) : ∀ (n : Nat) (at_ : Int) (zs : List Int), runM cs (n + k) at_ zs = andThen cs (runM cs n at_ zs) k
  | 0, at_, zs => by
    rw [Nat.zero_add]
    unfold andThen
    show _ = if false = true then (⟨0, [], 0, true⟩ : RunE) else if (runM cs k at_ zs).big = true then (⟨0, [], 0, true⟩ : RunE) else (⟨(runM cs k at_ zs).at_, (runM cs k at_ zs).zs, 0 + (runM cs k at_ zs).k, false⟩ : RunE)
    rw [if_neg (by simp)]
    by_cases h : (runM cs k at_ zs).big = true
    · rw [if_pos h, run_big cs k at_ zs h]
    · rw [if_neg h, Nat.zero_add]
      have : (runM cs k at_ zs).big = false := by simpa using h
      rw [← this]
  | n + 1, at_, zs => by
    by_cases h1 : endM (insAt cs at_.toNat) zs = true
    · rw [run_end h1, run_end h1]
      unfold andThen
      rw [if_neg (by simp)]
      simp only [run_end h1]
      rfl
    · have ih := run_add cs k n (advAt (insAt cs at_.toNat) zs) (advZs (insAt cs at_.toNat) zs)
      rw [show n + 1 + k = (n + k) + 1 from by omega]
      unfold runM
      simp only [if_neg h1]
      by_cases h2 : advOk (insAt cs at_.toNat) zs = false
      · simp only [if_pos h2]
        unfold andThen
        rw [if_pos rfl]
      · simp only [if_neg h2]
        rw [ih]
        generalize runM cs n (advAt (insAt cs at_.toNat) zs) (advZs (insAt cs at_.toNat) zs) = r
        unfold andThen
        by_cases h3 : r.big = true
        · simp only [if_pos h3, if_true]
        · simp only [if_neg h3]
          by_cases h4 : (runM cs k r.at_ r.zs).big = true
          · simp [h4]
          · simp [h4]; omega
/-- how much a step changes the register i -/
def stepD (x : Ins) (i : Nat) : Int := if x.op = 0 ∧ i = x.reg.toNat then 1 else if x.op = 1 ∧ i = x.reg.toNat then -1 else 0
theorem adv_len (x : Ins) (zs : List Int) : (advZs x zs).length = zs.length := by
  unfold advZs
  split
  · simp
  · split
    · simp
    · rfl
theorem adv_diff (x : Ins) (zs : List Int) (i : Nat) (hi : i < zs.length) : (advZs x zs).getD i 0 - zs.getD i 0 = stepD x i := by
  unfold advZs stepD rvM
  by_cases h0 : x.op = 0
  · rw [if_pos h0]
    by_cases hr : i = x.reg.toNat
    · subst hr
      rw [if_pos ⟨h0, rfl⟩]
      simp [List.getD_eq_getElem?_getD, hi]
      omega
    · rw [if_neg (fun h => hr h.2), if_neg (fun h => by omega)]
      simp [List.getD_eq_getElem?_getD, List.getElem?_set_ne (Ne.symm hr)]
  · rw [if_neg h0, if_neg (c := x.op = 0 ∧ i = x.reg.toNat) (fun h => h0 h.1)]
    by_cases h1 : x.op = 1
    · rw [if_pos h1]
      by_cases hr : i = x.reg.toNat
      · subst hr
        rw [if_pos ⟨h1, rfl⟩]
        simp [List.getD_eq_getElem?_getD, hi]
        omega
      · rw [if_neg (c := x.op = 1 ∧ i = x.reg.toNat) (fun h => hr h.2)]
        simp [List.getD_eq_getElem?_getD, List.getElem?_set_ne (Ne.symm hr)]
    · rw [if_neg h1, if_neg (c := x.op = 1 ∧ i = x.reg.toNat) (fun h => h1 h.1)]
      omega
/-- how many of the registers below i a step has changed -/
def movedT (x : Ins) (i : Nat) : Nat := if (x.op = 0 ∨ x.op = 1) ∧ x.reg.toNat < i then 1 else 0
theorem moved_step (x : Ins) (i : Nat) : movedT x (i + 1) = movedT x i + (if stepD x i = 0 then 0 else 1) := by
  unfold movedT stepD
  by_cases h0 : x.op = 0 <;> by_cases h1 : x.op = 1 <;> by_cases hr : i = x.reg.toNat <;> simp [h0, h1, hr] <;> (repeat' split) <;> omega
theorem moved_le (x : Ins) (i : Nat) : movedT x i ≤ 1 := by
  unfold movedT
  split <;> omega
theorem stepD_cases (x : Ins) (i : Nat) : stepD x i = 0 ∨ stepD x i = 1 ∨ stepD x i = -1 := by
  unfold stepD
  split
  · exact .inr (.inl rfl)
  · split
    · exact .inr (.inr rfl)
    · exact .inl rfl
end Go.Proofs.YthjdnidapbhdlaaDoor
