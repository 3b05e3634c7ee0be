/- a step's mathematics; runs -/
import Derived.Test.YthjdnidapbhdlaaDoorHi
set_option maxRecDepth 100000
namespace Go.Proofs.YthjdnidapbhdlaaDoor
open Go.RowKit
theorem advZs_len (x : Ins) (zs : List Int) : (advZs x zs).length = zs.length := by
  unfold advZs
  split
  · simp
  · split <;> simp
theorem allIn_set {most : Int} {zs : List Int} (h : allIn most zs = true) (k : Nat) {z : Int} (h0 : 0 ≤ z) (h1 : z ≤ most) : allIn most (zs.set k z) = true := by
  refine decide_eq_true fun i hi => ?_
  rw [List.length_set] at hi
  by_cases e : k = i
  · subst e
    rw [set_get hi]
    simp [inR, h0, h1]
  · have : (zs.set k z).getD i 0 = zs.getD i 0 := by simp [List.getD_eq_getElem?_getD, e]
    rw [this]
    exact of_decide_eq_true h i hi
theorem adv_at_bounds {R : Int} {cs : List Ins} {k : Nat} {zs : List Int} (hf : FitsP R cs (k : Int) zs) (hend : endM (insAt cs k) zs = false) : 0 ≤ advAt (insAt cs k) zs ∧ advAt (insAt cs k) zs < (cs.length : Int) := by
  have hv := hf.ins
  rw [Int.toNat_natCast] at hv
  rcases valid_cases hv with ⟨h3, _⟩ | ⟨h0, r0, r1, n0, n1, hz⟩
  · exfalso
    simp [endM, h3] at hend
  · unfold advAt
    split
    · rename_i h
      exact hz h.1
    · exact ⟨n0, n1⟩
/-- behind a step a state fits still -/
theorem adv_fits {R : Int} {cs : List Ins} {k : Nat} {zs : List Int} (hf : FitsP R cs (k : Int) zs) (hend : endM (insAt cs k) zs = false) (hok : advOk (insAt cs k) zs = true) : FitsP R cs (advAt (insAt cs k) zs) (advZs (insAt cs k) zs) := by
  obtain ⟨a0, a1⟩ := adv_at_bounds hf hend
  refine ⟨hf.vm, a0, a1, by rw [advZs_len]; exact hf.len, ?_⟩
  have hv := hf.ins
  rw [Int.toNat_natCast] at hv
  have hl := hf.len
  generalize insAt cs k = x at hv hend hok
  rcases valid_cases hv with ⟨h3, _⟩ | ⟨h0, r0, r1, _⟩
  · exfalso
    simp [endM, h3] at hend
  · obtain ⟨op, reg, nx, zr⟩ := x
    simp only at h0 r0 r1
    obtain ⟨r, rfl⟩ := Int.eq_ofNat_of_zero_le r0
    have hr : r < zs.length := by omega
    obtain ⟨b0, b1⟩ := allIn_at hf.all hr
    have ho := of_decide_eq_true hok
    unfold advZs rvM at ho ⊢
    simp only [Int.toNat_natCast] at ho ⊢
    rcases h0 with rfl | rfl | rfl
    · simp only [if_true] at ho ⊢
      rw [set_get hr] at ho
      exact allIn_set hf.all r (by omega) ho
    · simp only [if_neg (show ¬ (1 : Int) = 0 by omega), if_true] at ho ⊢
      refine allIn_set hf.all r ?_ (by omega)
      have hz : zs.getD r 0 ≠ 0 := fun e => by simp [endM, -List.getD_eq_getElem?_getD, e] at hend
      omega
    · simp only [if_neg (show ¬ (2 : Int) = 0 by omega), if_neg (show ¬ (2 : Int) = 1 by omega)]
      exact hf.all
/-- what n steps come to: 0: done; 4: a register became too great. -/
structure RunE where
  at_ : Int
  zs : List Int
  k : Nat
  big : Bool
def runM (cs : List Ins) : Nat → Int → List Int → RunE
  | 0, at_, zs => ⟨at_, zs, 0, false⟩
  | n + 1, at_, zs =>
    let x := insAt cs at_.toNat
    if endM x zs = true then ⟨at_, zs, 0, false⟩
    else if advOk x zs = false then ⟨0, [], 0, true⟩
    else
      let r := runM cs n (advAt x zs) (advZs x zs)
      if r.big = true then ⟨0, [], 0, true⟩ else ⟨r.at_, r.zs, r.k + 1, false⟩
/-- k steps have been done -/
def Iter (cs : List Ins) : Nat → Int → List Int → Int → List Int → Prop
  | 0, at_, zs, at', zs' => at' = at_ ∧ zs' = zs
  | k + 1, at_, zs, at', zs' => ∃ a z, Iter cs k at_ zs a z ∧ endM (insAt cs a.toNat) z = false ∧ advOk (insAt cs a.toNat) z = true ∧ at' = advAt (insAt cs a.toNat) z ∧ zs' = advZs (insAt cs a.toNat) z
theorem iter_fits {R : Int} {cs : List Ins} {k : Nat} {at_ at' : Int} {zs zs' : List Int} (h : FitsP R cs at_ zs) (hi : Iter cs k at_ zs at' zs') : FitsP R cs at' zs' := by
  induction k generalizing at' zs' with
  | zero =>
    obtain ⟨rfl, rfl⟩ := hi
    exact h
  | succ k ih =>
    obtain ⟨a, z, h1, h2, h3, rfl, rfl⟩ := hi
    have hf := ih h1
    obtain ⟨a', rfl⟩ := Int.eq_ofNat_of_zero_le hf.at0
    rw [Int.toNat_natCast] at *
    exact adv_fits hf h2 h3
/-- the run from the start, by what is left of it -/
theorem run_iter {cs : List Ins} {k : Nat} (n : Nat) {at_ at' : Int} {zs zs' : List Int} (hi : Iter cs k at_ zs at' zs') :
    runM cs (k + n) at_ zs = if (runM cs n at' zs').big = true then ⟨0, [], 0, true⟩ else ⟨(runM cs n at' zs').at_, (runM cs n at' zs').zs, (runM cs n at' zs').k + k, false⟩ := by
  induction k generalizing n at' zs' with
  | zero =>
    obtain ⟨rfl, rfl⟩ := hi
    rw [Nat.zero_add]
    have hb : ∀ (n : Nat) (a : Int) (z : List Int), (runM cs n a z).big = true → runM cs n a z = ⟨0, [], 0, true⟩ := by
      intro n a z h
      cases n with
      | zero => cases h
      | succ n =>
        unfold runM at h ⊢
        simp only at h ⊢
        split
        · rename_i h1; rw [if_pos h1] at h; cases h
        · rename_i h1
          rw [if_neg h1] at h
          split
          · rfl
          · rename_i h2
            rw [if_neg h2] at h
            split
            · rfl
            · rename_i h3; rw [if_neg h3] at h; cases h
    split
    · rename_i h; exact hb _ _ _ h
    · rename_i h
      generalize runM cs n at' zs' = r at h
      obtain ⟨a, z, k, b⟩ := r
      simp only [Bool.not_eq_true] at h
      subst h
      rfl
  | succ k ih =>
    obtain ⟨a, z, h1, h2, h3, rfl, rfl⟩ := hi
    have e := ih (n + 1) h1
    have e2 : runM cs (n + 1) a z = if (runM cs n (advAt (insAt cs a.toNat) z) (advZs (insAt cs a.toNat) z)).big = true then ⟨0, [], 0, true⟩ else ⟨(runM cs n (advAt (insAt cs a.toNat) z) (advZs (insAt cs a.toNat) z)).at_, (runM cs n (advAt (insAt cs a.toNat) z) (advZs (insAt cs a.toNat) z)).zs, (runM cs n (advAt (insAt cs a.toNat) z) (advZs (insAt cs a.toNat) z)).k + 1, false⟩ := by
      conv => lhs; unfold runM
      simp only [h2, h3, Bool.false_eq_true, if_false, reduceCtorEq]
    rw [show k + 1 + n = k + (n + 1) by omega, e, e2]
    generalize runM cs n (advAt (insAt cs a.toNat) z) (advZs (insAt cs a.toNat) z) = r
    cases hb : r.big
    · simp only [Bool.false_eq_true, if_false]
      congr 1
      omega
    · simp
end Go.Proofs.YthjdnidapbhdlaaDoor
