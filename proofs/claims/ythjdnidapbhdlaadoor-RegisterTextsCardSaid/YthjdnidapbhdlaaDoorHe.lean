import Derived.Test.YthjdnidapbhdlaaDoorHa
set_option maxRecDepth 100000
namespace Go.Proofs.YthjdnidapbhdlaaDoor
open Go.RowKit
def inR (most z : Int) : Bool := decide (0 ≤ z) && decide (z ≤ most)
def allIn (most : Int) (zs : List Int) : Bool := decide (∀ i, i < zs.length → inR most (zs.getD i 0) = true)
set_option maxHeartbeats 1000000 in
theorem inRange1_c (z most : Int) (g : Nat) (w : World) (h : w.cell? ⟨g, 0, none⟩ = some (.int .i64 most)) :
    Calls Tryd.prog 97 #[.int .i64 z, .pointer (some ⟨g, 0, none⟩)] w fun e w' => e = .returned (.bool (!inR most z)) ∧ w' = w := by
  by_cases h1 : z < 0
  · have H := Lib.hid (show (!inR most z) = true by simp [inR]; omega)
    have t1 : decide (z < 0) = true := decide_eq_true h1
    go_enter Tryd.func97, Tryd.ntmps97
    go_wp2
    go_ret
    exact ⟨by rw [H.out]; rfl, rfl⟩
  · have t1 : decide (z < 0) = false := decide_eq_false h1
    by_cases h2 : most < z
    · have H := Lib.hid (show (!inR most z) = true by simp [inR]; omega)
      have t2 : decide (most < z) = true := decide_eq_true h2
      go_enter Tryd.func97, Tryd.ntmps97
      go_wp2
      go_ret
      exact ⟨by rw [H.out]; rfl, rfl⟩
    · have H := Lib.hid (show (!inR most z) = false by simp [inR]; omega)
      have t2 : decide (most < z) = false := decide_eq_false h2
      go_enter Tryd.func97, Tryd.ntmps97
      go_wp2
      go_ret
      exact ⟨by rw [H.out]; rfl, rfl⟩
def IdxF (most : Int) (zs : List Int) (w : World) (e : Ending) (w' : World) : Prop :=
  ∃ r : Int, e = .returned (.int .i64 r) ∧ decide (0 ≤ r) = (!allIn most zs) ∧ w' = w
set_option maxHeartbeats 4000000 in
theorem indexFunc_c (A : Option Addr) (n c : Nat) (zs : List Int) (most : Int) (g : Nat) (w : World) (h : w.cell? ⟨g, 0, none⟩ = some (.int .i64 most)) (hr : RdI w A n zs) (hn : n ≤ 9223372036854775807) :
    Calls Tryd.prog 120 #[.slice A n c, .func (.func 97) #[] #[.pointer (some ⟨g, 0, none⟩)]] w (IdxF most zs w) := by
  have HL := Lib.hid hr.len
  have HR := Lib.hid hr
  have HC := Lib.hid h
  clear hr h
  go_enter Tryd.func120, Tryd.ntmps120
  go_wp2
  go_loopw [8] (fun v wr => ∃ k : Nat, v = .int .i64 (k : Int) ∧ k ≤ n ∧ wr = w ∧ ∀ i, i < k → inR most (zs.getD i 0) = true) (fun v _ => n - (intOf v).toNat)
  case atStart => exact ⟨0, rfl, Nat.zero_le _, rfl, fun i hi => by omega⟩
  case round =>
    obtain ⟨k, rfl, hk, rfl, hv⟩ := hrel
    have HA := Lib.hid hv
    clear hv
    by_cases hkn : k < n
    · obtain ⟨b, o, rfl, hblt, hcell⟩ := HR.out.at_ (by omega)
      have c0 := hcell k hkn
      obtain ⟨z, hz⟩ : ∃ z, z = zs.getD k 0 := ⟨_, rfl⟩
      rw [← hz] at c0
      have HZ := Lib.hid hz
      have IR := Lib.hid (inRange1_c z most g wr HC.out)
      obtain ⟨v, hv⟩ : ∃ v, v = inR most z := ⟨_, rfl⟩
      rw [← hv] at IR
      have HV := Lib.hid hv
      clear hz hv hcell hblt
      go_wp2_with fail
      refine IR.out.mono ?_
      rintro e w1 ⟨rfl, rfl⟩
      cases v with
      | false =>
        have HF := Lib.hid (show (!allIn most zs) = true by
          unfold allIn
          rw [decide_eq_false (fun hh => by
            have := hh k (by rw [HL.out]; exact hkn)
            rw [← HZ.out, ← HV.out] at this
            cases this)]
          rfl)
        go_wp2
        go_ret
        exact ⟨_, rfl, by rw [HF.out]; exact decide_eq_true (by omega), rfl⟩
      | true =>
        go_wp2
        go_roundw
        case measure => simp [intOf]; omega
        case rel => exact ⟨k + 1, by go_num, by omega, trivial, fun i hi => by
          by_cases e : i = k
          · subst e; rw [← HZ.out, ← HV.out]
          · exact HA.out i (by omega)⟩
    · have HF := Lib.hid (show (!allIn most zs) = false by
        unfold allIn
        rw [decide_eq_true (fun i hi => HA.out i (by rw [HL.out] at hi; omega))]
        rfl)
      go_wp2
      go_ret
      exact ⟨_, rfl, by rw [HF.out]; rfl, rfl⟩
set_option maxHeartbeats 1000000 in
theorem containsFunc_c (A : Option Addr) (n c : Nat) (zs : List Int) (most : Int) (g : Nat) (w : World) (h : w.cell? ⟨g, 0, none⟩ = some (.int .i64 most)) (hr : RdI w A n zs) (hn : n ≤ 9223372036854775807) :
    Calls Tryd.prog 96 #[.slice A n c, .func (.func 97) #[] #[.pointer (some ⟨g, 0, none⟩)]] w fun e w' => e = .returned (.bool (!allIn most zs)) ∧ w' = w := by
  have HI := Lib.hid (indexFunc_c A n c zs most g w h hr hn)
  clear h hr
  go_enter Tryd.func96, Tryd.ntmps96
  go_wp2_with fail
  refine HI.out.mono ?_
  rintro e w1 ⟨r, rfl, hd, rfl⟩
  have HD := Lib.hid hd
  clear hd
  go_wp2
  go_ret
  exact ⟨by rw [← HD.out]; rfl, rfl⟩
set_option maxHeartbeats 1000000 in
theorem inRange_c (A : Option Addr) (n c : Nat) (zs : List Int) (most : Int) (w : World) (hr : RdI w A n zs) (hn : n ≤ 9223372036854775807) :
    Calls Tryd.prog 61 #[.slice A n c, .int .i64 most] w (RetB (allIn most zs) w) := by
  have hmf : ∀ (fn : Fn) (first cap : Array Value) (w : World), (Instr.makeFunc fn first cap).run Tryd.prog w = .ok (.func fn first cap) w := fun _ _ _ _ => rfl
  have P := Lib.hid (bel_alloc w (.cells #[.int .i64 most] 3))
  have HC := Lib.hid (containsFunc_c A n c zs most w.heap.size (w.alloc (.cells #[.int .i64 most] 3)) (by go_simp) (hr.below P.out) hn)
  obtain ⟨v, hv⟩ : ∃ v, v = allIn most zs := ⟨_, rfl⟩
  rw [← hv] at HC ⊢
  clear hr hv
  go_enter Tryd.func61, Tryd.ntmps61
  go_wp2_with fail
  refine HC.out.mono ?_
  rintro e w1 ⟨rfl, rfl⟩
  cases v <;>
  · go_wp2
    go_ret
    exact ⟨rfl, P.out⟩
set_option maxHeartbeats 4000000 in
theorem refInput_c (R : Int) (C : Option Addr) (m d : Nat) (A : Option Addr) (n c : Nat) (zs : List Int) (w : World) (hr : RdI w A n zs) (hn : n ≤ 9223372036854775807) :
    Calls Tryd.prog 63 #[.agg #[.int .i64 R, .slice C m d], .slice A n c] w (RetB (allIn 1000 zs && decide ((n : Int) = R)) w) := by
  have HL := Lib.hid hr.len
  have P := Lib.hid (bel_alloc w (.cells #[.int .i64 R, .slice C m d] 43))
  have HR := Lib.hid (hr.below P.out)
  clear hr
  go_enter Tryd.func63, Tryd.ntmps63
  go_upto_region 1 with (fail)
  have a0 : (w.alloc (.cells #[.int .i64 R, .slice C m d] 43)).cell? ⟨w.heap.size, 0, none⟩ = some (.int .i64 R) := by go_simp
  generalize w.alloc (.cells #[.int .i64 R, .slice C m d] 43) = W0 at P HR a0 ⊢
  go_wp2
  go_loopw [5] (fun v wr => ∃ k : Nat, v = .int .i64 (k : Int) ∧ k ≤ n ∧ wr = W0 ∧ ∀ i, i < k → inR 1000 (zs.getD i 0) = true) (fun v _ => n - (intOf v).toNat)
  case atStart => exact ⟨0, rfl, Nat.zero_le _, rfl, fun i hi => by omega⟩
  case round =>
    obtain ⟨k, rfl, hk, rfl, hv⟩ := hrel
    have HA := Lib.hid hv
    clear hv
    by_cases hkn : k < n
    · obtain ⟨b, o, rfl, hblt, hcell⟩ := HR.out.at_ (by omega)
      have c0 := hcell k hkn
      obtain ⟨z, hz⟩ : ∃ z, z = zs.getD k 0 := ⟨_, rfl⟩
      rw [← hz] at c0
      have HZ := Lib.hid hz
      have HF := Lib.hid (fun (hf : inR 1000 z = false) => show (allIn 1000 zs && decide ((n : Int) = R)) = false by
        unfold allIn
        rw [decide_eq_false (fun hh => by
          have := hh k (by rw [HL.out]; exact hkn)
          rw [← HZ.out, hf] at this
          cases this)]
        rfl)
      clear hz hcell hblt
      go_wp2
      all_goals first
        | (go_ret; exact ⟨by rw [HF.out (by simp [inR]; omega)]; rfl, P.out⟩)
        | (go_roundw; (case measure => simp [intOf]; omega); (case rel => exact ⟨k + 1, by go_num, by omega, trivial, fun i hi => by
            by_cases e : i = k
            · subst e; rw [← HZ.out]; simp [inR]; omega
            · exact HA.out i (by omega)⟩))
        | fail "no arm"
    · have HF := Lib.hid (show allIn 1000 zs = true from decide_eq_true fun i hi => HA.out i (by rw [HL.out] at hi; omega))
      go_wp2
      go_ret
      refine ⟨?_, P.out⟩
      rw [HF.out]
      show Ending.returned (Value.bool _) = Ending.returned (Value.bool _)
      congr 2
end Go.Proofs.YthjdnidapbhdlaaDoor
