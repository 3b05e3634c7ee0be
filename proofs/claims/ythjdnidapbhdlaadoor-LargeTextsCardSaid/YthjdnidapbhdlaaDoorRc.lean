import Derived.Test.YthjdnidapbhdlaaDoorWg
import Derived.Deep.RegionHeld3
import Derived.Deep.LoopGhost
namespace Go.Proofs.YthjdnidapbhdlaaDoor
open Go.RowKit

set_option maxHeartbeats 400000 in
set_option maxRecDepth 100000 in
theorem refValid_c (s : Bool) (A : Option Addr) (n c : Nat) (xs : List Nat) (w : World) (h : Rd w A n xs) :
    Calls Tryd.prog 18 #[.agg #[.bool s, .slice A n c]] w fun e w' => e = .returned (.bool (validB s xs)) ∧ Below w.heap.size w w' := by
  have hl := h.len
  rcases Nat.eq_zero_or_pos n with h0 | h0
  · subst h0
    have H := Lib.hid (show validB s xs = !s by unfold validB; rw [if_pos hl])
    clear hl
    go_enter Tryd.func18, Tryd.ntmps18
    go_wp2
    go_ret
    exact ⟨by rw [H.out]; rfl, (Below.refl _ _).alloc (Nat.le_refl _) _⟩
  · obtain ⟨b, o, rfl, hb, hcell⟩ := h.of h0
    have t0 : ((n : Int) == 0) = false := by rw [beq_eq_false_iff_ne]; omega
    by_cases hn : n ≤ 4096
    · obtain ⟨j, rfl⟩ : ∃ j, n = j + 1 := ⟨n - 1, by omega⟩
      clear t0
      have t0 : ((j : Int) + 1 == 0) = false := by rw [beq_eq_false_iff_ne]; omega
      have hcj := hcell j (by omega)
      have hx1 := small_get h.sm j
      obtain ⟨x, hx⟩ : ∃ x, x = xs.getD j 0 := ⟨_, rfl⟩
      rw [← hx] at hcj hx1
      have hcj2 : ∀ o1, (w.alloc o1).cell? ⟨b, o + j, none⟩ = some (.int .u32 (x : Int)) := fun o1 => (World.cell?_alloc_lt w o1 ⟨b, o + j, none⟩ hb).trans hcj
      have HV := Lib.hid (show validB s xs = decide (x ≠ 0) by unfold validB; rw [if_neg (by omega), hl, Nat.add_sub_cancel, ← hx]; simp [hn])
      clear hx hl hcell hcj
      by_cases hx0 : x = 0
      · have t : ((x : Int) != 0) = false := by subst hx0; rfl
        have HV2 := Lib.hid (show decide (x ≠ 0) = false by simp [hx0])
        clear hx0
        go_enter Tryd.func18, Tryd.ntmps18
        go_wp2
        go_ret
        exact ⟨by rw [HV.out, HV2.out]; rfl, (Below.refl _ _).alloc (Nat.le_refl _) _⟩
      · have t : ((x : Int) != 0) = true := by rw [bne_iff_ne]; omega
        have HV2 := Lib.hid (show decide (x ≠ 0) = true by simp [hx0])
        clear hx0
        go_enter Tryd.func18, Tryd.ntmps18
        go_wp2
        go_ret
        exact ⟨by rw [HV.out, HV2.out]; rfl, (Below.refl _ _).alloc (Nat.le_refl _) _⟩
    · have HV := Lib.hid (show validB s xs = false by unfold validB; rw [if_neg (by omega), hl]; simp; omega)
      clear hl hcell
      go_enter Tryd.func18, Tryd.ntmps18
      go_wp2
      go_ret
      exact ⟨by rw [HV.out]; rfl, (Below.refl _ _).alloc (Nat.le_refl _) _⟩


/-- the numbers of a list in block g -/
structure Numbers (w : World) (g N : Nat) (s : Nat → Bool) (A : Nat → Option Addr) (n c : Nat → Nat) (xs : Nat → List Nat) : Prop where
  lt : g < w.heap.size
  c0 : ∀ i, i < N → w.cell? ⟨g, i * 2, none⟩ = some (.bool (s i))
  c1 : ∀ i, i < N → w.cell? ⟨g, i * 2 + 1, none⟩ = some (.slice (A i) (n i) (c i))
  rd : ∀ i, i < N → Rd w (A i) (n i) (xs i)
theorem Numbers.next {w w' : World} {g N : Nat} {s : Nat → Bool} {A : Nat → Option Addr} {n c : Nat → Nat} {xs : Nat → List Nat} (h : Numbers w g N s A n c xs) (hb : Below w.heap.size w w') : Numbers w' g N s A n c xs :=
  ⟨Nat.lt_of_lt_of_le h.lt hb.size, fun i hi => (hb.cell (p := ⟨g, i * 2, none⟩) h.lt).trans (h.c0 i hi), fun i hi => (hb.cell (p := ⟨g, i * 2 + 1, none⟩) h.lt).trans (h.c1 i hi), fun i hi => (h.rd i hi).below hb⟩

end Go.Proofs.YthjdnidapbhdlaaDoor
