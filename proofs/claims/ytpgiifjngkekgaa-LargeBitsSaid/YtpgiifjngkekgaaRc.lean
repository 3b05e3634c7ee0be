import Derived.Test.YtpgiifjngkekgaaWg
import Derived.Deep.RegionHeld3
import Derived.Deep.LoopGhost
namespace Go.Proofs.Ytpgiifjngkekgaa
open Go.RowKit

set_option maxHeartbeats 400000 in
set_option maxRecDepth 100000 in
theorem refValid_c (s : Bool) (A : Option Addr) (n c : Nat) (xs : List Nat) (w : World) (h : Rd w A n xs) :
    Calls Try.prog 16 #[.agg #[.bool s, .slice A n c]] w fun e w' => e = .returned (.bool (validB s xs)) ∧ Below w.heap.size w w' := by
  have hl := h.len
  rcases Nat.eq_zero_or_pos n with h0 | h0
  · subst h0
    have H := Lib.hid (show validB s xs = !s by unfold validB; rw [if_pos hl])
    clear hl
    go_enter Try.func16, Try.ntmps16
    go_wp2
    go_ret
    exact ⟨by rw [H.out]; rfl, (Below.refl _ _).alloc (Nat.le_refl _) _⟩
  · obtain ⟨b, o, rfl, hb, hcell⟩ := h.of h0
    have t0 : ((n : Int) == 0) = false := by rw [beq_eq_false_iff_ne]; omega
    by_cases hn : n ≤ 4096
    · obtain ⟨j, rfl⟩ : ∃ j, n = j + 1 := ⟨n - 1, by omega⟩
      clear t0
      have t0 : ((j : Int) + 1 == 0) = false := by rw [beq_eq_false_iff_ne]; omega
      have hcj := hcell j (by omega)
      have hx1 := small_get h.sm j
      obtain ⟨x, hx⟩ : ∃ x, x = xs.getD j 0 := ⟨_, rfl⟩
      rw [← hx] at hcj hx1
      have hcj2 : ∀ o1, (w.alloc o1).cell? ⟨b, o + j, none⟩ = some (.int .u32 (x : Int)) := fun o1 => (World.cell?_alloc_lt w o1 ⟨b, o + j, none⟩ hb).trans hcj
      have HV := Lib.hid (show validB s xs = decide (x ≠ 0) by unfold validB; rw [if_neg (by omega), hl, Nat.add_sub_cancel, ← hx]; simp [hn])
      clear hx hl hcell hcj
      by_cases hx0 : x = 0
      · have t : ((x : Int) != 0) = false := by subst hx0; rfl
        have HV2 := Lib.hid (show decide (x ≠ 0) = false by simp [hx0])
        clear hx0
        go_enter Try.func16, Try.ntmps16
        go_wp2
        go_ret
        exact ⟨by rw [HV.out, HV2.out]; rfl, (Below.refl _ _).alloc (Nat.le_refl _) _⟩
      · have t : ((x : Int) != 0) = true := by rw [bne_iff_ne]; omega
        have HV2 := Lib.hid (show decide (x ≠ 0) = true by simp [hx0])
        clear hx0
        go_enter Try.func16, Try.ntmps16
        go_wp2
        go_ret
        exact ⟨by rw [HV.out, HV2.out]; rfl, (Below.refl _ _).alloc (Nat.le_refl _) _⟩
    · have HV := Lib.hid (show validB s xs = false by unfold validB; rw [if_neg (by omega), hl]; simp; omega)
      clear hl hcell
      go_enter Try.func16, Try.ntmps16
      go_wp2
      go_ret
      exact ⟨by rw [HV.out]; rfl, (Below.refl _ _).alloc (Nat.le_refl _) _⟩


/-- the numbers of a list in block g -/
structure Numbers (w : World) (g N : Nat) (s : Nat → Bool) (A : Nat → Option Addr) (n c : Nat → Nat) (xs : Nat → List Nat) : Prop where
  lt : g < w.heap.size
  c0 : ∀ i, i < N → w.cell? ⟨g, i * 2, none⟩ = some (.bool (s i))
  c1 : ∀ i, i < N → w.cell? ⟨g, i * 2 + 1, none⟩ = some (.slice (A i) (n i) (c i))
  rd : ∀ i, i < N → Rd w (A i) (n i) (xs i)
theorem Numbers.next {w w' : World} {g N : Nat} {s : Nat → Bool} {A : Nat → Option Addr} {n c : Nat → Nat} {xs : Nat → List Nat} (h : Numbers w g N s A n c xs) (hb : Below w.heap.size w w') : Numbers w' g N s A n c xs :=
  ⟨Nat.lt_of_lt_of_le h.lt hb.size, fun i hi => (hb.cell (p := ⟨g, i * 2, none⟩) h.lt).trans (h.c0 i hi), fun i hi => (hb.cell (p := ⟨g, i * 2 + 1, none⟩) h.lt).trans (h.c1 i hi), fun i hi => (h.rd i hi).below hb⟩

set_option maxHeartbeats 1000000 in
theorem light_c (most g N : Nat) (s : Nat → Bool) (A : Nat → Option Addr) (n c : Nat → Nat) (xs : Nat → List Nat) (w : World) (h : Numbers w g N s A n c xs) (hN : N < 1000) :
    Calls Try.prog 40 #[.int .i64 (most : Int), .slice (some ⟨g, 0, none⟩) N N] w fun e w' => e = .returned (.bool (decide (∀ i, i < N → n i ≤ most ∧ validB (s i) (xs i) = true))) ∧ Below w.heap.size w w' := by
  go_enter Try.func40, Try.ntmps40
  go_wp2
  have H1 := Lib.hid h
  go_loopw [5] (fun v wr => ∃ i : Nat, v = .int .i64 i ∧ i ≤ N ∧ Below w.heap.size w wr ∧ ∀ j, j < i → n j ≤ most ∧ validB (s j) (xs j) = true) (fun v _ => N - (intOf v).toNat)
  case atStart => exact ⟨0, rfl, Nat.zero_le _, Below.refl _ _, fun j hj => by omega⟩
  case round =>
    obtain ⟨i, rfl, hi, hb, ha⟩ := hrel
    have HA := Lib.hid ha
    have HB := Lib.hid hb
    clear ha
    by_cases hin : i < N
    · have h2 := H1.out.next hb
      have c0 := h2.c0 i hin
      have c1 := h2.c1 i hin
      have r := h2.rd i hin
      obtain ⟨s', hs⟩ : ∃ s', s' = s i := ⟨_, rfl⟩
      obtain ⟨A', hA⟩ : ∃ A', A' = A i := ⟨_, rfl⟩
      obtain ⟨n', hn⟩ : ∃ n', n' = n i := ⟨_, rfl⟩
      obtain ⟨c', hc⟩ : ∃ c', c' = c i := ⟨_, rfl⟩
      obtain ⟨xs', hxs⟩ : ∃ xs', xs' = xs i := ⟨_, rfl⟩
      rw [← hs] at c0
      rw [← hA, ← hn, ← hc] at c1
      rw [← hA, ← hn, ← hxs] at r
      have HE := Lib.hid (show (n i ≤ most ∧ validB (s i) (xs i) = true) ↔ (n' ≤ most ∧ validB s' xs' = true) by rw [hs, hn, hxs])
      clear h2 hs hA hn hc hxs hb h
      by_cases hm : n' ≤ most
      · obtain ⟨v, hv⟩ : ∃ v, v = validB s' xs' := ⟨_, rfl⟩
        rw [← hv] at HE
        go_wp2_with fail
        refine (refValid_c s' A' n' c' xs' _ r).mono ?_
        rintro e w2 ⟨rfl, b2⟩
        rw [← hv]
        have HB2 := Lib.hid (HB.out.trans (b2.mono HB.out.size))
        clear c0 c1 r b2 hv HB
        rcases v with _ | _
        · have HF := Lib.hid (show decide (∀ i, i < N → n i ≤ most ∧ validB (s i) (xs i) = true) = false from decide_eq_false fun h => by
            have := (HE.out.1 (h i hin)).2
            cases this)
          go_wp2
          go_ret
          exact ⟨by rw [HF.out]; rfl, HB2.out⟩
        · go_wp2
          go_roundw
          case measure => simp [intOf]; omega
          case rel => exact ⟨i + 1, by go_num, by omega, HB2.out, fun j hj => by
            by_cases hji : j = i
            · subst hji; exact HE.out.2 ⟨hm, by trivial⟩
            · exact HA.out j (by omega)⟩
      · have HF := Lib.hid (show decide (∀ i, i < N → n i ≤ most ∧ validB (s i) (xs i) = true) = false from decide_eq_false fun h => hm (HE.out.1 (h i hin)).1)
        go_wp2
        go_ret
        exact ⟨by rw [HF.out]; rfl, HB.out⟩
    · have HF := Lib.hid (show decide (∀ i, i < N → n i ≤ most ∧ validB (s i) (xs i) = true) = true from decide_eq_true fun j hj => HA.out j (by omega))
      go_wp2
      go_ret
      exact ⟨by rw [HF.out]; rfl, HB.out⟩
end Go.Proofs.Ytpgiifjngkekgaa
