import Derived.Test.YthjdnidapbhdlaaDoorWg
import Derived.Deep.RegionHeld3
namespace Go.Proofs.YthjdnidapbhdlaaDoor
open Go.RowKit

theorem valid_canon {s : Bool} {xs : List Nat} (hs : small xs) (h : validB s xs = true) : canon xs ∧ xs.length ≤ 4096 ∧ (val xs = 0 → s = false) := by
  unfold validB at h
  split at h
  · rename_i h0
    have : xs = [] := List.eq_nil_of_length_eq_zero h0
    subst this
    exact ⟨⟨hs, by simp⟩, by simp, fun _ => by simpa using h⟩
  · rename_i h0
    simp only [Bool.and_eq_true, decide_eq_true_eq] at h
    have hc : canon xs := by
      refine ⟨hs, fun hl => h.2 ?_⟩
      rw [List.getLast?_eq_getElem?] at hl
      rw [List.getD_eq_getElem?_getD, hl]; rfl
    refine ⟨hc, h.1, fun hv => ?_⟩
    have := words_val hc
    rw [hv, words_zero] at this
    rw [← this] at h0
    exact absurd rfl h0

theorem swap_cells {w : World} {g g' : Nat} (hne : g ≠ g') {x0 x1 y0 y1 a b c d : Value} (h0 : w.cell? ⟨g, 0, none⟩ = some x0) (h1 : w.cell? ⟨g, 1, none⟩ = some x1) (k0 : w.cell? ⟨g', 0, none⟩ = some y0) (k1 : w.cell? ⟨g', 1, none⟩ = some y1) {W : World}
    (hW : (((w.setCell ⟨g, 0, none⟩ a).setCell ⟨g, 1, none⟩ b).setCell ⟨g', 0, none⟩ c).setCell ⟨g', 1, none⟩ d = W) :
    W.cell? ⟨g, 0, none⟩ = some a ∧ W.cell? ⟨g, 1, none⟩ = some b ∧ W.cell? ⟨g', 0, none⟩ = some c ∧ W.cell? ⟨g', 1, none⟩ = some d ∧ (∀ i o, i ≠ g → i ≠ g' → W.cell? ⟨i, o, none⟩ = w.cell? ⟨i, o, none⟩ ∧ W.frozen? ⟨i, o, none⟩ = w.frozen? ⟨i, o, none⟩) ∧ W.heap.size = w.heap.size := by
  have A1 : ∀ i o, i ≠ g → (((w.setCell ⟨g, 0, none⟩ a).setCell ⟨g, 1, none⟩ b)).cell? ⟨i, o, none⟩ = w.cell? ⟨i, o, none⟩ := fun i o hi => by
    rw [World.cell?_setCell_other _ _ _ _ (fun e => hi (by injection e with e1; exact e1.symm)), World.cell?_setCell_other _ _ _ _ (fun e => hi (by injection e with e1; exact e1.symm))]
  have A2 : ∀ (v : World) i o, i ≠ g' → (((v.setCell ⟨g', 0, none⟩ c).setCell ⟨g', 1, none⟩ d)).cell? ⟨i, o, none⟩ = v.cell? ⟨i, o, none⟩ := fun v i o hi => by
    rw [World.cell?_setCell_other _ _ _ _ (fun e => hi (by injection e with e1; exact e1.symm)), World.cell?_setCell_other _ _ _ _ (fun e => hi (by injection e with e1; exact e1.symm))]
  have B : ∀ (v : World) i o x0 x1 p q, v.cell? ⟨i, 0, none⟩ = some x0 → v.cell? ⟨i, 1, none⟩ = some x1 → o = o → ((v.setCell ⟨i, 0, none⟩ p).setCell ⟨i, 1, none⟩ q).cell? ⟨i, 0, none⟩ = some p ∧ ((v.setCell ⟨i, 0, none⟩ p).setCell ⟨i, 1, none⟩ q).cell? ⟨i, 1, none⟩ = some q := fun v i (o : Nat) x0 x1 p q e0 e1 _ => by
    have f1 : (v.setCell ⟨i, 0, none⟩ p).cell? ⟨i, 1, none⟩ = some x1 := by rw [World.cell?_setCell_other _ _ _ _ (by simp)]; exact e1
    exact ⟨by rw [World.cell?_setCell_other _ _ _ _ (by simp)]; exact World.cell?_setCell_same _ _ _ e0, World.cell?_setCell_same _ _ _ f1⟩
  subst hW
  have b1 := B w g 0 _ _ a b h0 h1 rfl
  have b2 := B _ g' 0 _ _ c d ((A1 g' 0 (Ne.symm hne)).trans k0) ((A1 g' 1 (Ne.symm hne)).trans k1) rfl
  refine ⟨(A2 _ _ _ hne).trans b1.1, (A2 _ _ _ hne).trans b1.2, b2.1, b2.2, fun i o h1 h2 => ⟨(A2 _ _ _ h2).trans (A1 _ _ h1), ?_⟩, by simp [World.setCell]⟩
  simp [World.frozen?, World.setCell, Array.getElem?_modify, Ne.symm h1, Ne.symm h2]

end Go.Proofs.YthjdnidapbhdlaaDoor
namespace Go.Proofs.YthjdnidapbhdlaaDoor
open Go.RowKit

/-- two numbers in boxes, and a result's cells, behind the world w -/
structure Env (w W : World) (s s' : Bool) (A A' : Option Addr) (n c n' c' : Nat) : Prop where
  size : w.heap.size + 3 ≤ W.heap.size
  a0 : W.cell? ⟨w.heap.size, 0, none⟩ = some (.bool s)
  a1 : W.cell? ⟨w.heap.size, 1, none⟩ = some (.slice A n c)
  b0 : W.cell? ⟨w.heap.size + 1, 0, none⟩ = some (.bool s')
  b1 : W.cell? ⟨w.heap.size + 1, 1, none⟩ = some (.slice A' n' c')
  r0 : W.cell? ⟨w.heap.size + 1 + 1, 0, none⟩ = some (.bool false)
  r1 : W.cell? ⟨w.heap.size + 1 + 1, 1, none⟩ = some (.slice none 0 0)
  f0 : W.frozen? ⟨w.heap.size + 1 + 1, 0, none⟩ = false
  f1 : W.frozen? ⟨w.heap.size + 1 + 1, 1, none⟩ = false
  below : Below w.heap.size w W
theorem Env.start (w : World) (s s' : Bool) (A A' : Option Addr) (n c n' c' : Nat) :
    Env w (((w.alloc (.cells #[.bool s, .slice A n c] 24)).alloc (.cells #[.bool s', .slice A' n' c'] 24)).alloc (.cells #[.bool false, .slice none 0 0] 24)) s s' A A' n c n' c' :=
  ⟨by simp, by go_simp, by go_simp, by go_simp, by go_simp, by go_simp, by go_simp, by go_simp, by go_simp, ((((Below.refl _ _).alloc (Nat.le_refl _) _).alloc (by simp) _).alloc (by simp; omega) _)⟩
theorem Env.next {w W w1 : World} {s s' : Bool} {A A' : Option Addr} {n c n' c' : Nat} (h : Env w W s s' A A' n c n' c') (hb : Below W.heap.size W w1) : Env w w1 s s' A A' n c n' c' := by
  have hz := h.size
  have hz1 := hb.size
  exact ⟨by omega, (hb.cell (p := ⟨w.heap.size, 0, none⟩) (by simp; omega)).trans h.a0, (hb.cell (p := ⟨w.heap.size, 1, none⟩) (by simp; omega)).trans h.a1,
    (hb.cell (p := ⟨w.heap.size + 1, 0, none⟩) (by simp; omega)).trans h.b0, (hb.cell (p := ⟨w.heap.size + 1, 1, none⟩) (by simp; omega)).trans h.b1,
    (hb.cell (p := ⟨w.heap.size + 1 + 1, 0, none⟩) (by simp; omega)).trans h.r0, (hb.cell (p := ⟨w.heap.size + 1 + 1, 1, none⟩) (by simp; omega)).trans h.r1,
    (hb.frozen (p := ⟨w.heap.size + 1 + 1, 0, none⟩) (by simp; omega)).trans h.f0, (hb.frozen (p := ⟨w.heap.size + 1 + 1, 1, none⟩) (by simp; omega)).trans h.f1,
    h.below.trans (hb.mono (by omega))⟩
theorem Env.alloc {w W : World} {s s' : Bool} {A A' : Option Addr} {n c n' c' : Nat} (h : Env w W s s' A A' n c n' c') (o : Obj) : Env w (W.alloc o) s s' A A' n c n' c' :=
  h.next ((Below.refl _ _).alloc (Nat.le_refl _) o)
theorem Env.drewN {w W : World} {s s' : Bool} {A A' : Option Addr} {n c n' c' : Nat} (h : Env w W s s' A A' n c n' c') (k : Nat) : Env w (W.drewN k) s s' A A' n c n' c' :=
  h.next (below_drewN (Below.refl _ _) k)

theorem sgn_not (b : Bool) (v : Nat) : sgn (!b) v = -sgn b v := by cases b <;> simp [sgn]

/-- 0 and an error -/
def Bad (w : World) (k : Int) (e : Ending) (w' : World) : Prop := e = .returned (.tuple #[.agg #[.bool false, .slice none 0 0], .int .i64 k]) ∧ Below w.heap.size w w'
/-- two numbers in boxes -/
structure Env2 (w W : World) (s s' : Bool) (A A' : Option Addr) (n c n' c' : Nat) : Prop where
  size : w.heap.size + 2 ≤ W.heap.size
  a0 : W.cell? ⟨w.heap.size, 0, none⟩ = some (.bool s)
  a1 : W.cell? ⟨w.heap.size, 1, none⟩ = some (.slice A n c)
  b0 : W.cell? ⟨w.heap.size + 1, 0, none⟩ = some (.bool s')
  b1 : W.cell? ⟨w.heap.size + 1, 1, none⟩ = some (.slice A' n' c')
  below : Below w.heap.size w W
theorem Env2.start (w : World) (s s' : Bool) (A A' : Option Addr) (n c n' c' : Nat) :
    Env2 w ((w.alloc (.cells #[.bool s, .slice A n c] 24)).alloc (.cells #[.bool s', .slice A' n' c'] 24)) s s' A A' n c n' c' :=
  ⟨by simp, by go_simp, by go_simp, by go_simp, by go_simp, (((Below.refl _ _).alloc (Nat.le_refl _) _).alloc (by simp) _)⟩
theorem Env2.next {w W w1 : World} {s s' : Bool} {A A' : Option Addr} {n c n' c' : Nat} (h : Env2 w W s s' A A' n c n' c') (hb : Below W.heap.size W w1) : Env2 w w1 s s' A A' n c n' c' := by
  have hz := h.size
  have hz1 := hb.size
  exact ⟨by omega, (hb.cell (p := ⟨w.heap.size, 0, none⟩) (by simp; omega)).trans h.a0, (hb.cell (p := ⟨w.heap.size, 1, none⟩) (by simp; omega)).trans h.a1,
    (hb.cell (p := ⟨w.heap.size + 1, 0, none⟩) (by simp; omega)).trans h.b0, (hb.cell (p := ⟨w.heap.size + 1, 1, none⟩) (by simp; omega)).trans h.b1,
    h.below.trans (hb.mono (by omega))⟩
theorem Env2.alloc {w W : World} {s s' : Bool} {A A' : Option Addr} {n c n' c' : Nat} (h : Env2 w W s s' A A' n c n' c') (o : Obj) : Env2 w (W.alloc o) s s' A A' n c n' c' :=
  h.next ((Below.refl _ _).alloc (Nat.le_refl _) o)

theorem ord_sgn (s s' : Bool) (X Y : Nat) (h : X = 0 → s = false) (h' : Y = 0 → s' = false) :
    ord (sgn s X) (sgn s' Y) = if s && !s' then -1 else if s' && !s then 1 else if s then ord (Y : Int) (X : Int) else ord (X : Int) (Y : Int) := by
  cases s <;> cases s' <;> simp [sgn]
  · have : Y ≠ 0 := fun e => by simp [e] at h'
    exact ord_gt (by omega)
  · have : X ≠ 0 := fun e => by simp [e] at h
    exact ord_lt (by omega)
  · rcases Nat.lt_trichotomy X Y with h1 | h1 | h1
    · rw [ord_gt (by omega), ord_gt (by omega)]
    · rw [ord_eq (by omega), ord_eq (by omega)]
    · rw [ord_lt (by omega), ord_lt (by omega)]

end Go.Proofs.YthjdnidapbhdlaaDoor
