import Derived.Test.YtmgkgomecakoiaaWh
namespace Go.Proofs.Ytmgkgomecakoiaa
open Go.RowKit

theorem Rd.set_other {w : World} {A : Option Addr} {n : Nat} {xs : List Nat} (h : Rd w A n xs) {p : Addr} {v : Value} (hp : w.cell? p = some v) (hv : ∀ z, v ≠ .int .u32 z) (u : Value) : Rd (w.setCell p u) A n xs :=
  ⟨h.len, h.sm, fun hn => by
    obtain ⟨b, o, e, hb, hc⟩ := h.at_ hn
    refine ⟨b, o, e, by simpa [World.setCell] using hb, fun k hk => ?_⟩
    rw [World.cell?_setCell_other]
    · exact hc k hk
    · intro he
      rw [he, hc k hk] at hp
      injection hp with hp
      exact hv _ hp.symm⟩
theorem NumIs.set_other {w : World} {z k : Int} {t : Bool} {B : Option Addr} {m d : Nat} (h : NumIs w z t B m d k) {p : Addr} {v : Value} (hp : w.cell? p = some v) (hv : ∀ z, v ≠ .int .u32 z) (u : Value) : NumIs (w.setCell p u) z t B m d k :=
  ⟨fun hl => by obtain ⟨a, b, c, r, x, y⟩ := h.1 hl; exact ⟨a, b, c, r.set_other hp hv u, x, y⟩, h.2⟩
theorem Rd.store {w : World} {A : Option Addr} {n : Nat} {xs : List Nat} (h : Rd w A n xs) {g : Nat} {x : Bool} {a : Option Addr} {i j : Nat} (h0 : w.cell? ⟨g, 0, none⟩ = some (.bool x)) (h1 : w.cell? ⟨g, 1, none⟩ = some (.slice a i j)) (u v : Value) :
    Rd ((w.setCell ⟨g, 0, none⟩ u).setCell ⟨g, 1, none⟩ v) A n xs :=
  (h.set_other h0 (fun _ e => by cases e) u).set_other (v := .slice a i j) (by rw [World.cell?_setCell_other _ _ _ _ (by simp)]; exact h1) (fun _ e => by cases e) v
/-- the result's own cells are written -/
theorem NumIs.store {w : World} {z k : Int} {t : Bool} {B : Option Addr} {m d : Nat} (h : NumIs w z t B m d k) {g : Nat} {x : Bool} {a : Option Addr} {i j : Nat} (h0 : w.cell? ⟨g, 0, none⟩ = some (.bool x)) (h1 : w.cell? ⟨g, 1, none⟩ = some (.slice a i j)) (u v : Value) :
    NumIs ((w.setCell ⟨g, 0, none⟩ u).setCell ⟨g, 1, none⟩ v) z t B m d k :=
  (h.set_other h0 (fun _ e => by cases e) u).set_other (v := .slice a i j) (by rw [World.cell?_setCell_other _ _ _ _ (by simp)]; exact h1) (fun _ e => by cases e) v
theorem below_store {w w' : World} {B : Nat} (h : Below B w w') {g : Nat} (hg : B ≤ g) (u v : Value) : Below B w ((w'.setCell ⟨g, 0, none⟩ u).setCell ⟨g, 1, none⟩ v) :=
  (h.setCell (p := ⟨g, 0, none⟩) hg u).setCell (p := ⟨g, 1, none⟩) hg v

theorem cell_two {w : World} {g b o : Nat} {u v x : Value} (hne : g ≠ b) (h : w.cell? ⟨b, o, none⟩ = some x) : ((w.setCell ⟨g, 0, none⟩ u).setCell ⟨g, 1, none⟩ v).cell? ⟨b, o, none⟩ = some x := by
  rw [World.cell?_setCell_other _ _ _ _ (fun e => hne (by injection e)), World.cell?_setCell_other _ _ _ _ (fun e => hne (by injection e))]
  exact h

/-- whether a number with a sign and words is valid -/
def validB (s : Bool) (xs : List Nat) : Bool := if xs.length = 0 then !s else decide (xs.length ≤ 4096) && decide (xs.getD (xs.length - 1) 0 ≠ 0)

set_option maxHeartbeats 400000 in
set_option maxRecDepth 100000 in
theorem valid_c (s : Bool) (A : Option Addr) (n c : Nat) (xs : List Nat) (w : World) (h : Rd w A n xs) :
    Calls Try.prog 15 #[.agg #[.bool s, .slice A n c]] w fun e w' => e = .returned (.bool (validB s xs)) ∧ Below w.heap.size w w' := by
  have hl := h.len
  rcases Nat.eq_zero_or_pos n with h0 | h0
  · subst h0
    have H := Lib.hid (show validB s xs = !s by unfold validB; rw [if_pos hl])
    clear hl
    go_enter Try.func15, Try.ntmps15
    go_wp2
    go_ret
    exact ⟨by rw [H.out]; rfl, (Below.refl _ _).alloc (Nat.le_refl _) _⟩
  · obtain ⟨b, o, rfl, hb, hcell⟩ := h.of h0
    have t0 : ((n : Int) == 0) = false := by rw [beq_eq_false_iff_ne]; omega
    by_cases hn : n ≤ 4096
    · obtain ⟨j, rfl⟩ : ∃ j, n = j + 1 := ⟨n - 1, by omega⟩
      clear t0
      have t0 : ((j : Int) + 1 == 0) = false := by rw [beq_eq_false_iff_ne]; omega
      have hcj := hcell j (by omega)
      have hx1 := small_get h.sm j
      obtain ⟨x, hx⟩ : ∃ x, x = xs.getD j 0 := ⟨_, rfl⟩
      rw [← hx] at hcj hx1
      have hcj2 : ∀ o1, (w.alloc o1).cell? ⟨b, o + j, none⟩ = some (.int .u32 (x : Int)) := fun o1 => (World.cell?_alloc_lt w o1 ⟨b, o + j, none⟩ hb).trans hcj
      have HV := Lib.hid (show validB s xs = decide (x ≠ 0) by unfold validB; rw [if_neg (by omega), hl, Nat.add_sub_cancel, ← hx]; simp [hn])
      clear hx hl hcell hcj
      by_cases hx0 : x = 0
      · have t : ((x : Int) != 0) = false := by subst hx0; rfl
        have HV2 := Lib.hid (show decide (x ≠ 0) = false by simp [hx0])
        clear hx0
        go_enter Try.func15, Try.ntmps15
        go_wp2
        go_ret
        exact ⟨by rw [HV.out, HV2.out]; rfl, (Below.refl _ _).alloc (Nat.le_refl _) _⟩
      · have t : ((x : Int) != 0) = true := by rw [bne_iff_ne]; omega
        have HV2 := Lib.hid (show decide (x ≠ 0) = true by simp [hx0])
        clear hx0
        go_enter Try.func15, Try.ntmps15
        go_wp2
        go_ret
        exact ⟨by rw [HV.out, HV2.out]; rfl, (Below.refl _ _).alloc (Nat.le_refl _) _⟩
    · have HV := Lib.hid (show validB s xs = false by unfold validB; rw [if_neg (by omega), hl]; simp; omega)
      clear hl hcell
      go_enter Try.func15, Try.ntmps15
      go_wp2
      go_ret
      exact ⟨by rw [HV.out]; rfl, (Below.refl _ _).alloc (Nat.le_refl _) _⟩

set_option maxHeartbeats 1000000 in
theorem allValid_c (g : Nat) (s s' : Bool) (A A' : Option Addr) (n c n' c' : Nat) (xs ys : List Nat) (w : World) (h : Rd w A n xs) (h' : Rd w A' n' ys) (hg : g < w.heap.size)
    (c0 : w.cell? ⟨g, 0, none⟩ = some (.bool s)) (c1 : w.cell? ⟨g, 1, none⟩ = some (.slice A n c)) (c2 : w.cell? ⟨g, 2, none⟩ = some (.bool s')) (c3 : w.cell? ⟨g, 3, none⟩ = some (.slice A' n' c')) :
    Calls Try.prog 47 #[.slice (some ⟨g, 0, none⟩) 2 2] w fun e w' => e = .returned (.bool (validB s xs && validB s' ys)) ∧ Below w.heap.size w w' := by
  go_enter Try.func47, Try.ntmps47
  go_wp2
  go_loopw [7] (fun i wr => Below w.heap.size w wr ∧ (i = .int .i64 0 ∨ (i = .int .i64 1 ∧ validB s xs = true) ∨ (i = .int .i64 2 ∧ validB s xs = true ∧ validB s' ys = true))) (fun i _ => (2 - intOf i).toNat)
  case atStart => exact ⟨Below.refl _ _, .inl rfl⟩
  case round =>
    obtain ⟨hW, hi⟩ := hrel
    have d0 := (hW.cell (p := ⟨g, 0, none⟩) hg).trans c0
    have d1 := (hW.cell (p := ⟨g, 1, none⟩) hg).trans c1
    have d2 := (hW.cell (p := ⟨g, 2, none⟩) hg).trans c2
    have d3 := (hW.cell (p := ⟨g, 3, none⟩) hg).trans c3
    clear c0 c1 c2 c3
    have hx := h.below hW
    have hy := h'.below hW
    have hz := hW.size
    rcases hi with rfl | ⟨rfl, v1'⟩ | ⟨rfl, v1', v2'⟩
    · go_wp2_with fail
      refine (valid_c s A n c xs _ (hx.alloc _)).mono ?_
      rintro e w1 ⟨rfl, hb⟩
      have HB := Lib.hid ((hW.alloc hz (.cells #[.bool s, .slice A n c] 24)).trans (hb.mono (by simp; omega)))
      have hz1 := hb.size
      clear hb hW
      obtain ⟨v, hv⟩ : ∃ v, v = validB s xs := ⟨_, rfl⟩
      rw [← hv]
      have HV := Lib.hid hv.symm
      clear hv
      cases v
      · go_wp2
        go_ret
        exact ⟨by rw [HV.out]; rfl, HB.out⟩
      · go_wp2
        go_roundw
        case measure => simp [intOf]
        case rel => exact ⟨HB.out, .inr (.inl ⟨rfl, HV.out⟩)⟩
    · have v1 := Lib.hid v1'
      clear v1'
      go_wp2_with fail
      refine (valid_c s' A' n' c' ys _ (hy.alloc _)).mono ?_
      rintro e w1 ⟨rfl, hb⟩
      have HB := Lib.hid ((hW.alloc hz (.cells #[.bool s', .slice A' n' c'] 24)).trans (hb.mono (by simp; omega)))
      have hz1 := hb.size
      clear hb hW
      obtain ⟨v, hv⟩ : ∃ v, v = validB s' ys := ⟨_, rfl⟩
      rw [← hv]
      have HV := Lib.hid hv.symm
      clear hv
      cases v
      · go_wp2
        go_ret
        exact ⟨by rw [v1.out, HV.out]; rfl, HB.out⟩
      · go_wp2
        go_roundw
        case measure => simp [intOf]
        case rel => exact ⟨HB.out, .inr (.inr ⟨rfl, v1.out, HV.out⟩)⟩
    · have v1 := Lib.hid v1'
      have v2 := Lib.hid v2'
      clear v1' v2'
      have HB := Lib.hid hW
      go_wp2
      go_ret
      exact ⟨by rw [v1.out, v2.out]; rfl, HB.out⟩
end Go.Proofs.Ytmgkgomecakoiaa
