import Derived.Test.YtbblckaplddggaaFf
import Derived.Test.YtbblckaplddggaaWl
import Derived.Test.YtbblckaplddggaaMt
import Derived.BigRegion
set_option maxRecDepth 100000
namespace Go.Proofs.Ytbblckaplddggaa
open Go.RowKit
/-- a variable of a number, whatever it holds -/
structure Bx (W : World) (g : Nat) (t : Bool) (A : Option Addr) (n c : Nat) : Prop where
  lt : g < W.heap.size
  c0 : W.cell? ⟨g, 0, none⟩ = some (.bool t)
  c1 : W.cell? ⟨g, 1, none⟩ = some (.slice A n c)
  f0 : W.frozen? ⟨g, 0, none⟩ = false
  f1 : W.frozen? ⟨g, 1, none⟩ = false
section
variable {W W' : World} {g : Nat} {t : Bool} {A : Option Addr} {n c : Nat}
theorem Bx.next (h : Bx W g t A n c) (hb : Below W.heap.size W W') : Bx W' g t A n c :=
  ⟨Nat.lt_of_lt_of_le h.lt hb.size, (hb.cell (p := ⟨g, 0, none⟩) h.lt).trans h.c0, (hb.cell (p := ⟨g, 1, none⟩) h.lt).trans h.c1, (hb.frozen (p := ⟨g, 0, none⟩) h.lt).trans h.f0, (hb.frozen (p := ⟨g, 1, none⟩) h.lt).trans h.f1⟩
theorem Bx.new (W : World) (t : Bool) (A : Option Addr) (n c : Nat) : Bx (W.alloc (.cells #[.bool t, .slice A n c] 24)) W.heap.size t A n c :=
  ⟨by simp, by go_simp, by go_simp, by go_simp, by go_simp⟩
theorem Bx.put0 (h : Bx W g t A n c) (t' : Bool) : Bx (W.setCell ⟨g, 0, none⟩ (.bool t')) g t' A n c := by
  have c0 := h.c0
  have c1 := h.c1
  have f0 := h.f0
  have f1 := h.f1
  exact ⟨by rw [World.size_setCell]; exact h.lt, by go_simp, by go_simp, by go_simp, by go_simp⟩
theorem Bx.put1 (h : Bx W g t A n c) (A' : Option Addr) (n' c' : Nat) : Bx (W.setCell ⟨g, 1, none⟩ (.slice A' n' c')) g t A' n' c' := by
  have c0 := h.c0
  have c1 := h.c1
  have f0 := h.f0
  have f1 := h.f1
  exact ⟨by rw [World.size_setCell]; exact h.lt, by go_simp, by go_simp, by go_simp, by go_simp⟩
theorem Bx.put (h : Bx W g t A n c) (t' : Bool) (A' : Option Addr) (n' c' : Nat) : Bx ((W.setCell ⟨g, 0, none⟩ (.bool t')).setCell ⟨g, 1, none⟩ (.slice A' n' c')) g t' A' n' c' := (h.put0 t').put1 A' n' c'
theorem Bx.off (h : Bx W g t A n c) {p : Addr} (hp : p.block ≠ g) (u : Value) : Bx (W.setCell p u) g t A n c :=
  have e : ∀ i, (⟨g, i, none⟩ : Addr) ≠ p := fun i he => hp (by rw [← he])
  ⟨by rw [World.size_setCell]; exact h.lt, (World.cell?_setCell_other W p ⟨g, 0, none⟩ u (by first | exact e 0 | exact fun he => e 0 he.symm)).trans h.c0, (World.cell?_setCell_other W p ⟨g, 1, none⟩ u (by first | exact e 1 | exact fun he => e 1 he.symm)).trans h.c1, by rw [World.frozen?_setCell]; exact h.f0, by rw [World.frozen?_setCell]; exact h.f1⟩
theorem Bx.far (h : Bx W g t A n c) {g' : Nat} (hne : g' ≠ g) (u v : Value) : Bx ((W.setCell ⟨g', 0, none⟩ u).setCell ⟨g', 1, none⟩ v) g t A n c := (h.off hne u).off hne v
end
theorem cell_dr7 {w : World} {a : Addr} {v : Value} (h : w.cell? a = some v) : w.drew.cell? a = some v := h
theorem Wd.bx {W : World} {V : Nat} {A : Option Addr} {c : Nat} (h : Wd W V A c) {g : Nat} {x : Bool} {a : Option Addr} {i j : Nat} (b : Bx W g x a i j) (u v : Value) : Wd ((W.setCell ⟨g, 0, none⟩ u).setCell ⟨g, 1, none⟩ v) V A c := h.store b.c0 b.c1 u v
theorem Rd.off {W : World} {A : Option Addr} {n : Nat} {xs : List Nat} (h : Rd W A n xs) {p : Addr} {u : Value} (hu : W.cell? p = some u) (hn : ∀ i : Int, u ≠ .int .u32 i) (v : Value) : Rd (W.setCell p v) A n xs :=
  ⟨h.len, h.sm, fun hp => by
    obtain ⟨b, q, hA, hb, hc⟩ := h.at_ hp
    refine ⟨b, q, hA, by rw [World.size_setCell]; exact hb, fun k hk => ?_⟩
    have hne : p ≠ ⟨b, q + k, none⟩ := fun he => by
      have h1 := hc k hk
      rw [← he, hu] at h1
      injection h1 with h1
      exact hn _ h1
    exact (World.cell?_setCell_other W p ⟨b, q + k, none⟩ v (by first | exact hne | exact fun he => hne he.symm)).trans (hc k hk)⟩
theorem Wd.off0 {W : World} {V : Nat} {A : Option Addr} {c : Nat} (h : Wd W V A c) {g : Nat} {x : Bool} {a : Option Addr} {i j : Nat} (b : Bx W g x a i j) (v : Value) : Wd (W.setCell ⟨g, 0, none⟩ v) V A c := ⟨h.rd.off b.c0 (fun _ => by simp) v, h.le, h.top⟩
theorem Wd.off1 {W : World} {V : Nat} {A : Option Addr} {c : Nat} (h : Wd W V A c) {g : Nat} {x : Bool} {a : Option Addr} {i j : Nat} (b : Bx W g x a i j) (v : Value) : Wd (W.setCell ⟨g, 1, none⟩ v) V A c := ⟨h.rd.off b.c1 (fun _ => by simp) v, h.le, h.top⟩
/-- what common returns -/
def ComPost (A B : Nat) (w : World) (e : Ending) (w' : World) : Prop :=
  ∃ (G : Option Addr) (c1 : Nat) (xn : Bool) (X : Option Addr) (c2 xv : Nat) (yn : Bool) (Y : Option Addr) (c3 yv : Nat), e = .returned (.tuple #[.slice G (words (Nat.gcd A B)).length c1, .agg #[.bool xn, .slice X (words xv).length c2], .agg #[.bool yn, .slice Y (words yv).length c3]]) ∧
    Wd w' (Nat.gcd A B) G c1 ∧ Wd w' xv X c2 ∧ Wd w' yv Y c3 ∧ xv ≤ B + 1 ∧ yv ≤ A + 1 ∧ (A : Int) * sgn xn xv + (B : Int) * sgn yn yv = ((Nat.gcd A B : Nat) : Int) ∧ Below w.heap.size w w'
theorem bez_neg {A B g one : Nat} (hB : 0 < B) (hg : g ≤ B) (ho : one ≤ B) {k : Int} (h : (g : Int) = tau true * one * A + B * k) : (A * one + g) / B ≤ A + 1 ∧ (A : Int) * sgn true one + (B : Int) * sgn false ((A * one + g) / B) = (g : Int) := by
  have h1 : (B : Int) * k = ((A * one + g : Nat) : Int) := by
    have : tau true = -1 := rfl
    rw [this] at h
    push_cast
    grind
  have hk : 0 ≤ k := by
    refine Int.not_lt.1 fun hc => ?_
    have := Int.mul_neg_of_pos_of_neg (show (0 : Int) < B by omega) hc
    omega
  obtain ⟨q, rfl⟩ := Int.eq_ofNat_of_zero_le hk
  have h2 : B * q = A * one + g := by exact_mod_cast h1
  rw [← h2, Nat.mul_div_cancel_left _ hB]
  constructor
  · refine Nat.le_of_mul_le_mul_left ?_ hB
    have := Nat.mul_le_mul_left A ho
    rw [h2, Nat.mul_add, Nat.mul_comm B A]
    omega
  · show (A : Int) * -(one : Int) + (B : Int) * (q : Int) = g
    have : (B : Int) * (q : Int) = A * one + g := by exact_mod_cast h2
    rw [this]
    grind
theorem bez_less {A B g one : Nat} (hB : 0 < B) (hg : g ≤ B) {k : Int} (h : (g : Int) = tau false * one * A + B * k) (hl : A * one < g) : (A : Int) * sgn false one + (B : Int) * sgn false 1 = (g : Int) := by
  have h1 : (B : Int) * k = (g : Int) - ((A * one : Nat) : Int) := by
    have : tau false = 1 := rfl
    rw [this] at h
    push_cast
    grind
  have hk : 0 < k := by
    refine Int.not_le.1 fun hc => ?_
    have := Int.mul_nonneg (show (0 : Int) ≤ B by omega) (show 0 ≤ -k by omega)
    rw [Int.mul_neg] at this
    omega
  have hk1 : k = 1 := by
    have := Int.mul_le_mul_of_nonneg_left (show 1 ≤ k by omega) (show (0 : Int) ≤ B by omega)
    rcases Int.lt_or_le k 2 with h2 | h2
    · omega
    · have := Int.mul_le_mul_of_nonneg_left h2 (show (0 : Int) ≤ B by omega)
      omega
  subst hk1
  show (A : Int) * (one : Int) + (B : Int) * 1 = g
  push_cast at h1
  omega
theorem bez_pos {A B g one : Nat} (hB : 0 < B) (ho : one ≤ B) {k : Int} (h : (g : Int) = tau false * one * A + B * k) (hl : g ≤ A * one) : (A * one - g) / B ≤ A + 1 ∧ (A : Int) * sgn false one + (B : Int) * sgn true ((A * one - g) / B) = (g : Int) := by
  have h1 : (B : Int) * -k = ((A * one - g : Nat) : Int) := by
    have : tau false = 1 := rfl
    rw [this] at h
    push_cast [hl]
    grind
  have hk : 0 ≤ -k := by
    refine Int.not_lt.1 fun hc => ?_
    have := Int.mul_neg_of_pos_of_neg (show (0 : Int) < B by omega) hc
    omega
  obtain ⟨q, hq⟩ := Int.eq_ofNat_of_zero_le hk
  rw [hq] at h1
  have h2 : B * q = A * one - g := by exact_mod_cast h1
  rw [← h2, Nat.mul_div_cancel_left _ hB]
  constructor
  · refine Nat.le_of_mul_le_mul_left ?_ hB
    have := Nat.mul_le_mul_left A ho
    rw [h2, Nat.mul_add, Nat.mul_comm B A]
    omega
  · show (A : Int) * (one : Int) + (B : Int) * -(q : Int) = g
    have : (B : Int) * (q : Int) = A * one - g := by rw [h1]; push_cast [hl]; rfl
    rw [Int.mul_neg, this]
    omega
set_option maxHeartbeats 8000000 in
theorem common_zero (A B : Option Addr) (n c m d : Nat) (xs ys : List Nat) (w : World) (ha : Rd w A n xs) (hb : Rd w B m ys) (cx : canon xs) (cy : canon ys) (hn : n ≤ 1000000) (hm : m ≤ 1000000) (h0 : m = 0) (h1 : n = 0) :
    Calls Try.prog 83 #[.slice A n c, .slice B m d] w (ComPost (val xs) (val ys) w) := by
  have hv : val ys = 0 := by
    have := hb.len
    rw [h0] at this
    rw [List.eq_nil_of_length_eq_zero this]; rfl
  rw [hv]
  have k0 := below_alloc w (.cells #[.bool false, .slice none 0 0] 24)
  have k1 := below_alloc (w.alloc (.cells #[.bool false, .slice none 0 0] 24)) (.cells #[.bool false, .slice none 0 0] 24)
  have P := Lib.hid (k0.trans (k1.mono k0.size))
  have X5 := Lib.hid ((Bx.new w false none 0 0).next k1)
  have X6 := Lib.hid (Bx.new (w.alloc (.cells #[.bool false, .slice none 0 0] 24)) false none 0 0)
  rw [World.size_alloc] at X6
  have RA := Lib.hid ((ha.below k0).below k1)
  have RB := Lib.hid ((hb.below k0).below k1)
  have HN := Lib.hid (And.intro hn hm)
  have HC := Lib.hid (And.intro cx cy)
  have HV := Lib.hid (show words (val xs) = xs from words_val cx)
  have HLX := Lib.hid ha.len
  have HH := Lib.hid h1
  subst h1
  subst h0
  clear ha hb cx cy hn hm k0 k1 hv 
  skip
  go_enter Try.func83, Try.ntmps83
  go_upto_region 1 with (fail)
  generalize (w.alloc (.cells #[.bool false, .slice none 0 0] 24)).alloc (.cells #[.bool false, .slice none 0 0] 24) = W0 at P X5 X6 RA RB ⊢
  obtain ⟨g5, hg5⟩ : ∃ g, g = w.heap.size := ⟨_, rfl⟩
  rw [← hg5] at X5 X6 ⊢
  have HG := Lib.hid (show w.heap.size ≤ g5 by omega)
  clear hg5
  go_wp2_with fail
  refine (Of_c 0 _ (by omega) (by omega)).mono ?_
  rintro e w1 ⟨Ao, co, rfl, i1, i2, i3, hb⟩
  have WX := Lib.hid (show Wd w1 0 Ao co from ⟨i1, i2, i3⟩)
  rw [show decide ((0 : Int) < 0) = false from rfl, show ((0 : Int).natAbs) = 0 from rfl]
  replace P := Lib.hid (P.out.trans (hb.mono P.out.size))
  replace X5 := Lib.hid (X5.out.next hb)
  replace X6 := Lib.hid (X6.out.next hb)
  replace RA := Lib.hid (RA.out.below hb)
  clear hb i1 i2 i3 RB
  have p0 := X5.out.c0
  have p1 := X5.out.c1
  have p2 := X5.out.f0
  have p3 := X5.out.f1
  go_upto_region 3 with (fail)
  replace P := Lib.hid (below_store P.out HG.out (.bool false) (.slice Ao (words 0).length co))
  replace X6 := Lib.hid (X6.out.far (show g5 ≠ g5 + 1 by omega) (.bool false) (.slice Ao (words 0).length co))
  replace RA := Lib.hid (RA.out.store p0 p1 (.bool false) (.slice Ao (words 0).length co))
  replace WX := Lib.hid (WX.out.store p0 p1 (.bool false) (.slice Ao (words 0).length co))
  replace X5 := Lib.hid (X5.out.put false Ao (words 0).length co)
  clear p0 p1 p2 p3
  generalize (w1.setCell ⟨g5, 0, none⟩ (.bool false)).setCell ⟨g5, 1, none⟩ (.slice Ao (words 0).length co) = W1 at P X5 X6 RA WX ⊢
  refine wp_region_tail (S := (fun w' => w'.cell? ⟨g5, 0, none⟩ = some (.bool false) ∧ w'.cell? ⟨g5, 1, none⟩ = some (.slice Ao (words 0).length co) ∧ w'.cell? ⟨g5 + 1, 0, none⟩ = some (.bool false) ∧ w'.cell? ⟨g5 + 1, 1, none⟩ = some (.slice none 0 0))) 6 (by kernel_rfl) (by kernel_rfl) (by intro c a d v w h; cases d <;> exact h) ⟨cell_dr7 X5.out.c0, cell_dr7 X5.out.c1, cell_dr7 X6.out.c0, cell_dr7 X6.out.c1⟩ (fun QT hT hP hHeld => ?_)
  simp only [List.extract_toArray, List.extract_eq_take_drop, List.drop_zero, Nat.sub_zero, List.take_succ_cons, List.take_zero]
  have HT := Lib.hid hT
  clear hT
  replace P := Lib.hid (P.out.trans ((Below.refl W1.heap.size W1).drew.mono P.out.size))
  replace X5 := Lib.hid (X5.out.next (Below.refl W1.heap.size W1).drew)
  replace X6 := Lib.hid (X6.out.next (Below.refl W1.heap.size W1).drew)
  replace RA := Lib.hid (RA.out.below (Below.refl W1.heap.size W1).drew)
  replace WX := Lib.hid (WX.out.below (Below.refl W1.heap.size W1).drew)
  generalize W1.drew = D1 at P X5 X6 RA WX hHeld ⊢
  refine take_on (i := 0) (d := (some 15)) (v := ?v1) rfl rfl (by kernel_rfl) (by kernel_rfl) (by kernel_rfl) (fun c a w h => hP c a _ _ w h) (by rfl) ?h1 (by assumption) ?r1
  case h1 => intro w hSw; obtain ⟨h0, h1, h2, h3⟩ := hSw; go_simp; rfl
  simp only [Act.put, List.setIfInBounds_toArray, List.set_cons_zero, List.set_cons_succ]
  refine take_on (i := 2) (d := (some 17)) (v := ?v2) rfl rfl (by kernel_rfl) (by kernel_rfl) (by kernel_rfl) (fun c a w h => hP c a _ _ w h) (by rfl) ?h2 (by assumption) ?r2
  case h2 => intro w hSw; obtain ⟨h0, h1, h2, h3⟩ := hSw; go_simp; rfl
  simp only [Act.put, List.setIfInBounds_toArray, List.set_cons_zero, List.set_cons_succ]
  refine take_on (i := 3) (d := (some 18)) (v := ?v3) rfl rfl (by kernel_rfl) (by kernel_rfl) (by kernel_rfl) (fun c a w h => hP c a _ _ w h) (by rfl) ?h3 (by assumption) ?r3
  case h3 => intro w hSw; obtain ⟨h0, h1, h2, h3⟩ := hSw; go_simp; rfl
  simp only [Act.put, List.setIfInBounds_toArray, List.set_cons_zero, List.set_cons_succ]
  refine wpAnyH_ready (rs := [1]) (by kernel_rfl) (by simp) ?_
  refine AllReadyH.cons rfl (fun K hK => ?_) AllReadyH.nil
  go_simp
  refine (clone_c A _ c xs _ RA.out (by have := HN.out; omega)).mono ?_
  rintro e w2 ⟨gc, rfl, hgc, hk, hb⟩
  replace P := Lib.hid (P.out.trans (hb.mono P.out.size))
  replace X5 := Lib.hid (X5.out.next hb)
  replace X6 := Lib.hid (X6.out.next hb)
  replace RA := Lib.hid (RA.out.below hb)
  replace WX := Lib.hid (WX.out.below hb)
  clear hb hHeld
  have hfr := hk.rd
  have hfl : xs.length = (words (val xs)).length := by rw [HV.out]
  rw [hfl] at hfr ⊢
  rw [← HV.out] at hfr
  have WG := Lib.hid (show Wd w2 (val xs) (some ⟨gc, 0, none⟩) (words (val xs)).length from ⟨by simpa only [HV.out] using hk.rd, Nat.le_refl _, by rw [HV.out, HLX.out]; have := HN.out.1; omega⟩)
  clear hfr hfl hk hgc
  refine hK.out _ _ ⟨X5.out.c0, X5.out.c1, X6.out.c0, X6.out.c1⟩ (fun hHeld => ?_)
  clear hK K
  refine take_on (i := 4) (d := (some 4)) (v := ?v4) rfl rfl (by kernel_rfl) (by kernel_rfl) (by kernel_rfl) (fun c a w h => hP c a _ _ w h) (by rfl) ?h4 (by assumption) ?r4
  case h4 => intro w hSw; obtain ⟨h0, h1, h2, h3⟩ := hSw; go_simp; rfl
  simp only [Act.put, List.setIfInBounds_toArray, List.set_cons_zero, List.set_cons_succ]
  refine wpAnyH_ready (rs := [5]) (by kernel_rfl) (by simp) ?_
  refine AllReadyH.cons rfl (fun K hK => ?_) AllReadyH.nil
  have p0 := X5.out.c0
  have p1 := X5.out.c1
  have p2 := X5.out.f0
  have p3 := X5.out.f1
  go_simp
  clear hHeld
  replace P := Lib.hid (below_store P.out (show w.heap.size ≤ g5 by have := HG.out; omega) (.bool false) (.slice Ao (words 0).length co))
  replace X6 := Lib.hid (X6.out.far (show g5 ≠ g5 + 1 by omega) (.bool false) (.slice Ao (words 0).length co))
  replace RA := Lib.hid (RA.out.store p0 p1 (.bool false) (.slice Ao (words 0).length co))
  replace WX := Lib.hid (WX.out.store p0 p1 (.bool false) (.slice Ao (words 0).length co))
  replace WG := Lib.hid (WG.out.store p0 p1 (.bool false) (.slice Ao (words 0).length co))
  replace X5 := Lib.hid (X5.out.put false Ao (words 0).length co)
  clear p0 p1 p2 p3
  generalize (w2.setCell ⟨g5, 0, none⟩ (.bool false)).setCell ⟨g5, 1, none⟩ (.slice Ao (words 0).length co) = VX3 at P X5 X6 RA WX WG ⊢
  refine hK.out _ _ ⟨X5.out.c0, X5.out.c1, X6.out.c0, X6.out.c1⟩ (fun hHeld => ?_)
  clear hK K
  clear hHeld
  refine wpAnyH_done (by kernel_rfl) ?_ _
  refine HT.out _ _ ?_
  clear HT hP QT
  have p0 := X6.out.c0
  have p1 := X6.out.c1
  have p2 := X6.out.f0
  have p3 := X6.out.f1
  refine wpList_step fun K hK => ?_
  go_simp
  refine hK _ _ ?_
  clear hK K
  replace P := Lib.hid (below_store P.out (show w.heap.size ≤ g5 + 1 by have := HG.out; omega) (.bool false) (.slice none 0 0))
  replace X5 := Lib.hid (X5.out.far (show g5 + 1 ≠ g5 by omega) (.bool false) (.slice none 0 0))
  replace WG := Lib.hid (WG.out.store p0 p1 (.bool false) (.slice none 0 0))
  replace WX := Lib.hid (WX.out.store p0 p1 (.bool false) (.slice none 0 0))
  replace X6 := Lib.hid (X6.out.put false none 0 0)
  clear p0 p1 p2 p3
  generalize (VX3.setCell ⟨g5 + 1, 0, none⟩ (.bool false)).setCell ⟨g5 + 1, 1, none⟩ (.slice none 0 0) = VX6 at P X5 X6 WG WX ⊢
  refine wpList_nil ?_
  go_wp2
  have y0 := X5.out.c0
  have y1 := X5.out.c1
  have y2 := X6.out.c0
  have y3 := X6.out.c1
  refine bodyPost_ret (v := .tuple #[.slice (some ⟨gc, 0, none⟩) (words (val xs)).length (words (val xs)).length, .agg #[.bool false, .slice Ao (words 0).length co], .agg #[.bool false, .slice none 0 0]]) (by simp [results, Try.results83, go_sem, y0, y1, y2, y3]) rfl ?_
  exact ⟨_, _, false, Ao, co, 0, false, none, 0, 0, by rw [Nat.gcd_zero_right, words_zero]; rfl, by rw [Nat.gcd_zero_right]; exact WG.out, WX.out, Wd.nil _, by omega, by omega, by rw [Nat.gcd_zero_right]; rw [show val xs = 0 by rw [List.eq_nil_of_length_eq_zero HLX.out]; rfl]; rfl, P.out⟩
set_option maxHeartbeats 8000000 in
theorem common_one (A B : Option Addr) (n c m d : Nat) (xs ys : List Nat) (w : World) (ha : Rd w A n xs) (hb : Rd w B m ys) (cx : canon xs) (cy : canon ys) (hn : n ≤ 1000000) (hm : m ≤ 1000000) (h0 : m = 0) (h1 : n = 1) :
    Calls Try.prog 83 #[.slice A n c, .slice B m d] w (ComPost (val xs) (val ys) w) := by
  have hv : val ys = 0 := by
    have := hb.len
    rw [h0] at this
    rw [List.eq_nil_of_length_eq_zero this]; rfl
  rw [hv]
  have k0 := below_alloc w (.cells #[.bool false, .slice none 0 0] 24)
  have k1 := below_alloc (w.alloc (.cells #[.bool false, .slice none 0 0] 24)) (.cells #[.bool false, .slice none 0 0] 24)
  have P := Lib.hid (k0.trans (k1.mono k0.size))
  have X5 := Lib.hid ((Bx.new w false none 0 0).next k1)
  have X6 := Lib.hid (Bx.new (w.alloc (.cells #[.bool false, .slice none 0 0] 24)) false none 0 0)
  rw [World.size_alloc] at X6
  have RA := Lib.hid ((ha.below k0).below k1)
  have RB := Lib.hid ((hb.below k0).below k1)
  have HN := Lib.hid (And.intro hn hm)
  have HC := Lib.hid (And.intro cx cy)
  have HV := Lib.hid (show words (val xs) = xs from words_val cx)
  have HLX := Lib.hid ha.len
  have HH := Lib.hid h1
  subst h1
  subst h0
  clear ha hb cx cy hn hm k0 k1 hv 
  skip
  go_enter Try.func83, Try.ntmps83
  go_upto_region 1 with (fail)
  generalize (w.alloc (.cells #[.bool false, .slice none 0 0] 24)).alloc (.cells #[.bool false, .slice none 0 0] 24) = W0 at P X5 X6 RA RB ⊢
  obtain ⟨g5, hg5⟩ : ∃ g, g = w.heap.size := ⟨_, rfl⟩
  rw [← hg5] at X5 X6 ⊢
  have HG := Lib.hid (show w.heap.size ≤ g5 by omega)
  clear hg5
  go_wp2_with fail
  refine (Of_c 1 _ (by omega) (by omega)).mono ?_
  rintro e w1 ⟨Ao, co, rfl, i1, i2, i3, hb⟩
  have WX := Lib.hid (show Wd w1 1 Ao co from ⟨i1, i2, i3⟩)
  rw [show decide ((1 : Int) < 0) = false from rfl, show ((1 : Int).natAbs) = 1 from rfl]
  replace P := Lib.hid (P.out.trans (hb.mono P.out.size))
  replace X5 := Lib.hid (X5.out.next hb)
  replace X6 := Lib.hid (X6.out.next hb)
  replace RA := Lib.hid (RA.out.below hb)
  clear hb i1 i2 i3 RB
  have p0 := X5.out.c0
  have p1 := X5.out.c1
  have p2 := X5.out.f0
  have p3 := X5.out.f1
  go_upto_region 3 with (fail)
  replace P := Lib.hid (below_store P.out HG.out (.bool false) (.slice Ao (words 1).length co))
  replace X6 := Lib.hid (X6.out.far (show g5 ≠ g5 + 1 by omega) (.bool false) (.slice Ao (words 1).length co))
  replace RA := Lib.hid (RA.out.store p0 p1 (.bool false) (.slice Ao (words 1).length co))
  replace WX := Lib.hid (WX.out.store p0 p1 (.bool false) (.slice Ao (words 1).length co))
  replace X5 := Lib.hid (X5.out.put false Ao (words 1).length co)
  clear p0 p1 p2 p3
  generalize (w1.setCell ⟨g5, 0, none⟩ (.bool false)).setCell ⟨g5, 1, none⟩ (.slice Ao (words 1).length co) = W1 at P X5 X6 RA WX ⊢
  refine wp_region_tail (S := (fun w' => w'.cell? ⟨g5, 0, none⟩ = some (.bool false) ∧ w'.cell? ⟨g5, 1, none⟩ = some (.slice Ao (words 1).length co) ∧ w'.cell? ⟨g5 + 1, 0, none⟩ = some (.bool false) ∧ w'.cell? ⟨g5 + 1, 1, none⟩ = some (.slice none 0 0))) 6 (by kernel_rfl) (by kernel_rfl) (by intro c a d v w h; cases d <;> exact h) ⟨cell_dr7 X5.out.c0, cell_dr7 X5.out.c1, cell_dr7 X6.out.c0, cell_dr7 X6.out.c1⟩ (fun QT hT hP hHeld => ?_)
  simp only [List.extract_toArray, List.extract_eq_take_drop, List.drop_zero, Nat.sub_zero, List.take_succ_cons, List.take_zero]
  have HT := Lib.hid hT
  clear hT
  replace P := Lib.hid (P.out.trans ((Below.refl W1.heap.size W1).drew.mono P.out.size))
  replace X5 := Lib.hid (X5.out.next (Below.refl W1.heap.size W1).drew)
  replace X6 := Lib.hid (X6.out.next (Below.refl W1.heap.size W1).drew)
  replace RA := Lib.hid (RA.out.below (Below.refl W1.heap.size W1).drew)
  replace WX := Lib.hid (WX.out.below (Below.refl W1.heap.size W1).drew)
  generalize W1.drew = D4 at P X5 X6 RA WX hHeld ⊢
  refine take_on (i := 0) (d := (some 15)) (v := ?v5) rfl rfl (by kernel_rfl) (by kernel_rfl) (by kernel_rfl) (fun c a w h => hP c a _ _ w h) (by rfl) ?h5 (by assumption) ?r5
  case h5 => intro w hSw; obtain ⟨h0, h1, h2, h3⟩ := hSw; go_simp; rfl
  simp only [Act.put, List.setIfInBounds_toArray, List.set_cons_zero, List.set_cons_succ]
  refine take_on (i := 2) (d := (some 17)) (v := ?v6) rfl rfl (by kernel_rfl) (by kernel_rfl) (by kernel_rfl) (fun c a w h => hP c a _ _ w h) (by rfl) ?h6 (by assumption) ?r6
  case h6 => intro w hSw; obtain ⟨h0, h1, h2, h3⟩ := hSw; go_simp; rfl
  simp only [Act.put, List.setIfInBounds_toArray, List.set_cons_zero, List.set_cons_succ]
  refine take_on (i := 3) (d := (some 18)) (v := ?v7) rfl rfl (by kernel_rfl) (by kernel_rfl) (by kernel_rfl) (fun c a w h => hP c a _ _ w h) (by rfl) ?h7 (by assumption) ?r7
  case h7 => intro w hSw; obtain ⟨h0, h1, h2, h3⟩ := hSw; go_simp; rfl
  simp only [Act.put, List.setIfInBounds_toArray, List.set_cons_zero, List.set_cons_succ]
  refine wpAnyH_ready (rs := [1]) (by kernel_rfl) (by simp) ?_
  refine AllReadyH.cons rfl (fun K hK => ?_) AllReadyH.nil
  go_simp
  refine (clone_c A _ c xs _ RA.out (by have := HN.out; omega)).mono ?_
  rintro e w5 ⟨gc, rfl, hgc, hk, hb⟩
  replace P := Lib.hid (P.out.trans (hb.mono P.out.size))
  replace X5 := Lib.hid (X5.out.next hb)
  replace X6 := Lib.hid (X6.out.next hb)
  replace RA := Lib.hid (RA.out.below hb)
  replace WX := Lib.hid (WX.out.below hb)
  clear hb hHeld
  have hfr := hk.rd
  have hfl : xs.length = (words (val xs)).length := by rw [HV.out]
  rw [hfl] at hfr ⊢
  rw [← HV.out] at hfr
  have WG := Lib.hid (show Wd w5 (val xs) (some ⟨gc, 0, none⟩) (words (val xs)).length from ⟨by simpa only [HV.out] using hk.rd, Nat.le_refl _, by rw [HV.out, HLX.out]; have := HN.out.1; omega⟩)
  clear hfr hfl hk hgc
  refine hK.out _ _ ⟨X5.out.c0, X5.out.c1, X6.out.c0, X6.out.c1⟩ (fun hHeld => ?_)
  clear hK K
  refine take_on (i := 4) (d := (some 4)) (v := ?v8) rfl rfl (by kernel_rfl) (by kernel_rfl) (by kernel_rfl) (fun c a w h => hP c a _ _ w h) (by rfl) ?h8 (by assumption) ?r8
  case h8 => intro w hSw; obtain ⟨h0, h1, h2, h3⟩ := hSw; go_simp; rfl
  simp only [Act.put, List.setIfInBounds_toArray, List.set_cons_zero, List.set_cons_succ]
  refine wpAnyH_ready (rs := [5]) (by kernel_rfl) (by simp) ?_
  refine AllReadyH.cons rfl (fun K hK => ?_) AllReadyH.nil
  have p0 := X5.out.c0
  have p1 := X5.out.c1
  have p2 := X5.out.f0
  have p3 := X5.out.f1
  go_simp
  clear hHeld
  replace P := Lib.hid (below_store P.out (show w.heap.size ≤ g5 by have := HG.out; omega) (.bool false) (.slice Ao (words 1).length co))
  replace X6 := Lib.hid (X6.out.far (show g5 ≠ g5 + 1 by omega) (.bool false) (.slice Ao (words 1).length co))
  replace RA := Lib.hid (RA.out.store p0 p1 (.bool false) (.slice Ao (words 1).length co))
  replace WX := Lib.hid (WX.out.store p0 p1 (.bool false) (.slice Ao (words 1).length co))
  replace WG := Lib.hid (WG.out.store p0 p1 (.bool false) (.slice Ao (words 1).length co))
  replace X5 := Lib.hid (X5.out.put false Ao (words 1).length co)
  clear p0 p1 p2 p3
  generalize (w5.setCell ⟨g5, 0, none⟩ (.bool false)).setCell ⟨g5, 1, none⟩ (.slice Ao (words 1).length co) = VX6 at P X5 X6 RA WX WG ⊢
  refine hK.out _ _ ⟨X5.out.c0, X5.out.c1, X6.out.c0, X6.out.c1⟩ (fun hHeld => ?_)
  clear hK K
  clear hHeld
  refine wpAnyH_done (by kernel_rfl) ?_ _
  refine HT.out _ _ ?_
  clear HT hP QT
  have p0 := X6.out.c0
  have p1 := X6.out.c1
  have p2 := X6.out.f0
  have p3 := X6.out.f1
  refine wpList_step fun K hK => ?_
  go_simp
  refine hK _ _ ?_
  clear hK K
  replace P := Lib.hid (below_store P.out (show w.heap.size ≤ g5 + 1 by have := HG.out; omega) (.bool false) (.slice none 0 0))
  replace X5 := Lib.hid (X5.out.far (show g5 + 1 ≠ g5 by omega) (.bool false) (.slice none 0 0))
  replace WG := Lib.hid (WG.out.store p0 p1 (.bool false) (.slice none 0 0))
  replace WX := Lib.hid (WX.out.store p0 p1 (.bool false) (.slice none 0 0))
  replace X6 := Lib.hid (X6.out.put false none 0 0)
  clear p0 p1 p2 p3
  generalize (VX6.setCell ⟨g5 + 1, 0, none⟩ (.bool false)).setCell ⟨g5 + 1, 1, none⟩ (.slice none 0 0) = VX6 at P X5 X6 WG WX ⊢
  refine wpList_nil ?_
  go_wp2
  have y0 := X5.out.c0
  have y1 := X5.out.c1
  have y2 := X6.out.c0
  have y3 := X6.out.c1
  refine bodyPost_ret (v := .tuple #[.slice (some ⟨gc, 0, none⟩) (words (val xs)).length (words (val xs)).length, .agg #[.bool false, .slice Ao (words 1).length co], .agg #[.bool false, .slice none 0 0]]) (by simp [results, Try.results83, go_sem, y0, y1, y2, y3]) rfl ?_
  exact ⟨_, _, false, Ao, co, 1, false, none, 0, 0, by rw [Nat.gcd_zero_right, words_zero]; rfl, by rw [Nat.gcd_zero_right]; exact WG.out, WX.out, Wd.nil _, by omega, by omega, by rw [Nat.gcd_zero_right]; simp [sgn], P.out⟩
set_option maxHeartbeats 8000000 in
theorem common_more (A B : Option Addr) (n c m d : Nat) (xs ys : List Nat) (w : World) (ha : Rd w A n xs) (hb : Rd w B m ys) (cx : canon xs) (cy : canon ys) (hn : n ≤ 1000000) (hm : m ≤ 1000000) (h0 : m = 0) (h1 : 1 < n) :
    Calls Try.prog 83 #[.slice A n c, .slice B m d] w (ComPost (val xs) (val ys) w) := by
  have hv : val ys = 0 := by
    have := hb.len
    rw [h0] at this
    rw [List.eq_nil_of_length_eq_zero this]; rfl
  rw [hv]
  have k0 := below_alloc w (.cells #[.bool false, .slice none 0 0] 24)
  have k1 := below_alloc (w.alloc (.cells #[.bool false, .slice none 0 0] 24)) (.cells #[.bool false, .slice none 0 0] 24)
  have P := Lib.hid (k0.trans (k1.mono k0.size))
  have X5 := Lib.hid ((Bx.new w false none 0 0).next k1)
  have X6 := Lib.hid (Bx.new (w.alloc (.cells #[.bool false, .slice none 0 0] 24)) false none 0 0)
  rw [World.size_alloc] at X6
  have RA := Lib.hid ((ha.below k0).below k1)
  have RB := Lib.hid ((hb.below k0).below k1)
  have HN := Lib.hid (And.intro hn hm)
  have HC := Lib.hid (And.intro cx cy)
  have HV := Lib.hid (show words (val xs) = xs from words_val cx)
  have HLX := Lib.hid ha.len
  have HH := Lib.hid h1
  skip
  subst h0
  clear ha hb cx cy hn hm k0 k1 hv h1
  have n2 : (1 : Int) < n := by have := HH.out; omega
  go_enter Try.func83, Try.ntmps83
  go_upto_region 1 with (fail)
  generalize (w.alloc (.cells #[.bool false, .slice none 0 0] 24)).alloc (.cells #[.bool false, .slice none 0 0] 24) = W0 at P X5 X6 RA RB ⊢
  obtain ⟨g5, hg5⟩ : ∃ g, g = w.heap.size := ⟨_, rfl⟩
  rw [← hg5] at X5 X6 ⊢
  have HG := Lib.hid (show w.heap.size ≤ g5 by omega)
  clear hg5
  go_wp2_with fail
  refine (Of_c 1 _ (by omega) (by omega)).mono ?_
  rintro e w1 ⟨Ao, co, rfl, i1, i2, i3, hb⟩
  have WX := Lib.hid (show Wd w1 1 Ao co from ⟨i1, i2, i3⟩)
  rw [show decide ((1 : Int) < 0) = false from rfl, show ((1 : Int).natAbs) = 1 from rfl]
  replace P := Lib.hid (P.out.trans (hb.mono P.out.size))
  replace X5 := Lib.hid (X5.out.next hb)
  replace X6 := Lib.hid (X6.out.next hb)
  replace RA := Lib.hid (RA.out.below hb)
  clear hb i1 i2 i3 RB
  have p0 := X5.out.c0
  have p1 := X5.out.c1
  have p2 := X5.out.f0
  have p3 := X5.out.f1
  go_upto_region 3 with (fail)
  replace P := Lib.hid (below_store P.out HG.out (.bool false) (.slice Ao (words 1).length co))
  replace X6 := Lib.hid (X6.out.far (show g5 ≠ g5 + 1 by omega) (.bool false) (.slice Ao (words 1).length co))
  replace RA := Lib.hid (RA.out.store p0 p1 (.bool false) (.slice Ao (words 1).length co))
  replace WX := Lib.hid (WX.out.store p0 p1 (.bool false) (.slice Ao (words 1).length co))
  replace X5 := Lib.hid (X5.out.put false Ao (words 1).length co)
  clear p0 p1 p2 p3
  generalize (w1.setCell ⟨g5, 0, none⟩ (.bool false)).setCell ⟨g5, 1, none⟩ (.slice Ao (words 1).length co) = W1 at P X5 X6 RA WX ⊢
  refine wp_region_tail (S := (fun w' => w'.cell? ⟨g5, 0, none⟩ = some (.bool false) ∧ w'.cell? ⟨g5, 1, none⟩ = some (.slice Ao (words 1).length co) ∧ w'.cell? ⟨g5 + 1, 0, none⟩ = some (.bool false) ∧ w'.cell? ⟨g5 + 1, 1, none⟩ = some (.slice none 0 0))) 6 (by kernel_rfl) (by kernel_rfl) (by intro c a d v w h; cases d <;> exact h) ⟨cell_dr7 X5.out.c0, cell_dr7 X5.out.c1, cell_dr7 X6.out.c0, cell_dr7 X6.out.c1⟩ (fun QT hT hP hHeld => ?_)
  simp only [List.extract_toArray, List.extract_eq_take_drop, List.drop_zero, Nat.sub_zero, List.take_succ_cons, List.take_zero]
  have HT := Lib.hid hT
  clear hT
  replace P := Lib.hid (P.out.trans ((Below.refl W1.heap.size W1).drew.mono P.out.size))
  replace X5 := Lib.hid (X5.out.next (Below.refl W1.heap.size W1).drew)
  replace X6 := Lib.hid (X6.out.next (Below.refl W1.heap.size W1).drew)
  replace RA := Lib.hid (RA.out.below (Below.refl W1.heap.size W1).drew)
  replace WX := Lib.hid (WX.out.below (Below.refl W1.heap.size W1).drew)
  generalize W1.drew = D7 at P X5 X6 RA WX hHeld ⊢
  refine take_on (i := 0) (d := (some 15)) (v := ?v9) rfl rfl (by kernel_rfl) (by kernel_rfl) (by kernel_rfl) (fun c a w h => hP c a _ _ w h) (by rfl) ?h9 (by assumption) ?r9
  case h9 => intro w hSw; obtain ⟨h0, h1, h2, h3⟩ := hSw; go_simp; rfl
  simp only [Act.put, List.setIfInBounds_toArray, List.set_cons_zero, List.set_cons_succ]
  refine take_on (i := 2) (d := (some 17)) (v := ?v10) rfl rfl (by kernel_rfl) (by kernel_rfl) (by kernel_rfl) (fun c a w h => hP c a _ _ w h) (by rfl) ?h10 (by assumption) ?r10
  case h10 => intro w hSw; obtain ⟨h0, h1, h2, h3⟩ := hSw; go_simp; rfl
  simp only [Act.put, List.setIfInBounds_toArray, List.set_cons_zero, List.set_cons_succ]
  refine take_on (i := 3) (d := (some 18)) (v := ?v11) rfl rfl (by kernel_rfl) (by kernel_rfl) (by kernel_rfl) (fun c a w h => hP c a _ _ w h) (by rfl) ?h11 (by assumption) ?r11
  case h11 => intro w hSw; obtain ⟨h0, h1, h2, h3⟩ := hSw; go_simp; rfl
  simp only [Act.put, List.setIfInBounds_toArray, List.set_cons_zero, List.set_cons_succ]
  refine wpAnyH_ready (rs := [1]) (by kernel_rfl) (by simp) ?_
  refine AllReadyH.cons rfl (fun K hK => ?_) AllReadyH.nil
  go_simp
  refine (clone_c A _ c xs _ RA.out (by have := HN.out; omega)).mono ?_
  rintro e w8 ⟨gc, rfl, hgc, hk, hb⟩
  replace P := Lib.hid (P.out.trans (hb.mono P.out.size))
  replace X5 := Lib.hid (X5.out.next hb)
  replace X6 := Lib.hid (X6.out.next hb)
  replace RA := Lib.hid (RA.out.below hb)
  replace WX := Lib.hid (WX.out.below hb)
  clear hb hHeld
  have hfr := hk.rd
  have hfl : xs.length = (words (val xs)).length := by rw [HV.out]
  rw [hfl] at hfr ⊢
  rw [← HV.out] at hfr
  have WG := Lib.hid (show Wd w8 (val xs) (some ⟨gc, 0, none⟩) (words (val xs)).length from ⟨by simpa only [HV.out] using hk.rd, Nat.le_refl _, by rw [HV.out, HLX.out]; have := HN.out.1; omega⟩)
  clear hfr hfl hk hgc
  refine hK.out _ _ ⟨X5.out.c0, X5.out.c1, X6.out.c0, X6.out.c1⟩ (fun hHeld => ?_)
  clear hK K
  refine take_on (i := 4) (d := (some 4)) (v := ?v12) rfl rfl (by kernel_rfl) (by kernel_rfl) (by kernel_rfl) (fun c a w h => hP c a _ _ w h) (by rfl) ?h12 (by assumption) ?r12
  case h12 => intro w hSw; obtain ⟨h0, h1, h2, h3⟩ := hSw; go_simp; rfl
  simp only [Act.put, List.setIfInBounds_toArray, List.set_cons_zero, List.set_cons_succ]
  refine wpAnyH_ready (rs := [5]) (by kernel_rfl) (by simp) ?_
  refine AllReadyH.cons rfl (fun K hK => ?_) AllReadyH.nil
  have p0 := X5.out.c0
  have p1 := X5.out.c1
  have p2 := X5.out.f0
  have p3 := X5.out.f1
  go_simp
  clear hHeld
  replace P := Lib.hid (below_store P.out (show w.heap.size ≤ g5 by have := HG.out; omega) (.bool false) (.slice Ao (words 1).length co))
  replace X6 := Lib.hid (X6.out.far (show g5 ≠ g5 + 1 by omega) (.bool false) (.slice Ao (words 1).length co))
  replace RA := Lib.hid (RA.out.store p0 p1 (.bool false) (.slice Ao (words 1).length co))
  replace WX := Lib.hid (WX.out.store p0 p1 (.bool false) (.slice Ao (words 1).length co))
  replace WG := Lib.hid (WG.out.store p0 p1 (.bool false) (.slice Ao (words 1).length co))
  replace X5 := Lib.hid (X5.out.put false Ao (words 1).length co)
  clear p0 p1 p2 p3
  generalize (w8.setCell ⟨g5, 0, none⟩ (.bool false)).setCell ⟨g5, 1, none⟩ (.slice Ao (words 1).length co) = VX9 at P X5 X6 RA WX WG ⊢
  refine hK.out _ _ ⟨X5.out.c0, X5.out.c1, X6.out.c0, X6.out.c1⟩ (fun hHeld => ?_)
  clear hK K
  clear hHeld
  refine wpAnyH_done (by kernel_rfl) ?_ _
  refine HT.out _ _ ?_
  clear HT hP QT
  have p0 := X6.out.c0
  have p1 := X6.out.c1
  have p2 := X6.out.f0
  have p3 := X6.out.f1
  refine wpList_step fun K hK => ?_
  go_simp
  refine hK _ _ ?_
  clear hK K
  replace P := Lib.hid (below_store P.out (show w.heap.size ≤ g5 + 1 by have := HG.out; omega) (.bool false) (.slice none 0 0))
  replace X5 := Lib.hid (X5.out.far (show g5 + 1 ≠ g5 by omega) (.bool false) (.slice none 0 0))
  replace WG := Lib.hid (WG.out.store p0 p1 (.bool false) (.slice none 0 0))
  replace WX := Lib.hid (WX.out.store p0 p1 (.bool false) (.slice none 0 0))
  replace X6 := Lib.hid (X6.out.put false none 0 0)
  clear p0 p1 p2 p3
  generalize (VX9.setCell ⟨g5 + 1, 0, none⟩ (.bool false)).setCell ⟨g5 + 1, 1, none⟩ (.slice none 0 0) = VX6 at P X5 X6 WG WX ⊢
  refine wpList_nil ?_
  go_wp2
  have y0 := X5.out.c0
  have y1 := X5.out.c1
  have y2 := X6.out.c0
  have y3 := X6.out.c1
  refine bodyPost_ret (v := .tuple #[.slice (some ⟨gc, 0, none⟩) (words (val xs)).length (words (val xs)).length, .agg #[.bool false, .slice Ao (words 1).length co], .agg #[.bool false, .slice none 0 0]]) (by simp [results, Try.results83, go_sem, y0, y1, y2, y3]) rfl ?_
  exact ⟨_, _, false, Ao, co, 1, false, none, 0, 0, by rw [Nat.gcd_zero_right, words_zero]; rfl, by rw [Nat.gcd_zero_right]; exact WG.out, WX.out, Wd.nil _, by omega, by omega, by rw [Nat.gcd_zero_right]; simp [sgn], P.out⟩
set_option maxHeartbeats 16000000 in
theorem common_pos (A B : Option Addr) (n c m d : Nat) (xs ys : List Nat) (w : World) (ha : Rd w A n xs) (hb : Rd w B m ys) (cx : canon xs) (cy : canon ys) (hn : n ≤ 1000000) (hm : m ≤ 1000000) (hnc : n ≤ c) (hc2 : c ≤ 9223372036854775807) (h0 : 0 < m) :
    Calls Try.prog 83 #[.slice A n c, .slice B m d] w (ComPost (val xs) (val ys) w) := by
  have hBpos : 0 < val ys := by
    refine Nat.pos_of_ne_zero fun h => ?_
    have h3 := words_val cy
    rw [h, words_zero] at h3
    have := hb.len
    rw [← h3] at this
    simp at this
    omega
  have HBP := Lib.hid hBpos
  have k0 := below_alloc w (.cells #[.bool false, .slice none 0 0] 24)
  have k1 := below_alloc (w.alloc (.cells #[.bool false, .slice none 0 0] 24)) (.cells #[.bool false, .slice none 0 0] 24)
  have P := Lib.hid (k0.trans (k1.mono k0.size))
  have X5 := Lib.hid ((Bx.new w false none 0 0).next k1)
  have X6 := Lib.hid (Bx.new (w.alloc (.cells #[.bool false, .slice none 0 0] 24)) false none 0 0)
  rw [World.size_alloc] at X6
  have RA := Lib.hid ((ha.below k0).below k1)
  have RB := Lib.hid ((hb.below k0).below k1)
  have HN := Lib.hid (And.intro hn hm)
  have HC := Lib.hid (And.intro cx cy)
  have HNC := Lib.hid (And.intro hnc hc2)
  have H0 := Lib.hid h0
  have HGB := Lib.hid (show Nat.gcd (val xs) (val ys) ≤ val ys from Nat.gcd_le_right _ hBpos)
  have HLS := Lib.hid (show (words (val xs)).length ≤ 1000000 ∧ (words (val ys)).length ≤ 1000000 by rw [words_val cx, words_val cy, ha.len, hb.len]; omega)
  have m0 : ((m : Int) == 0) = false := by rw [beq_eq_false_iff_ne]; omega
  have m1 : ¬ (m : Int) = 0 := by omega
  obtain ⟨X, hX⟩ : ∃ X, X = val xs := ⟨_, rfl⟩
  obtain ⟨Y, hY⟩ : ∃ Y, Y = val ys := ⟨_, rfl⟩
  have HXY := Lib.hid (And.intro hX hY)
  rw [← hX, ← hY] at HGB HLS ⊢
  rw [← hY] at HBP
  clear ha hb cx cy hn hm k0 k1 hnc hc2 h0 hBpos hX hY
  go_enter Try.func83, Try.ntmps83
  go_upto_region 1 with (fail)
  generalize (w.alloc (.cells #[.bool false, .slice none 0 0] 24)).alloc (.cells #[.bool false, .slice none 0 0] 24) = W0 at P X5 X6 RA RB ⊢
  obtain ⟨g5, hg5⟩ : ∃ g, g = w.heap.size := ⟨_, rfl⟩
  rw [← hg5] at X5 X6 ⊢
  have HG := Lib.hid (show w.heap.size ≤ g5 by omega)
  clear hg5
  go_wp2_with fail
  refine (euclid_c A B n c m d xs ys _ RA.out RB.out HC.out.1 HC.out.2 HN.out.1 HN.out.2 H0.out).mono ?_
  rintro e w1 ⟨G, c1, minus, O, c2, one, rfl, wg, wo, hone, hk, hb⟩
  rw [← HXY.out.1, ← HXY.out.2] at wg hk ⊢
  rw [← HXY.out.2] at hone
  obtain ⟨gg, hgg⟩ : ∃ gg, gg = Nat.gcd X Y := ⟨_, rfl⟩
  have HGG := Lib.hid hgg
  rw [← hgg] at wg hk HGB ⊢
  have WG := Lib.hid wg
  have WO := Lib.hid wo
  have HONE := Lib.hid hone
  obtain ⟨k, hk⟩ := hk
  have HK := Lib.hid hk
  have lo : (words one).length ≤ 1000000 := Nat.le_trans (words_mono hone) HLS.out.2
  have lg : (words gg).length ≤ 1000000 := Nat.le_trans (words_mono HGB.out) HLS.out.2
  have lp := mul_len HLS.out.1 lo
  replace P := Lib.hid (P.out.trans (hb.mono P.out.size))
  replace X5 := Lib.hid (X5.out.next hb)
  replace X6 := Lib.hid (X6.out.next hb)
  replace RA := Lib.hid (RA.out.below hb)
  replace RB := Lib.hid (RB.out.below hb)
  clear hb wg wo hone hk hgg
  have p0 := X5.out.c0
  have p1 := X5.out.c1
  have p2 := X5.out.f0
  have p3 := X5.out.f1
  go_upto_region 5 with (fail)
  replace P := Lib.hid (below_store P.out HG.out (.bool minus) (.slice O (words one).length c2))
  replace X6 := Lib.hid (X6.out.far (show g5 ≠ g5 + 1 by omega) (.bool minus) (.slice O (words one).length c2))
  replace RA := Lib.hid (RA.out.store p0 p1 (.bool minus) (.slice O (words one).length c2))
  replace RB := Lib.hid (RB.out.store p0 p1 (.bool minus) (.slice O (words one).length c2))
  replace WG := Lib.hid (WG.out.store p0 p1 (.bool minus) (.slice O (words one).length c2))
  replace WO := Lib.hid (WO.out.store p0 p1 (.bool minus) (.slice O (words one).length c2))
  replace X5 := Lib.hid (X5.out.put minus O (words one).length c2)
  clear p0 p1 p2 p3
  generalize (w1.setCell ⟨g5, 0, none⟩ (.bool minus)).setCell ⟨g5, 1, none⟩ (.slice O (words one).length c2) = W1 at P X5 X6 RA RB WG WO ⊢
  have q0 := X5.out.c0
  have q1 := X5.out.c1
  go_wp2_with fail
  refine (multiply_c A O n c _ c2 xs (words one) _ RA.out WO.out.rd HC.out.1 (words_canon _) (by have := HN.out; omega) (by omega) HNC.out.1 WO.out.le HNC.out.2 WO.out.top).mono ?_
  rw [val_words, ← HXY.out.1]
  rintro e w2 ⟨Ap, cp, rfl, p1, p2, p3, hb, -⟩
  have WP := Lib.hid (Wd.mk p1 p2 p3)
  replace P := Lib.hid (P.out.trans (hb.mono P.out.size))
  replace X5 := Lib.hid (X5.out.next hb)
  replace X6 := Lib.hid (X6.out.next hb)
  replace RB := Lib.hid (RB.out.below hb)
  replace WG := Lib.hid (WG.out.below hb)
  replace WO := Lib.hid (WO.out.below hb)
  clear hb p1 p2 p3 q0 q1 RA
  have HVY := Lib.hid (show val ys = Y from HXY.out.2.symm)
  have HYL := Lib.hid (show (words Y).length = m by rw [← HVY.out, words_val HC.out.2]; exact RB.out.len)
  cases minus with
  | true =>
    have HBZ := Lib.hid (bez_neg HBP.out HGB.out HONE.out HK.out)
    have q0 := X5.out.c0
    go_wp2_with fail
    refine (add_c Ap G _ cp _ c1 (words (X * one)) (words gg) _ WP.out.rd WG.out.rd (by omega) (by omega)).mono ?_
    rw [val_words, val_words]
    rintro e w3 ⟨As, cs, rfl, r1, r2, r3, hb, -⟩
    have WS := Lib.hid (Wd.mk r1 r2 r3)
    replace P := Lib.hid (P.out.trans (hb.mono P.out.size))
    replace X5 := Lib.hid (X5.out.next hb)
    replace X6 := Lib.hid (X6.out.next hb)
    replace RB := Lib.hid (RB.out.below hb)
    replace WG := Lib.hid (WG.out.below hb)
    replace WO := Lib.hid (WO.out.below hb)
    have ls := sum_len (k := 2000000) (Nat.le_trans lp (by omega)) (Nat.le_trans lg (by omega))
    clear hb r1 r2 r3 WP q0
    go_wp2_with fail
    refine (divide_c As B _ cs m d (words (X * one + gg)) ys _ WS.out.rd RB.out (words_canon _) HC.out.2 (by omega) (by have := HN.out; omega) H0.out).mono ?_
    rw [val_words, HVY.out]
    rintro e w4 ⟨Aq, cq, Ar, cr, rfl, r1, r2, r3, -, -, -, hb⟩
    have WQ := Lib.hid (Wd.mk r1 r2 r3)
    replace P := Lib.hid (P.out.trans (hb.mono P.out.size))
    replace X5 := Lib.hid (X5.out.next hb)
    replace X6 := Lib.hid (X6.out.next hb)
    replace WG := Lib.hid (WG.out.below hb)
    replace WO := Lib.hid (WO.out.below hb)
    clear hb r1 r2 r3 WS RB
    have y0 := X6.out.c0
    have y1 := X6.out.c1
    have y2 := X6.out.f0
    have y3 := X6.out.f1
    go_upto_region 12 with (fail)
    replace P := Lib.hid (P.out.setCell (p := ⟨g5 + 1, 1, none⟩) (show w.heap.size ≤ g5 + 1 by have := HG.out; omega) (.slice Aq (words ((X * one + gg) / Y)).length cq))
    replace X5 := Lib.hid (X5.out.off (p := ⟨g5 + 1, 1, none⟩) (show g5 + 1 ≠ g5 by omega) (.slice Aq (words ((X * one + gg) / Y)).length cq))
    replace WG := Lib.hid (WG.out.off1 X6.out (.slice Aq (words ((X * one + gg) / Y)).length cq))
    replace WO := Lib.hid (WO.out.off1 X6.out (.slice Aq (words ((X * one + gg) / Y)).length cq))
    replace WQ := Lib.hid (WQ.out.off1 X6.out (.slice Aq (words ((X * one + gg) / Y)).length cq))
    replace X6 := Lib.hid (X6.out.put1 Aq (words ((X * one + gg) / Y)).length cq)
    clear y0 y1 y2 y3
    generalize w4.setCell ⟨g5 + 1, 1, none⟩ (.slice Aq (words ((X * one + gg) / Y)).length cq) = W4 at P X5 X6 WG WO WQ ⊢
    refine wp_region_tail (S := (fun w' => w'.cell? ⟨g5, 0, none⟩ = some (.bool true) ∧ w'.cell? ⟨g5, 1, none⟩ = some (.slice O (words one).length c2) ∧ w'.cell? ⟨g5 + 1, 0, none⟩ = some (.bool false) ∧ w'.cell? ⟨g5 + 1, 1, none⟩ = some (.slice Aq (words ((X * one + gg) / Y)).length cq))) 5 (by kernel_rfl) (by kernel_rfl) (by intro c a d v w h; cases d <;> exact h) ⟨cell_dr7 X5.out.c0, cell_dr7 X5.out.c1, cell_dr7 X6.out.c0, cell_dr7 X6.out.c1⟩ (fun QT hT hP hHeld => ?_)
    simp only [List.extract_toArray, List.extract_eq_take_drop, List.drop_zero, Nat.sub_zero, List.take_succ_cons, List.take_zero]
    have HT := Lib.hid hT
    clear hT
    replace P := Lib.hid (P.out.trans ((Below.refl W4.heap.size W4).drew.mono P.out.size))
    replace X5 := Lib.hid (X5.out.next (Below.refl W4.heap.size W4).drew)
    replace X6 := Lib.hid (X6.out.next (Below.refl W4.heap.size W4).drew)
    replace WG := Lib.hid (WG.out.below (Below.refl W4.heap.size W4).drew)
    replace WO := Lib.hid (WO.out.below (Below.refl W4.heap.size W4).drew)
    replace WQ := Lib.hid (WQ.out.below (Below.refl W4.heap.size W4).drew)
    generalize W4.drew = D10 at P X5 X6 WG WO WQ hHeld ⊢
    refine take_on (i := 0) (d := (some 58)) (v := ?v13) rfl rfl (by kernel_rfl) (by kernel_rfl) (by kernel_rfl) (fun c a w h => hP c a _ _ w h) (by rfl) ?h13 (by assumption) ?r13
    case h13 => intro w hSw; obtain ⟨h0, h1, h2, h3⟩ := hSw; go_simp; rfl
    simp only [Act.put, List.setIfInBounds_toArray, List.set_cons_zero, List.set_cons_succ]
    refine take_on (i := 1) (d := (some 59)) (v := ?v14) rfl rfl (by kernel_rfl) (by kernel_rfl) (by kernel_rfl) (fun c a w h => hP c a _ _ w h) (by rfl) ?h14 (by assumption) ?r14
    case h14 => intro w hSw; obtain ⟨h0, h1, h2, h3⟩ := hSw; go_simp; rfl
    simp only [Act.put, List.setIfInBounds_toArray, List.set_cons_zero, List.set_cons_succ]
    refine take_on (i := 2) (d := (some 60)) (v := ?v15) rfl rfl (by kernel_rfl) (by kernel_rfl) (by kernel_rfl) (fun c a w h => hP c a _ _ w h) (by rfl) ?h15 (by assumption) ?r15
    case h15 => intro w hSw; obtain ⟨h0, h1, h2, h3⟩ := hSw; go_simp; rfl
    simp only [Act.put, List.setIfInBounds_toArray, List.set_cons_zero, List.set_cons_succ]
    refine take_on (i := 3) (d := (some 4)) (v := ?v16) rfl rfl (by kernel_rfl) (by kernel_rfl) (by kernel_rfl) (fun c a w h => hP c a _ _ w h) (by rfl) ?h16 (by assumption) ?r16
    case h16 => intro w hSw; obtain ⟨h0, h1, h2, h3⟩ := hSw; go_simp; rfl
    simp only [Act.put, List.setIfInBounds_toArray, List.set_cons_zero, List.set_cons_succ]
    refine wpAnyH_ready (rs := [4]) (by kernel_rfl) (by simp) ?_
    refine AllReadyH.cons rfl (fun K hK => ?_) AllReadyH.nil
    have p0 := X5.out.c0
    have p1 := X5.out.c1
    have p2 := X5.out.f0
    have p3 := X5.out.f1
    go_simp
    clear hHeld
    replace P := Lib.hid (below_store P.out (show w.heap.size ≤ g5 by have := HG.out; omega) (.bool true) (.slice O (words one).length c2))
    replace X6 := Lib.hid (X6.out.far (show g5 ≠ g5 + 1 by omega) (.bool true) (.slice O (words one).length c2))
    replace WG := Lib.hid (WG.out.store p0 p1 (.bool true) (.slice O (words one).length c2))
    replace WO := Lib.hid (WO.out.store p0 p1 (.bool true) (.slice O (words one).length c2))
    replace WQ := Lib.hid (WQ.out.store p0 p1 (.bool true) (.slice O (words one).length c2))
    replace X5 := Lib.hid (X5.out.put true O (words one).length c2)
    clear p0 p1 p2 p3
    generalize (D10.setCell ⟨g5, 0, none⟩ (.bool true)).setCell ⟨g5, 1, none⟩ (.slice O (words one).length c2) = VX11 at P X5 X6 WG WO WQ ⊢
    refine hK.out _ _ ⟨X5.out.c0, X5.out.c1, X6.out.c0, X6.out.c1⟩ (fun hHeld => ?_)
    clear hK K
    clear hHeld
    refine wpAnyH_done (by kernel_rfl) ?_ _
    refine HT.out _ _ ?_
    clear HT hP QT
    have p0 := X6.out.c0
    have p1 := X6.out.c1
    have p2 := X6.out.f0
    have p3 := X6.out.f1
    refine wpList_step fun K hK => ?_
    go_simp
    refine hK _ _ ?_
    clear hK K
    replace P := Lib.hid (below_store P.out (show w.heap.size ≤ g5 + 1 by have := HG.out; omega) (.bool false) (.slice Aq (words ((X * one + gg) / Y)).length cq))
    replace X5 := Lib.hid (X5.out.far (show g5 + 1 ≠ g5 by omega) (.bool false) (.slice Aq (words ((X * one + gg) / Y)).length cq))
    replace WG := Lib.hid (WG.out.store p0 p1 (.bool false) (.slice Aq (words ((X * one + gg) / Y)).length cq))
    replace WO := Lib.hid (WO.out.store p0 p1 (.bool false) (.slice Aq (words ((X * one + gg) / Y)).length cq))
    replace WQ := Lib.hid (WQ.out.store p0 p1 (.bool false) (.slice Aq (words ((X * one + gg) / Y)).length cq))
    replace X6 := Lib.hid (X6.out.put false Aq (words ((X * one + gg) / Y)).length cq)
    clear p0 p1 p2 p3
    generalize (VX11.setCell ⟨g5 + 1, 0, none⟩ (.bool false)).setCell ⟨g5 + 1, 1, none⟩ (.slice Aq (words ((X * one + gg) / Y)).length cq) = VX6 at P X5 X6 WG WO WQ ⊢
    refine wpList_nil ?_
    go_wp2
    have y0 := X5.out.c0
    have y1 := X5.out.c1
    have y2 := X6.out.c0
    have y3 := X6.out.c1
    refine bodyPost_ret (v := .tuple #[.slice G (words gg).length c1, .agg #[.bool true, .slice O (words one).length c2], .agg #[.bool false, .slice Aq (words ((X * one + gg) / Y)).length cq]]) (by simp [results, Try.results83, go_sem, y0, y1, y2, y3]) rfl ?_
    exact ⟨G, c1, true, O, c2, one, false, Aq, cq, (X * one + gg) / Y, by rw [← HGG.out], by rw [← HGG.out]; exact WG.out, WO.out, WQ.out, by have := HONE.out; omega, HBZ.out.1, by rw [← HGG.out]; exact HBZ.out.2, P.out⟩
  | false =>
    have q0 := X5.out.c0
    obtain ⟨r, hr⟩ : ∃ r, r = ord ((X * one : Nat) : Int) (gg : Int) := ⟨_, rfl⟩
    have HR := Lib.hid hr.symm
    go_wp2_with fail
    refine (compare_c Ap G _ cp _ c1 (words (X * one)) (words gg) _ WP.out.rd WG.out.rd (words_canon _) (words_canon _) (by omega) (by omega)).mono ?_
    rw [val_words, val_words, HR.out]
    rintro e w3 ⟨rfl, kd, rfl⟩
    have hb := below_drewN (Below.refl w2.heap.size w2) kd
    replace P := Lib.hid (P.out.trans (hb.mono P.out.size))
    replace X5 := Lib.hid (X5.out.next hb)
    replace X6 := Lib.hid (X6.out.next hb)
    replace RB := Lib.hid (RB.out.below hb)
    replace WG := Lib.hid (WG.out.below hb)
    replace WO := Lib.hid (WO.out.below hb)
    replace WP := Lib.hid (WP.out.below hb)
    clear hb q0
    generalize w2.drewN kd = W3 at P X5 X6 RB WG WO WP ⊢
    have y0 := X6.out.c0
    have y1 := X6.out.c1
    have y2 := X6.out.f0
    have y3 := X6.out.f1
    by_cases hlt : X * one < gg
    · obtain rfl : r = -1 := by rw [hr]; exact ord_lt (by omega)
      have HBZ := Lib.hid (And.intro (show 1 ≤ X + 1 by omega) (bez_less HBP.out HGB.out HK.out hlt))
      clear hlt hr HR
      have hw1 : words 1 = [1] := words_one (by omega) (by omega)
      have R1 : Rd (W3.alloc (row [1])) (some ⟨W3.heap.size, 0, none⟩) 1 [1] := (Bk.new W3 (xs := [1]) (small_one (by omega))).rd
      have WQ := Lib.hid (show Wd (W3.alloc (row [1])) 1 (some ⟨W3.heap.size, 0, none⟩) 1 from ⟨by rw [hw1]; exact R1, by rw [hw1]; simp, by omega⟩)
      have HO := Lib.hid (show Obj.cells #[Value.int .u32 1] 60 = row [1] from rfl)
      have HW := Lib.hid (show (words 1).length = 1 by rw [hw1]; rfl)
      have hb := below_alloc W3 (row [1])
      replace P := Lib.hid (P.out.trans (hb.mono P.out.size))
      replace X5 := Lib.hid (X5.out.next hb)
      replace X6 := Lib.hid (X6.out.next hb)
      replace WG := Lib.hid (WG.out.below hb)
      replace WO := Lib.hid (WO.out.below hb)
      clear hb hw1 R1 RB WP y0 y1 y2 y3
      rw [← HO.out] at P X5 X6 WG WO WQ
      have y0 := X6.out.c0
      have y1 := X6.out.c1
      have y2 := X6.out.f0
      have y3 := X6.out.f1
      go_upto_region 12 with (fail)
      rw [HO.out] at P X5 X6 WG WO WQ y0 y1 y2 y3 ⊢
      generalize W3.alloc (row [1]) = W5 at P X5 X6 WG WO WQ y0 y1 y2 y3 ⊢
      generalize W3.heap.size = gn at WQ ⊢
      replace P := Lib.hid (P.out.setCell (p := ⟨g5 + 1, 1, none⟩) (show w.heap.size ≤ g5 + 1 by have := HG.out; omega) (.slice (some ⟨gn, 0, none⟩) 1 1))
      replace X5 := Lib.hid (X5.out.off (p := ⟨g5 + 1, 1, none⟩) (show g5 + 1 ≠ g5 by omega) (.slice (some ⟨gn, 0, none⟩) 1 1))
      replace WG := Lib.hid (WG.out.off1 X6.out (.slice (some ⟨gn, 0, none⟩) 1 1))
      replace WO := Lib.hid (WO.out.off1 X6.out (.slice (some ⟨gn, 0, none⟩) 1 1))
      replace WQ := Lib.hid (WQ.out.off1 X6.out (.slice (some ⟨gn, 0, none⟩) 1 1))
      replace X6 := Lib.hid (X6.out.put1 (some ⟨gn, 0, none⟩) 1 1)
      clear y0 y1 y2 y3
      generalize W5.setCell ⟨g5 + 1, 1, none⟩ (.slice (some ⟨gn, 0, none⟩) 1 1) = W4 at P X5 X6 WG WO WQ ⊢
      refine wp_region_tail (S := (fun w' => w'.cell? ⟨g5, 0, none⟩ = some (.bool false) ∧ w'.cell? ⟨g5, 1, none⟩ = some (.slice O (words one).length c2) ∧ w'.cell? ⟨g5 + 1, 0, none⟩ = some (.bool false) ∧ w'.cell? ⟨g5 + 1, 1, none⟩ = some (.slice (some ⟨gn, 0, none⟩) 1 1))) 5 (by kernel_rfl) (by kernel_rfl) (by intro c a d v w h; cases d <;> exact h) ⟨cell_dr7 X5.out.c0, cell_dr7 X5.out.c1, cell_dr7 X6.out.c0, cell_dr7 X6.out.c1⟩ (fun QT hT hP hHeld => ?_)
      simp only [List.extract_toArray, List.extract_eq_take_drop, List.drop_zero, Nat.sub_zero, List.take_succ_cons, List.take_zero]
      have HT := Lib.hid hT
      clear hT
      replace P := Lib.hid (P.out.trans ((Below.refl W4.heap.size W4).drew.mono P.out.size))
      replace X5 := Lib.hid (X5.out.next (Below.refl W4.heap.size W4).drew)
      replace X6 := Lib.hid (X6.out.next (Below.refl W4.heap.size W4).drew)
      replace WG := Lib.hid (WG.out.below (Below.refl W4.heap.size W4).drew)
      replace WO := Lib.hid (WO.out.below (Below.refl W4.heap.size W4).drew)
      replace WQ := Lib.hid (WQ.out.below (Below.refl W4.heap.size W4).drew)
      generalize W4.drew = D12 at P X5 X6 WG WO WQ hHeld ⊢
      refine take_on (i := 0) (d := (some 58)) (v := ?v17) rfl rfl (by kernel_rfl) (by kernel_rfl) (by kernel_rfl) (fun c a w h => hP c a _ _ w h) (by rfl) ?h17 (by assumption) ?r17
      case h17 => intro w hSw; obtain ⟨h0, h1, h2, h3⟩ := hSw; go_simp; rfl
      simp only [Act.put, List.setIfInBounds_toArray, List.set_cons_zero, List.set_cons_succ]
      refine take_on (i := 1) (d := (some 59)) (v := ?v18) rfl rfl (by kernel_rfl) (by kernel_rfl) (by kernel_rfl) (fun c a w h => hP c a _ _ w h) (by rfl) ?h18 (by assumption) ?r18
      case h18 => intro w hSw; obtain ⟨h0, h1, h2, h3⟩ := hSw; go_simp; rfl
      simp only [Act.put, List.setIfInBounds_toArray, List.set_cons_zero, List.set_cons_succ]
      refine take_on (i := 2) (d := (some 60)) (v := ?v19) rfl rfl (by kernel_rfl) (by kernel_rfl) (by kernel_rfl) (fun c a w h => hP c a _ _ w h) (by rfl) ?h19 (by assumption) ?r19
      case h19 => intro w hSw; obtain ⟨h0, h1, h2, h3⟩ := hSw; go_simp; rfl
      simp only [Act.put, List.setIfInBounds_toArray, List.set_cons_zero, List.set_cons_succ]
      refine take_on (i := 3) (d := (some 4)) (v := ?v20) rfl rfl (by kernel_rfl) (by kernel_rfl) (by kernel_rfl) (fun c a w h => hP c a _ _ w h) (by rfl) ?h20 (by assumption) ?r20
      case h20 => intro w hSw; obtain ⟨h0, h1, h2, h3⟩ := hSw; go_simp; rfl
      simp only [Act.put, List.setIfInBounds_toArray, List.set_cons_zero, List.set_cons_succ]
      refine wpAnyH_ready (rs := [4]) (by kernel_rfl) (by simp) ?_
      refine AllReadyH.cons rfl (fun K hK => ?_) AllReadyH.nil
      have p0 := X5.out.c0
      have p1 := X5.out.c1
      have p2 := X5.out.f0
      have p3 := X5.out.f1
      go_simp
      clear hHeld
      replace P := Lib.hid (below_store P.out (show w.heap.size ≤ g5 by have := HG.out; omega) (.bool false) (.slice O (words one).length c2))
      replace X6 := Lib.hid (X6.out.far (show g5 ≠ g5 + 1 by omega) (.bool false) (.slice O (words one).length c2))
      replace WG := Lib.hid (WG.out.store p0 p1 (.bool false) (.slice O (words one).length c2))
      replace WO := Lib.hid (WO.out.store p0 p1 (.bool false) (.slice O (words one).length c2))
      replace WQ := Lib.hid (WQ.out.store p0 p1 (.bool false) (.slice O (words one).length c2))
      replace X5 := Lib.hid (X5.out.put false O (words one).length c2)
      clear p0 p1 p2 p3
      generalize (D12.setCell ⟨g5, 0, none⟩ (.bool false)).setCell ⟨g5, 1, none⟩ (.slice O (words one).length c2) = VX13 at P X5 X6 WG WO WQ ⊢
      refine hK.out _ _ ⟨X5.out.c0, X5.out.c1, X6.out.c0, X6.out.c1⟩ (fun hHeld => ?_)
      clear hK K
      clear hHeld
      refine wpAnyH_done (by kernel_rfl) ?_ _
      refine HT.out _ _ ?_
      clear HT hP QT
      have p0 := X6.out.c0
      have p1 := X6.out.c1
      have p2 := X6.out.f0
      have p3 := X6.out.f1
      refine wpList_step fun K hK => ?_
      go_simp
      refine hK _ _ ?_
      clear hK K
      replace P := Lib.hid (below_store P.out (show w.heap.size ≤ g5 + 1 by have := HG.out; omega) (.bool false) (.slice (some ⟨gn, 0, none⟩) 1 1))
      replace X5 := Lib.hid (X5.out.far (show g5 + 1 ≠ g5 by omega) (.bool false) (.slice (some ⟨gn, 0, none⟩) 1 1))
      replace WG := Lib.hid (WG.out.store p0 p1 (.bool false) (.slice (some ⟨gn, 0, none⟩) 1 1))
      replace WO := Lib.hid (WO.out.store p0 p1 (.bool false) (.slice (some ⟨gn, 0, none⟩) 1 1))
      replace WQ := Lib.hid (WQ.out.store p0 p1 (.bool false) (.slice (some ⟨gn, 0, none⟩) 1 1))
      replace X6 := Lib.hid (X6.out.put false (some ⟨gn, 0, none⟩) 1 1)
      clear p0 p1 p2 p3
      generalize (VX13.setCell ⟨g5 + 1, 0, none⟩ (.bool false)).setCell ⟨g5 + 1, 1, none⟩ (.slice (some ⟨gn, 0, none⟩) 1 1) = VX6 at P X5 X6 WG WO WQ ⊢
      refine wpList_nil ?_
      go_wp2
      have y0 := X5.out.c0
      have y1 := X5.out.c1
      have y2 := X6.out.c0
      have y3 := X6.out.c1
      refine bodyPost_ret (v := .tuple #[.slice G (words gg).length c1, .agg #[.bool false, .slice O (words one).length c2], .agg #[.bool false, .slice (some ⟨gn, 0, none⟩) 1 1]]) (by simp [results, Try.results83, go_sem, y0, y1, y2, y3]) rfl ?_
      exact ⟨G, c1, false, O, c2, one, false, (some ⟨gn, 0, none⟩), 1, 1, by rw [← HGG.out, HW.out], by rw [← HGG.out]; exact WG.out, WO.out, WQ.out, by have := HONE.out; omega, HBZ.out.1, by rw [← HGG.out]; exact HBZ.out.2, P.out⟩
    · have r0 : 0 ≤ r := by
        rw [hr]
        rcases Nat.lt_or_ge gg (X * one) with h | h
        · rw [ord_gt (by omega)]; omega
        · rw [ord_eq (by omega)]; exact Int.le_refl _
      have t1 : decide (r < 0) = false := decide_eq_false (by omega)
      have HBZ := Lib.hid (bez_pos HBP.out HONE.out HK.out (Nat.le_of_not_lt hlt))
      have HLT := Lib.hid (Nat.le_of_not_lt hlt)
      clear hlt hr HR
      go_upto_region 7 with (fail)
      replace P := Lib.hid (P.out.setCell (p := ⟨g5 + 1, 0, none⟩) (show w.heap.size ≤ g5 + 1 by have := HG.out; omega) (.bool true))
      replace X5 := Lib.hid (X5.out.off (p := ⟨g5 + 1, 0, none⟩) (show g5 + 1 ≠ g5 by omega) (.bool true))
      replace RB := Lib.hid (RB.out.off X6.out.c0 (fun _ => by simp) (.bool true))
      replace WG := Lib.hid (WG.out.off0 X6.out (.bool true))
      replace WO := Lib.hid (WO.out.off0 X6.out (.bool true))
      replace WP := Lib.hid (WP.out.off0 X6.out (.bool true))
      replace X6 := Lib.hid (X6.out.put0 true)
      clear y0 y1 y2 y3
      generalize W3.setCell ⟨g5 + 1, 0, none⟩ (.bool true) = W5 at P X5 X6 RB WG WO WP ⊢
      have lgp := words_mono HLT.out
      go_wp2_with fail
      refine (subtract_c Ap G _ cp _ c1 (words (X * one)) (words gg) _ WP.out.rd WG.out.rd (by omega) lgp (by rw [val_words, val_words]; exact HLT.out)).mono ?_
      rw [val_words, val_words]
      rintro e w3 ⟨As, cs, rfl, r1, r2, r3, hb, -⟩
      have WS := Lib.hid (Wd.mk r1 r2 r3)
      replace P := Lib.hid (P.out.trans (hb.mono P.out.size))
      replace X5 := Lib.hid (X5.out.next hb)
      replace X6 := Lib.hid (X6.out.next hb)
      replace RB := Lib.hid (RB.out.below hb)
      replace WG := Lib.hid (WG.out.below hb)
      replace WO := Lib.hid (WO.out.below hb)
      have ls : (words (X * one - gg)).length ≤ 2000000 := Nat.le_trans (words_mono (Nat.sub_le _ _)) lp
      clear hb r1 r2 r3 WP lgp
      go_wp2_with fail
      refine (divide_c As B _ cs m d (words (X * one - gg)) ys _ WS.out.rd RB.out (words_canon _) HC.out.2 (by omega) (by have := HN.out; omega) H0.out).mono ?_
      rw [val_words, HVY.out]
      rintro e w4 ⟨Aq, cq, Ar, cr, rfl, r1, r2, r3, -, -, -, hb⟩
      have WQ := Lib.hid (Wd.mk r1 r2 r3)
      replace P := Lib.hid (P.out.trans (hb.mono P.out.size))
      replace X5 := Lib.hid (X5.out.next hb)
      replace X6 := Lib.hid (X6.out.next hb)
      replace WG := Lib.hid (WG.out.below hb)
      replace WO := Lib.hid (WO.out.below hb)
      clear hb r1 r2 r3 WS RB
      have y0 := X6.out.c0
      have y1 := X6.out.c1
      have y2 := X6.out.f0
      have y3 := X6.out.f1
      go_upto_region 12 with (fail)
      replace P := Lib.hid (P.out.setCell (p := ⟨g5 + 1, 1, none⟩) (show w.heap.size ≤ g5 + 1 by have := HG.out; omega) (.slice Aq (words ((X * one - gg) / Y)).length cq))
      replace X5 := Lib.hid (X5.out.off (p := ⟨g5 + 1, 1, none⟩) (show g5 + 1 ≠ g5 by omega) (.slice Aq (words ((X * one - gg) / Y)).length cq))
      replace WG := Lib.hid (WG.out.off1 X6.out (.slice Aq (words ((X * one - gg) / Y)).length cq))
      replace WO := Lib.hid (WO.out.off1 X6.out (.slice Aq (words ((X * one - gg) / Y)).length cq))
      replace WQ := Lib.hid (WQ.out.off1 X6.out (.slice Aq (words ((X * one - gg) / Y)).length cq))
      replace X6 := Lib.hid (X6.out.put1 Aq (words ((X * one - gg) / Y)).length cq)
      clear y0 y1 y2 y3
      generalize w4.setCell ⟨g5 + 1, 1, none⟩ (.slice Aq (words ((X * one - gg) / Y)).length cq) = W4 at P X5 X6 WG WO WQ ⊢
      refine wp_region_tail (S := (fun w' => w'.cell? ⟨g5, 0, none⟩ = some (.bool false) ∧ w'.cell? ⟨g5, 1, none⟩ = some (.slice O (words one).length c2) ∧ w'.cell? ⟨g5 + 1, 0, none⟩ = some (.bool true) ∧ w'.cell? ⟨g5 + 1, 1, none⟩ = some (.slice Aq (words ((X * one - gg) / Y)).length cq))) 5 (by kernel_rfl) (by kernel_rfl) (by intro c a d v w h; cases d <;> exact h) ⟨cell_dr7 X5.out.c0, cell_dr7 X5.out.c1, cell_dr7 X6.out.c0, cell_dr7 X6.out.c1⟩ (fun QT hT hP hHeld => ?_)
      simp only [List.extract_toArray, List.extract_eq_take_drop, List.drop_zero, Nat.sub_zero, List.take_succ_cons, List.take_zero]
      have HT := Lib.hid hT
      clear hT
      replace P := Lib.hid (P.out.trans ((Below.refl W4.heap.size W4).drew.mono P.out.size))
      replace X5 := Lib.hid (X5.out.next (Below.refl W4.heap.size W4).drew)
      replace X6 := Lib.hid (X6.out.next (Below.refl W4.heap.size W4).drew)
      replace WG := Lib.hid (WG.out.below (Below.refl W4.heap.size W4).drew)
      replace WO := Lib.hid (WO.out.below (Below.refl W4.heap.size W4).drew)
      replace WQ := Lib.hid (WQ.out.below (Below.refl W4.heap.size W4).drew)
      generalize W4.drew = D14 at P X5 X6 WG WO WQ hHeld ⊢
      refine take_on (i := 0) (d := (some 58)) (v := ?v21) rfl rfl (by kernel_rfl) (by kernel_rfl) (by kernel_rfl) (fun c a w h => hP c a _ _ w h) (by rfl) ?h21 (by assumption) ?r21
      case h21 => intro w hSw; obtain ⟨h0, h1, h2, h3⟩ := hSw; go_simp; rfl
      simp only [Act.put, List.setIfInBounds_toArray, List.set_cons_zero, List.set_cons_succ]
      refine take_on (i := 1) (d := (some 59)) (v := ?v22) rfl rfl (by kernel_rfl) (by kernel_rfl) (by kernel_rfl) (fun c a w h => hP c a _ _ w h) (by rfl) ?h22 (by assumption) ?r22
      case h22 => intro w hSw; obtain ⟨h0, h1, h2, h3⟩ := hSw; go_simp; rfl
      simp only [Act.put, List.setIfInBounds_toArray, List.set_cons_zero, List.set_cons_succ]
      refine take_on (i := 2) (d := (some 60)) (v := ?v23) rfl rfl (by kernel_rfl) (by kernel_rfl) (by kernel_rfl) (fun c a w h => hP c a _ _ w h) (by rfl) ?h23 (by assumption) ?r23
      case h23 => intro w hSw; obtain ⟨h0, h1, h2, h3⟩ := hSw; go_simp; rfl
      simp only [Act.put, List.setIfInBounds_toArray, List.set_cons_zero, List.set_cons_succ]
      refine take_on (i := 3) (d := (some 4)) (v := ?v24) rfl rfl (by kernel_rfl) (by kernel_rfl) (by kernel_rfl) (fun c a w h => hP c a _ _ w h) (by rfl) ?h24 (by assumption) ?r24
      case h24 => intro w hSw; obtain ⟨h0, h1, h2, h3⟩ := hSw; go_simp; rfl
      simp only [Act.put, List.setIfInBounds_toArray, List.set_cons_zero, List.set_cons_succ]
      refine wpAnyH_ready (rs := [4]) (by kernel_rfl) (by simp) ?_
      refine AllReadyH.cons rfl (fun K hK => ?_) AllReadyH.nil
      have p0 := X5.out.c0
      have p1 := X5.out.c1
      have p2 := X5.out.f0
      have p3 := X5.out.f1
      go_simp
      clear hHeld
      replace P := Lib.hid (below_store P.out (show w.heap.size ≤ g5 by have := HG.out; omega) (.bool false) (.slice O (words one).length c2))
      replace X6 := Lib.hid (X6.out.far (show g5 ≠ g5 + 1 by omega) (.bool false) (.slice O (words one).length c2))
      replace WG := Lib.hid (WG.out.store p0 p1 (.bool false) (.slice O (words one).length c2))
      replace WO := Lib.hid (WO.out.store p0 p1 (.bool false) (.slice O (words one).length c2))
      replace WQ := Lib.hid (WQ.out.store p0 p1 (.bool false) (.slice O (words one).length c2))
      replace X5 := Lib.hid (X5.out.put false O (words one).length c2)
      clear p0 p1 p2 p3
      generalize (D14.setCell ⟨g5, 0, none⟩ (.bool false)).setCell ⟨g5, 1, none⟩ (.slice O (words one).length c2) = VX15 at P X5 X6 WG WO WQ ⊢
      refine hK.out _ _ ⟨X5.out.c0, X5.out.c1, X6.out.c0, X6.out.c1⟩ (fun hHeld => ?_)
      clear hK K
      clear hHeld
      refine wpAnyH_done (by kernel_rfl) ?_ _
      refine HT.out _ _ ?_
      clear HT hP QT
      have p0 := X6.out.c0
      have p1 := X6.out.c1
      have p2 := X6.out.f0
      have p3 := X6.out.f1
      refine wpList_step fun K hK => ?_
      go_simp
      refine hK _ _ ?_
      clear hK K
      replace P := Lib.hid (below_store P.out (show w.heap.size ≤ g5 + 1 by have := HG.out; omega) (.bool true) (.slice Aq (words ((X * one - gg) / Y)).length cq))
      replace X5 := Lib.hid (X5.out.far (show g5 + 1 ≠ g5 by omega) (.bool true) (.slice Aq (words ((X * one - gg) / Y)).length cq))
      replace WG := Lib.hid (WG.out.store p0 p1 (.bool true) (.slice Aq (words ((X * one - gg) / Y)).length cq))
      replace WO := Lib.hid (WO.out.store p0 p1 (.bool true) (.slice Aq (words ((X * one - gg) / Y)).length cq))
      replace WQ := Lib.hid (WQ.out.store p0 p1 (.bool true) (.slice Aq (words ((X * one - gg) / Y)).length cq))
      replace X6 := Lib.hid (X6.out.put true Aq (words ((X * one - gg) / Y)).length cq)
      clear p0 p1 p2 p3
      generalize (VX15.setCell ⟨g5 + 1, 0, none⟩ (.bool true)).setCell ⟨g5 + 1, 1, none⟩ (.slice Aq (words ((X * one - gg) / Y)).length cq) = VX6 at P X5 X6 WG WO WQ ⊢
      refine wpList_nil ?_
      go_wp2
      have y0 := X5.out.c0
      have y1 := X5.out.c1
      have y2 := X6.out.c0
      have y3 := X6.out.c1
      refine bodyPost_ret (v := .tuple #[.slice G (words gg).length c1, .agg #[.bool false, .slice O (words one).length c2], .agg #[.bool true, .slice Aq (words ((X * one - gg) / Y)).length cq]]) (by simp [results, Try.results83, go_sem, y0, y1, y2, y3]) rfl ?_
      exact ⟨G, c1, false, O, c2, one, true, Aq, cq, (X * one - gg) / Y, by rw [← HGG.out], by rw [← HGG.out]; exact WG.out, WO.out, WQ.out, by have := HONE.out; omega, HBZ.out.1, by rw [← HGG.out]; exact HBZ.out.2, P.out⟩
theorem common_c (A B : Option Addr) (n c m d : Nat) (xs ys : List Nat) (w : World) (ha : Rd w A n xs) (hb : Rd w B m ys) (cx : canon xs) (cy : canon ys) (hn : n ≤ 1000000) (hm : m ≤ 1000000) (hnc : n ≤ c) (hc2 : c ≤ 9223372036854775807) :
    Calls Try.prog 83 #[.slice A n c, .slice B m d] w (ComPost (val xs) (val ys) w) := by
  rcases Nat.eq_zero_or_pos m with h0 | h0
  · rcases Nat.eq_zero_or_pos n with h1 | h1
    · exact common_zero A B n c m d xs ys w ha hb cx cy hn hm h0 h1
    · rcases Nat.lt_or_ge 1 n with h2 | h2
      · exact common_more A B n c m d xs ys w ha hb cx cy hn hm h0 h2
      · exact common_one A B n c m d xs ys w ha hb cx cy hn hm h0 (by omega)
  · exact common_pos A B n c m d xs ys w ha hb cx cy hn hm hnc hc2 h0
end Go.Proofs.Ytbblckaplddggaa
