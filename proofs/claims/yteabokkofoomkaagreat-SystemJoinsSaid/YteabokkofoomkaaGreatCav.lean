import Derived.Test.YteabokkofoomkaaGreatCak
import Derived.Test.YteabokkofoomkaaGreatCau
set_option maxRecDepth 100000
namespace Go.Proofs.YteabokkofoomkaaGreat
open Go.RowKit Go.Shelf Go.Deep
def prevI (vs : List Int) (i : Nat) : Int := if i = 0 then -1 else vs.getD (i - 1) 0
def risesAll (vs : List Int) (vars : Int) : Bool := decide (∀ i, i < vs.length → prevI vs i < vs.getD i 0 ∧ vs.getD i 0 < vars)
def headL (l : Lnk) : Bool := decide (0 ≤ l.kind ∧ l.kind < 4 ∧ (l.ps.length : Int) = polysOf l.kind ∧ l.vs.length ≤ 32)
def validLnk (l : Lnk) (vars : Int) : Bool := headL l && risesAll l.vs vars && !anyP (badPly l.vs.length) l.ps
theorem vl_head {l : Lnk} {vars : Int} (h : ¬ (0 ≤ l.kind ∧ l.kind < 4 ∧ (l.ps.length : Int) = polysOf l.kind ∧ l.vs.length ≤ 32)) : validLnk l vars = false := by
 unfold validLnk headL
 rw [decide_eq_false h]; rfl
theorem vl_rises {l : Lnk} {vars : Int} {k : Nat} (hk : k < l.vs.length) (h : ¬ (prevI l.vs k < l.vs.getD k 0 ∧ l.vs.getD k 0 < vars)) : validLnk l vars = false := by
 have : risesAll l.vs vars = false := decide_eq_false fun q => h (q k hk)
 unfold validLnk
 rw [this, Bool.and_false]; rfl
theorem vl_last {l : Lnk} {vars : Int} (h : 0 ≤ l.kind ∧ l.kind < 4 ∧ (l.ps.length : Int) = polysOf l.kind ∧ l.vs.length ≤ 32) (h2 : ∀ i, i < l.vs.length → prevI l.vs i < l.vs.getD i 0 ∧ l.vs.getD i 0 < vars) : validLnk l vars = !anyP (badPly l.vs.length) l.ps := by
 unfold validLnk headL risesAll
 rw [decide_eq_true h, decide_eq_true h2]; rfl
abbrev aggL (kind : Int) (B : Option Addr) (m d : Nat) (C : Option Addr) (p q : Nat) : Value := .agg #[.int .i64 kind, .slice B m d, .slice C p q]
abbrev boxL (kind : Int) (B : Option Addr) (m d : Nat) (C : Option Addr) (p q : Nat) : Obj := .cells #[.int .i64 kind, .slice B m d, .slice C p q] 51
structure BxL (W : World) (g : Nat) (kind : Int) (B : Option Addr) (m d : Nat) (C : Option Addr) (p q : Nat) : Prop where
 lt : g < W.heap.size
 c0 : W.cell? ⟨g, 0, none⟩ = some (.int .i64 kind)
 c1 : W.cell? ⟨g, 1, none⟩ = some (.slice B m d)
 c2 : W.cell? ⟨g, 2, none⟩ = some (.slice C p q)
theorem BxL.next {W W' : World} {g : Nat} {kind : Int} {B : Option Addr} {m d : Nat} {C : Option Addr} {p q : Nat} (h : BxL W g kind B m d C p q) (hb : Below W.heap.size W W') : BxL W' g kind B m d C p q :=
 ⟨Nat.lt_of_lt_of_le h.lt hb.size, (hb.cell (p := ⟨g, 0, none⟩) h.lt).trans h.c0, (hb.cell (p := ⟨g, 1, none⟩) h.lt).trans h.c1, (hb.cell (p := ⟨g, 2, none⟩) h.lt).trans h.c2⟩
theorem BxL.new (W : World) (kind : Int) (B : Option Addr) (m d : Nat) (C : Option Addr) (p q : Nat) : BxL (W.alloc (boxL kind B m d C p q)) W.heap.size kind B m d C p q :=
 ⟨by simp, by go_simp, by go_simp, by go_simp⟩
theorem onLink (g : Nat) (B : Option Addr) (m d : Nat) : OnPly 84 #[.pointer (some ⟨g, 0, none⟩)] (fun W => g < W.heap.size ∧ W.cell? ⟨g, 1, none⟩ = some (.slice B m d)) (badPly m) :=
 ⟨enters_of Tryz.func84 (by kernel_rfl) rfl, fun W W' h hb => ⟨Nat.lt_of_lt_of_le h.1 hb.size, (hb.cell (p := ⟨g, 1, none⟩) h.1).trans h.2⟩, fun W V A n c ts h hr => validLink1_c V A n c ts g B m d W hr h.1 h.2⟩
set_option maxHeartbeats 8000000 in
theorem validLink_c (kind : Int) (B : Option Addr) (m d : Nat) (vs : List Int) (C : Option Addr) (p q : Nat) (ps : List Ply) (vars : Int) (w : World) (h : RdI w B m vs) (h' : RdP w C p ps) (hp : p ≤ 9223372036854775807) :
 Calls Tryz.prog 41 #[aggL kind B m d C p q, .int .i64 vars] w (RetB (validLnk ⟨kind, vs, ps⟩ vars) w) := by
 have k0 := bel_alloc w (boxL kind B m d C p q)
 have P := Lib.hid k0
 have R1 := Lib.hid (h.below k0)
 have R2 := Lib.hid (h'.below k0)
 have X := Lib.hid (BxL.new w kind B m d C p q)
 have HL := Lib.hid (And.intro h.len (And.intro h'.len hp))
 clear h h' k0 hp
 go_enter Tryz.func41, Tryz.ntmps41
 go_upto_region 1 with (fail)
 generalize w.alloc (boxL kind B m d C p q) = W0 at P R1 R2 X ⊢
 obtain ⟨g, hg⟩ : ∃ g, g = w.heap.size := ⟨_, rfl⟩
 rw [← hg] at X ⊢
 clear hg
 by_cases q1 : kind < 0
 · have t1 : decide (kind < 0) = true := decide_eq_true q1
   have HF := Lib.hid (vl_head (l := ⟨kind, vs, ps⟩) (vars := vars) (fun hh => by have := hh.1; dsimp only at this; omega))
   refine wp_region_held_drew (S := (fun w' => w'.cell? ⟨g, 0, none⟩ = some (.int .i64 kind) ∧ w'.cell? ⟨g, 1, none⟩ = some (.slice B m d) ∧ w'.cell? ⟨g, 2, none⟩ = some (.slice C p q))) (by kernel_rfl) (⟨cell_drq X.out.c0, cell_drq X.out.c1, cell_drq X.out.c2⟩) (fun hHeld => ?_)
   replace P := Lib.hid (P.out.trans ((Below.refl W0.heap.size W0).drew.mono P.out.size))
   replace R1 := Lib.hid (R1.out.below (Below.refl W0.heap.size W0).drew)
   replace R2 := Lib.hid (R2.out.below (Below.refl W0.heap.size W0).drew)
   replace X := Lib.hid (X.out.next (Below.refl W0.heap.size W0).drew)
   generalize W0.drew = D1 at P R1 R2 X hHeld ⊢
   refine tkk 0 8 rfl rfl (by kernel_rfl) (fun _ _ _ _ h => h) (by rfl) (fun w h => by obtain ⟨h0, h1, h2⟩ := h; go_simp; rfl) (by assumption) ?_
   simp only [set0, set1]
   refine tkk 1 9 rfl rfl (by kernel_rfl) (fun _ _ _ _ h => h) (by rfl) (fun w h => by obtain ⟨h0, h1, h2⟩ := h; go_simp; rfl) (by assumption) ?_
   simp only [set0, set1]
   refine tkk 2 10 rfl rfl (by kernel_rfl) (fun _ _ _ _ h => h) (by rfl) (fun w h => by obtain ⟨h0, h1, h2⟩ := h; go_simp; rfl) (by assumption) ?_
   simp only [set0, set1]
   refine tkk 3 11 rfl rfl (by kernel_rfl) (fun _ _ _ _ h => h) (by rfl) (fun w h => by obtain ⟨h0, h1, h2⟩ := h; go_simp; rfl) (by assumption) ?_
   simp only [set0, set1]
   refine tff 4 12 rfl rfl (by kernel_rfl) (fun _ _ _ _ h => h) (by rfl) (by assumption) ?_
   simp only [set0, set1]
   refine tff 5 13 rfl rfl (by kernel_rfl) (fun _ _ _ _ h => h) (by rfl) (by assumption) ?_
   simp only [set0, set1]
   refine tff 6 14 rfl rfl (by kernel_rfl) (fun _ _ _ _ h => h) (by rfl) (by assumption) ?_
   simp only [set0, set1]
   refine tkk 7 15 rfl rfl (by kernel_rfl) (fun _ _ _ _ h => h) (by rfl) (fun w h => by obtain ⟨h0, h1, h2⟩ := h; go_simp; rfl) (by assumption) ?_
   simp only [set0, set1]
   refine tkk 8 16 rfl rfl (by kernel_rfl) (fun _ _ _ _ h => h) (by rfl) (fun w h => by obtain ⟨h0, h1, h2⟩ := h; go_simp; rfl) (by assumption) ?_
   simp only [set0, set1]
   refine tff 9 17 rfl rfl (by kernel_rfl) (fun _ _ _ _ h => h) (by rfl) (by assumption) ?_
   simp only [set0, set1]
   refine tff 10 18 rfl rfl (by kernel_rfl) (fun _ _ _ _ h => h) (by rfl) (by assumption) ?_
   simp only [set0, set1]
   refine tff 11 19 rfl rfl (by kernel_rfl) (fun _ _ _ _ h => h) (by rfl) (by assumption) ?_
   simp only [set0, set1]
   refine tff 12 20 rfl rfl (by kernel_rfl) (fun _ _ _ _ h => h) (by rfl) (by assumption) ?_
   simp only [set0, set1]
   refine tff 13 21 rfl rfl (by kernel_rfl) (fun _ _ _ _ h => h) (by rfl) (by assumption) ?_
   simp only [set0, set1]
   refine tff 14 22 rfl rfl (by kernel_rfl) (fun _ _ _ _ h => h) (by rfl) (by assumption) ?_
   simp only [set0, set1]
   refine tff 15 23 rfl rfl (by kernel_rfl) (fun _ _ _ _ h => h) (by rfl) (by assumption) ?_
   simp only [set0, set1]
   refine tkk 16 24 rfl rfl (by kernel_rfl) (fun _ _ _ _ h => h) (by rfl) (fun w h => by obtain ⟨h0, h1, h2⟩ := h; go_simp; rfl) (by assumption) ?_
   simp only [set0, set1]
   refine tkk 17 25 rfl rfl (by kernel_rfl) (fun _ _ _ _ h => h) (by rfl) (fun w h => by obtain ⟨h0, h1, h2⟩ := h; go_simp; rfl) (by assumption) ?_
   simp only [set0, set1]
   refine tff 18 26 rfl rfl (by kernel_rfl) (fun _ _ _ _ h => h) (by rfl) (by assumption) ?_
   simp only [set0, set1]
   refine tff 19 27 rfl rfl (by kernel_rfl) (fun _ _ _ _ h => h) (by rfl) (by assumption) ?_
   simp only [set0, set1]
   refine tff 20 28 rfl rfl (by kernel_rfl) (fun _ _ _ _ h => h) (by rfl) (by assumption) ?_
   simp only [set0, set1]
   refine tff 21 29 rfl rfl (by kernel_rfl) (fun _ _ _ _ h => h) (by rfl) (by assumption) ?_
   simp only [set0, set1]
   refine tkk 22 30 rfl rfl (by kernel_rfl) (fun _ _ _ _ h => h) (by rfl) (fun w h => by obtain ⟨h0, h1, h2⟩ := h; go_simp; rfl) (by assumption) ?_
   clear hHeld
   refine wpAnyH_done (by kernel_rfl) ?_ _
   go_wp2
   go_ret
   exact ⟨by rw [HF.out] <;> rfl, P.out⟩
 have t1 : decide (kind < 0) = false := decide_eq_false q1
 by_cases q2 : 4 ≤ kind
 · have t2 : decide (4 ≤ kind) = true := decide_eq_true q2
   have HF := Lib.hid (vl_head (l := ⟨kind, vs, ps⟩) (vars := vars) (fun hh => by have := hh.2.1; dsimp only at this; omega))
   refine wp_region_held_drew (S := (fun w' => w'.cell? ⟨g, 0, none⟩ = some (.int .i64 kind) ∧ w'.cell? ⟨g, 1, none⟩ = some (.slice B m d) ∧ w'.cell? ⟨g, 2, none⟩ = some (.slice C p q))) (by kernel_rfl) (⟨cell_drq X.out.c0, cell_drq X.out.c1, cell_drq X.out.c2⟩) (fun hHeld => ?_)
   replace P := Lib.hid (P.out.trans ((Below.refl W0.heap.size W0).drew.mono P.out.size))
   replace R1 := Lib.hid (R1.out.below (Below.refl W0.heap.size W0).drew)
   replace R2 := Lib.hid (R2.out.below (Below.refl W0.heap.size W0).drew)
   replace X := Lib.hid (X.out.next (Below.refl W0.heap.size W0).drew)
   generalize W0.drew = D2 at P R1 R2 X hHeld ⊢
   refine tkk 0 8 rfl rfl (by kernel_rfl) (fun _ _ _ _ h => h) (by rfl) (fun w h => by obtain ⟨h0, h1, h2⟩ := h; go_simp; rfl) (by assumption) ?_
   simp only [set0, set1]
   refine tkk 1 9 rfl rfl (by kernel_rfl) (fun _ _ _ _ h => h) (by rfl) (fun w h => by obtain ⟨h0, h1, h2⟩ := h; go_simp; rfl) (by assumption) ?_
   simp only [set0, set1]
   refine tkk 2 10 rfl rfl (by kernel_rfl) (fun _ _ _ _ h => h) (by rfl) (fun w h => by obtain ⟨h0, h1, h2⟩ := h; go_simp; rfl) (by assumption) ?_
   simp only [set0, set1]
   refine tkk 3 11 rfl rfl (by kernel_rfl) (fun _ _ _ _ h => h) (by rfl) (fun w h => by obtain ⟨h0, h1, h2⟩ := h; go_simp; rfl) (by assumption) ?_
   simp only [set0, set1]
   refine tkk 4 12 rfl rfl (by kernel_rfl) (fun _ _ _ _ h => h) (by rfl) (fun w h => by obtain ⟨h0, h1, h2⟩ := h; go_simp; rfl) (by assumption) ?_
   simp only [set0, set1]
   refine tkk 5 13 rfl rfl (by kernel_rfl) (fun _ _ _ _ h => h) (by rfl) (fun w h => by obtain ⟨h0, h1, h2⟩ := h; go_simp; rfl) (by assumption) ?_
   simp only [set0, set1]
   refine tkk 6 14 rfl rfl (by kernel_rfl) (fun _ _ _ _ h => h) (by rfl) (fun w h => by obtain ⟨h0, h1, h2⟩ := h; go_simp; rfl) (by assumption) ?_
   simp only [set0, set1]
   refine tkk 7 15 rfl rfl (by kernel_rfl) (fun _ _ _ _ h => h) (by rfl) (fun w h => by obtain ⟨h0, h1, h2⟩ := h; go_simp; rfl) (by assumption) ?_
   simp only [set0, set1]
   refine tkk 8 16 rfl rfl (by kernel_rfl) (fun _ _ _ _ h => h) (by rfl) (fun w h => by obtain ⟨h0, h1, h2⟩ := h; go_simp; rfl) (by assumption) ?_
   simp only [set0, set1]
   refine tff 9 17 rfl rfl (by kernel_rfl) (fun _ _ _ _ h => h) (by rfl) (by assumption) ?_
   simp only [set0, set1]
   refine tff 10 18 rfl rfl (by kernel_rfl) (fun _ _ _ _ h => h) (by rfl) (by assumption) ?_
   simp only [set0, set1]
   refine tff 11 19 rfl rfl (by kernel_rfl) (fun _ _ _ _ h => h) (by rfl) (by assumption) ?_
   simp only [set0, set1]
   refine tff 12 20 rfl rfl (by kernel_rfl) (fun _ _ _ _ h => h) (by rfl) (by assumption) ?_
   simp only [set0, set1]
   refine tff 13 21 rfl rfl (by kernel_rfl) (fun _ _ _ _ h => h) (by rfl) (by assumption) ?_
   simp only [set0, set1]
   refine tff 14 22 rfl rfl (by kernel_rfl) (fun _ _ _ _ h => h) (by rfl) (by assumption) ?_
   simp only [set0, set1]
   refine tff 15 23 rfl rfl (by kernel_rfl) (fun _ _ _ _ h => h) (by rfl) (by assumption) ?_
   simp only [set0, set1]
   refine tkk 16 24 rfl rfl (by kernel_rfl) (fun _ _ _ _ h => h) (by rfl) (fun w h => by obtain ⟨h0, h1, h2⟩ := h; go_simp; rfl) (by assumption) ?_
   simp only [set0, set1]
   refine tkk 17 25 rfl rfl (by kernel_rfl) (fun _ _ _ _ h => h) (by rfl) (fun w h => by obtain ⟨h0, h1, h2⟩ := h; go_simp; rfl) (by assumption) ?_
   simp only [set0, set1]
   refine tff 18 26 rfl rfl (by kernel_rfl) (fun _ _ _ _ h => h) (by rfl) (by assumption) ?_
   simp only [set0, set1]
   refine tff 19 27 rfl rfl (by kernel_rfl) (fun _ _ _ _ h => h) (by rfl) (by assumption) ?_
   simp only [set0, set1]
   refine tff 20 28 rfl rfl (by kernel_rfl) (fun _ _ _ _ h => h) (by rfl) (by assumption) ?_
   simp only [set0, set1]
   refine tff 21 29 rfl rfl (by kernel_rfl) (fun _ _ _ _ h => h) (by rfl) (by assumption) ?_
   simp only [set0, set1]
   refine tkk 22 30 rfl rfl (by kernel_rfl) (fun _ _ _ _ h => h) (by rfl) (fun w h => by obtain ⟨h0, h1, h2⟩ := h; go_simp; rfl) (by assumption) ?_
   clear hHeld
   refine wpAnyH_done (by kernel_rfl) ?_ _
   go_wp2
   go_ret
   exact ⟨by rw [HF.out] <;> rfl, P.out⟩
 have t2 : decide (4 ≤ kind) = false := decide_eq_false q2
 obtain ⟨pk, hpk⟩ : ∃ x, x = polysOf kind := ⟨_, rfl⟩
 have HPK := Lib.hid hpk.symm
 clear hpk
 by_cases q3 : (p : Int) = pk
 case neg =>
  have t3 : ((p : Int) != pk) = true := by rw [bne_iff_ne]; exact q3
  have HF := Lib.hid (vl_head (l := ⟨kind, vs, ps⟩) (vars := vars) (fun hh => by have e := hh.2.2.1; dsimp only at e; rw [HPK.out, HL.out.2.1] at e; exact q3 e))
  clear q3
  refine wp_region_held_drew (S := (fun w' => w'.cell? ⟨g, 0, none⟩ = some (.int .i64 kind) ∧ w'.cell? ⟨g, 1, none⟩ = some (.slice B m d) ∧ w'.cell? ⟨g, 2, none⟩ = some (.slice C p q))) (by kernel_rfl) (⟨cell_drq X.out.c0, cell_drq X.out.c1, cell_drq X.out.c2⟩) (fun hHeld => ?_)
  replace P := Lib.hid (P.out.trans ((Below.refl W0.heap.size W0).drew.mono P.out.size))
  replace R1 := Lib.hid (R1.out.below (Below.refl W0.heap.size W0).drew)
  replace R2 := Lib.hid (R2.out.below (Below.refl W0.heap.size W0).drew)
  replace X := Lib.hid (X.out.next (Below.refl W0.heap.size W0).drew)
  generalize W0.drew = D3 at P R1 R2 X hHeld ⊢
  refine tkk 0 8 rfl rfl (by kernel_rfl) (fun _ _ _ _ h => h) (by rfl) (fun w h => by obtain ⟨h0, h1, h2⟩ := h; go_simp; rfl) (by assumption) ?_
  simp only [set0, set1]
  refine tkk 1 9 rfl rfl (by kernel_rfl) (fun _ _ _ _ h => h) (by rfl) (fun w h => by obtain ⟨h0, h1, h2⟩ := h; go_simp; rfl) (by assumption) ?_
  simp only [set0, set1]
  refine tkk 2 10 rfl rfl (by kernel_rfl) (fun _ _ _ _ h => h) (by rfl) (fun w h => by obtain ⟨h0, h1, h2⟩ := h; go_simp; rfl) (by assumption) ?_
  simp only [set0, set1]
  refine tkk 3 11 rfl rfl (by kernel_rfl) (fun _ _ _ _ h => h) (by rfl) (fun w h => by obtain ⟨h0, h1, h2⟩ := h; go_simp; rfl) (by assumption) ?_
  simp only [set0, set1]
  refine tkk 4 12 rfl rfl (by kernel_rfl) (fun _ _ _ _ h => h) (by rfl) (fun w h => by obtain ⟨h0, h1, h2⟩ := h; go_simp; rfl) (by assumption) ?_
  simp only [set0, set1]
  refine tkk 5 13 rfl rfl (by kernel_rfl) (fun _ _ _ _ h => h) (by rfl) (fun w h => by obtain ⟨h0, h1, h2⟩ := h; go_simp; rfl) (by assumption) ?_
  simp only [set0, set1]
  refine tkk 6 14 rfl rfl (by kernel_rfl) (fun _ _ _ _ h => h) (by rfl) (fun w h => by obtain ⟨h0, h1, h2⟩ := h; go_simp; rfl) (by assumption) ?_
  simp only [set0, set1]
  refine tkk 7 15 rfl rfl (by kernel_rfl) (fun _ _ _ _ h => h) (by rfl) (fun w h => by obtain ⟨h0, h1, h2⟩ := h; go_simp; rfl) (by assumption) ?_
  simp only [set0, set1]
  refine tkk 8 16 rfl rfl (by kernel_rfl) (fun _ _ _ _ h => h) (by rfl) (fun w h => by obtain ⟨h0, h1, h2⟩ := h; go_simp; rfl) (by assumption) ?_
  simp only [set0, set1]
  refine tkk 9 17 rfl rfl (by kernel_rfl) (fun _ _ _ _ h => h) (by rfl) (fun w h => by obtain ⟨h0, h1, h2⟩ := h; go_simp; rfl) (by assumption) ?_
  simp only [set0, set1]
  refine tkk 10 18 rfl rfl (by kernel_rfl) (fun _ _ _ _ h => h) (by rfl) (fun w h => by obtain ⟨h0, h1, h2⟩ := h; go_simp; rfl) (by assumption) ?_
  simp only [set0, set1]
  refine tkk 11 19 rfl rfl (by kernel_rfl) (fun _ _ _ _ h => h) (by rfl) (fun w h => by obtain ⟨h0, h1, h2⟩ := h; go_simp; rfl) (by assumption) ?_
  simp only [set0, set1]
  refine tkk 12 20 rfl rfl (by kernel_rfl) (fun _ _ _ _ h => h) (by rfl) (fun w h => by obtain ⟨h0, h1, h2⟩ := h; go_simp; rfl) (by assumption) ?_
  simp only [set0, set1]
  refine tkk 13 21 rfl rfl (by kernel_rfl) (fun _ _ _ _ h => h) (by rfl) (fun w h => by obtain ⟨h0, h1, h2⟩ := h; go_simp; rfl) (by assumption) ?_
  simp only [set0, set1]
  refine wpAnyH_ready (rs := [14]) (by kernel_rfl) (by simp) ?_
  refine AllReadyH.cons rfl (fun K hK => ?_) AllReadyH.nil
  go_simp
  refine (polys_c kind D3).mono ?_
  rintro e v4 ⟨rfl, hw⟩
  subst hw
  clear hHeld
  rw [HPK.out]
  refine hK.out _ _ (⟨X.out.c0, X.out.c1, X.out.c2⟩) (fun hHeld => ?_)
  clear hK K
  refine tkk 15 23 rfl rfl (by kernel_rfl) (fun _ _ _ _ h => h) (by rfl) (fun w h => by obtain ⟨h0, h1, h2⟩ := h; go_simp; rfl) (by assumption) ?_
  simp only [set0, set1]
  refine tkk 16 24 rfl rfl (by kernel_rfl) (fun _ _ _ _ h => h) (by rfl) (fun w h => by obtain ⟨h0, h1, h2⟩ := h; go_simp; rfl) (by assumption) ?_
  simp only [set0, set1]
  refine tkk 17 25 rfl rfl (by kernel_rfl) (fun _ _ _ _ h => h) (by rfl) (fun w h => by obtain ⟨h0, h1, h2⟩ := h; go_simp; rfl) (by assumption) ?_
  simp only [set0, set1]
  refine tff 18 26 rfl rfl (by kernel_rfl) (fun _ _ _ _ h => h) (by rfl) (by assumption) ?_
  simp only [set0, set1]
  refine tff 19 27 rfl rfl (by kernel_rfl) (fun _ _ _ _ h => h) (by rfl) (by assumption) ?_
  simp only [set0, set1]
  refine tff 20 28 rfl rfl (by kernel_rfl) (fun _ _ _ _ h => h) (by rfl) (by assumption) ?_
  simp only [set0, set1]
  refine tff 21 29 rfl rfl (by kernel_rfl) (fun _ _ _ _ h => h) (by rfl) (by assumption) ?_
  simp only [set0, set1]
  refine tkk 22 30 rfl rfl (by kernel_rfl) (fun _ _ _ _ h => h) (by rfl) (fun w h => by obtain ⟨h0, h1, h2⟩ := h; go_simp; rfl) (by assumption) ?_
  clear hHeld
  refine wpAnyH_done (by kernel_rfl) ?_ _
  go_wp2
  go_ret
  exact ⟨by rw [HF.out] <;> rfl, P.out⟩
 case pos =>
 have t3 : ((p : Int) != pk) = false := by rw [q3]; exact bne_self_eq_false _
 have HQ3 := Lib.hid q3
 clear q3
 by_cases q4 : 32 < m
 · have t4 : decide ((32 : Int) < (m : Int)) = true := decide_eq_true (by omega)
   have t4n : decide (32 < m) = true := decide_eq_true q4
   have HF := Lib.hid (vl_head (l := ⟨kind, vs, ps⟩) (vars := vars) (fun hh => by have e := hh.2.2.2; dsimp only at e; rw [HL.out.1] at e; omega))
   refine wp_region_held_drew (S := (fun w' => w'.cell? ⟨g, 0, none⟩ = some (.int .i64 kind) ∧ w'.cell? ⟨g, 1, none⟩ = some (.slice B m d) ∧ w'.cell? ⟨g, 2, none⟩ = some (.slice C p q))) (by kernel_rfl) (⟨cell_drq X.out.c0, cell_drq X.out.c1, cell_drq X.out.c2⟩) (fun hHeld => ?_)
   replace P := Lib.hid (P.out.trans ((Below.refl W0.heap.size W0).drew.mono P.out.size))
   replace R1 := Lib.hid (R1.out.below (Below.refl W0.heap.size W0).drew)
   replace R2 := Lib.hid (R2.out.below (Below.refl W0.heap.size W0).drew)
   replace X := Lib.hid (X.out.next (Below.refl W0.heap.size W0).drew)
   generalize W0.drew = D5 at P R1 R2 X hHeld ⊢
   refine tkk 0 8 rfl rfl (by kernel_rfl) (fun _ _ _ _ h => h) (by rfl) (fun w h => by obtain ⟨h0, h1, h2⟩ := h; go_simp; rfl) (by assumption) ?_
   simp only [set0, set1]
   refine tkk 1 9 rfl rfl (by kernel_rfl) (fun _ _ _ _ h => h) (by rfl) (fun w h => by obtain ⟨h0, h1, h2⟩ := h; go_simp; rfl) (by assumption) ?_
   simp only [set0, set1]
   refine tkk 2 10 rfl rfl (by kernel_rfl) (fun _ _ _ _ h => h) (by rfl) (fun w h => by obtain ⟨h0, h1, h2⟩ := h; go_simp; rfl) (by assumption) ?_
   simp only [set0, set1]
   refine tkk 3 11 rfl rfl (by kernel_rfl) (fun _ _ _ _ h => h) (by rfl) (fun w h => by obtain ⟨h0, h1, h2⟩ := h; go_simp; rfl) (by assumption) ?_
   simp only [set0, set1]
   refine tkk 4 12 rfl rfl (by kernel_rfl) (fun _ _ _ _ h => h) (by rfl) (fun w h => by obtain ⟨h0, h1, h2⟩ := h; go_simp; rfl) (by assumption) ?_
   simp only [set0, set1]
   refine tkk 5 13 rfl rfl (by kernel_rfl) (fun _ _ _ _ h => h) (by rfl) (fun w h => by obtain ⟨h0, h1, h2⟩ := h; go_simp; rfl) (by assumption) ?_
   simp only [set0, set1]
   refine tkk 6 14 rfl rfl (by kernel_rfl) (fun _ _ _ _ h => h) (by rfl) (fun w h => by obtain ⟨h0, h1, h2⟩ := h; go_simp; rfl) (by assumption) ?_
   simp only [set0, set1]
   refine tkk 7 15 rfl rfl (by kernel_rfl) (fun _ _ _ _ h => h) (by rfl) (fun w h => by obtain ⟨h0, h1, h2⟩ := h; go_simp; rfl) (by assumption) ?_
   simp only [set0, set1]
   refine tkk 8 16 rfl rfl (by kernel_rfl) (fun _ _ _ _ h => h) (by rfl) (fun w h => by obtain ⟨h0, h1, h2⟩ := h; go_simp; rfl) (by assumption) ?_
   simp only [set0, set1]
   refine tkk 9 17 rfl rfl (by kernel_rfl) (fun _ _ _ _ h => h) (by rfl) (fun w h => by obtain ⟨h0, h1, h2⟩ := h; go_simp; rfl) (by assumption) ?_
   simp only [set0, set1]
   refine tkk 10 18 rfl rfl (by kernel_rfl) (fun _ _ _ _ h => h) (by rfl) (fun w h => by obtain ⟨h0, h1, h2⟩ := h; go_simp; rfl) (by assumption) ?_
   simp only [set0, set1]
   refine tkk 11 19 rfl rfl (by kernel_rfl) (fun _ _ _ _ h => h) (by rfl) (fun w h => by obtain ⟨h0, h1, h2⟩ := h; go_simp; rfl) (by assumption) ?_
   simp only [set0, set1]
   refine tkk 12 20 rfl rfl (by kernel_rfl) (fun _ _ _ _ h => h) (by rfl) (fun w h => by obtain ⟨h0, h1, h2⟩ := h; go_simp; rfl) (by assumption) ?_
   simp only [set0, set1]
   refine tkk 13 21 rfl rfl (by kernel_rfl) (fun _ _ _ _ h => h) (by rfl) (fun w h => by obtain ⟨h0, h1, h2⟩ := h; go_simp; rfl) (by assumption) ?_
   simp only [set0, set1]
   refine wpAnyH_ready (rs := [14]) (by kernel_rfl) (by simp) ?_
   refine AllReadyH.cons rfl (fun K hK => ?_) AllReadyH.nil
   go_simp
   refine (polys_c kind D5).mono ?_
   rintro e v6 ⟨rfl, hw⟩
   subst hw
   clear hHeld
   rw [HPK.out]
   refine hK.out _ _ (⟨X.out.c0, X.out.c1, X.out.c2⟩) (fun hHeld => ?_)
   clear hK K
   refine tkk 15 23 rfl rfl (by kernel_rfl) (fun _ _ _ _ h => h) (by rfl) (fun w h => by obtain ⟨h0, h1, h2⟩ := h; go_simp; rfl) (by assumption) ?_
   simp only [set0, set1]
   refine tkk 16 24 rfl rfl (by kernel_rfl) (fun _ _ _ _ h => h) (by rfl) (fun w h => by obtain ⟨h0, h1, h2⟩ := h; go_simp; rfl) (by assumption) ?_
   simp only [set0, set1]
   refine tkk 17 25 rfl rfl (by kernel_rfl) (fun _ _ _ _ h => h) (by rfl) (fun w h => by obtain ⟨h0, h1, h2⟩ := h; go_simp; rfl) (by assumption) ?_
   simp only [set0, set1]
   refine tkk 18 26 rfl rfl (by kernel_rfl) (fun _ _ _ _ h => h) (by rfl) (fun w h => by obtain ⟨h0, h1, h2⟩ := h; go_simp; rfl) (by assumption) ?_
   simp only [set0, set1]
   refine tkk 19 27 rfl rfl (by kernel_rfl) (fun _ _ _ _ h => h) (by rfl) (fun w h => by obtain ⟨h0, h1, h2⟩ := h; go_simp; rfl) (by assumption) ?_
   simp only [set0, set1]
   refine tkk 20 28 rfl rfl (by kernel_rfl) (fun _ _ _ _ h => h) (by rfl) (fun w h => by obtain ⟨h0, h1, h2⟩ := h; go_simp; rfl) (by assumption) ?_
   simp only [set0, set1]
   refine tkk 21 29 rfl rfl (by kernel_rfl) (fun _ _ _ _ h => h) (by rfl) (fun w h => by obtain ⟨h0, h1, h2⟩ := h; go_simp; rfl) (by assumption) ?_
   simp only [set0, set1]
   refine tkk 22 30 rfl rfl (by kernel_rfl) (fun _ _ _ _ h => h) (by rfl) (fun w h => by obtain ⟨h0, h1, h2⟩ := h; go_simp; rfl) (by assumption) ?_
   clear hHeld
   refine wpAnyH_done (by kernel_rfl) ?_ _
   go_wp2
   go_ret
   exact ⟨by rw [HF.out] <;> rfl, P.out⟩
 have t4 : decide ((32 : Int) < (m : Int)) = false := decide_eq_false (by omega)
 have t4n : decide (32 < m) = false := decide_eq_false q4
 have HH := Lib.hid (show 0 ≤ kind ∧ kind < 4 ∧ (ps.length : Int) = polysOf kind ∧ vs.length ≤ 32 from ⟨by omega, by omega, by rw [HPK.out, HL.out.2.1]; exact HQ3.out, by rw [HL.out.1]; omega⟩)
 clear q1 q2
 refine wp_region_held_drew (S := (fun w' => w'.cell? ⟨g, 0, none⟩ = some (.int .i64 kind) ∧ w'.cell? ⟨g, 1, none⟩ = some (.slice B m d) ∧ w'.cell? ⟨g, 2, none⟩ = some (.slice C p q))) (by kernel_rfl) (⟨cell_drq X.out.c0, cell_drq X.out.c1, cell_drq X.out.c2⟩) (fun hHeld => ?_)
 replace P := Lib.hid (P.out.trans ((Below.refl W0.heap.size W0).drew.mono P.out.size))
 replace R1 := Lib.hid (R1.out.below (Below.refl W0.heap.size W0).drew)
 replace R2 := Lib.hid (R2.out.below (Below.refl W0.heap.size W0).drew)
 replace X := Lib.hid (X.out.next (Below.refl W0.heap.size W0).drew)
 generalize W0.drew = D7 at P R1 R2 X hHeld ⊢
 refine tkk 0 8 rfl rfl (by kernel_rfl) (fun _ _ _ _ h => h) (by rfl) (fun w h => by obtain ⟨h0, h1, h2⟩ := h; go_simp; rfl) (by assumption) ?_
 simp only [set0, set1]
 refine tkk 1 9 rfl rfl (by kernel_rfl) (fun _ _ _ _ h => h) (by rfl) (fun w h => by obtain ⟨h0, h1, h2⟩ := h; go_simp; rfl) (by assumption) ?_
 simp only [set0, set1]
 refine tkk 2 10 rfl rfl (by kernel_rfl) (fun _ _ _ _ h => h) (by rfl) (fun w h => by obtain ⟨h0, h1, h2⟩ := h; go_simp; rfl) (by assumption) ?_
 simp only [set0, set1]
 refine tkk 3 11 rfl rfl (by kernel_rfl) (fun _ _ _ _ h => h) (by rfl) (fun w h => by obtain ⟨h0, h1, h2⟩ := h; go_simp; rfl) (by assumption) ?_
 simp only [set0, set1]
 refine tkk 4 12 rfl rfl (by kernel_rfl) (fun _ _ _ _ h => h) (by rfl) (fun w h => by obtain ⟨h0, h1, h2⟩ := h; go_simp; rfl) (by assumption) ?_
 simp only [set0, set1]
 refine tkk 5 13 rfl rfl (by kernel_rfl) (fun _ _ _ _ h => h) (by rfl) (fun w h => by obtain ⟨h0, h1, h2⟩ := h; go_simp; rfl) (by assumption) ?_
 simp only [set0, set1]
 refine tkk 6 14 rfl rfl (by kernel_rfl) (fun _ _ _ _ h => h) (by rfl) (fun w h => by obtain ⟨h0, h1, h2⟩ := h; go_simp; rfl) (by assumption) ?_
 simp only [set0, set1]
 refine tkk 7 15 rfl rfl (by kernel_rfl) (fun _ _ _ _ h => h) (by rfl) (fun w h => by obtain ⟨h0, h1, h2⟩ := h; go_simp; rfl) (by assumption) ?_
 simp only [set0, set1]
 refine tkk 8 16 rfl rfl (by kernel_rfl) (fun _ _ _ _ h => h) (by rfl) (fun w h => by obtain ⟨h0, h1, h2⟩ := h; go_simp; rfl) (by assumption) ?_
 simp only [set0, set1]
 refine tkk 9 17 rfl rfl (by kernel_rfl) (fun _ _ _ _ h => h) (by rfl) (fun w h => by obtain ⟨h0, h1, h2⟩ := h; go_simp; rfl) (by assumption) ?_
 simp only [set0, set1]
 refine tkk 10 18 rfl rfl (by kernel_rfl) (fun _ _ _ _ h => h) (by rfl) (fun w h => by obtain ⟨h0, h1, h2⟩ := h; go_simp; rfl) (by assumption) ?_
 simp only [set0, set1]
 refine tkk 11 19 rfl rfl (by kernel_rfl) (fun _ _ _ _ h => h) (by rfl) (fun w h => by obtain ⟨h0, h1, h2⟩ := h; go_simp; rfl) (by assumption) ?_
 simp only [set0, set1]
 refine tkk 12 20 rfl rfl (by kernel_rfl) (fun _ _ _ _ h => h) (by rfl) (fun w h => by obtain ⟨h0, h1, h2⟩ := h; go_simp; rfl) (by assumption) ?_
 simp only [set0, set1]
 refine tkk 13 21 rfl rfl (by kernel_rfl) (fun _ _ _ _ h => h) (by rfl) (fun w h => by obtain ⟨h0, h1, h2⟩ := h; go_simp; rfl) (by assumption) ?_
 simp only [set0, set1]
 refine wpAnyH_ready (rs := [14]) (by kernel_rfl) (by simp) ?_
 refine AllReadyH.cons rfl (fun K hK => ?_) AllReadyH.nil
 go_simp
 refine (polys_c kind D7).mono ?_
 rintro e v8 ⟨rfl, hw⟩
 subst hw
 clear hHeld
 rw [HPK.out]
 refine hK.out _ _ (⟨X.out.c0, X.out.c1, X.out.c2⟩) (fun hHeld => ?_)
 clear hK K
 refine tkk 15 23 rfl rfl (by kernel_rfl) (fun _ _ _ _ h => h) (by rfl) (fun w h => by obtain ⟨h0, h1, h2⟩ := h; go_simp; rfl) (by assumption) ?_
 simp only [set0, set1]
 refine tkk 16 24 rfl rfl (by kernel_rfl) (fun _ _ _ _ h => h) (by rfl) (fun w h => by obtain ⟨h0, h1, h2⟩ := h; go_simp; rfl) (by assumption) ?_
 simp only [set0, set1]
 refine tkk 17 25 rfl rfl (by kernel_rfl) (fun _ _ _ _ h => h) (by rfl) (fun w h => by obtain ⟨h0, h1, h2⟩ := h; go_simp; rfl) (by assumption) ?_
 simp only [set0, set1]
 refine tkk 18 26 rfl rfl (by kernel_rfl) (fun _ _ _ _ h => h) (by rfl) (fun w h => by obtain ⟨h0, h1, h2⟩ := h; go_simp; rfl) (by assumption) ?_
 simp only [set0, set1]
 refine tkk 19 27 rfl rfl (by kernel_rfl) (fun _ _ _ _ h => h) (by rfl) (fun w h => by obtain ⟨h0, h1, h2⟩ := h; go_simp; rfl) (by assumption) ?_
 simp only [set0, set1]
 refine tkk 20 28 rfl rfl (by kernel_rfl) (fun _ _ _ _ h => h) (by rfl) (fun w h => by obtain ⟨h0, h1, h2⟩ := h; go_simp; rfl) (by assumption) ?_
 simp only [set0, set1]
 refine tkk 21 29 rfl rfl (by kernel_rfl) (fun _ _ _ _ h => h) (by rfl) (fun w h => by obtain ⟨h0, h1, h2⟩ := h; go_simp; rfl) (by assumption) ?_
 simp only [set0, set1]
 refine tkk 22 30 rfl rfl (by kernel_rfl) (fun _ _ _ _ h => h) (by rfl) (fun w h => by obtain ⟨h0, h1, h2⟩ := h; go_simp; rfl) (by assumption) ?_
 clear hHeld
 refine wpAnyH_done (by kernel_rfl) ?_ _
 have a1 := X.out.c1
 go_wp2
 clear t1 t2 t3 t4 t4n a1
 go_loopw [5, 34] (fun v5 v wr => ∃ k : Nat, v = .int .i64 (k : Int) ∧ v5 = .int .i64 (prevI vs k) ∧ k ≤ m ∧ Below w.heap.size w wr ∧ BxL wr g kind B m d C p q ∧ RdI wr B m vs ∧ RdP wr C p ps ∧ ∀ i, i < k → prevI vs i < vs.getD i 0 ∧ vs.getD i 0 < vars) (fun _ v _ => m - (intOf v).toNat)
 case atStart => exact ⟨0, rfl, rfl, Nat.zero_le _, P.out, X.out, R1.out, R2.out, fun i hi => absurd hi (by omega)⟩
 case round =>
  obtain ⟨k, rfl, rfl, hk, hP, hX, hR1, hR2, hall⟩ := hrel
  clear P X R1 R2
  have P := Lib.hid hP
  have X := Lib.hid hX
  have R1 := Lib.hid hR1
  have R2 := Lib.hid hR2
  have HA := Lib.hid hall
  clear hP hX hR1 hR2 hall
  by_cases hkm : k < m
  · have t1 : decide ((k : Int) < (m : Int)) = true := decide_eq_true (by omega)
    have t1n : decide (k < m) = true := decide_eq_true hkm
    have hkI : (k : Int) < (m : Int) := by omega
    obtain ⟨b, o, rfl, hlt, hcell⟩ := R1.out.at_ (by omega)
    have c0 := hcell k hkm
    obtain ⟨z, hz⟩ : ∃ z, z = vs.getD k 0 := ⟨_, rfl⟩
    rw [← hz] at c0
    have HZ := Lib.hid (And.intro hz (show prevI vs (k + 1) = z by unfold prevI; rw [if_neg (by omega), Nat.add_sub_cancel]; exact hz.symm))
    obtain ⟨pv, hpv⟩ : ∃ z, z = prevI vs k := ⟨_, rfl⟩
    have HPV := Lib.hid hpv
    rw [← hpv]
    clear hcell hlt hz hpv
    by_cases z1 : z ≤ pv
    · have t2 : decide (z ≤ pv) = true := decide_eq_true z1
      have HF := Lib.hid (vl_rises (l := ⟨kind, vs, ps⟩) (vars := vars) (k := k) (by show k < vs.length; rw [HL.out.1]; exact hkm) (by show ¬ (prevI vs k < vs.getD k 0 ∧ _); rw [← HZ.out.1, ← HPV.out]; omega))
      go_wp2
      go_ret
      exact ⟨by rw [HF.out] <;> rfl, P.out⟩
    · have t2 : decide (z ≤ pv) = false := decide_eq_false z1
      by_cases z2 : vars ≤ z
      · have t3 : decide (vars ≤ z) = true := decide_eq_true z2
        have HF := Lib.hid (vl_rises (l := ⟨kind, vs, ps⟩) (vars := vars) (k := k) (by show k < vs.length; rw [HL.out.1]; exact hkm) (by show ¬ (prevI vs k < vs.getD k 0 ∧ vs.getD k 0 < vars); rw [← HZ.out.1, ← HPV.out]; omega))
        go_wp2
        go_ret
        exact ⟨by rw [HF.out] <;> rfl, P.out⟩
      · have t3 : decide (vars ≤ z) = false := decide_eq_false z2
        go_wp2
        go_roundw
        case measure => simp [intOf]; omega
        case rel => exact ⟨k + 1, by go_num, by rw [HZ.out.2], by omega, P.out, X.out, R1.out, R2.out, fun i hi => by
         by_cases e : i = k
         · subst e; rw [← HZ.out.1, ← HPV.out]; omega
         · exact HA.out i (by omega)⟩
  · have t1 : decide ((k : Int) < (m : Int)) = false := decide_eq_false (by omega)
    have t1n : decide (k < m) = false := decide_eq_false hkm
    have HF := Lib.hid (show validLnk ⟨kind, vs, ps⟩ vars = !anyP (badPly m) ps by
     have e := vl_last (l := ⟨kind, vs, ps⟩) (vars := vars) HH.out (fun i hi => HA.out i (by dsimp only at hi; rw [HL.out.1] at hi; omega))
     rw [e, HL.out.1])
    have a2 := X.out.c2
    go_wp2_with fail
    refine (containsFuncP_c (onLink g B m d) C p q ps _ R2.out ⟨X.out.lt, X.out.c1⟩ HL.out.2.2).mono ?_
    rintro e w1 ⟨rfl, hb⟩
    replace P := Lib.hid (P.out.trans (hb.mono P.out.size))
    clear hb
    generalize anyP (badPly m) ps = av at HF ⊢
    go_wp2
    go_ret
    exact ⟨by rw [HF.out] <;> rfl, P.out⟩
end Go.Proofs.YteabokkofoomkaaGreat
