/- system.validLink -/
import Derived.Test.YteabokkofoomkaaGreatCay
set_option maxRecDepth 100000
namespace Go.Proofs.YteabokkofoomkaaGreat
open Go.RowKit Go.Shelf Go.Deep
def prevI (vs : List Int) (i : Nat) : Int := if i = 0 then -1 else vs.getD (i - 1) 0
def risesAll (vs : List Int) (vars : Int) : Bool := decide (∀ i, i < vs.length → prevI vs i < vs.getD i 0 ∧ vs.getD i 0 < vars)
def headL (l : Lnk) : Bool := decide (0 ≤ l.kind ∧ l.kind < 4 ∧ (l.ps.length : Int) = polysOf l.kind ∧ l.vs.length ≤ 32)
def validLnk (l : Lnk) (vars : Int) : Bool := headL l && risesAll l.vs vars && !anyP (badPly l.vs.length) l.ps
theorem vl_head {l : Lnk} {vars : Int} (h : ¬ (0 ≤ l.kind ∧ l.kind < 4 ∧ (l.ps.length : Int) = polysOf l.kind ∧ l.vs.length ≤ 32)) : validLnk l vars = false := by
  unfold validLnk headL
  rw [decide_eq_false h]; rfl
theorem vl_rises {l : Lnk} {vars : Int} {k : Nat} (hk : k < l.vs.length) (h : ¬ (prevI l.vs k < l.vs.getD k 0 ∧ l.vs.getD k 0 < vars)) : validLnk l vars = false := by
  have : risesAll l.vs vars = false := decide_eq_false fun q => h (q k hk)
  unfold validLnk
  rw [this, Bool.and_false]; rfl
theorem vl_last {l : Lnk} {vars : Int} (h : 0 ≤ l.kind ∧ l.kind < 4 ∧ (l.ps.length : Int) = polysOf l.kind ∧ l.vs.length ≤ 32) (h2 : ∀ i, i < l.vs.length → prevI l.vs i < l.vs.getD i 0 ∧ l.vs.getD i 0 < vars) : validLnk l vars = !anyP (badPly l.vs.length) l.ps := by
  unfold validLnk headL risesAll
  rw [decide_eq_true h, decide_eq_true h2]; rfl
abbrev aggL (kind : Int) (B : Option Addr) (m d : Nat) (C : Option Addr) (p q : Nat) : Value := .agg #[.int .i64 kind, .slice B m d, .slice C p q]
abbrev boxL (kind : Int) (B : Option Addr) (m d : Nat) (C : Option Addr) (p q : Nat) : Obj := .cells #[.int .i64 kind, .slice B m d, .slice C p q] 51
structure BxL (W : World) (g : Nat) (kind : Int) (B : Option Addr) (m d : Nat) (C : Option Addr) (p q : Nat) : Prop where
  lt : g < W.heap.size
  c0 : W.cell? ⟨g, 0, none⟩ = some (.int .i64 kind)
  c1 : W.cell? ⟨g, 1, none⟩ = some (.slice B m d)
  c2 : W.cell? ⟨g, 2, none⟩ = some (.slice C p q)
theorem BxL.next {W W' : World} {g : Nat} {kind : Int} {B : Option Addr} {m d : Nat} {C : Option Addr} {p q : Nat} (h : BxL W g kind B m d C p q) (hb : Below W.heap.size W W') : BxL W' g kind B m d C p q :=
  ⟨Nat.lt_of_lt_of_le h.lt hb.size, (hb.cell (p := ⟨g, 0, none⟩) h.lt).trans h.c0, (hb.cell (p := ⟨g, 1, none⟩) h.lt).trans h.c1, (hb.cell (p := ⟨g, 2, none⟩) h.lt).trans h.c2⟩
theorem BxL.new (W : World) (kind : Int) (B : Option Addr) (m d : Nat) (C : Option Addr) (p q : Nat) : BxL (W.alloc (boxL kind B m d C p q)) W.heap.size kind B m d C p q :=
  ⟨by simp, by go_simp, by go_simp, by go_simp⟩
theorem onLink (g : Nat) (B : Option Addr) (m d : Nat) : OnPly 84 #[.pointer (some ⟨g, 0, none⟩)] (fun W => g < W.heap.size ∧ W.cell? ⟨g, 1, none⟩ = some (.slice B m d)) (badPly m) :=
  ⟨enters_of Tryz.func84 (by kernel_rfl) rfl, fun W W' h hb => ⟨Nat.lt_of_lt_of_le h.1 hb.size, (hb.cell (p := ⟨g, 1, none⟩) h.1).trans h.2⟩, fun W V A n c ts h hr => validLink1_c V A n c ts g B m d W hr h.1 h.2⟩
set_option maxHeartbeats 8000000 in
theorem validLink_c (kind : Int) (B : Option Addr) (m d : Nat) (vs : List Int) (C : Option Addr) (p q : Nat) (ps : List Ply) (vars : Int) (w : World) (h : RdI w B m vs) (h' : RdP w C p ps) (hp : p ≤ 9223372036854775807) :
    Calls Tryz.prog 41 #[aggL kind B m d C p q, .int .i64 vars] w (RetB (validLnk ⟨kind, vs, ps⟩ vars) w) := by
  have k0 := bel_alloc w (boxL kind B m d C p q)
  have P := Lib.hid k0
  have R1 := Lib.hid (h.below k0)
  have R2 := Lib.hid (h'.below k0)
  have X := Lib.hid (BxL.new w kind B m d C p q)
  have HL := Lib.hid (And.intro h.len (And.intro h'.len hp))
  clear h h' k0 hp
  go_enter Tryz.func41, Tryz.ntmps41
  go_upto_region 1 with (fail)
  generalize w.alloc (boxL kind B m d C p q) = W0 at P R1 R2 X ⊢
  obtain ⟨g, hg⟩ : ∃ g, g = w.heap.size := ⟨_, rfl⟩
  rw [← hg] at X ⊢
  clear hg
  by_cases q1 : kind < 0
  · have t1 : decide (kind < 0) = true := decide_eq_true q1
    have HF := Lib.hid (vl_head (l := ⟨kind, vs, ps⟩) (vars := vars) (fun hh => by have := hh.1; dsimp only at this; omega))
    refine wp_region_held_drew (S := (fun w' => w'.cell? ⟨g, 0, none⟩ = some (.int .i64 kind) ∧ w'.cell? ⟨g, 1, none⟩ = some (.slice B m d) ∧ w'.cell? ⟨g, 2, none⟩ = some (.slice C p q))) (by kernel_rfl) (⟨cell_drq X.out.c0, cell_drq X.out.c1, cell_drq X.out.c2⟩) (fun hHeld => ?_)
    replace P := Lib.hid (P.out.trans ((Below.refl W0.heap.size W0).drew.mono P.out.size))
    replace R1 := Lib.hid (R1.out.below (Below.refl W0.heap.size W0).drew)
    replace R2 := Lib.hid (R2.out.below (Below.refl W0.heap.size W0).drew)
    replace X := Lib.hid (X.out.next (Below.refl W0.heap.size W0).drew)
    generalize W0.drew = D1 at P R1 R2 X hHeld ⊢
    refine take_on (i := 0) (d := (some 8)) (v := ?v1) rfl rfl (by kernel_rfl) (by kernel_rfl) (by kernel_rfl) (fun c a w h => h) (by rfl) ?h1 (by assumption) ?r1
    case h1 => intro w hSw; obtain ⟨h0, h1, h2⟩ := hSw; go_simp; rfl
    simp only [Act.put, List.setIfInBounds_toArray, List.set_cons_zero, List.set_cons_succ]
    refine take_on (i := 1) (d := (some 9)) (v := ?v2) rfl rfl (by kernel_rfl) (by kernel_rfl) (by kernel_rfl) (fun c a w h => h) (by rfl) ?h2 (by assumption) ?r2
    case h2 => intro w hSw; obtain ⟨h0, h1, h2⟩ := hSw; go_simp; rfl
    simp only [Act.put, List.setIfInBounds_toArray, List.set_cons_zero, List.set_cons_succ]
    refine take_on (i := 2) (d := (some 10)) (v := ?v3) rfl rfl (by kernel_rfl) (by kernel_rfl) (by kernel_rfl) (fun c a w h => h) (by rfl) ?h3 (by assumption) ?r3
    case h3 => intro w hSw; obtain ⟨h0, h1, h2⟩ := hSw; go_simp; rfl
    simp only [Act.put, List.setIfInBounds_toArray, List.set_cons_zero, List.set_cons_succ]
    refine take_on (i := 3) (d := (some 11)) (v := ?v4) rfl rfl (by kernel_rfl) (by kernel_rfl) (by kernel_rfl) (fun c a w h => h) (by rfl) ?h4 (by assumption) ?r4
    case h4 => intro w hSw; obtain ⟨h0, h1, h2⟩ := hSw; go_simp; rfl
    simp only [Act.put, List.setIfInBounds_toArray, List.set_cons_zero, List.set_cons_succ]
    refine take_off (i := 4) (d := (some 12)) rfl rfl (by kernel_rfl) (by kernel_rfl) (by kernel_rfl) (fun c a w h => h) (by rfl) (by assumption) ?_
    simp only [Act.put, List.setIfInBounds_toArray, List.set_cons_zero, List.set_cons_succ]
    refine take_off (i := 5) (d := (some 13)) rfl rfl (by kernel_rfl) (by kernel_rfl) (by kernel_rfl) (fun c a w h => h) (by rfl) (by assumption) ?_
    simp only [Act.put, List.setIfInBounds_toArray, List.set_cons_zero, List.set_cons_succ]
    refine take_off (i := 6) (d := (some 14)) rfl rfl (by kernel_rfl) (by kernel_rfl) (by kernel_rfl) (fun c a w h => h) (by rfl) (by assumption) ?_
    simp only [Act.put, List.setIfInBounds_toArray, List.set_cons_zero, List.set_cons_succ]
    refine take_on (i := 7) (d := (some 15)) (v := ?v8) rfl rfl (by kernel_rfl) (by kernel_rfl) (by kernel_rfl) (fun c a w h => h) (by rfl) ?h8 (by assumption) ?r8
    case h8 => intro w hSw; obtain ⟨h0, h1, h2⟩ := hSw; go_simp; rfl
    simp only [Act.put, List.setIfInBounds_toArray, List.set_cons_zero, List.set_cons_succ]
    refine take_on (i := 8) (d := (some 16)) (v := ?v9) rfl rfl (by kernel_rfl) (by kernel_rfl) (by kernel_rfl) (fun c a w h => h) (by rfl) ?h9 (by assumption) ?r9
    case h9 => intro w hSw; obtain ⟨h0, h1, h2⟩ := hSw; go_simp; rfl
    simp only [Act.put, List.setIfInBounds_toArray, List.set_cons_zero, List.set_cons_succ]
    refine take_off (i := 9) (d := (some 17)) rfl rfl (by kernel_rfl) (by kernel_rfl) (by kernel_rfl) (fun c a w h => h) (by rfl) (by assumption) ?_
    simp only [Act.put, List.setIfInBounds_toArray, List.set_cons_zero, List.set_cons_succ]
    refine take_off (i := 10) (d := (some 18)) rfl rfl (by kernel_rfl) (by kernel_rfl) (by kernel_rfl) (fun c a w h => h) (by rfl) (by assumption) ?_
    simp only [Act.put, List.setIfInBounds_toArray, List.set_cons_zero, List.set_cons_succ]
    refine take_off (i := 11) (d := (some 19)) rfl rfl (by kernel_rfl) (by kernel_rfl) (by kernel_rfl) (fun c a w h => h) (by rfl) (by assumption) ?_
    simp only [Act.put, List.setIfInBounds_toArray, List.set_cons_zero, List.set_cons_succ]
    refine take_off (i := 12) (d := (some 20)) rfl rfl (by kernel_rfl) (by kernel_rfl) (by kernel_rfl) (fun c a w h => h) (by rfl) (by assumption) ?_
    simp only [Act.put, List.setIfInBounds_toArray, List.set_cons_zero, List.set_cons_succ]
    refine take_off (i := 13) (d := (some 21)) rfl rfl (by kernel_rfl) (by kernel_rfl) (by kernel_rfl) (fun c a w h => h) (by rfl) (by assumption) ?_
    simp only [Act.put, List.setIfInBounds_toArray, List.set_cons_zero, List.set_cons_succ]
    refine take_off (i := 14) (d := (some 22)) rfl rfl (by kernel_rfl) (by kernel_rfl) (by kernel_rfl) (fun c a w h => h) (by rfl) (by assumption) ?_
    simp only [Act.put, List.setIfInBounds_toArray, List.set_cons_zero, List.set_cons_succ]
    refine take_off (i := 15) (d := (some 23)) rfl rfl (by kernel_rfl) (by kernel_rfl) (by kernel_rfl) (fun c a w h => h) (by rfl) (by assumption) ?_
    simp only [Act.put, List.setIfInBounds_toArray, List.set_cons_zero, List.set_cons_succ]
    refine take_on (i := 16) (d := (some 24)) (v := ?v17) rfl rfl (by kernel_rfl) (by kernel_rfl) (by kernel_rfl) (fun c a w h => h) (by rfl) ?h17 (by assumption) ?r17
    case h17 => intro w hSw; obtain ⟨h0, h1, h2⟩ := hSw; go_simp; rfl
    simp only [Act.put, List.setIfInBounds_toArray, List.set_cons_zero, List.set_cons_succ]
    refine take_on (i := 17) (d := (some 25)) (v := ?v18) rfl rfl (by kernel_rfl) (by kernel_rfl) (by kernel_rfl) (fun c a w h => h) (by rfl) ?h18 (by assumption) ?r18
    case h18 => intro w hSw; obtain ⟨h0, h1, h2⟩ := hSw; go_simp; rfl
    simp only [Act.put, List.setIfInBounds_toArray, List.set_cons_zero, List.set_cons_succ]
    refine take_off (i := 18) (d := (some 26)) rfl rfl (by kernel_rfl) (by kernel_rfl) (by kernel_rfl) (fun c a w h => h) (by rfl) (by assumption) ?_
    simp only [Act.put, List.setIfInBounds_toArray, List.set_cons_zero, List.set_cons_succ]
    refine take_off (i := 19) (d := (some 27)) rfl rfl (by kernel_rfl) (by kernel_rfl) (by kernel_rfl) (fun c a w h => h) (by rfl) (by assumption) ?_
    simp only [Act.put, List.setIfInBounds_toArray, List.set_cons_zero, List.set_cons_succ]
    refine take_off (i := 20) (d := (some 28)) rfl rfl (by kernel_rfl) (by kernel_rfl) (by kernel_rfl) (fun c a w h => h) (by rfl) (by assumption) ?_
    simp only [Act.put, List.setIfInBounds_toArray, List.set_cons_zero, List.set_cons_succ]
    refine take_off (i := 21) (d := (some 29)) rfl rfl (by kernel_rfl) (by kernel_rfl) (by kernel_rfl) (fun c a w h => h) (by rfl) (by assumption) ?_
    simp only [Act.put, List.setIfInBounds_toArray, List.set_cons_zero, List.set_cons_succ]
    refine take_on (i := 22) (d := (some 30)) (v := ?v23) rfl rfl (by kernel_rfl) (by kernel_rfl) (by kernel_rfl) (fun c a w h => h) (by rfl) ?h23 (by assumption) ?r23
    case h23 => intro w hSw; obtain ⟨h0, h1, h2⟩ := hSw; go_simp; rfl
    simp only [Act.put, List.setIfInBounds_toArray]
    clear hHeld
    refine wpAnyH_done (by kernel_rfl) ?_ _
    go_wp2
    go_ret
    exact ⟨by rw [HF.out] <;> rfl, P.out⟩
  have t1 : decide (kind < 0) = false := decide_eq_false q1
  by_cases q2 : 4 ≤ kind
  · have t2 : decide (4 ≤ kind) = true := decide_eq_true q2
    have HF := Lib.hid (vl_head (l := ⟨kind, vs, ps⟩) (vars := vars) (fun hh => by have := hh.2.1; dsimp only at this; omega))
    refine wp_region_held_drew (S := (fun w' => w'.cell? ⟨g, 0, none⟩ = some (.int .i64 kind) ∧ w'.cell? ⟨g, 1, none⟩ = some (.slice B m d) ∧ w'.cell? ⟨g, 2, none⟩ = some (.slice C p q))) (by kernel_rfl) (⟨cell_drq X.out.c0, cell_drq X.out.c1, cell_drq X.out.c2⟩) (fun hHeld => ?_)
    replace P := Lib.hid (P.out.trans ((Below.refl W0.heap.size W0).drew.mono P.out.size))
    replace R1 := Lib.hid (R1.out.below (Below.refl W0.heap.size W0).drew)
    replace R2 := Lib.hid (R2.out.below (Below.refl W0.heap.size W0).drew)
    replace X := Lib.hid (X.out.next (Below.refl W0.heap.size W0).drew)
    generalize W0.drew = D2 at P R1 R2 X hHeld ⊢
    refine take_on (i := 0) (d := (some 8)) (v := ?v24) rfl rfl (by kernel_rfl) (by kernel_rfl) (by kernel_rfl) (fun c a w h => h) (by rfl) ?h24 (by assumption) ?r24
    case h24 => intro w hSw; obtain ⟨h0, h1, h2⟩ := hSw; go_simp; rfl
    simp only [Act.put, List.setIfInBounds_toArray, List.set_cons_zero, List.set_cons_succ]
    refine take_on (i := 1) (d := (some 9)) (v := ?v25) rfl rfl (by kernel_rfl) (by kernel_rfl) (by kernel_rfl) (fun c a w h => h) (by rfl) ?h25 (by assumption) ?r25
    case h25 => intro w hSw; obtain ⟨h0, h1, h2⟩ := hSw; go_simp; rfl
    simp only [Act.put, List.setIfInBounds_toArray, List.set_cons_zero, List.set_cons_succ]
    refine take_on (i := 2) (d := (some 10)) (v := ?v26) rfl rfl (by kernel_rfl) (by kernel_rfl) (by kernel_rfl) (fun c a w h => h) (by rfl) ?h26 (by assumption) ?r26
    case h26 => intro w hSw; obtain ⟨h0, h1, h2⟩ := hSw; go_simp; rfl
    simp only [Act.put, List.setIfInBounds_toArray, List.set_cons_zero, List.set_cons_succ]
    refine take_on (i := 3) (d := (some 11)) (v := ?v27) rfl rfl (by kernel_rfl) (by kernel_rfl) (by kernel_rfl) (fun c a w h => h) (by rfl) ?h27 (by assumption) ?r27
    case h27 => intro w hSw; obtain ⟨h0, h1, h2⟩ := hSw; go_simp; rfl
    simp only [Act.put, List.setIfInBounds_toArray, List.set_cons_zero, List.set_cons_succ]
    refine take_on (i := 4) (d := (some 12)) (v := ?v28) rfl rfl (by kernel_rfl) (by kernel_rfl) (by kernel_rfl) (fun c a w h => h) (by rfl) ?h28 (by assumption) ?r28
    case h28 => intro w hSw; obtain ⟨h0, h1, h2⟩ := hSw; go_simp; rfl
    simp only [Act.put, List.setIfInBounds_toArray, List.set_cons_zero, List.set_cons_succ]
    refine take_on (i := 5) (d := (some 13)) (v := ?v29) rfl rfl (by kernel_rfl) (by kernel_rfl) (by kernel_rfl) (fun c a w h => h) (by rfl) ?h29 (by assumption) ?r29
    case h29 => intro w hSw; obtain ⟨h0, h1, h2⟩ := hSw; go_simp; rfl
    simp only [Act.put, List.setIfInBounds_toArray, List.set_cons_zero, List.set_cons_succ]
    refine take_on (i := 6) (d := (some 14)) (v := ?v30) rfl rfl (by kernel_rfl) (by kernel_rfl) (by kernel_rfl) (fun c a w h => h) (by rfl) ?h30 (by assumption) ?r30
    case h30 => intro w hSw; obtain ⟨h0, h1, h2⟩ := hSw; go_simp; rfl
    simp only [Act.put, List.setIfInBounds_toArray, List.set_cons_zero, List.set_cons_succ]
    refine take_on (i := 7) (d := (some 15)) (v := ?v31) rfl rfl (by kernel_rfl) (by kernel_rfl) (by kernel_rfl) (fun c a w h => h) (by rfl) ?h31 (by assumption) ?r31
    case h31 => intro w hSw; obtain ⟨h0, h1, h2⟩ := hSw; go_simp; rfl
    simp only [Act.put, List.setIfInBounds_toArray, List.set_cons_zero, List.set_cons_succ]
    refine take_on (i := 8) (d := (some 16)) (v := ?v32) rfl rfl (by kernel_rfl) (by kernel_rfl) (by kernel_rfl) (fun c a w h => h) (by rfl) ?h32 (by assumption) ?r32
    case h32 => intro w hSw; obtain ⟨h0, h1, h2⟩ := hSw; go_simp; rfl
    simp only [Act.put, List.setIfInBounds_toArray, List.set_cons_zero, List.set_cons_succ]
    refine take_off (i := 9) (d := (some 17)) rfl rfl (by kernel_rfl) (by kernel_rfl) (by kernel_rfl) (fun c a w h => h) (by rfl) (by assumption) ?_
    simp only [Act.put, List.setIfInBounds_toArray, List.set_cons_zero, List.set_cons_succ]
    refine take_off (i := 10) (d := (some 18)) rfl rfl (by kernel_rfl) (by kernel_rfl) (by kernel_rfl) (fun c a w h => h) (by rfl) (by assumption) ?_
    simp only [Act.put, List.setIfInBounds_toArray, List.set_cons_zero, List.set_cons_succ]
    refine take_off (i := 11) (d := (some 19)) rfl rfl (by kernel_rfl) (by kernel_rfl) (by kernel_rfl) (fun c a w h => h) (by rfl) (by assumption) ?_
    simp only [Act.put, List.setIfInBounds_toArray, List.set_cons_zero, List.set_cons_succ]
    refine take_off (i := 12) (d := (some 20)) rfl rfl (by kernel_rfl) (by kernel_rfl) (by kernel_rfl) (fun c a w h => h) (by rfl) (by assumption) ?_
    simp only [Act.put, List.setIfInBounds_toArray, List.set_cons_zero, List.set_cons_succ]
    refine take_off (i := 13) (d := (some 21)) rfl rfl (by kernel_rfl) (by kernel_rfl) (by kernel_rfl) (fun c a w h => h) (by rfl) (by assumption) ?_
    simp only [Act.put, List.setIfInBounds_toArray, List.set_cons_zero, List.set_cons_succ]
    refine take_off (i := 14) (d := (some 22)) rfl rfl (by kernel_rfl) (by kernel_rfl) (by kernel_rfl) (fun c a w h => h) (by rfl) (by assumption) ?_
    simp only [Act.put, List.setIfInBounds_toArray, List.set_cons_zero, List.set_cons_succ]
    refine take_off (i := 15) (d := (some 23)) rfl rfl (by kernel_rfl) (by kernel_rfl) (by kernel_rfl) (fun c a w h => h) (by rfl) (by assumption) ?_
    simp only [Act.put, List.setIfInBounds_toArray, List.set_cons_zero, List.set_cons_succ]
    refine take_on (i := 16) (d := (some 24)) (v := ?v40) rfl rfl (by kernel_rfl) (by kernel_rfl) (by kernel_rfl) (fun c a w h => h) (by rfl) ?h40 (by assumption) ?r40
    case h40 => intro w hSw; obtain ⟨h0, h1, h2⟩ := hSw; go_simp; rfl
    simp only [Act.put, List.setIfInBounds_toArray, List.set_cons_zero, List.set_cons_succ]
    refine take_on (i := 17) (d := (some 25)) (v := ?v41) rfl rfl (by kernel_rfl) (by kernel_rfl) (by kernel_rfl) (fun c a w h => h) (by rfl) ?h41 (by assumption) ?r41
    case h41 => intro w hSw; obtain ⟨h0, h1, h2⟩ := hSw; go_simp; rfl
    simp only [Act.put, List.setIfInBounds_toArray, List.set_cons_zero, List.set_cons_succ]
    refine take_off (i := 18) (d := (some 26)) rfl rfl (by kernel_rfl) (by kernel_rfl) (by kernel_rfl) (fun c a w h => h) (by rfl) (by assumption) ?_
    simp only [Act.put, List.setIfInBounds_toArray, List.set_cons_zero, List.set_cons_succ]
    refine take_off (i := 19) (d := (some 27)) rfl rfl (by kernel_rfl) (by kernel_rfl) (by kernel_rfl) (fun c a w h => h) (by rfl) (by assumption) ?_
    simp only [Act.put, List.setIfInBounds_toArray, List.set_cons_zero, List.set_cons_succ]
    refine take_off (i := 20) (d := (some 28)) rfl rfl (by kernel_rfl) (by kernel_rfl) (by kernel_rfl) (fun c a w h => h) (by rfl) (by assumption) ?_
    simp only [Act.put, List.setIfInBounds_toArray, List.set_cons_zero, List.set_cons_succ]
    refine take_off (i := 21) (d := (some 29)) rfl rfl (by kernel_rfl) (by kernel_rfl) (by kernel_rfl) (fun c a w h => h) (by rfl) (by assumption) ?_
    simp only [Act.put, List.setIfInBounds_toArray, List.set_cons_zero, List.set_cons_succ]
    refine take_on (i := 22) (d := (some 30)) (v := ?v46) rfl rfl (by kernel_rfl) (by kernel_rfl) (by kernel_rfl) (fun c a w h => h) (by rfl) ?h46 (by assumption) ?r46
    case h46 => intro w hSw; obtain ⟨h0, h1, h2⟩ := hSw; go_simp; rfl
    simp only [Act.put, List.setIfInBounds_toArray]
    clear hHeld
    refine wpAnyH_done (by kernel_rfl) ?_ _
    go_wp2
    go_ret
    exact ⟨by rw [HF.out] <;> rfl, P.out⟩
  have t2 : decide (4 ≤ kind) = false := decide_eq_false q2
  obtain ⟨pk, hpk⟩ : ∃ x, x = polysOf kind := ⟨_, rfl⟩
  have HPK := Lib.hid hpk.symm
  clear hpk
  by_cases q3 : (p : Int) = pk
  case neg =>
    have t3 : ((p : Int) != pk) = true := by rw [bne_iff_ne]; exact q3
    have HF := Lib.hid (vl_head (l := ⟨kind, vs, ps⟩) (vars := vars) (fun hh => by have e := hh.2.2.1; dsimp only at e; rw [HPK.out, HL.out.2.1] at e; exact q3 e))
    clear q3
    refine wp_region_held_drew (S := (fun w' => w'.cell? ⟨g, 0, none⟩ = some (.int .i64 kind) ∧ w'.cell? ⟨g, 1, none⟩ = some (.slice B m d) ∧ w'.cell? ⟨g, 2, none⟩ = some (.slice C p q))) (by kernel_rfl) (⟨cell_drq X.out.c0, cell_drq X.out.c1, cell_drq X.out.c2⟩) (fun hHeld => ?_)
    replace P := Lib.hid (P.out.trans ((Below.refl W0.heap.size W0).drew.mono P.out.size))
    replace R1 := Lib.hid (R1.out.below (Below.refl W0.heap.size W0).drew)
    replace R2 := Lib.hid (R2.out.below (Below.refl W0.heap.size W0).drew)
    replace X := Lib.hid (X.out.next (Below.refl W0.heap.size W0).drew)
    generalize W0.drew = D3 at P R1 R2 X hHeld ⊢
    refine take_on (i := 0) (d := (some 8)) (v := ?v47) rfl rfl (by kernel_rfl) (by kernel_rfl) (by kernel_rfl) (fun c a w h => h) (by rfl) ?h47 (by assumption) ?r47
    case h47 => intro w hSw; obtain ⟨h0, h1, h2⟩ := hSw; go_simp; rfl
    simp only [Act.put, List.setIfInBounds_toArray, List.set_cons_zero, List.set_cons_succ]
    refine take_on (i := 1) (d := (some 9)) (v := ?v48) rfl rfl (by kernel_rfl) (by kernel_rfl) (by kernel_rfl) (fun c a w h => h) (by rfl) ?h48 (by assumption) ?r48
    case h48 => intro w hSw; obtain ⟨h0, h1, h2⟩ := hSw; go_simp; rfl
    simp only [Act.put, List.setIfInBounds_toArray, List.set_cons_zero, List.set_cons_succ]
    refine take_on (i := 2) (d := (some 10)) (v := ?v49) rfl rfl (by kernel_rfl) (by kernel_rfl) (by kernel_rfl) (fun c a w h => h) (by rfl) ?h49 (by assumption) ?r49
    case h49 => intro w hSw; obtain ⟨h0, h1, h2⟩ := hSw; go_simp; rfl
    simp only [Act.put, List.setIfInBounds_toArray, List.set_cons_zero, List.set_cons_succ]
    refine take_on (i := 3) (d := (some 11)) (v := ?v50) rfl rfl (by kernel_rfl) (by kernel_rfl) (by kernel_rfl) (fun c a w h => h) (by rfl) ?h50 (by assumption) ?r50
    case h50 => intro w hSw; obtain ⟨h0, h1, h2⟩ := hSw; go_simp; rfl
    simp only [Act.put, List.setIfInBounds_toArray, List.set_cons_zero, List.set_cons_succ]
    refine take_on (i := 4) (d := (some 12)) (v := ?v51) rfl rfl (by kernel_rfl) (by kernel_rfl) (by kernel_rfl) (fun c a w h => h) (by rfl) ?h51 (by assumption) ?r51
    case h51 => intro w hSw; obtain ⟨h0, h1, h2⟩ := hSw; go_simp; rfl
    simp only [Act.put, List.setIfInBounds_toArray, List.set_cons_zero, List.set_cons_succ]
    refine take_on (i := 5) (d := (some 13)) (v := ?v52) rfl rfl (by kernel_rfl) (by kernel_rfl) (by kernel_rfl) (fun c a w h => h) (by rfl) ?h52 (by assumption) ?r52
    case h52 => intro w hSw; obtain ⟨h0, h1, h2⟩ := hSw; go_simp; rfl
    simp only [Act.put, List.setIfInBounds_toArray, List.set_cons_zero, List.set_cons_succ]
    refine take_on (i := 6) (d := (some 14)) (v := ?v53) rfl rfl (by kernel_rfl) (by kernel_rfl) (by kernel_rfl) (fun c a w h => h) (by rfl) ?h53 (by assumption) ?r53
    case h53 => intro w hSw; obtain ⟨h0, h1, h2⟩ := hSw; go_simp; rfl
    simp only [Act.put, List.setIfInBounds_toArray, List.set_cons_zero, List.set_cons_succ]
    refine take_on (i := 7) (d := (some 15)) (v := ?v54) rfl rfl (by kernel_rfl) (by kernel_rfl) (by kernel_rfl) (fun c a w h => h) (by rfl) ?h54 (by assumption) ?r54
    case h54 => intro w hSw; obtain ⟨h0, h1, h2⟩ := hSw; go_simp; rfl
    simp only [Act.put, List.setIfInBounds_toArray, List.set_cons_zero, List.set_cons_succ]
    refine take_on (i := 8) (d := (some 16)) (v := ?v55) rfl rfl (by kernel_rfl) (by kernel_rfl) (by kernel_rfl) (fun c a w h => h) (by rfl) ?h55 (by assumption) ?r55
    case h55 => intro w hSw; obtain ⟨h0, h1, h2⟩ := hSw; go_simp; rfl
    simp only [Act.put, List.setIfInBounds_toArray, List.set_cons_zero, List.set_cons_succ]
    refine take_on (i := 9) (d := (some 17)) (v := ?v56) rfl rfl (by kernel_rfl) (by kernel_rfl) (by kernel_rfl) (fun c a w h => h) (by rfl) ?h56 (by assumption) ?r56
    case h56 => intro w hSw; obtain ⟨h0, h1, h2⟩ := hSw; go_simp; rfl
    simp only [Act.put, List.setIfInBounds_toArray, List.set_cons_zero, List.set_cons_succ]
    refine take_on (i := 10) (d := (some 18)) (v := ?v57) rfl rfl (by kernel_rfl) (by kernel_rfl) (by kernel_rfl) (fun c a w h => h) (by rfl) ?h57 (by assumption) ?r57
    case h57 => intro w hSw; obtain ⟨h0, h1, h2⟩ := hSw; go_simp; rfl
    simp only [Act.put, List.setIfInBounds_toArray, List.set_cons_zero, List.set_cons_succ]
    refine take_on (i := 11) (d := (some 19)) (v := ?v58) rfl rfl (by kernel_rfl) (by kernel_rfl) (by kernel_rfl) (fun c a w h => h) (by rfl) ?h58 (by assumption) ?r58
    case h58 => intro w hSw; obtain ⟨h0, h1, h2⟩ := hSw; go_simp; rfl
    simp only [Act.put, List.setIfInBounds_toArray, List.set_cons_zero, List.set_cons_succ]
    refine take_on (i := 12) (d := (some 20)) (v := ?v59) rfl rfl (by kernel_rfl) (by kernel_rfl) (by kernel_rfl) (fun c a w h => h) (by rfl) ?h59 (by assumption) ?r59
    case h59 => intro w hSw; obtain ⟨h0, h1, h2⟩ := hSw; go_simp; rfl
    simp only [Act.put, List.setIfInBounds_toArray, List.set_cons_zero, List.set_cons_succ]
    refine take_on (i := 13) (d := (some 21)) (v := ?v60) rfl rfl (by kernel_rfl) (by kernel_rfl) (by kernel_rfl) (fun c a w h => h) (by rfl) ?h60 (by assumption) ?r60
    case h60 => intro w hSw; obtain ⟨h0, h1, h2⟩ := hSw; go_simp; rfl
    simp only [Act.put, List.setIfInBounds_toArray, List.set_cons_zero, List.set_cons_succ]
    refine wpAnyH_ready (rs := [14]) (by kernel_rfl) (by simp) ?_
    refine AllReadyH.cons rfl (fun K hK => ?_) AllReadyH.nil
    go_simp
    refine (polys_c kind D3).mono ?_
    rintro e v4 ⟨rfl, hw⟩
    subst hw
    clear hHeld
    rw [HPK.out]
    refine hK.out _ _ (⟨X.out.c0, X.out.c1, X.out.c2⟩) (fun hHeld => ?_)
    clear hK K
    refine take_on (i := 15) (d := (some 23)) (v := ?v61) rfl rfl (by kernel_rfl) (by kernel_rfl) (by kernel_rfl) (fun c a w h => h) (by rfl) ?h61 (by assumption) ?r61
    case h61 => intro w hSw; obtain ⟨h0, h1, h2⟩ := hSw; go_simp; rfl
    simp only [Act.put, List.setIfInBounds_toArray, List.set_cons_zero, List.set_cons_succ]
    refine take_on (i := 16) (d := (some 24)) (v := ?v62) rfl rfl (by kernel_rfl) (by kernel_rfl) (by kernel_rfl) (fun c a w h => h) (by rfl) ?h62 (by assumption) ?r62
    case h62 => intro w hSw; obtain ⟨h0, h1, h2⟩ := hSw; go_simp; rfl
    simp only [Act.put, List.setIfInBounds_toArray, List.set_cons_zero, List.set_cons_succ]
    refine take_on (i := 17) (d := (some 25)) (v := ?v63) rfl rfl (by kernel_rfl) (by kernel_rfl) (by kernel_rfl) (fun c a w h => h) (by rfl) ?h63 (by assumption) ?r63
    case h63 => intro w hSw; obtain ⟨h0, h1, h2⟩ := hSw; go_simp; rfl
    simp only [Act.put, List.setIfInBounds_toArray, List.set_cons_zero, List.set_cons_succ]
    refine take_off (i := 18) (d := (some 26)) rfl rfl (by kernel_rfl) (by kernel_rfl) (by kernel_rfl) (fun c a w h => h) (by rfl) (by assumption) ?_
    simp only [Act.put, List.setIfInBounds_toArray, List.set_cons_zero, List.set_cons_succ]
    refine take_off (i := 19) (d := (some 27)) rfl rfl (by kernel_rfl) (by kernel_rfl) (by kernel_rfl) (fun c a w h => h) (by rfl) (by assumption) ?_
    simp only [Act.put, List.setIfInBounds_toArray, List.set_cons_zero, List.set_cons_succ]
    refine take_off (i := 20) (d := (some 28)) rfl rfl (by kernel_rfl) (by kernel_rfl) (by kernel_rfl) (fun c a w h => h) (by rfl) (by assumption) ?_
    simp only [Act.put, List.setIfInBounds_toArray, List.set_cons_zero, List.set_cons_succ]
    refine take_off (i := 21) (d := (some 29)) rfl rfl (by kernel_rfl) (by kernel_rfl) (by kernel_rfl) (fun c a w h => h) (by rfl) (by assumption) ?_
    simp only [Act.put, List.setIfInBounds_toArray, List.set_cons_zero, List.set_cons_succ]
    refine take_on (i := 22) (d := (some 30)) (v := ?v68) rfl rfl (by kernel_rfl) (by kernel_rfl) (by kernel_rfl) (fun c a w h => h) (by rfl) ?h68 (by assumption) ?r68
    case h68 => intro w hSw; obtain ⟨h0, h1, h2⟩ := hSw; go_simp; rfl
    simp only [Act.put, List.setIfInBounds_toArray]
    clear hHeld
    refine wpAnyH_done (by kernel_rfl) ?_ _
    go_wp2
    go_ret
    exact ⟨by rw [HF.out] <;> rfl, P.out⟩
  case pos =>
  have t3 : ((p : Int) != pk) = false := by rw [q3]; exact bne_self_eq_false _
  have HQ3 := Lib.hid q3
  clear q3
  by_cases q4 : 32 < m
  · have t4 : decide ((32 : Int) < (m : Int)) = true := decide_eq_true (by omega)
    have t4n : decide (32 < m) = true := decide_eq_true q4
    have HF := Lib.hid (vl_head (l := ⟨kind, vs, ps⟩) (vars := vars) (fun hh => by have e := hh.2.2.2; dsimp only at e; rw [HL.out.1] at e; omega))
    refine wp_region_held_drew (S := (fun w' => w'.cell? ⟨g, 0, none⟩ = some (.int .i64 kind) ∧ w'.cell? ⟨g, 1, none⟩ = some (.slice B m d) ∧ w'.cell? ⟨g, 2, none⟩ = some (.slice C p q))) (by kernel_rfl) (⟨cell_drq X.out.c0, cell_drq X.out.c1, cell_drq X.out.c2⟩) (fun hHeld => ?_)
    replace P := Lib.hid (P.out.trans ((Below.refl W0.heap.size W0).drew.mono P.out.size))
    replace R1 := Lib.hid (R1.out.below (Below.refl W0.heap.size W0).drew)
    replace R2 := Lib.hid (R2.out.below (Below.refl W0.heap.size W0).drew)
    replace X := Lib.hid (X.out.next (Below.refl W0.heap.size W0).drew)
    generalize W0.drew = D5 at P R1 R2 X hHeld ⊢
    refine take_on (i := 0) (d := (some 8)) (v := ?v69) rfl rfl (by kernel_rfl) (by kernel_rfl) (by kernel_rfl) (fun c a w h => h) (by rfl) ?h69 (by assumption) ?r69
    case h69 => intro w hSw; obtain ⟨h0, h1, h2⟩ := hSw; go_simp; rfl
    simp only [Act.put, List.setIfInBounds_toArray, List.set_cons_zero, List.set_cons_succ]
    refine take_on (i := 1) (d := (some 9)) (v := ?v70) rfl rfl (by kernel_rfl) (by kernel_rfl) (by kernel_rfl) (fun c a w h => h) (by rfl) ?h70 (by assumption) ?r70
    case h70 => intro w hSw; obtain ⟨h0, h1, h2⟩ := hSw; go_simp; rfl
    simp only [Act.put, List.setIfInBounds_toArray, List.set_cons_zero, List.set_cons_succ]
    refine take_on (i := 2) (d := (some 10)) (v := ?v71) rfl rfl (by kernel_rfl) (by kernel_rfl) (by kernel_rfl) (fun c a w h => h) (by rfl) ?h71 (by assumption) ?r71
    case h71 => intro w hSw; obtain ⟨h0, h1, h2⟩ := hSw; go_simp; rfl
    simp only [Act.put, List.setIfInBounds_toArray, List.set_cons_zero, List.set_cons_succ]
    refine take_on (i := 3) (d := (some 11)) (v := ?v72) rfl rfl (by kernel_rfl) (by kernel_rfl) (by kernel_rfl) (fun c a w h => h) (by rfl) ?h72 (by assumption) ?r72
    case h72 => intro w hSw; obtain ⟨h0, h1, h2⟩ := hSw; go_simp; rfl
    simp only [Act.put, List.setIfInBounds_toArray, List.set_cons_zero, List.set_cons_succ]
    refine take_on (i := 4) (d := (some 12)) (v := ?v73) rfl rfl (by kernel_rfl) (by kernel_rfl) (by kernel_rfl) (fun c a w h => h) (by rfl) ?h73 (by assumption) ?r73
    case h73 => intro w hSw; obtain ⟨h0, h1, h2⟩ := hSw; go_simp; rfl
    simp only [Act.put, List.setIfInBounds_toArray, List.set_cons_zero, List.set_cons_succ]
    refine take_on (i := 5) (d := (some 13)) (v := ?v74) rfl rfl (by kernel_rfl) (by kernel_rfl) (by kernel_rfl) (fun c a w h => h) (by rfl) ?h74 (by assumption) ?r74
    case h74 => intro w hSw; obtain ⟨h0, h1, h2⟩ := hSw; go_simp; rfl
    simp only [Act.put, List.setIfInBounds_toArray, List.set_cons_zero, List.set_cons_succ]
    refine take_on (i := 6) (d := (some 14)) (v := ?v75) rfl rfl (by kernel_rfl) (by kernel_rfl) (by kernel_rfl) (fun c a w h => h) (by rfl) ?h75 (by assumption) ?r75
    case h75 => intro w hSw; obtain ⟨h0, h1, h2⟩ := hSw; go_simp; rfl
    simp only [Act.put, List.setIfInBounds_toArray, List.set_cons_zero, List.set_cons_succ]
    refine take_on (i := 7) (d := (some 15)) (v := ?v76) rfl rfl (by kernel_rfl) (by kernel_rfl) (by kernel_rfl) (fun c a w h => h) (by rfl) ?h76 (by assumption) ?r76
    case h76 => intro w hSw; obtain ⟨h0, h1, h2⟩ := hSw; go_simp; rfl
    simp only [Act.put, List.setIfInBounds_toArray, List.set_cons_zero, List.set_cons_succ]
    refine take_on (i := 8) (d := (some 16)) (v := ?v77) rfl rfl (by kernel_rfl) (by kernel_rfl) (by kernel_rfl) (fun c a w h => h) (by rfl) ?h77 (by assumption) ?r77
    case h77 => intro w hSw; obtain ⟨h0, h1, h2⟩ := hSw; go_simp; rfl
    simp only [Act.put, List.setIfInBounds_toArray, List.set_cons_zero, List.set_cons_succ]
    refine take_on (i := 9) (d := (some 17)) (v := ?v78) rfl rfl (by kernel_rfl) (by kernel_rfl) (by kernel_rfl) (fun c a w h => h) (by rfl) ?h78 (by assumption) ?r78
    case h78 => intro w hSw; obtain ⟨h0, h1, h2⟩ := hSw; go_simp; rfl
    simp only [Act.put, List.setIfInBounds_toArray, List.set_cons_zero, List.set_cons_succ]
    refine take_on (i := 10) (d := (some 18)) (v := ?v79) rfl rfl (by kernel_rfl) (by kernel_rfl) (by kernel_rfl) (fun c a w h => h) (by rfl) ?h79 (by assumption) ?r79
    case h79 => intro w hSw; obtain ⟨h0, h1, h2⟩ := hSw; go_simp; rfl
    simp only [Act.put, List.setIfInBounds_toArray, List.set_cons_zero, List.set_cons_succ]
    refine take_on (i := 11) (d := (some 19)) (v := ?v80) rfl rfl (by kernel_rfl) (by kernel_rfl) (by kernel_rfl) (fun c a w h => h) (by rfl) ?h80 (by assumption) ?r80
    case h80 => intro w hSw; obtain ⟨h0, h1, h2⟩ := hSw; go_simp; rfl
    simp only [Act.put, List.setIfInBounds_toArray, List.set_cons_zero, List.set_cons_succ]
    refine take_on (i := 12) (d := (some 20)) (v := ?v81) rfl rfl (by kernel_rfl) (by kernel_rfl) (by kernel_rfl) (fun c a w h => h) (by rfl) ?h81 (by assumption) ?r81
    case h81 => intro w hSw; obtain ⟨h0, h1, h2⟩ := hSw; go_simp; rfl
    simp only [Act.put, List.setIfInBounds_toArray, List.set_cons_zero, List.set_cons_succ]
    refine take_on (i := 13) (d := (some 21)) (v := ?v82) rfl rfl (by kernel_rfl) (by kernel_rfl) (by kernel_rfl) (fun c a w h => h) (by rfl) ?h82 (by assumption) ?r82
    case h82 => intro w hSw; obtain ⟨h0, h1, h2⟩ := hSw; go_simp; rfl
    simp only [Act.put, List.setIfInBounds_toArray, List.set_cons_zero, List.set_cons_succ]
    refine wpAnyH_ready (rs := [14]) (by kernel_rfl) (by simp) ?_
    refine AllReadyH.cons rfl (fun K hK => ?_) AllReadyH.nil
    go_simp
    refine (polys_c kind D5).mono ?_
    rintro e v6 ⟨rfl, hw⟩
    subst hw
    clear hHeld
    rw [HPK.out]
    refine hK.out _ _ (⟨X.out.c0, X.out.c1, X.out.c2⟩) (fun hHeld => ?_)
    clear hK K
    refine take_on (i := 15) (d := (some 23)) (v := ?v83) rfl rfl (by kernel_rfl) (by kernel_rfl) (by kernel_rfl) (fun c a w h => h) (by rfl) ?h83 (by assumption) ?r83
    case h83 => intro w hSw; obtain ⟨h0, h1, h2⟩ := hSw; go_simp; rfl
    simp only [Act.put, List.setIfInBounds_toArray, List.set_cons_zero, List.set_cons_succ]
    refine take_on (i := 16) (d := (some 24)) (v := ?v84) rfl rfl (by kernel_rfl) (by kernel_rfl) (by kernel_rfl) (fun c a w h => h) (by rfl) ?h84 (by assumption) ?r84
    case h84 => intro w hSw; obtain ⟨h0, h1, h2⟩ := hSw; go_simp; rfl
    simp only [Act.put, List.setIfInBounds_toArray, List.set_cons_zero, List.set_cons_succ]
    refine take_on (i := 17) (d := (some 25)) (v := ?v85) rfl rfl (by kernel_rfl) (by kernel_rfl) (by kernel_rfl) (fun c a w h => h) (by rfl) ?h85 (by assumption) ?r85
    case h85 => intro w hSw; obtain ⟨h0, h1, h2⟩ := hSw; go_simp; rfl
    simp only [Act.put, List.setIfInBounds_toArray, List.set_cons_zero, List.set_cons_succ]
    refine take_on (i := 18) (d := (some 26)) (v := ?v86) rfl rfl (by kernel_rfl) (by kernel_rfl) (by kernel_rfl) (fun c a w h => h) (by rfl) ?h86 (by assumption) ?r86
    case h86 => intro w hSw; obtain ⟨h0, h1, h2⟩ := hSw; go_simp; rfl
    simp only [Act.put, List.setIfInBounds_toArray, List.set_cons_zero, List.set_cons_succ]
    refine take_on (i := 19) (d := (some 27)) (v := ?v87) rfl rfl (by kernel_rfl) (by kernel_rfl) (by kernel_rfl) (fun c a w h => h) (by rfl) ?h87 (by assumption) ?r87
    case h87 => intro w hSw; obtain ⟨h0, h1, h2⟩ := hSw; go_simp; rfl
    simp only [Act.put, List.setIfInBounds_toArray, List.set_cons_zero, List.set_cons_succ]
    refine take_on (i := 20) (d := (some 28)) (v := ?v88) rfl rfl (by kernel_rfl) (by kernel_rfl) (by kernel_rfl) (fun c a w h => h) (by rfl) ?h88 (by assumption) ?r88
    case h88 => intro w hSw; obtain ⟨h0, h1, h2⟩ := hSw; go_simp; rfl
    simp only [Act.put, List.setIfInBounds_toArray, List.set_cons_zero, List.set_cons_succ]
    refine take_on (i := 21) (d := (some 29)) (v := ?v89) rfl rfl (by kernel_rfl) (by kernel_rfl) (by kernel_rfl) (fun c a w h => h) (by rfl) ?h89 (by assumption) ?r89
    case h89 => intro w hSw; obtain ⟨h0, h1, h2⟩ := hSw; go_simp; rfl
    simp only [Act.put, List.setIfInBounds_toArray, List.set_cons_zero, List.set_cons_succ]
    refine take_on (i := 22) (d := (some 30)) (v := ?v90) rfl rfl (by kernel_rfl) (by kernel_rfl) (by kernel_rfl) (fun c a w h => h) (by rfl) ?h90 (by assumption) ?r90
    case h90 => intro w hSw; obtain ⟨h0, h1, h2⟩ := hSw; go_simp; rfl
    simp only [Act.put, List.setIfInBounds_toArray]
    clear hHeld
    refine wpAnyH_done (by kernel_rfl) ?_ _
    go_wp2
    go_ret
    exact ⟨by rw [HF.out] <;> rfl, P.out⟩
  have t4 : decide ((32 : Int) < (m : Int)) = false := decide_eq_false (by omega)
  have t4n : decide (32 < m) = false := decide_eq_false q4
  have HH := Lib.hid (show 0 ≤ kind ∧ kind < 4 ∧ (ps.length : Int) = polysOf kind ∧ vs.length ≤ 32 from ⟨by omega, by omega, by rw [HPK.out, HL.out.2.1]; exact HQ3.out, by rw [HL.out.1]; omega⟩)
  clear q1 q2
  refine wp_region_held_drew (S := (fun w' => w'.cell? ⟨g, 0, none⟩ = some (.int .i64 kind) ∧ w'.cell? ⟨g, 1, none⟩ = some (.slice B m d) ∧ w'.cell? ⟨g, 2, none⟩ = some (.slice C p q))) (by kernel_rfl) (⟨cell_drq X.out.c0, cell_drq X.out.c1, cell_drq X.out.c2⟩) (fun hHeld => ?_)
  replace P := Lib.hid (P.out.trans ((Below.refl W0.heap.size W0).drew.mono P.out.size))
  replace R1 := Lib.hid (R1.out.below (Below.refl W0.heap.size W0).drew)
  replace R2 := Lib.hid (R2.out.below (Below.refl W0.heap.size W0).drew)
  replace X := Lib.hid (X.out.next (Below.refl W0.heap.size W0).drew)
  generalize W0.drew = D7 at P R1 R2 X hHeld ⊢
  refine take_on (i := 0) (d := (some 8)) (v := ?v91) rfl rfl (by kernel_rfl) (by kernel_rfl) (by kernel_rfl) (fun c a w h => h) (by rfl) ?h91 (by assumption) ?r91
  case h91 => intro w hSw; obtain ⟨h0, h1, h2⟩ := hSw; go_simp; rfl
  simp only [Act.put, List.setIfInBounds_toArray, List.set_cons_zero, List.set_cons_succ]
  refine take_on (i := 1) (d := (some 9)) (v := ?v92) rfl rfl (by kernel_rfl) (by kernel_rfl) (by kernel_rfl) (fun c a w h => h) (by rfl) ?h92 (by assumption) ?r92
  case h92 => intro w hSw; obtain ⟨h0, h1, h2⟩ := hSw; go_simp; rfl
  simp only [Act.put, List.setIfInBounds_toArray, List.set_cons_zero, List.set_cons_succ]
  refine take_on (i := 2) (d := (some 10)) (v := ?v93) rfl rfl (by kernel_rfl) (by kernel_rfl) (by kernel_rfl) (fun c a w h => h) (by rfl) ?h93 (by assumption) ?r93
  case h93 => intro w hSw; obtain ⟨h0, h1, h2⟩ := hSw; go_simp; rfl
  simp only [Act.put, List.setIfInBounds_toArray, List.set_cons_zero, List.set_cons_succ]
  refine take_on (i := 3) (d := (some 11)) (v := ?v94) rfl rfl (by kernel_rfl) (by kernel_rfl) (by kernel_rfl) (fun c a w h => h) (by rfl) ?h94 (by assumption) ?r94
  case h94 => intro w hSw; obtain ⟨h0, h1, h2⟩ := hSw; go_simp; rfl
  simp only [Act.put, List.setIfInBounds_toArray, List.set_cons_zero, List.set_cons_succ]
  refine take_on (i := 4) (d := (some 12)) (v := ?v95) rfl rfl (by kernel_rfl) (by kernel_rfl) (by kernel_rfl) (fun c a w h => h) (by rfl) ?h95 (by assumption) ?r95
  case h95 => intro w hSw; obtain ⟨h0, h1, h2⟩ := hSw; go_simp; rfl
  simp only [Act.put, List.setIfInBounds_toArray, List.set_cons_zero, List.set_cons_succ]
  refine take_on (i := 5) (d := (some 13)) (v := ?v96) rfl rfl (by kernel_rfl) (by kernel_rfl) (by kernel_rfl) (fun c a w h => h) (by rfl) ?h96 (by assumption) ?r96
  case h96 => intro w hSw; obtain ⟨h0, h1, h2⟩ := hSw; go_simp; rfl
  simp only [Act.put, List.setIfInBounds_toArray, List.set_cons_zero, List.set_cons_succ]
  refine take_on (i := 6) (d := (some 14)) (v := ?v97) rfl rfl (by kernel_rfl) (by kernel_rfl) (by kernel_rfl) (fun c a w h => h) (by rfl) ?h97 (by assumption) ?r97
  case h97 => intro w hSw; obtain ⟨h0, h1, h2⟩ := hSw; go_simp; rfl
  simp only [Act.put, List.setIfInBounds_toArray, List.set_cons_zero, List.set_cons_succ]
  refine take_on (i := 7) (d := (some 15)) (v := ?v98) rfl rfl (by kernel_rfl) (by kernel_rfl) (by kernel_rfl) (fun c a w h => h) (by rfl) ?h98 (by assumption) ?r98
  case h98 => intro w hSw; obtain ⟨h0, h1, h2⟩ := hSw; go_simp; rfl
  simp only [Act.put, List.setIfInBounds_toArray, List.set_cons_zero, List.set_cons_succ]
  refine take_on (i := 8) (d := (some 16)) (v := ?v99) rfl rfl (by kernel_rfl) (by kernel_rfl) (by kernel_rfl) (fun c a w h => h) (by rfl) ?h99 (by assumption) ?r99
  case h99 => intro w hSw; obtain ⟨h0, h1, h2⟩ := hSw; go_simp; rfl
  simp only [Act.put, List.setIfInBounds_toArray, List.set_cons_zero, List.set_cons_succ]
  refine take_on (i := 9) (d := (some 17)) (v := ?v100) rfl rfl (by kernel_rfl) (by kernel_rfl) (by kernel_rfl) (fun c a w h => h) (by rfl) ?h100 (by assumption) ?r100
  case h100 => intro w hSw; obtain ⟨h0, h1, h2⟩ := hSw; go_simp; rfl
  simp only [Act.put, List.setIfInBounds_toArray, List.set_cons_zero, List.set_cons_succ]
  refine take_on (i := 10) (d := (some 18)) (v := ?v101) rfl rfl (by kernel_rfl) (by kernel_rfl) (by kernel_rfl) (fun c a w h => h) (by rfl) ?h101 (by assumption) ?r101
  case h101 => intro w hSw; obtain ⟨h0, h1, h2⟩ := hSw; go_simp; rfl
  simp only [Act.put, List.setIfInBounds_toArray, List.set_cons_zero, List.set_cons_succ]
  refine take_on (i := 11) (d := (some 19)) (v := ?v102) rfl rfl (by kernel_rfl) (by kernel_rfl) (by kernel_rfl) (fun c a w h => h) (by rfl) ?h102 (by assumption) ?r102
  case h102 => intro w hSw; obtain ⟨h0, h1, h2⟩ := hSw; go_simp; rfl
  simp only [Act.put, List.setIfInBounds_toArray, List.set_cons_zero, List.set_cons_succ]
  refine take_on (i := 12) (d := (some 20)) (v := ?v103) rfl rfl (by kernel_rfl) (by kernel_rfl) (by kernel_rfl) (fun c a w h => h) (by rfl) ?h103 (by assumption) ?r103
  case h103 => intro w hSw; obtain ⟨h0, h1, h2⟩ := hSw; go_simp; rfl
  simp only [Act.put, List.setIfInBounds_toArray, List.set_cons_zero, List.set_cons_succ]
  refine take_on (i := 13) (d := (some 21)) (v := ?v104) rfl rfl (by kernel_rfl) (by kernel_rfl) (by kernel_rfl) (fun c a w h => h) (by rfl) ?h104 (by assumption) ?r104
  case h104 => intro w hSw; obtain ⟨h0, h1, h2⟩ := hSw; go_simp; rfl
  simp only [Act.put, List.setIfInBounds_toArray, List.set_cons_zero, List.set_cons_succ]
  refine wpAnyH_ready (rs := [14]) (by kernel_rfl) (by simp) ?_
  refine AllReadyH.cons rfl (fun K hK => ?_) AllReadyH.nil
  go_simp
  refine (polys_c kind D7).mono ?_
  rintro e v8 ⟨rfl, hw⟩
  subst hw
  clear hHeld
  rw [HPK.out]
  refine hK.out _ _ (⟨X.out.c0, X.out.c1, X.out.c2⟩) (fun hHeld => ?_)
  clear hK K
  refine take_on (i := 15) (d := (some 23)) (v := ?v105) rfl rfl (by kernel_rfl) (by kernel_rfl) (by kernel_rfl) (fun c a w h => h) (by rfl) ?h105 (by assumption) ?r105
  case h105 => intro w hSw; obtain ⟨h0, h1, h2⟩ := hSw; go_simp; rfl
  simp only [Act.put, List.setIfInBounds_toArray, List.set_cons_zero, List.set_cons_succ]
  refine take_on (i := 16) (d := (some 24)) (v := ?v106) rfl rfl (by kernel_rfl) (by kernel_rfl) (by kernel_rfl) (fun c a w h => h) (by rfl) ?h106 (by assumption) ?r106
  case h106 => intro w hSw; obtain ⟨h0, h1, h2⟩ := hSw; go_simp; rfl
  simp only [Act.put, List.setIfInBounds_toArray, List.set_cons_zero, List.set_cons_succ]
  refine take_on (i := 17) (d := (some 25)) (v := ?v107) rfl rfl (by kernel_rfl) (by kernel_rfl) (by kernel_rfl) (fun c a w h => h) (by rfl) ?h107 (by assumption) ?r107
  case h107 => intro w hSw; obtain ⟨h0, h1, h2⟩ := hSw; go_simp; rfl
  simp only [Act.put, List.setIfInBounds_toArray, List.set_cons_zero, List.set_cons_succ]
  refine take_on (i := 18) (d := (some 26)) (v := ?v108) rfl rfl (by kernel_rfl) (by kernel_rfl) (by kernel_rfl) (fun c a w h => h) (by rfl) ?h108 (by assumption) ?r108
  case h108 => intro w hSw; obtain ⟨h0, h1, h2⟩ := hSw; go_simp; rfl
  simp only [Act.put, List.setIfInBounds_toArray, List.set_cons_zero, List.set_cons_succ]
  refine take_on (i := 19) (d := (some 27)) (v := ?v109) rfl rfl (by kernel_rfl) (by kernel_rfl) (by kernel_rfl) (fun c a w h => h) (by rfl) ?h109 (by assumption) ?r109
  case h109 => intro w hSw; obtain ⟨h0, h1, h2⟩ := hSw; go_simp; rfl
  simp only [Act.put, List.setIfInBounds_toArray, List.set_cons_zero, List.set_cons_succ]
  refine take_on (i := 20) (d := (some 28)) (v := ?v110) rfl rfl (by kernel_rfl) (by kernel_rfl) (by kernel_rfl) (fun c a w h => h) (by rfl) ?h110 (by assumption) ?r110
  case h110 => intro w hSw; obtain ⟨h0, h1, h2⟩ := hSw; go_simp; rfl
  simp only [Act.put, List.setIfInBounds_toArray, List.set_cons_zero, List.set_cons_succ]
  refine take_on (i := 21) (d := (some 29)) (v := ?v111) rfl rfl (by kernel_rfl) (by kernel_rfl) (by kernel_rfl) (fun c a w h => h) (by rfl) ?h111 (by assumption) ?r111
  case h111 => intro w hSw; obtain ⟨h0, h1, h2⟩ := hSw; go_simp; rfl
  simp only [Act.put, List.setIfInBounds_toArray, List.set_cons_zero, List.set_cons_succ]
  refine take_on (i := 22) (d := (some 30)) (v := ?v112) rfl rfl (by kernel_rfl) (by kernel_rfl) (by kernel_rfl) (fun c a w h => h) (by rfl) ?h112 (by assumption) ?r112
  case h112 => intro w hSw; obtain ⟨h0, h1, h2⟩ := hSw; go_simp; rfl
  simp only [Act.put, List.setIfInBounds_toArray]
  clear hHeld
  refine wpAnyH_done (by kernel_rfl) ?_ _
  have a1 := X.out.c1
  go_wp2
  clear t1 t2 t3 t4 t4n a1
  go_loopw [5, 34] (fun v5 v wr => ∃ k : Nat, v = .int .i64 (k : Int) ∧ v5 = .int .i64 (prevI vs k) ∧ k ≤ m ∧ Below w.heap.size w wr ∧ BxL wr g kind B m d C p q ∧ RdI wr B m vs ∧ RdP wr C p ps ∧ ∀ i, i < k → prevI vs i < vs.getD i 0 ∧ vs.getD i 0 < vars) (fun _ v _ => m - (intOf v).toNat)
  case atStart => exact ⟨0, rfl, rfl, Nat.zero_le _, P.out, X.out, R1.out, R2.out, fun i hi => absurd hi (by omega)⟩
  case round =>
    obtain ⟨k, rfl, rfl, hk, hP, hX, hR1, hR2, hall⟩ := hrel
    clear P X R1 R2
    have P := Lib.hid hP
    have X := Lib.hid hX
    have R1 := Lib.hid hR1
    have R2 := Lib.hid hR2
    have HA := Lib.hid hall
    clear hP hX hR1 hR2 hall
    by_cases hkm : k < m
    · have t1 : decide ((k : Int) < (m : Int)) = true := decide_eq_true (by omega)
      have t1n : decide (k < m) = true := decide_eq_true hkm
      have hkI : (k : Int) < (m : Int) := by omega
      obtain ⟨b, o, rfl, hlt, hcell⟩ := R1.out.at_ (by omega)
      have c0 := hcell k hkm
      obtain ⟨z, hz⟩ : ∃ z, z = vs.getD k 0 := ⟨_, rfl⟩
      rw [← hz] at c0
      have HZ := Lib.hid (And.intro hz (show prevI vs (k + 1) = z by unfold prevI; rw [if_neg (by omega), Nat.add_sub_cancel]; exact hz.symm))
      obtain ⟨pv, hpv⟩ : ∃ z, z = prevI vs k := ⟨_, rfl⟩
      have HPV := Lib.hid hpv
      rw [← hpv]
      clear hcell hlt hz hpv
      by_cases z1 : z ≤ pv
      · have t2 : decide (z ≤ pv) = true := decide_eq_true z1
        have HF := Lib.hid (vl_rises (l := ⟨kind, vs, ps⟩) (vars := vars) (k := k) (by show k < vs.length; rw [HL.out.1]; exact hkm) (by show ¬ (prevI vs k < vs.getD k 0 ∧ _); rw [← HZ.out.1, ← HPV.out]; omega))
        go_wp2
        go_ret
        exact ⟨by rw [HF.out] <;> rfl, P.out⟩
      · have t2 : decide (z ≤ pv) = false := decide_eq_false z1
        by_cases z2 : vars ≤ z
        · have t3 : decide (vars ≤ z) = true := decide_eq_true z2
          have HF := Lib.hid (vl_rises (l := ⟨kind, vs, ps⟩) (vars := vars) (k := k) (by show k < vs.length; rw [HL.out.1]; exact hkm) (by show ¬ (prevI vs k < vs.getD k 0 ∧ vs.getD k 0 < vars); rw [← HZ.out.1, ← HPV.out]; omega))
          go_wp2
          go_ret
          exact ⟨by rw [HF.out] <;> rfl, P.out⟩
        · have t3 : decide (vars ≤ z) = false := decide_eq_false z2
          go_wp2
          go_roundw
          case measure => simp [intOf]; omega
          case rel => exact ⟨k + 1, by go_num, by rw [HZ.out.2], by omega, P.out, X.out, R1.out, R2.out, fun i hi => by
            by_cases e : i = k
            · subst e; rw [← HZ.out.1, ← HPV.out]; omega
            · exact HA.out i (by omega)⟩
    · have t1 : decide ((k : Int) < (m : Int)) = false := decide_eq_false (by omega)
      have t1n : decide (k < m) = false := decide_eq_false hkm
      have HF := Lib.hid (show validLnk ⟨kind, vs, ps⟩ vars = !anyP (badPly m) ps by
        have e := vl_last (l := ⟨kind, vs, ps⟩) (vars := vars) HH.out (fun i hi => HA.out i (by dsimp only at hi; rw [HL.out.1] at hi; omega))
        rw [e, HL.out.1])
      have a2 := X.out.c2
      go_wp2_with fail
      refine (containsFuncP_c (onLink g B m d) C p q ps _ R2.out ⟨X.out.lt, X.out.c1⟩ HL.out.2.2).mono ?_
      rintro e w1 ⟨rfl, hb⟩
      replace P := Lib.hid (P.out.trans (hb.mono P.out.size))
      clear hb
      generalize anyP (badPly m) ps = av at HF ⊢
      go_wp2
      go_ret
      exact ⟨by rw [HF.out] <;> rfl, P.out⟩
end Go.Proofs.YteabokkofoomkaaGreat
