import Derived.Test.YteabokkofoomkaaGreatCav
import Derived.Test.YteabokkofoomkaaGreatCak
import Derived.Deep.QuietTactic
import Derived.BigQuiet
set_option maxRecDepth 100000
namespace Go.Proofs.YteabokkofoomkaaGreat
open Go.RowKit Go.Shelf Go.Deep
def validS (V : Int) (ls : List Lnk) : Bool := decide (0 ≤ V ∧ V ≤ 20000 ∧ ls.length ≤ 20000) && decide (∀ i, i < ls.length → validLnk (lnkAt ls i) V = true)
theorem vs_false1 {V : Int} {ls : List Lnk} (h : ¬ (0 ≤ V ∧ V ≤ 20000 ∧ ls.length ≤ 20000)) : validS V ls = false := by
 unfold validS
 rw [decide_eq_false h]; rfl
theorem vs_false2 {V : Int} {ls : List Lnk} {k : Nat} (hk : k < ls.length) (h : validLnk (lnkAt ls k) V = false) : validS V ls = false := by
 have : decide (∀ i, i < ls.length → validLnk (lnkAt ls i) V = true) = false := decide_eq_false fun q => by have := q k hk; rw [h] at this; cases this
 unfold validS
 rw [this, Bool.and_false]
theorem vs_true {V : Int} {ls : List Lnk} (h : 0 ≤ V ∧ V ≤ 20000 ∧ ls.length ≤ 20000) (h2 : ∀ i, i < ls.length → validLnk (lnkAt ls i) V = true) : validS V ls = true := by
 unfold validS
 rw [decide_eq_true h, decide_eq_true h2]; rfl
abbrev aggS (V : Int) (A : Option Addr) (n c : Nat) : Value := .agg #[.int .i64 V, .slice A n c]
abbrev boxS (V : Int) (A : Option Addr) (n c : Nat) : Obj := .cells #[.int .i64 V, .slice A n c] 24
structure BxY (W : World) (g : Nat) (V : Int) (A : Option Addr) (n c : Nat) : Prop where
 lt : g < W.heap.size
 c0 : W.cell? ⟨g, 0, none⟩ = some (.int .i64 V)
 c1 : W.cell? ⟨g, 1, none⟩ = some (.slice A n c)
theorem BxY.next {W W' : World} {g : Nat} {V : Int} {A : Option Addr} {n c : Nat} (h : BxY W g V A n c) (hb : Below W.heap.size W W') : BxY W' g V A n c :=
 ⟨Nat.lt_of_lt_of_le h.lt hb.size, (hb.cell (p := ⟨g, 0, none⟩) h.lt).trans h.c0, (hb.cell (p := ⟨g, 1, none⟩) h.lt).trans h.c1⟩
theorem BxY.new (W : World) (V : Int) (A : Option Addr) (n c : Nat) : BxY (W.alloc (boxS V A n c)) W.heap.size V A n c :=
 ⟨by simp, by go_simp, by go_simp⟩
set_option maxHeartbeats 4000000 in
theorem sysValid_c (V : Int) (A : Option Addr) (n c : Nat) (ls : List Lnk) (w : World) (h : RdL w A n ls) :
 Calls Tryz.prog 12 #[aggS V A n c] w (RetB (validS V ls) w) := by
 have k0 := bel_alloc w (boxS V A n c)
 have P := Lib.hid k0
 have RL := Lib.hid (h.below k0)
 have X := Lib.hid (BxY.new w V A n c)
 have HL := Lib.hid h.len
 clear h k0
 go_enter Tryz.func12, Tryz.ntmps12
 go_upto_region 1 with (fail)
 generalize w.alloc (boxS V A n c) = W0 at P RL X ⊢
 obtain ⟨g, hg⟩ : ∃ g, g = w.heap.size := ⟨_, rfl⟩
 rw [← hg] at X ⊢
 clear hg
 have a0 := X.out.c0
 have a1 := X.out.c1
 by_cases q1 : V < 0
 · have t1 : decide (V < 0) = true := decide_eq_true q1
   have HF := Lib.hid (vs_false1 (V := V) (ls := ls) (by omega))
   go_wp2
   go_ret
   exact ⟨by rw [HF.out] <;> rfl, P.out⟩
 have t1 : decide (V < 0) = false := decide_eq_false q1
 by_cases q2 : 20000 < V
 · have t2 : decide (20000 < V) = true := decide_eq_true q2
   have HF := Lib.hid (vs_false1 (V := V) (ls := ls) (by omega))
   go_wp2
   go_ret
   exact ⟨by rw [HF.out] <;> rfl, P.out⟩
 have t2 : decide (20000 < V) = false := decide_eq_false q2
 by_cases q3 : 20000 < n
 · have t3 : decide ((20000 : Int) < (n : Int)) = true := decide_eq_true (by omega)
   have t3n : decide (20000 < n) = true := decide_eq_true q3
   have HF := Lib.hid (vs_false1 (V := V) (ls := ls) (by have := HL.out; omega))
   go_wp2
   go_ret
   exact ⟨by rw [HF.out] <;> rfl, P.out⟩
 have t3 : decide ((20000 : Int) < (n : Int)) = false := decide_eq_false (by omega)
 have t3n : decide (20000 < n) = false := decide_eq_false q3
 have HB := Lib.hid (show 0 ≤ V ∧ V ≤ 20000 ∧ n ≤ 20000 by omega)
 clear q1 q2 q3
 go_wp2
 go_loopw [22] (fun v wr => ∃ k : Nat, v = .int .i64 (k : Int) ∧ k ≤ n ∧ Below w.heap.size w wr ∧ BxY wr g V A n c ∧ RdL wr A n ls ∧ ∀ i, i < k → validLnk (lnkAt ls i) V = true) (fun v _ => n - (intOf v).toNat)
 case atStart => exact ⟨0, rfl, Nat.zero_le _, P.out, X.out, RL.out, fun i hi => absurd hi (by omega)⟩
 case round =>
  obtain ⟨k, rfl, hk, hp, hx, hr, hall⟩ := hrel
  clear P X RL a0 a1 t1 t2 t3 t3n
  have hn3 := HB.out.2.2
  have P := Lib.hid hp
  have X := Lib.hid hx
  have RL := Lib.hid hr
  have HA := Lib.hid hall
  clear hp hx hr hall
  by_cases hkn : k < n
  · have t1 : decide ((k : Int) < (n : Int)) = true := decide_eq_true (by omega)
    have t1n : decide (k < n) = true := decide_eq_true hkn
    have hkI : (k : Int) < (n : Int) := by omega
    obtain ⟨b, o, rfl, hblt, hcell⟩ := RL.out.at_ (by omega)
    obtain ⟨B1, m1, d1, C1, p1, q1, hT⟩ := hcell k hkn
    obtain ⟨l, hl⟩ : ∃ l, l = lnkAt ls k := ⟨_, rfl⟩
    rw [← hl] at hT
    have HLK := Lib.hid hl
    clear hl hcell
    obtain ⟨kind, vs, ps⟩ := l
    have c0 := hT.c0
    have c1' := hT.c1
    have c2 := hT.c2
    dsimp only at c0
    have a0 := X.out.c0
    have gl : g < wr.heap.size := X.out.lt
    have hb4 := bel_alloc wr (boxL kind B1 m1 d1 C1 p1 q1)
    have HC := Lib.hid (validLink_c kind B1 m1 d1 vs C1 p1 q1 ps V _ (hT.ri.below hb4) (hT.rp.below hb4) (Nat.le_trans hT.pq hT.qm))
    replace P := Lib.hid (P.out.trans (hb4.mono P.out.size))
    replace X := Lib.hid (X.out.next hb4)
    replace RL := Lib.hid (RL.out.below hb4)
    clear hT hb4
    go_wp2_with fail
    refine HC.out.mono ?_
    rintro e w1 ⟨rfl, hb⟩
    replace P := Lib.hid (P.out.trans (hb.mono P.out.size))
    replace X := Lib.hid (X.out.next hb)
    replace RL := Lib.hid (RL.out.below hb)
    clear hb HC c0 c1' c2 a0 gl hblt
    obtain ⟨v, hv⟩ : ∃ v, v = validLnk ⟨kind, vs, ps⟩ V := ⟨_, rfl⟩
    rw [← hv]
    have HV := Lib.hid hv
    clear hv
    cases v with
    | false =>
      have HF := Lib.hid (vs_false2 (V := V) (ls := ls) (k := k) (by rw [HL.out]; exact hkn) (by rw [← HLK.out]; exact HV.out.symm))
      go_wp2
      go_ret
      exact ⟨by rw [HF.out] <;> rfl, P.out⟩
    | true =>
      go_wp2
      go_roundw
      case measure => simp [intOf]; omega
      case rel => exact ⟨k + 1, by go_num, by omega, P.out, X.out, RL.out, fun i hi => by
       by_cases e : i = k
       · subst e; rw [← HLK.out]; exact HV.out.symm
       · exact HA.out i (by omega)⟩
  · have t1 : decide ((k : Int) < (n : Int)) = false := decide_eq_false (by omega)
    have t1n : decide (k < n) = false := decide_eq_false hkn
    have HF := Lib.hid (vs_true (V := V) (ls := ls) (by rw [HL.out]; exact HB.out) (fun i hi => HA.out i (by rw [HL.out] at hi; omega)))
    go_wp2
    go_ret
    exact ⟨by rw [HF.out] <;> rfl, P.out⟩
def natB (ns : List Nmr) : Bool := decide (∀ i, i < ns.length → (nmAt ns i).s = false)
set_option maxHeartbeats 2000000 in
theorem calcNatural_c (A : Option Addr) (n c : Nat) (ns : List Nmr) (w : World) (h : RdN w A n ns) (hn : n ≤ 9223372036854775807) :
 Calls Tryz.prog 38 #[.slice A n c] w (RetB (natB ns) w) := by
 have RN := Lib.hid h
 have HL := Lib.hid (And.intro h.len hn)
 clear h hn
 go_enter Tryz.func38, Tryz.ntmps38
 go_wp2
 go_loopw [7] (fun v wr => ∃ k : Nat, v = .int .i64 (k : Int) ∧ k ≤ n ∧ Below w.heap.size w wr ∧ RdN wr A n ns ∧ ∀ i, i < k → (nmAt ns i).s = false) (fun v _ => n - (intOf v).toNat)
 case atStart => exact ⟨0, rfl, Nat.zero_le _, Below.refl _ _, RN.out, fun i hi => absurd hi (by omega)⟩
 case round =>
  obtain ⟨k, rfl, hk, hp, hr, hall⟩ := hrel
  have hnb := HL.out.2
  have P := Lib.hid hp
  replace RN := Lib.hid hr
  have HA := Lib.hid hall
  clear hp hr hall
  by_cases hkn : k < n
  · have t1 : decide ((k : Int) < (n : Int)) = true := decide_eq_true (by omega)
    have t1n : decide (k < n) = true := decide_eq_true hkn
    have hkI : (k : Int) < (n : Int) := by omega
    obtain ⟨b, o, rfl, hblt, hcell⟩ := RN.out.at_ (by omega)
    obtain ⟨A1, n1, c1, hT⟩ := hcell k hkn
    obtain ⟨t, ht⟩ : ∃ t, t = nmAt ns k := ⟨_, rfl⟩
    rw [← ht] at hT
    have HT := Lib.hid ht
    clear hcell ht
    obtain ⟨s, xs⟩ := t
    have c0 := hT.c0
    have c1' := hT.c1
    dsimp only at c0
    have hb0 := bel_alloc wr (.cells #[.bool s, .slice A1 n1 c1] 58)
    replace P := Lib.hid (P.out.trans (hb0.mono P.out.size))
    replace RN := Lib.hid (RN.out.below hb0)
    clear hT hb0
    cases s with
    | true =>
      have HF := Lib.hid (show natB ns = false from decide_eq_false fun q => by
       have := q k (by rw [HL.out.1]; exact hkn)
       rw [← HT.out] at this
       cases this)
      go_wp2
      go_ret
      exact ⟨by rw [HF.out] <;> rfl, P.out⟩
    | false =>
      go_wp2
      go_roundw
      case measure => simp [intOf]; omega
      case rel => exact ⟨k + 1, by go_num, by omega, P.out, RN.out, fun i hi => by
       by_cases e : i = k
       · subst e; rw [← HT.out]
       · exact HA.out i (by omega)⟩
  · have t1 : decide ((k : Int) < (n : Int)) = false := decide_eq_false (by omega)
    have t1n : decide (k < n) = false := decide_eq_false hkn
    have HF := Lib.hid (show natB ns = true from decide_eq_true fun i hi => HA.out i (by rw [HL.out.1] at hi; omega))
    go_wp2
    go_ret
    exact ⟨by rw [HF.out] <;> rfl, P.out⟩
structure PlA (W : World) (b o : Nat) (p : Ply) (A : Option Addr) (n c : Nat) : Prop where
 lt : b < W.heap.size
 is : PlyIs W b o p A n c
theorem PlA.next {W W' : World} {b o : Nat} {p : Ply} {A : Option Addr} {n c : Nat} (h : PlA W b o p A n c) (hb : Below W.heap.size W W') : PlA W' b o p A n c :=
 ⟨Nat.lt_of_lt_of_le h.lt hb.size, h.is.below h.lt hb⟩
set_option maxHeartbeats 8000000 in
theorem refValidLink_c (kind : Int) (B : Option Addr) (m d : Nat) (vs : List Int) (C : Option Addr) (p q : Nat) (ps : List Ply) (vars : Int) (w : World) (h : RdI w B m vs) (h' : RdP w C p ps) (hp : p ≤ 9223372036854775807) :
 Calls Tryz.prog 42 #[aggL kind B m d C p q, .int .i64 vars] w (RetB (validLnk ⟨kind, vs, ps⟩ vars) w) := by
 have k0 := bel_alloc w (boxL kind B m d C p q)
 have P := Lib.hid k0
 have R1 := Lib.hid (h.below k0)
 have R2 := Lib.hid (h'.below k0)
 have X := Lib.hid (BxL.new w kind B m d C p q)
 have HL := Lib.hid (And.intro h.len (And.intro h'.len hp))
 clear h h' k0 hp
 go_enter Tryz.func42, Tryz.ntmps42
 go_upto_region 1 with (fail)
 generalize w.alloc (boxL kind B m d C p q) = W0 at P R1 R2 X ⊢
 obtain ⟨g, hg⟩ : ∃ g, g = w.heap.size := ⟨_, rfl⟩
 rw [← hg] at X ⊢
 clear hg
 by_cases q4 : 32 < m
 · have t4 : decide ((32 : Int) < (m : Int)) = true := decide_eq_true (by omega)
   have t4n : decide (32 < m) = true := decide_eq_true q4
   have HF := Lib.hid (vl_head (l := ⟨kind, vs, ps⟩) (vars := vars) (fun hh => by have e := hh.2.2.2; dsimp only at e; rw [HL.out.1] at e; omega))
   refine wp_region_held_drew (S := (fun w' => w'.cell? ⟨g, 0, none⟩ = some (.int .i64 kind) ∧ w'.cell? ⟨g, 1, none⟩ = some (.slice B m d) ∧ w'.cell? ⟨g, 2, none⟩ = some (.slice C p q))) (by kernel_rfl) (⟨cell_drq X.out.c0, cell_drq X.out.c1, cell_drq X.out.c2⟩) (fun hHeld => ?_)
   replace P := Lib.hid (P.out.trans ((Below.refl W0.heap.size W0).drew.mono P.out.size))
   replace R1 := Lib.hid (R1.out.below (Below.refl W0.heap.size W0).drew)
   replace R2 := Lib.hid (R2.out.below (Below.refl W0.heap.size W0).drew)
   replace X := Lib.hid (X.out.next (Below.refl W0.heap.size W0).drew)
   generalize W0.drew = D1 at P R1 R2 X hHeld ⊢
   refine tkk 0 7 rfl rfl (by kernel_rfl) (fun _ _ _ _ h => h) (by rfl) (fun w h => by obtain ⟨h0, h1, h2⟩ := h; go_simp; rfl) (by assumption) ?_
   simp only [set0, set1]
   refine tkk 1 8 rfl rfl (by kernel_rfl) (fun _ _ _ _ h => h) (by rfl) (fun w h => by obtain ⟨h0, h1, h2⟩ := h; go_simp; rfl) (by assumption) ?_
   simp only [set0, set1]
   refine tkk 2 9 rfl rfl (by kernel_rfl) (fun _ _ _ _ h => h) (by rfl) (fun w h => by obtain ⟨h0, h1, h2⟩ := h; go_simp; rfl) (by assumption) ?_
   simp only [set0, set1]
   refine tkk 3 10 rfl rfl (by kernel_rfl) (fun _ _ _ _ h => h) (by rfl) (fun w h => by obtain ⟨h0, h1, h2⟩ := h; go_simp; rfl) (by assumption) ?_
   simp only [set0, set1]
   refine tkk 4 11 rfl rfl (by kernel_rfl) (fun _ _ _ _ h => h) (by rfl) (fun w h => by obtain ⟨h0, h1, h2⟩ := h; go_simp; rfl) (by assumption) ?_
   simp only [set0, set1]
   refine tff 5 12 rfl rfl (by kernel_rfl) (fun _ _ _ _ h => h) (by rfl) (by assumption) ?_
   simp only [set0, set1]
   refine tff 6 13 rfl rfl (by kernel_rfl) (fun _ _ _ _ h => h) (by rfl) (by assumption) ?_
   simp only [set0, set1]
   refine tff 7 14 rfl rfl (by kernel_rfl) (fun _ _ _ _ h => h) (by rfl) (by assumption) ?_
   simp only [set0, set1]
   refine tff 8 15 rfl rfl (by kernel_rfl) (fun _ _ _ _ h => h) (by rfl) (by assumption) ?_
   simp only [set0, set1]
   refine tff 9 16 rfl rfl (by kernel_rfl) (fun _ _ _ _ h => h) (by rfl) (by assumption) ?_
   simp only [set0, set1]
   refine tff 10 17 rfl rfl (by kernel_rfl) (fun _ _ _ _ h => h) (by rfl) (by assumption) ?_
   simp only [set0, set1]
   refine tff 11 18 rfl rfl (by kernel_rfl) (fun _ _ _ _ h => h) (by rfl) (by assumption) ?_
   simp only [set0, set1]
   refine tkk 12 19 rfl rfl (by kernel_rfl) (fun _ _ _ _ h => h) (by rfl) (fun w h => by obtain ⟨h0, h1, h2⟩ := h; go_simp; rfl) (by assumption) ?_
   clear hHeld
   refine wpAnyH_done (by kernel_rfl) ?_ _
   go_wp2
   go_ret
   exact ⟨by rw [HF.out] <;> rfl, P.out⟩
 have t4 : decide ((32 : Int) < (m : Int)) = false := decide_eq_false (by omega)
 have t4n : decide (32 < m) = false := decide_eq_false q4
 obtain ⟨pk, hpk⟩ : ∃ x, x = needsOf kind := ⟨_, rfl⟩
 have HPK := Lib.hid hpk.symm
 clear hpk
 by_cases q3 : (p : Int) = pk
 case neg =>
  have t3 : ((p : Int) != pk) = true := by rw [bne_iff_ne]; exact q3
  have HF := Lib.hid (vl_head (l := ⟨kind, vs, ps⟩) (vars := vars) (fun hh => by
   have e := hh.2.2.1
   have e2 := needs_polys hh.1 hh.2.1
   dsimp only at e e2
   rw [HPK.out] at e2
   rw [HL.out.2.1, ← e2] at e
   exact q3 e))
  clear q3
  refine wp_region_held_drew (S := (fun w' => w'.cell? ⟨g, 0, none⟩ = some (.int .i64 kind) ∧ w'.cell? ⟨g, 1, none⟩ = some (.slice B m d) ∧ w'.cell? ⟨g, 2, none⟩ = some (.slice C p q))) (by kernel_rfl) (⟨cell_drq X.out.c0, cell_drq X.out.c1, cell_drq X.out.c2⟩) (fun hHeld => ?_)
  replace P := Lib.hid (P.out.trans ((Below.refl W0.heap.size W0).drew.mono P.out.size))
  replace R1 := Lib.hid (R1.out.below (Below.refl W0.heap.size W0).drew)
  replace R2 := Lib.hid (R2.out.below (Below.refl W0.heap.size W0).drew)
  replace X := Lib.hid (X.out.next (Below.refl W0.heap.size W0).drew)
  generalize W0.drew = D2 at P R1 R2 X hHeld ⊢
  refine tkk 0 7 rfl rfl (by kernel_rfl) (fun _ _ _ _ h => h) (by rfl) (fun w h => by obtain ⟨h0, h1, h2⟩ := h; go_simp; rfl) (by assumption) ?_
  simp only [set0, set1]
  refine tkk 1 8 rfl rfl (by kernel_rfl) (fun _ _ _ _ h => h) (by rfl) (fun w h => by obtain ⟨h0, h1, h2⟩ := h; go_simp; rfl) (by assumption) ?_
  simp only [set0, set1]
  refine tkk 2 9 rfl rfl (by kernel_rfl) (fun _ _ _ _ h => h) (by rfl) (fun w h => by obtain ⟨h0, h1, h2⟩ := h; go_simp; rfl) (by assumption) ?_
  simp only [set0, set1]
  refine tkk 3 10 rfl rfl (by kernel_rfl) (fun _ _ _ _ h => h) (by rfl) (fun w h => by obtain ⟨h0, h1, h2⟩ := h; go_simp; rfl) (by assumption) ?_
  simp only [set0, set1]
  refine tkk 4 11 rfl rfl (by kernel_rfl) (fun _ _ _ _ h => h) (by rfl) (fun w h => by obtain ⟨h0, h1, h2⟩ := h; go_simp; rfl) (by assumption) ?_
  simp only [set0, set1]
  refine tkk 5 12 rfl rfl (by kernel_rfl) (fun _ _ _ _ h => h) (by rfl) (fun w h => by obtain ⟨h0, h1, h2⟩ := h; go_simp; rfl) (by assumption) ?_
  simp only [set0, set1]
  refine tkk 6 13 rfl rfl (by kernel_rfl) (fun _ _ _ _ h => h) (by rfl) (fun w h => by obtain ⟨h0, h1, h2⟩ := h; go_simp; rfl) (by assumption) ?_
  simp only [set0, set1]
  refine tkk 7 14 rfl rfl (by kernel_rfl) (fun _ _ _ _ h => h) (by rfl) (fun w h => by obtain ⟨h0, h1, h2⟩ := h; go_simp; rfl) (by assumption) ?_
  simp only [set0, set1]
  refine tkk 8 15 rfl rfl (by kernel_rfl) (fun _ _ _ _ h => h) (by rfl) (fun w h => by obtain ⟨h0, h1, h2⟩ := h; go_simp; rfl) (by assumption) ?_
  simp only [set0, set1]
  refine tkk 9 16 rfl rfl (by kernel_rfl) (fun _ _ _ _ h => h) (by rfl) (fun w h => by obtain ⟨h0, h1, h2⟩ := h; go_simp; rfl) (by assumption) ?_
  simp only [set0, set1]
  refine wpAnyH_ready (rs := [10]) (by kernel_rfl) (by simp) ?_
  refine AllReadyH.cons rfl (fun K hK => ?_) AllReadyH.nil
  go_simp
  refine (needs_c kind D2).mono ?_
  rintro e v3 ⟨rfl, hw⟩
  subst hw
  clear hHeld
  rw [HPK.out]
  refine hK.out _ _ (⟨X.out.c0, X.out.c1, X.out.c2⟩) (fun hHeld => ?_)
  clear hK K
  refine tkk 11 18 rfl rfl (by kernel_rfl) (fun _ _ _ _ h => h) (by rfl) (fun w h => by obtain ⟨h0, h1, h2⟩ := h; go_simp; rfl) (by assumption) ?_
  simp only [set0, set1]
  refine tkk 12 19 rfl rfl (by kernel_rfl) (fun _ _ _ _ h => h) (by rfl) (fun w h => by obtain ⟨h0, h1, h2⟩ := h; go_simp; rfl) (by assumption) ?_
  clear hHeld
  refine wpAnyH_done (by kernel_rfl) ?_ _
  go_wp2
  go_ret
  exact ⟨by rw [HF.out] <;> rfl, P.out⟩
 case pos =>
 have t3 : ((p : Int) != pk) = false := by rw [q3]; exact bne_self_eq_false _
 have HQ4 := Lib.hid q4
 have HH := Lib.hid (show 0 ≤ kind ∧ kind < 4 ∧ (ps.length : Int) = polysOf kind ∧ vs.length ≤ 32 by
  have e1 := HPK.out
  have hk : 0 ≤ kind ∧ kind < 4 := by
   unfold needsOf at e1
   split at e1
   · omega
   · split at e1
     · omega
     · split at e1
       · omega
       · omega
  exact ⟨hk.1, hk.2, by rw [← needs_polys hk.1 hk.2, HPK.out, HL.out.2.1]; exact q3, by rw [HL.out.1]; have := HQ4.out; omega⟩)
 clear q3 q4
 refine wp_region_held_drew (S := (fun w' => w'.cell? ⟨g, 0, none⟩ = some (.int .i64 kind) ∧ w'.cell? ⟨g, 1, none⟩ = some (.slice B m d) ∧ w'.cell? ⟨g, 2, none⟩ = some (.slice C p q))) (by kernel_rfl) (⟨cell_drq X.out.c0, cell_drq X.out.c1, cell_drq X.out.c2⟩) (fun hHeld => ?_)
 replace P := Lib.hid (P.out.trans ((Below.refl W0.heap.size W0).drew.mono P.out.size))
 replace R1 := Lib.hid (R1.out.below (Below.refl W0.heap.size W0).drew)
 replace R2 := Lib.hid (R2.out.below (Below.refl W0.heap.size W0).drew)
 replace X := Lib.hid (X.out.next (Below.refl W0.heap.size W0).drew)
 generalize W0.drew = D7 at P R1 R2 X hHeld ⊢
 refine tkk 0 7 rfl rfl (by kernel_rfl) (fun _ _ _ _ h => h) (by rfl) (fun w h => by obtain ⟨h0, h1, h2⟩ := h; go_simp; rfl) (by assumption) ?_
 simp only [set0, set1]
 refine tkk 1 8 rfl rfl (by kernel_rfl) (fun _ _ _ _ h => h) (by rfl) (fun w h => by obtain ⟨h0, h1, h2⟩ := h; go_simp; rfl) (by assumption) ?_
 simp only [set0, set1]
 refine tkk 2 9 rfl rfl (by kernel_rfl) (fun _ _ _ _ h => h) (by rfl) (fun w h => by obtain ⟨h0, h1, h2⟩ := h; go_simp; rfl) (by assumption) ?_
 simp only [set0, set1]
 refine tkk 3 10 rfl rfl (by kernel_rfl) (fun _ _ _ _ h => h) (by rfl) (fun w h => by obtain ⟨h0, h1, h2⟩ := h; go_simp; rfl) (by assumption) ?_
 simp only [set0, set1]
 refine tkk 4 11 rfl rfl (by kernel_rfl) (fun _ _ _ _ h => h) (by rfl) (fun w h => by obtain ⟨h0, h1, h2⟩ := h; go_simp; rfl) (by assumption) ?_
 simp only [set0, set1]
 refine tkk 5 12 rfl rfl (by kernel_rfl) (fun _ _ _ _ h => h) (by rfl) (fun w h => by obtain ⟨h0, h1, h2⟩ := h; go_simp; rfl) (by assumption) ?_
 simp only [set0, set1]
 refine tkk 6 13 rfl rfl (by kernel_rfl) (fun _ _ _ _ h => h) (by rfl) (fun w h => by obtain ⟨h0, h1, h2⟩ := h; go_simp; rfl) (by assumption) ?_
 simp only [set0, set1]
 refine tkk 7 14 rfl rfl (by kernel_rfl) (fun _ _ _ _ h => h) (by rfl) (fun w h => by obtain ⟨h0, h1, h2⟩ := h; go_simp; rfl) (by assumption) ?_
 simp only [set0, set1]
 refine tkk 8 15 rfl rfl (by kernel_rfl) (fun _ _ _ _ h => h) (by rfl) (fun w h => by obtain ⟨h0, h1, h2⟩ := h; go_simp; rfl) (by assumption) ?_
 simp only [set0, set1]
 refine tkk 9 16 rfl rfl (by kernel_rfl) (fun _ _ _ _ h => h) (by rfl) (fun w h => by obtain ⟨h0, h1, h2⟩ := h; go_simp; rfl) (by assumption) ?_
 simp only [set0, set1]
 refine wpAnyH_ready (rs := [10]) (by kernel_rfl) (by simp) ?_
 refine AllReadyH.cons rfl (fun K hK => ?_) AllReadyH.nil
 go_simp
 refine (needs_c kind D7).mono ?_
 rintro e v8 ⟨rfl, hw⟩
 subst hw
 clear hHeld
 rw [HPK.out]
 refine hK.out _ _ (⟨X.out.c0, X.out.c1, X.out.c2⟩) (fun hHeld => ?_)
 clear hK K
 refine tkk 11 18 rfl rfl (by kernel_rfl) (fun _ _ _ _ h => h) (by rfl) (fun w h => by obtain ⟨h0, h1, h2⟩ := h; go_simp; rfl) (by assumption) ?_
 simp only [set0, set1]
 refine tkk 12 19 rfl rfl (by kernel_rfl) (fun _ _ _ _ h => h) (by rfl) (fun w h => by obtain ⟨h0, h1, h2⟩ := h; go_simp; rfl) (by assumption) ?_
 clear hHeld
 refine wpAnyH_done (by kernel_rfl) ?_ _
 go_wp2
 clear t3 t4 t4n
 go_loopw [5] (fun v wr => ∃ k : Nat, v = .int .i64 (k : Int) ∧ k ≤ m ∧ Below w.heap.size w wr ∧ BxL wr g kind B m d C p q ∧ RdI wr B m vs ∧ RdP wr C p ps ∧ -1 ≤ prevI vs k ∧ ∀ i, i < k → prevI vs i < vs.getD i 0 ∧ vs.getD i 0 < vars) (fun v _ => m - (intOf v).toNat)
 case atStart => exact ⟨0, rfl, Nat.zero_le _, P.out, X.out, R1.out, R2.out, by unfold prevI; rw [if_pos rfl]; omega, fun i hi => absurd hi (by omega)⟩
 case round =>
  obtain ⟨k, rfl, hk, hP, hX, hR1, hR2, hpm, hall⟩ := hrel
  clear P X R1 R2
  have hm32 := HQ4.out
  have P := Lib.hid hP
  have X := Lib.hid hX
  have R1 := Lib.hid hR1
  have R2 := Lib.hid hR2
  have HA := Lib.hid hall
  have HPM := Lib.hid hpm
  clear hP hX hR1 hR2 hall hpm
  have a1 := X.out.c1
  by_cases hkm : k < m
  · have t1 : decide ((k : Int) < (m : Int)) = true := decide_eq_true (by omega)
    have t1n : decide (k < m) = true := decide_eq_true hkm
    have hkI : (k : Int) < (m : Int) := by omega
    obtain ⟨b, o, rfl, hlt, hcell⟩ := R1.out.at_ (by omega)
    have c0 := hcell k hkm
    obtain ⟨z, hz⟩ : ∃ z, z = vs.getD k 0 := ⟨_, rfl⟩
    rw [← hz] at c0
    have HZ := Lib.hid (And.intro hz (show prevI vs (k + 1) = z by unfold prevI; rw [if_neg (by omega), Nat.add_sub_cancel]; exact hz.symm))
    have HCL := Lib.hid hcell
    clear hcell hlt hz
    go_upto_region 6 with (fail)
    by_cases z1 : z < 0
    · have t2 : decide (z < 0) = true := decide_eq_true z1
      have HF := Lib.hid (vl_rises (l := ⟨kind, vs, ps⟩) (vars := vars) (k := k) (by show k < vs.length; rw [HL.out.1]; exact hkm) (by show ¬ (prevI vs k < vs.getD k 0 ∧ _); rw [← HZ.out.1]; have := HPM.out; omega))
      go_quiet (fail)
      replace P := Lib.hid (below_drewN P.out nq)
      go_wp2
      go_ret
      exact ⟨by rw [HF.out] <;> rfl, P.out⟩
    have t2 : decide (z < 0) = false := decide_eq_false z1
    by_cases z2 : vars ≤ z
    · have t3 : decide (vars ≤ z) = true := decide_eq_true z2
      have HF := Lib.hid (vl_rises (l := ⟨kind, vs, ps⟩) (vars := vars) (k := k) (by show k < vs.length; rw [HL.out.1]; exact hkm) (by show ¬ (prevI vs k < vs.getD k 0 ∧ vs.getD k 0 < vars); rw [← HZ.out.1]; omega))
      go_quiet (fail)
      replace P := Lib.hid (below_drewN P.out nq)
      go_wp2
      go_ret
      exact ⟨by rw [HF.out] <;> rfl, P.out⟩
    have t3 : decide (vars ≤ z) = false := decide_eq_false z2
    have HZB := Lib.hid (And.intro z1 z2)
    clear z1 z2
    rcases Nat.eq_zero_or_pos k with k0 | k0
    · have tk : decide (0 < (k : Int)) = false := decide_eq_false (by omega)
      have tkn : decide (0 < k) = false := decide_eq_false (by omega)
      have K0 := Lib.hid k0
      clear k0
      go_quiet (fail)
      have hdr := below_drewN (Below.refl wr.heap.size wr) nq
      replace P := Lib.hid (P.out.trans (hdr.mono P.out.size))
      replace X := Lib.hid (X.out.next hdr)
      replace R1 := Lib.hid (R1.out.below hdr)
      replace R2 := Lib.hid (R2.out.below hdr)
      clear hdr c0 a1 t2 t3 tk tkn t1 t1n HCL
      generalize wr.drewN nq = W1 at P X R1 R2 ⊢
      go_wp2
      go_roundw
      case measure => simp [intOf]; omega
      case rel => exact ⟨k + 1, by go_num, by omega, P.out, X.out, R1.out, R2.out, by rw [HZ.out.2]; have := HZB.out; omega, fun i hi => by
       by_cases e : i = k
       · subst e; rw [← HZ.out.1]; exact ⟨by have h1 := HZB.out; have h2 := K0.out; rw [h2]; show (-1 : Int) < z; omega, by have := HZB.out; omega⟩
       · exact HA.out i (by omega)⟩
    · have tk : decide (0 < (k : Int)) = true := decide_eq_true (by omega)
      have tkn : decide (0 < k) = true := decide_eq_true (by omega)
      obtain ⟨j, hj⟩ : ∃ j, k = j + 1 := ⟨k - 1, by omega⟩
      have ekj : (k : Int) - 1 = (j : Int) := by omega
      have hjn : j < m := by omega
      have hjI : (j : Int) < (m : Int) := by omega
      have hj0 : (0 : Int) ≤ (j : Int) := by omega
      have wj : IntKind.i64.wrap (j : Int) = (j : Int) := IntWalk.i64_in _ (by omega)
      have e0 := HCL.out j hjn
      obtain ⟨y, hy⟩ : ∃ z, z = vs.getD j 0 := ⟨_, rfl⟩
      rw [← hy] at e0
      have HY := Lib.hid (show prevI vs k = y by unfold prevI; rw [if_neg (by omega), hj, Nat.add_sub_cancel]; exact hy.symm)
      clear hy hj k0 HCL
      by_cases z3 : z ≤ y
      · have t5 : decide (z ≤ y) = true := decide_eq_true z3
        have HF := Lib.hid (vl_rises (l := ⟨kind, vs, ps⟩) (vars := vars) (k := k) (by show k < vs.length; rw [HL.out.1]; exact hkm) (by show ¬ (prevI vs k < vs.getD k 0 ∧ _); rw [← HZ.out.1, HY.out]; omega))
        go_quiet (fail)
        replace P := Lib.hid (below_drewN P.out nq)
        go_wp2
        go_ret
        exact ⟨by rw [HF.out] <;> rfl, P.out⟩
      · have t5 : decide (z ≤ y) = false := decide_eq_false z3
        have HZ3 := Lib.hid z3
        clear z3
        go_quiet (fail)
        have hdr := below_drewN (Below.refl wr.heap.size wr) nq
        replace P := Lib.hid (P.out.trans (hdr.mono P.out.size))
        replace X := Lib.hid (X.out.next hdr)
        replace R1 := Lib.hid (R1.out.below hdr)
        replace R2 := Lib.hid (R2.out.below hdr)
        clear hdr c0 a1 t2 t3 tk tkn t1 t1n t5 ekj wj e0 hjI hj0
        generalize wr.drewN nq = W1 at P X R1 R2 ⊢
        go_wp2
        go_roundw
        case measure => simp [intOf]; omega
        case rel => exact ⟨k + 1, by go_num, by omega, P.out, X.out, R1.out, R2.out, by rw [HZ.out.2]; have := HZB.out; omega, fun i hi => by
         by_cases e : i = k
         · subst e; rw [← HZ.out.1, HY.out]; have h1 := HZB.out; have h2 := HZ3.out; omega
         · exact HA.out i (by omega)⟩
  · have t1 : decide ((k : Int) < (m : Int)) = false := decide_eq_false (by omega)
    have t1n : decide (k < m) = false := decide_eq_false hkm
    have HE := Lib.hid (show validLnk ⟨kind, vs, ps⟩ vars = !anyP (badPly m) ps by
     have e := vl_last (l := ⟨kind, vs, ps⟩) (vars := vars) HH.out (fun i hi => HA.out i (by dsimp only at hi; rw [HL.out.1] at hi; omega))
     rw [e, HL.out.1])
    go_wp2
    clear a1 t1 t1n R1 HA HPM
    go_loopw [6] (fun v wr => ∃ i : Nat, v = .int .i64 (i : Int) ∧ i ≤ p ∧ Below w.heap.size w wr ∧ BxL wr g kind B m d C p q ∧ RdP wr C p ps ∧ ∀ a, a < i → badPly m (plyAt ps a) = false) (fun v _ => p - (intOf v).toNat)
    case atStart => exact ⟨0, rfl, Nat.zero_le _, P.out, X.out, R2.out, fun i hi => absurd hi (by omega)⟩
    case round =>
     obtain ⟨i, rfl, hi, hP, hX, hR2, hall⟩ := hrel
     clear P X R2
     have hpp := HL.out.2.2
     have P := Lib.hid hP
     have X := Lib.hid hX
     have R2 := Lib.hid hR2
     have HA := Lib.hid hall
     clear hP hX hR2 hall
     have a2 := X.out.c2
     by_cases hip : i < p
     · have t1 : decide ((i : Int) < (p : Int)) = true := decide_eq_true (by omega)
       have t1n : decide (i < p) = true := decide_eq_true hip
       have hiI : (i : Int) < (p : Int) := by omega
       obtain ⟨bP, oP, rfl, hlt, hcell⟩ := R2.out.at_ (by omega)
       obtain ⟨A1, n1, c1, hT⟩ := hcell i hip
       obtain ⟨y, hy⟩ : ∃ y, y = plyAt ps i := ⟨_, rfl⟩
       rw [← hy] at hT
       have HY := Lib.hid hy
       clear hcell hy
       obtain ⟨V, ts⟩ := y
       have TP := Lib.hid (PlA.mk hlt hT)
       clear hlt hT
       go_upto_region 11 with (fail)
       clear a2
       by_cases hv : V = (m : Int)
       case neg =>
        have t2 : (V != (m : Int)) = true := by rw [bne_iff_ne]; exact hv
        have HF := Lib.hid (show validLnk ⟨kind, vs, ps⟩ vars = false by
         rw [HE.out, show anyP (badPly m) ps = true from decide_eq_true ⟨i, by rw [HL.out.2.1]; exact hip, by rw [← HY.out]; unfold badPly; rw [decide_eq_false hv]; rfl⟩]; rfl)
        clear hv
        refine wp_region_held_drew (S := (fun w' => w'.cell? ⟨g, 1, none⟩ = some (.slice B m d) ∧ w'.cell? ⟨g, 2, none⟩ = some (.slice (some ⟨bP, oP, none⟩) p q) ∧ w'.cell? ⟨bP, oP + i * 2, none⟩ = some (.int .i64 V) ∧ w'.cell? ⟨bP, oP + i * 2 + 1, none⟩ = some (.slice A1 n1 c1))) (by kernel_rfl) (⟨cell_drq X.out.c1, cell_drq X.out.c2, cell_drq TP.out.is.c0, cell_drq TP.out.is.c1⟩) (fun hHeld => ?_)
        replace P := Lib.hid (P.out.trans ((Below.refl wr.heap.size wr).drew.mono P.out.size))
        replace R2 := Lib.hid (R2.out.below (Below.refl wr.heap.size wr).drew)
        replace X := Lib.hid (X.out.next (Below.refl wr.heap.size wr).drew)
        replace TP := Lib.hid (TP.out.next (Below.refl wr.heap.size wr).drew)
        generalize wr.drew = D4 at P R2 X TP hHeld ⊢
        refine tkk 0 67 rfl rfl (by kernel_rfl) (fun _ _ _ _ h => h) (by rfl) (fun w h => by obtain ⟨h0, h1, h2, h3⟩ := h; go_simp; rfl) (by assumption) ?_
        simp only [set0, set1]
        refine tkk 1 68 rfl rfl (by kernel_rfl) (fun _ _ _ _ h => h) (by rfl) (fun w h => by obtain ⟨h0, h1, h2, h3⟩ := h; go_simp; rfl) (by assumption) ?_
        simp only [set0, set1]
        refine tkk 2 69 rfl rfl (by kernel_rfl) (fun _ _ _ _ h => h) (by rfl) (fun w h => by obtain ⟨h0, h1, h2, h3⟩ := h; go_simp; rfl) (by assumption) ?_
        simp only [set0, set1]
        refine tkk 3 70 rfl rfl (by kernel_rfl) (fun _ _ _ _ h => h) (by rfl) (fun w h => by obtain ⟨h0, h1, h2, h3⟩ := h; go_simp; rfl) (by assumption) ?_
        simp only [set0, set1]
        refine tkk 4 71 rfl rfl (by kernel_rfl) (fun _ _ _ _ h => h) (by rfl) (fun w h => by obtain ⟨h0, h1, h2, h3⟩ := h; go_simp; rfl) (by assumption) ?_
        simp only [set0, set1]
        refine tkk 5 72 rfl rfl (by kernel_rfl) (fun _ _ _ _ h => h) (by rfl) (fun w h => by obtain ⟨h0, h1, h2, h3⟩ := h; go_simp; rfl) (by assumption) ?_
        simp only [set0, set1]
        refine tkk 6 73 rfl rfl (by kernel_rfl) (fun _ _ _ _ h => h) (by rfl) (fun w h => by obtain ⟨h0, h1, h2, h3⟩ := h; go_simp; rfl) (by assumption) ?_
        simp only [set0, set1]
        refine tkk 7 74 rfl rfl (by kernel_rfl) (fun _ _ _ _ h => h) (by rfl) (fun w h => by obtain ⟨h0, h1, h2, h3⟩ := h; go_simp; rfl) (by assumption) ?_
        simp only [set0, set1]
        refine tkk 8 75 rfl rfl (by kernel_rfl) (fun _ _ _ _ h => h) (by rfl) (fun w h => by obtain ⟨h0, h1, h2, h3⟩ := h; go_simp; rfl) (by assumption) ?_
        simp only [set0, set1]
        refine tkk 9 76 rfl rfl (by kernel_rfl) (fun _ _ _ _ h => h) (by rfl) (fun w h => by obtain ⟨h0, h1, h2, h3⟩ := h; go_simp; rfl) (by assumption) ?_
        simp only [set0, set1]
        refine tkk 10 77 rfl rfl (by kernel_rfl) (fun _ _ _ _ h => h) (by rfl) (fun w h => by obtain ⟨h0, h1, h2, h3⟩ := h; go_simp; rfl) (by assumption) ?_
        simp only [set0, set1]
        refine tff 11 78 rfl rfl (by kernel_rfl) (fun _ _ _ _ h => h) (by rfl) (by assumption) ?_
        simp only [set0, set1]
        refine tff 12 79 rfl rfl (by kernel_rfl) (fun _ _ _ _ h => h) (by rfl) (by assumption) ?_
        simp only [set0, set1]
        refine tff 13 80 rfl rfl (by kernel_rfl) (fun _ _ _ _ h => h) (by rfl) (by assumption) ?_
        simp only [set0, set1]
        refine tff 14 81 rfl rfl (by kernel_rfl) (fun _ _ _ _ h => h) (by rfl) (by assumption) ?_
        simp only [set0, set1]
        refine tff 15 82 rfl rfl (by kernel_rfl) (fun _ _ _ _ h => h) (by rfl) (by assumption) ?_
        simp only [set0, set1]
        refine tff 16 83 rfl rfl (by kernel_rfl) (fun _ _ _ _ h => h) (by rfl) (by assumption) ?_
        simp only [set0, set1]
        refine tff 17 84 rfl rfl (by kernel_rfl) (fun _ _ _ _ h => h) (by rfl) (by assumption) ?_
        simp only [set0, set1]
        refine tkk 18 85 rfl rfl (by kernel_rfl) (fun _ _ _ _ h => h) (by rfl) (fun w h => by obtain ⟨h0, h1, h2, h3⟩ := h; go_simp; rfl) (by assumption) ?_
        clear hHeld
        refine wpAnyH_done (by kernel_rfl) ?_ _
        go_wp2
        go_ret
        exact ⟨by rw [HF.out] <;> rfl, P.out⟩
       case pos =>
        have t2 : (V != (m : Int)) = false := by rw [hv]; exact bne_self_eq_false _
        have HBP := Lib.hid (show badPly m ⟨V, ts⟩ = !validP V ts by unfold badPly; rw [decide_eq_true hv]; rfl)
        obtain ⟨vp, hvp⟩ : ∃ v, v = validP V ts := ⟨_, rfl⟩
        have HVC := Lib.hid (fun W h => refPolyValid_c V A1 n1 c1 ts W h)
        rw [← hvp] at HVC HBP
        clear hvp hv
        refine wp_region_held_drew (S := (fun w' => w'.cell? ⟨g, 1, none⟩ = some (.slice B m d) ∧ w'.cell? ⟨g, 2, none⟩ = some (.slice (some ⟨bP, oP, none⟩) p q) ∧ w'.cell? ⟨bP, oP + i * 2, none⟩ = some (.int .i64 V) ∧ w'.cell? ⟨bP, oP + i * 2 + 1, none⟩ = some (.slice A1 n1 c1))) (by kernel_rfl) (⟨cell_drq X.out.c1, cell_drq X.out.c2, cell_drq TP.out.is.c0, cell_drq TP.out.is.c1⟩) (fun hHeld => ?_)
        replace P := Lib.hid (P.out.trans ((Below.refl wr.heap.size wr).drew.mono P.out.size))
        replace R2 := Lib.hid (R2.out.below (Below.refl wr.heap.size wr).drew)
        replace X := Lib.hid (X.out.next (Below.refl wr.heap.size wr).drew)
        replace TP := Lib.hid (TP.out.next (Below.refl wr.heap.size wr).drew)
        generalize wr.drew = D5 at P R2 X TP hHeld ⊢
        refine tkk 0 67 rfl rfl (by kernel_rfl) (fun _ _ _ _ h => h) (by rfl) (fun w h => by obtain ⟨h0, h1, h2, h3⟩ := h; go_simp; rfl) (by assumption) ?_
        simp only [set0, set1]
        refine tkk 1 68 rfl rfl (by kernel_rfl) (fun _ _ _ _ h => h) (by rfl) (fun w h => by obtain ⟨h0, h1, h2, h3⟩ := h; go_simp; rfl) (by assumption) ?_
        simp only [set0, set1]
        refine tkk 2 69 rfl rfl (by kernel_rfl) (fun _ _ _ _ h => h) (by rfl) (fun w h => by obtain ⟨h0, h1, h2, h3⟩ := h; go_simp; rfl) (by assumption) ?_
        simp only [set0, set1]
        refine tkk 3 70 rfl rfl (by kernel_rfl) (fun _ _ _ _ h => h) (by rfl) (fun w h => by obtain ⟨h0, h1, h2, h3⟩ := h; go_simp; rfl) (by assumption) ?_
        simp only [set0, set1]
        refine tkk 4 71 rfl rfl (by kernel_rfl) (fun _ _ _ _ h => h) (by rfl) (fun w h => by obtain ⟨h0, h1, h2, h3⟩ := h; go_simp; rfl) (by assumption) ?_
        simp only [set0, set1]
        refine tkk 5 72 rfl rfl (by kernel_rfl) (fun _ _ _ _ h => h) (by rfl) (fun w h => by obtain ⟨h0, h1, h2, h3⟩ := h; go_simp; rfl) (by assumption) ?_
        simp only [set0, set1]
        refine tkk 6 73 rfl rfl (by kernel_rfl) (fun _ _ _ _ h => h) (by rfl) (fun w h => by obtain ⟨h0, h1, h2, h3⟩ := h; go_simp; rfl) (by assumption) ?_
        simp only [set0, set1]
        refine tkk 7 74 rfl rfl (by kernel_rfl) (fun _ _ _ _ h => h) (by rfl) (fun w h => by obtain ⟨h0, h1, h2, h3⟩ := h; go_simp; rfl) (by assumption) ?_
        simp only [set0, set1]
        refine tkk 8 75 rfl rfl (by kernel_rfl) (fun _ _ _ _ h => h) (by rfl) (fun w h => by obtain ⟨h0, h1, h2, h3⟩ := h; go_simp; rfl) (by assumption) ?_
        simp only [set0, set1]
        refine tkk 9 76 rfl rfl (by kernel_rfl) (fun _ _ _ _ h => h) (by rfl) (fun w h => by obtain ⟨h0, h1, h2, h3⟩ := h; go_simp; rfl) (by assumption) ?_
        simp only [set0, set1]
        refine tkk 10 77 rfl rfl (by kernel_rfl) (fun _ _ _ _ h => h) (by rfl) (fun w h => by obtain ⟨h0, h1, h2, h3⟩ := h; go_simp; rfl) (by assumption) ?_
        simp only [set0, set1]
        refine tkk 11 78 rfl rfl (by kernel_rfl) (fun _ _ _ _ h => h) (by rfl) (fun w h => by obtain ⟨h0, h1, h2, h3⟩ := h; go_simp; rfl) (by assumption) ?_
        simp only [set0, set1]
        refine tkk 12 79 rfl rfl (by kernel_rfl) (fun _ _ _ _ h => h) (by rfl) (fun w h => by obtain ⟨h0, h1, h2, h3⟩ := h; go_simp; rfl) (by assumption) ?_
        simp only [set0, set1]
        refine tkk 13 80 rfl rfl (by kernel_rfl) (fun _ _ _ _ h => h) (by rfl) (fun w h => by obtain ⟨h0, h1, h2, h3⟩ := h; go_simp; rfl) (by assumption) ?_
        simp only [set0, set1]
        refine tkk 14 81 rfl rfl (by kernel_rfl) (fun _ _ _ _ h => h) (by rfl) (fun w h => by obtain ⟨h0, h1, h2, h3⟩ := h; go_simp; rfl) (by assumption) ?_
        simp only [set0, set1]
        refine tkk 15 82 rfl rfl (by kernel_rfl) (fun _ _ _ _ h => h) (by rfl) (fun w h => by obtain ⟨h0, h1, h2, h3⟩ := h; go_simp; rfl) (by assumption) ?_
        simp only [set0, set1]
        refine wpAnyH_ready (rs := [16]) (by kernel_rfl) (by simp) ?_
        refine AllReadyH.cons rfl (fun K hK => ?_) AllReadyH.nil
        go_simp
        refine (HVC.out D5 TP.out.is.rt).mono ?_
        rintro e v6 ⟨rfl, hb⟩
        replace P := Lib.hid (P.out.trans (hb.mono P.out.size))
        replace R2 := Lib.hid (R2.out.below hb)
        replace X := Lib.hid (X.out.next hb)
        replace TP := Lib.hid (TP.out.next hb)
        clear hb hHeld
        refine hK.out _ _ (⟨X.out.c1, X.out.c2, TP.out.is.c0, TP.out.is.c1⟩) (fun hHeld => ?_)
        clear hK K
        refine tkk 17 84 rfl rfl (by kernel_rfl) (fun _ _ _ _ h => h) (by rfl) (fun w h => by obtain ⟨h0, h1, h2, h3⟩ := h; go_simp; rfl) (by assumption) ?_
        simp only [set0, set1]
        refine tkk 18 85 rfl rfl (by kernel_rfl) (fun _ _ _ _ h => h) (by rfl) (fun w h => by obtain ⟨h0, h1, h2, h3⟩ := h; go_simp; rfl) (by assumption) ?_
        clear hHeld
        refine wpAnyH_done (by kernel_rfl) ?_ _
        cases vp with
        | false =>
          have HF := Lib.hid (show validLnk ⟨kind, vs, ps⟩ vars = false by
           rw [HE.out, show anyP (badPly m) ps = true from decide_eq_true ⟨i, by rw [HL.out.2.1]; exact hip, by rw [← HY.out, HBP.out]; rfl⟩]; rfl)
          go_wp2
          go_ret
          exact ⟨by rw [HF.out] <;> rfl, P.out⟩
        | true =>
          go_wp2
          go_roundw
          case measure => simp [intOf]; omega
          case rel => exact ⟨i + 1, by go_num, by omega, P.out, X.out, R2.out, fun a ha => by
           by_cases e : a = i
           · subst e; rw [← HY.out, HBP.out]; rfl
           · exact HA.out a (by omega)⟩
     · have t1 : decide ((i : Int) < (p : Int)) = false := decide_eq_false (by omega)
       have t1n : decide (i < p) = false := decide_eq_false hip
       have HF := Lib.hid (show validLnk ⟨kind, vs, ps⟩ vars = true by
        rw [HE.out, show anyP (badPly m) ps = false from decide_eq_false (by
         rintro ⟨a, ha, hb⟩
         rw [HA.out a (by rw [HL.out.2.1] at ha; omega)] at hb
         cases hb)]; rfl)
       go_wp2
       go_ret
       exact ⟨by rw [HF.out] <;> rfl, P.out⟩
end Go.Proofs.YteabokkofoomkaaGreat
