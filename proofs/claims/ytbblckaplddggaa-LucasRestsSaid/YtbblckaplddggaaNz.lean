import Derived.Test.YtbblckaplddggaaNu
import Derived.Test.YtbblckaplddggaaNp
import Derived.Test.YtbblckaplddggaaNr
import Derived.Test.YtbblckaplddggaaSa
import Derived.Test.YtbblckaplddggaaNl
import Derived.Test.YtbblckaplddggaaNv
import Derived.Shelf.RegionOpen
import Derived.Shelf.Abstract
import Derived.WalkKit
import Derived.Deep.DeepMust
import Derived.Deep.DeepCutAuto
import Derived.OwnWalkIn
import Derived.TacticsInMore
import Derived.LoopNIn
import Derived.LoopIn
set_option maxRecDepth 100000
namespace Go.Proofs.Ytbblckaplddggaa
open Go.RowKit Go.Shelf

set_option maxHeartbeats 2000000 in
theorem isModulus_c {w : World} {m : Int} {t : Bool} {A : Option Addr} {n c : Nat} (h : Iv w m t A n c) (hm : 0 < m) (hb : blen m.natAbs ≤ 4000) :
    Calls Try.prog 60 #[.agg #[.bool t, .slice A n c]] w (IsB true w) := by
  have ht : t = false := by rw [h.is.1]; exact decide_eq_false (by omega)
  subst ht
  have hn : decide (n = 0) = false := decide_eq_false (by
    rw [h.is.2.1]
    intro e
    have := words_len_le.1 (Nat.le_of_eq e)
    simp [pw] at this
    omega)
  have hl : n ≤ 4096 := by rw [h.is.2.1]; exact words_len_le.2 h.sz
  have b0 := below_alloc w (ob2 false A n c)
  have B0 := Lib.hid (Box.new h.is)
  have HB := Lib.hid b0
  have HN := Lib.hid hn
  have HL := Lib.hid hl
  have hd : decide ((blen m.natAbs : Int) ≤ 4000) = true := decide_eq_true (by omega)
  clear h b0 hn hl
  go_enter Try.func60, Try.ntmps60
  go_upto_region 1 with (fail)
  generalize w.alloc (.cells #[.bool false, .slice A n c] 24) = W0 at B0 HB ⊢
  have a0 := B0.out.c0
  have a1 := B0.out.c1
  go_wp2_with fail
  refine (IsZero_c _ _ _ _ _).mono ?_
  rw [HN.out]
  rintro e w1 ⟨rfl, hb1⟩
  replace B0 := Lib.hid (B0.out.next hb1)
  replace HB := Lib.hid (HB.out.trans (hb1.mono HB.out.size))
  clear hb1 a0 a1
  have a0 := B0.out.c0
  have a1 := B0.out.c1
  go_wp2_with fail
  refine (Bits_c B0.out.is HL.out).mono ?_
  rintro e w2 ⟨rfl, hb1⟩
  replace HB := Lib.hid (HB.out.trans (hb1.mono HB.out.size))
  clear hb1 a0 a1 B0
  go_wp2
  go_ret
  exact ⟨rfl, HB.out⟩
set_option maxHeartbeats 2000000 in
theorem Valid1_c {W : World} {g : Nat} {m : Int} {t : Bool} {A : Option Addr} {n c : Nat} (h : Iv W m t A n c) (c0 : W.cell? ⟨g, 0, none⟩ = some (.bool t)) (c1 : W.cell? ⟨g, 1, none⟩ = some (.slice A n c)) :
    Calls Try.prog 88 #[.slice (some ⟨g, 0, none⟩) 1 1] W (IsB true W) := by
  have HV := Lib.hid h
  clear h
  go_enter Try.func88, Try.ntmps88
  go_wp2_with fail
  refine wp_loop_rounds 2 ?_
  rw [rounds_succ]
  go_wp2_with fail
  refine (Valid_i (HV.out.below (below_alloc _ _))).mono ?_
  rintro e w1 ⟨rfl, hb⟩
  have HB := Lib.hid ((below_alloc W (.cells #[.bool t, .slice A n c] 24)).trans (hb.mono (by simp)))
  clear hb
  go_wp2_with fail
  rw [rounds_succ]
  go_wp2
  go_ret
  exact ⟨rfl, HB.out⟩
/-- Rank's boxes and its results -/
structure Rs (w W : World) (z : Int) (t : Bool) (A : Option Addr) (n c : Nat) (z' : Int) (t' : Bool) (A' : Option Addr) (n' c' : Nat) (most : Int) : Prop where
  below : Below w.heap.size w W
  size : w.heap.size + 5 ≤ W.heap.size
  ba : Box W w.heap.size z t A n c
  bm : Box W (w.heap.size + 1) z' t' A' n' c'
  c2 : W.cell? ⟨w.heap.size + 2, 0, none⟩ = some (.int .i64 most)
  c3 : W.cell? ⟨w.heap.size + 3, 0, none⟩ = some (.int .i64 0)
  f3 : W.frozen? ⟨w.heap.size + 3, 0, none⟩ = false
  c4 : W.cell? ⟨w.heap.size + 4, 0, none⟩ = some (.int .i64 0)
  f4 : W.frozen? ⟨w.heap.size + 4, 0, none⟩ = false
theorem Rs.next {w W W' : World} {z : Int} {t : Bool} {A : Option Addr} {n c : Nat} {z' : Int} {t' : Bool} {A' : Option Addr} {n' c' : Nat} {most : Int} (h : Rs w W z t A n c z' t' A' n' c' most) (hb : Below W.heap.size W W') : Rs w W' z t A n c z' t' A' n' c' most := by
  have hs := h.size
  exact ⟨h.below.trans (hb.mono h.below.size), Nat.le_trans hs hb.size, h.ba.next hb, h.bm.next hb, (hb.cell (p := ⟨_, 0, none⟩) (by simp; omega)).trans h.c2, (hb.cell (p := ⟨_, 0, none⟩) (by simp; omega)).trans h.c3, (hb.frozen (p := ⟨_, 0, none⟩) (by simp; omega)).trans h.f3, (hb.cell (p := ⟨_, 0, none⟩) (by simp; omega)).trans h.c4, (hb.frozen (p := ⟨_, 0, none⟩) (by simp; omega)).trans h.f4⟩
theorem oth1 {W : World} {g : Nat} {m : Int} {t : Bool} {A : Option Addr} {n c : Nat} (h : Iv W m t A n c) (hg : g < W.heap.size) (c0 : W.cell? ⟨g, 0, none⟩ = some (.bool t)) (c1 : W.cell? ⟨g, 1, none⟩ = some (.slice A n c)) : Oth W (.slice (some ⟨g, 0, none⟩) 1 1) true := fun _ hb =>
  Valid1_c (h.below hb) ((hb.cell (p := ⟨g, 0, none⟩) hg).trans c0) ((hb.cell (p := ⟨g, 1, none⟩) hg).trans c1)
theorem Rs.start {w : World} {z : Int} {t : Bool} {A : Option Addr} {n c : Nat} {z' : Int} {t' : Bool} {A' : Option Addr} {n' c' : Nat} (most : Int) (h : Is w z t A n c) (h' : Is w z' t' A' n' c') : Rs w (((((w.alloc (.cells #[.bool t, .slice A n c] 24)).alloc (.cells #[.bool t', .slice A' n' c'] 24)).alloc (.cells #[.int .i64 most] 3)).alloc (.cells #[.int .i64 0] 3)).alloc (.cells #[.int .i64 0] 27)) z t A n c z' t' A' n' c' most := by
  have hb : Below w.heap.size w (((((w.alloc (.cells #[.bool t, .slice A n c] 24)).alloc (.cells #[.bool t', .slice A' n' c'] 24)).alloc (.cells #[.int .i64 most] 3)).alloc (.cells #[.int .i64 0] 3)).alloc (.cells #[.int .i64 0] 27)) :=
    (((((Below.refl _ _).alloc (Nat.le_refl _) _).alloc (by simp) _).alloc (by simp; omega) _).alloc (by simp; omega) _).alloc (by simp; omega) _
  refine ⟨hb, by simp, ?_, ?_, by go_simp, by go_simp, by go_simp, by go_simp, by go_simp⟩
  · exact ((((Box.new h).alloc _).alloc _).alloc _).alloc _
  · have := Box.new (h'.below (below_alloc w (.cells #[.bool t, .slice A n c] 24)))
    rw [World.size_alloc] at this
    exact ((this.alloc _).alloc _).alloc _
theorem evm_es {b v mb D : Nat} {M : Int} {tm : Bool} {Am : Option Addr} {nm cm : Nat} (hv : v < D) (hm : mb < D) : Es (Evm b v mb M tm Am nm cm) D :=
  ⟨fun _ _ h hk => h.kc hk, fun W p x a i j u u' hD c0 c1 h => ⟨h.ne, h.neb, by rw [size_pair]; exact h.lt, cell_two (by omega) h.vc, ⟨by rw [size_pair]; exact h.bx.lt, cell_two (by omega) h.bx.c0, cell_two (by omega) h.bx.c1, h.bx.is.store c0 c1 u u'⟩, h.sz⟩⟩
def TT (m : Int) : Nat := 2 * (m.natAbs * m.natAbs) + 2 * m.natAbs
theorem TT_lt' {m : Int} {k N : Nat} (hk : k + k + 2 ≤ 32 * N) (hb : blen m.natAbs ≤ k) : TT m < pw N := by
  have h2 := blen_le.1 hb
  have h3 : m.natAbs * m.natAbs ≤ 2 ^ k * 2 ^ k := Nat.mul_le_mul (Nat.le_of_lt h2) (Nat.le_of_lt h2)
  rw [← Nat.pow_add] at h3
  have h4 : (2 : Nat) ^ k ≤ 2 ^ (k + k) := Nat.pow_le_pow_right (by omega) (by omega)
  have h5 : (2 : Nat) ^ (k + k + 2) = 2 ^ (k + k) * 4 := by rw [Nat.pow_add]
  have h6 : (2 : Nat) ^ (k + k + 2) ≤ pw N := by
    rw [pw_two]
    exact Nat.pow_le_pow_right (by omega) hk
  generalize (2 : Nat) ^ (k + k + 2) = q1 at *
  generalize (2 : Nat) ^ (k + k) = q2 at *
  generalize (2 : Nat) ^ k = q3 at *
  show 2 * (m.natAbs * m.natAbs) + 2 * m.natAbs < pw N
  omega
theorem TT_lt {m : Int} (hb : blen m.natAbs ≤ 4000) : TT m < pw 4096 := TT_lt' (by omega) hb
theorem emod_bound {x y m : Int} (hm : 0 < m) : (x % m).natAbs ≤ m.natAbs ∧ ((x % m) * (y % m)).natAbs ≤ m.natAbs * m.natAbs := by
  have h1 := Int.emod_nonneg x (b := m) (by omega)
  have h2 := Int.emod_lt_of_pos x hm
  have h3 := Int.emod_nonneg y (b := m) (by omega)
  have h4 := Int.emod_lt_of_pos y hm
  refine ⟨by omega, ?_⟩
  rw [Int.natAbs_mul]
  exact Nat.mul_le_mul (by omega) (by omega)
theorem mod_sr {a m : Int} (hm : 0 < m) (hb : blen m.natAbs ≤ 4000) (N : Nat) (hN : N < 4611686018427387904) : Sr (TT m) (· % m) ((a % m + a % m) % m) (fun j => psi a j % m) N := by
  refine ⟨TT_lt hb, hN, rfl, rfl, fun j _ => ?_, fun j _ => ?_, fun j _ => ?_⟩
  · show ((a % m + a % m) % m * (psi a (j + 1) % m) - psi a j % m) % m = psi a (j + 2) % m
    have e : (a % m + a % m) % m * (psi a (j + 1) % m) - psi a j % m = psi a (j + 2) + m * (-(a / m + a / m + (a % m + a % m) / m) * (psi a (j + 1) % m) - 2 * a * (psi a (j + 1) / m) + psi a j / m) := by
      have e1 := Int.emod_def (a % m + a % m) m
      have e2 := Int.emod_def (psi a (j + 1)) m
      have e3 := Int.emod_def (psi a j) m
      have e4 := Int.emod_def a m
      have e5 : psi a (j + 2) = 2 * a * psi a (j + 1) - psi a j := rfl
      generalize (a % m + a % m) % m = q1 at *
      generalize (a % m + a % m) / m = q2 at *
      generalize a % m = q3 at *
      generalize psi a (j + 1) % m = q4 at *
      generalize psi a j % m = q5 at *
      grind
    rw [e, Int.add_mul_emod_self_left]
  · exact Nat.le_trans (emod_bound hm).2 (by unfold TT; omega)
  · have h1 := (emod_bound (x := a % m + a % m) (y := psi a (j + 1)) hm).2
    have h2 := (emod_bound (x := psi a j) (y := 0) hm).1
    show ((a % m + a % m) % m * (psi a (j + 1) % m) - psi a j % m).natAbs ≤ TT m
    unfold TT
    omega

theorem wp_range_endlessA {α : Type} {P : Program} {g : Operand} {ps : Array Tmp} {assign body : Code} {Q : Exit → Act → World → Prop} {a : Act} {w : World} {gf : Nat} {lb : Array Value}
    (hg : a.eval g = .func (.func gf) #[] lb) (eg : ∀ args w, (callFunc gf args).run P w = .ok (.enter gf args) w) {encs : α → Array Value} {Ok : List α → α → Prop} {N b : Nat} (hb : b < w.heap.size) (hseq : Endless P gf lb encs Ok N b w) (hps : ∀ x, (encs x).size = ps.size)
    (I : List α → World → Prop) (Ix : Code → List α → World → Prop) (hI : OwnFrom w.heap.size I) (hIx : ∀ c, OwnFrom w.heap.size (Ix c)) (hS : ∀ pre W W', I pre W → Sto w.heap.size b W W' → I pre W') (hN : ∀ pre W, I pre W → pre.length < N) (h0 : I [] w) (Ax : List α → α → Act → World → Prop) (hAx : ∀ pre x a', OwnFrom w.heap.size (fun (_ : Unit) W => Ax pre x a' W))
    (hassign : ∀ (l : Nat) (pre : List α) (x : α) (W : World), I pre W → Ok pre x →
      assign.wpIn (Fence.wide.inRound l) 2 P (Exit.then (fun a' W' => KeepsOthers W W' ∧ Kc W W' ∧ Ax pre x a' W') (fun _ _ _ => False)) { tmps := (ps.zip (encs x)).foldl (fun t (p, v) => t.setIfInBounds p v) a.tmps, defers := [] } W)
    (hbody : ∀ (l : Nat) (pre : List α) (x : α) (a' : Act) (W : World), Ax pre x a' W → body.wpIn (Fence.wide.inRound l) 2 P (RoundEnd I Ix (pre ++ [x]) W) a' W)
    (hstop : ∀ (D : Nat) (c : Code) (pre : List α) (W : World), w.heap.size ≤ D → Ix c pre W → W.heap[D]? = some (.deferred (some [])) → c.wp P Q { a with defers := { target := .collected D, args := #[] } :: a.defers } W) :
    (Code.rangeFunc g ps assign body).wp P Q a w := by
  refine (wpIn_wide (n := 3)).1 (wpIn_rangeFunc ?_)
  intro fn hfn
  obtain ⟨rec, hrec⟩ : ∃ rec : LoopState → Option Code → Loop, rec = fun st pe => { state := st, pending := pe, fn, tmps := a.tmps, params := ps, assign, body, defers := w.heap.size } := ⟨_, rfl⟩
  obtain ⟨V, hV⟩ : ∃ V, (w.alloc (.deferred (some []))).alloc (.loop (rec .ready none)) = V := ⟨_, rfl⟩
  have q1 : V.heap[w.heap.size + 1]? = some (.loop (rec .ready none)) := by
    rw [← hV]; have := World.alloc_heap_new (w.alloc (.deferred (some []))) (.loop (rec .ready none)); rwa [World.size_alloc] at this
  have q0 : V.heap[w.heap.size]? = some (.deferred (some [])) := by
    rw [← hV]; exact (Below.heap_alloc _ _ _ (by simp)).trans (World.alloc_heap_new w _)
  have qi : I [] V := by rw [← hV]; exact hI.alloc _ (hI.alloc _ h0)
  have qb : Below w.heap.size w V := by rw [← hV]; exact ((Below.refl _ w).alloc (Nat.le_refl _) _).alloc (by simp) _
  have qs : w.heap.size + 2 ≤ V.heap.size := by rw [← hV]; simp
  refine ⟨w.heap.size + 1, [{ target := .collected w.heap.size, args := #[] }], V, { target := .fn (.func gf) lb, args := #[.func (.yield (w.heap.size + 1)) #[] #[]] }, V, gf,
    #[.func (.yield (w.heap.size + 1)) #[] #[]] ++ lb, V, ?_, ?_, ?_, ?_, fun _ => by omega, ?_⟩
  · rw [← hV, hrec]; exact run_enterLoop_outer _ _ _ _ _
  · simp only [resolve, hg]
    simp [go_sem]
  · intro f' hf'; simp [Target.leads] at hf'; subst hf'; trivial
  · simp [invoke, go_sem, eg]
  refine callsIn_wide.2 ((hseq (w.heap.size + 1)
    (fun pre W => I pre W ∧ W.heap[w.heap.size + 1]? = some (.loop (rec .ready none)) ∧ W.heap[w.heap.size]? = some (.deferred (some [])))
    (fun pre W => ∃ c, Ix c pre W ∧ W.heap[w.heap.size + 1]? = some (.loop (rec .done (some c))) ∧ W.heap[w.heap.size]? = some (.deferred (some [])))
    V qb (fun pre W1 W2 h hs => ⟨hS _ _ _ h.1 (hs.le (by omega)), (hs.block _ (by omega) (by omega)).trans h.2.1, (hs.block _ (by omega) (by omega)).trans h.2.2⟩)
    (fun pre W h => hN pre W h.1) ?_ (And.intro qi (And.intro q1 q0))).mono ?_)
  · rintro pre x W ⟨hi, hl, hk⟩ hok
    have hlt : w.heap.size + 1 < W.heap.size := (Array.getElem?_eq_some_iff.1 hl).1
    have hy := run_yield (P := P) (args := encs x) hl (by rw [hrec]; exact hps x)
    rw [hrec] at hy
    refine ⟨fn, _, assign, body, hy, roundIn_of_wpIn hfn (wpIn_mono (hassign _ pre x W hi hok) ?_)⟩
    intro e' a' W' hp'
    cases e' with
    | ret => exact hp'.elim
    | exit id => exact hp'.elim
    | goto t => exact hp'.elim
    | panic ch => exact hp'.elim
    | outgrown => exact hp'.elim
    | normal =>
    obtain ⟨k0, cc0, ax⟩ := hp'
    replace hl := k0.same _ _ hl rfl
    replace hk := k0.same _ _ hk rfl
    clear hlt
    have hlt : w.heap.size + 1 < W'.heap.size := (Array.getElem?_eq_some_iff.1 hl).1
    refine Exists.intro _ (And.intro (run_beginRound hl (by rw [hrec])) ?_)
    have l2 : (W'.putObj (w.heap.size + 1) (.loop { rec .ready none with state := .busy })).heap[w.heap.size + 1]? = some (.loop { rec .ready none with state := .busy }) := World.putObj_heap_same hlt
    have k2 : (W'.putObj (w.heap.size + 1) (.loop { rec .ready none with state := .busy })).heap[w.heap.size]? = some (.deferred (some [])) := (World.putObj_heap_other (by omega)).trans hk
    have c2 : Kc W (W'.putObj (w.heap.size + 1) (.loop { rec .ready none with state := .busy })) := cc0.trans (Kc.put _ _ _ hl rfl)
    refine wpIn_mono (hbody _ pre x a' _ ((hAx pre x a').putObj (s := ()) _ ax (by omega) hl rfl)) ?_
    have fin : ∀ (jump : Option Code) (W3 : World), KeepsOthers (W'.putObj (w.heap.size + 1) (.loop { rec .ready none with state := .busy })) W3 →
        (Instr.endRound (w.heap.size + 1) jump).run P W3 = .ok (.bool jump.isNone) (W3.putObj (w.heap.size + 1) (.loop (rec (if jump.isNone then .ready else .done) jump))) ∧
        W3.heap[w.heap.size + 1]? = some (.loop { rec .ready none with state := .busy }) ∧
        (W3.putObj (w.heap.size + 1) (.loop (rec (if jump.isNone then .ready else .done) jump))).heap[w.heap.size + 1]? = some (.loop (rec (if jump.isNone then .ready else .done) jump)) ∧
        (W3.putObj (w.heap.size + 1) (.loop (rec (if jump.isNone then .ready else .done) jump))).heap[w.heap.size]? = some (.deferred (some [])) := fun jump W3 k3 => by
      have l3 := k3.same _ _ l2 rfl
      have := run_endRound (P := P) jump l3
      rw [hrec] at this ⊢
      exact ⟨this, by rw [hrec] at l3; exact l3, World.putObj_heap_same (Array.getElem?_eq_some_iff.1 l3).1, (World.putObj_heap_other (by omega)).trans (k3.same _ _ k2 rfl)⟩
    rintro e a3 W3 hp
    cases e with
    | normal =>
      obtain ⟨k3, kc3, i3⟩ := hp
      obtain ⟨hr, l3, l4, k4⟩ := fin none W3 k3
      exact ⟨_, _, hr, .inl ⟨rfl, ⟨hI.putObj _ i3 (by omega) l3 rfl, l4, k4⟩, (c2.trans kc3).trans (Kc.put _ _ _ l3 rfl)⟩⟩
    | ret =>
      obtain ⟨k3, i3⟩ := hp
      obtain ⟨hr, l3, l4, k4⟩ := fin (some .ret) W3 k3
      exact ⟨_, _, hr, .inr ⟨rfl, .ret, (hIx _).putObj _ i3 (by omega) l3 rfl, l4, k4⟩⟩
    | exit id =>
      obtain ⟨k3, i3⟩ := hp
      obtain ⟨hr, l3, l4, k4⟩ := fin (some (.exit id)) W3 k3
      exact ⟨_, _, hr, .inr ⟨rfl, .exit id, (hIx _).putObj _ i3 (by omega) l3 rfl, l4, k4⟩⟩
    | goto t => exact hp.elim
    | panic ch => exact hp.elim
    | outgrown => exact hp.elim
  · rintro e W2 ⟨⟨v, rfl⟩, pre, c, hi, hl, hk⟩
    exact ⟨some c, _, by have := run_endLoop (P := P) hl (by rw [hrec]; simp); rw [hrec] at this; exact this, (wpIn_wide (n := 3)).2 (hstop _ c pre _ (Nat.le_refl _) ((hIx c).putObj _ hi (by omega) hl rfl) ((World.putObj_heap_other (by omega)).trans hk))⟩

section
attribute [local go_sem] Oper.semAt_some
/-- Rank's cells between two rounds -/
structure Rki (w : World) (a m K : Int) (n : Nat) (W : World) : Prop where
  below : Below w.heap.size w W
  c2 : W.cell? ⟨w.heap.size + 2, 0, none⟩ = some (.int .i64 K)
  c3 : W.cell? ⟨w.heap.size + 3, 0, none⟩ = some (.int .i64 0)
  f3 : W.frozen? ⟨w.heap.size + 3, 0, none⟩ = false
  c4 : W.cell? ⟨w.heap.size + 4, 0, none⟩ = some (.int .i64 0)
  f4 : W.frozen? ⟨w.heap.size + 4, 0, none⟩ = false
  no : ∀ j, 1 ≤ j → j ≤ n → psi a j % m ≠ 0
/-- behind a found one -/
structure Rkf (w : World) (a m : Int) (n : Nat) (W : World) : Prop where
  below : Below w.heap.size w W
  c3 : W.cell? ⟨w.heap.size + 3, 0, none⟩ = some (.int .i64 (n : Int))
  c4 : W.cell? ⟨w.heap.size + 4, 0, none⟩ = some (.int .i64 0)
  yes : psi a n % m = 0
  no : ∀ j, 1 ≤ j → j < n → psi a j % m ≠ 0
theorem Rki.kept {w W W' : World} {a m K : Int} {n : Nat} {row : Option Nat} {B : Nat} (h : Rki w a m K n W) (hB : w.heap.size ≤ B) (hg : W.grownBy W' row) (hr : ∀ r, row = some r → B ≤ r ∧ ∃ o : Obj, W.heap[r]? = some o ∧ o.isCells = false) : Rki w a m K n W' :=
  have hr' := fun r e => (hr r e).2
  ⟨ownFrom_below (β := Unit) (Nat.le_refl _) hB () W W' row h.below hg hr, cell_kept h.c2 hg hr', cell_kept h.c3 hg hr', (frozen_kept h.c3 hg hr').trans h.f3, cell_kept h.c4 hg hr', (frozen_kept h.c4 hg hr').trans h.f4, h.no⟩
theorem Rkf.kept {w W W' : World} {a m : Int} {n : Nat} {row : Option Nat} {B : Nat} (h : Rkf w a m n W) (hB : w.heap.size ≤ B) (hg : W.grownBy W' row) (hr : ∀ r, row = some r → B ≤ r ∧ ∃ o : Obj, W.heap[r]? = some o ∧ o.isCells = false) : Rkf w a m n W' :=
  have hr' := fun r e => (hr r e).2
  ⟨ownFrom_below (β := Unit) (Nat.le_refl _) hB () W W' row h.below hg hr, cell_kept h.c3 hg hr', cell_kept h.c4 hg hr', h.yes, h.no⟩
theorem Rki.sto {w W W' : World} {a m K : Int} {n D b : Nat} (h : Rki w a m K n W) (hs : Sto D b W W') (hD : w.heap.size + 5 ≤ D) (hb : w.heap.size + 5 ≤ b) : Rki w a m K n W' :=
  ⟨⟨hs.bel.os.trans h.below.os, hs.bel.tape.trans h.below.tape, hs.bel.output.trans h.below.output, Nat.le_trans h.below.size hs.size, fun k hk => (hs.block k (by omega) (by omega)).trans (h.below.block k hk)⟩,
   (hs.cell (p := ⟨_, 0, none⟩) (by simp; omega) (by simp; omega)).trans h.c2, (hs.cell (p := ⟨_, 0, none⟩) (by simp; omega) (by simp; omega)).trans h.c3, (hs.frozen (by omega) (by omega)).trans h.f3, (hs.cell (p := ⟨_, 0, none⟩) (by simp; omega) (by simp; omega)).trans h.c4, (hs.frozen (by omega) (by omega)).trans h.f4, h.no⟩
theorem cell_lt {W : World} {p : Addr} {v : Value} (h : W.cell? p = some v) : p.block < W.heap.size := by
  obtain ⟨o, h1, _⟩ := cells_of_cell h
  exact (Array.getElem?_eq_some_iff.1 h1).1
theorem Rki.next {w W W' : World} {a m K : Int} {n : Nat} (h : Rki w a m K n W) (hb : Below W.heap.size W W') : Rki w a m K n W' :=
  ⟨h.below.trans (hb.mono h.below.size), (hb.cell (p := ⟨_, 0, none⟩) (cell_lt h.c2)).trans h.c2, (hb.cell (p := ⟨_, 0, none⟩) (cell_lt h.c3)).trans h.c3, (hb.frozen (p := ⟨_, 0, none⟩) (cell_lt h.c3)).trans h.f3, (hb.cell (p := ⟨_, 0, none⟩) (cell_lt h.c4)).trans h.c4, (hb.frozen (p := ⟨_, 0, none⟩) (cell_lt h.c4)).trans h.f4, h.no⟩
theorem keepsOthers_below {W W' : World} (hb : Below W.heap.size W W') : KeepsOthers W W' := KeepsOthers.of_grownBy (grown_of_below hb none) (fun j o e => by cases e)
theorem Rki.put {w W : World} {a m K : Int} {n : Nat} (h : Rki w a m K n W) (u v : Int) :
    Below w.heap.size w ((W.setCell ⟨w.heap.size + 3, 0, none⟩ (.int .i64 u)).setCell ⟨w.heap.size + 4, 0, none⟩ (.int .i64 v)) ∧
    ((W.setCell ⟨w.heap.size + 3, 0, none⟩ (.int .i64 u)).setCell ⟨w.heap.size + 4, 0, none⟩ (.int .i64 v)).cell? ⟨w.heap.size + 3, 0, none⟩ = some (.int .i64 u) ∧
    ((W.setCell ⟨w.heap.size + 3, 0, none⟩ (.int .i64 u)).setCell ⟨w.heap.size + 4, 0, none⟩ (.int .i64 v)).cell? ⟨w.heap.size + 4, 0, none⟩ = some (.int .i64 v) := by
  refine ⟨(h.below.setCell (p := ⟨w.heap.size + 3, 0, none⟩) (by simp) _).setCell (p := ⟨w.heap.size + 4, 0, none⟩) (by simp) _, ?_, ?_⟩
  · rw [World.cell?_setCell_other _ _ _ _ (by simp)]
    exact World.cell?_setCell_same' _ _ _ (by rw [h.c3]; rfl)
  · refine World.cell?_setCell_same' _ _ _ ?_
    rw [World.cell?_setCell_other _ _ _ _ (by simp), h.c4]
    rfl
/-- the least index from 1 on, at most most, whose element m divides; or none -/
def RankPost (a m : Int) (most : Nat) (w : World) (e : Ending) (w' : World) : Prop :=
  ∃ r k : Int, e = .returned (.tuple #[.int .i64 r, .int .i64 k]) ∧ Below w.heap.size w w' ∧
    ((k = 0 ∧ ∃ n : Nat, r = (n : Int) ∧ 1 ≤ n ∧ n ≤ most ∧ psi a n % m = 0 ∧ ∀ j, 1 ≤ j → j < n → psi a j % m ≠ 0) ∨ (k = 6 ∧ r = 0 ∧ ∀ j, 1 ≤ j → j ≤ most → psi a j % m ≠ 0))
set_option maxHeartbeats 8000000 in
theorem Rank_c {w : World} {a : Int} {t : Bool} {A : Option Addr} {n c : Nat} {m : Int} {t' : Bool} {A' : Option Addr} {n' c' : Nat} (h : Iv w a t A n c) (h' : Iv w m t' A' n' c') (ha : 2 ≤ a) (hm : 0 < m) (hb : blen m.natAbs ≤ 4000) (most : Nat) (h1 : 1 ≤ most) (h2 : most ≤ 20000) :
    Calls Try.prog 32 #[.agg #[.bool t, .slice A n c], .agg #[.bool t', .slice A' n' c'], .int .i64 (most : Int)] w (RankPost a m most w) := by
  have E := Lib.hid (Rs.start (most : Int) h.is h'.is)
  have HS := Lib.hid (And.intro h.sz h'.sz)
  have HA := Lib.hid ha
  have HM := Lib.hid hm
  have HB := Lib.hid hb
  obtain ⟨K, hK⟩ : ∃ K : Int, K = (most : Int) := ⟨_, rfl⟩
  rw [← hK] at E ⊢
  have hK1 : ¬ K < 1 := by omega
  have hK2 : ¬ 20000 < K := by omega
  have HK := Lib.hid hK
  clear h h' ha hm hb hK
  refine callsIn_wide.1 (callsIn_of_wp_marks (F := Fence.wide) (n := 3) Try.func32 rfl trivial ((wpIn_wide (n := 3)).2 ?_) rfl)
  simp only [Try.ntmps32, List.size_toArray, List.length_cons, List.length_nil, Nat.reduceAdd, Nat.reduceSub, Array.replicate_succ, Array.replicate_zero, List.push_toArray, List.append_toArray, List.nil_append, List.cons_append]
  go_upto_region 1 with (fail)
  generalize ((((w.alloc (.cells #[.bool t, .slice A n c] 24)).alloc (.cells #[.bool t', .slice A' n' c'] 24)).alloc (.cells #[.int .i64 K] 3)).alloc (.cells #[.int .i64 0] 3)).alloc (.cells #[.int .i64 0] 27) = W0 at E ⊢
  have a0 := E.out.ba.c0
  have a1 := E.out.ba.c1
  have b0 := E.out.bm.c0
  have b1 := E.out.bm.c1
  go_wp2_with fail
  have hb := below_alloc W0 (.cells #[.bool t', .slice A' n' c'] 24)
  have O1 := Lib.hid (oth1 (W := W0.alloc (.cells #[.bool t', .slice A' n' c'] 24)) (g := W0.heap.size) ((Is.iv_of E.out.bm.is HS.out.2).below hb) (by simp) (by go_simp) (by go_simp))
  replace E := Lib.hid (E.out.next hb)
  clear hb a0 a1 b0 b1
  generalize W0.alloc (.cells #[.bool t', .slice A' n' c'] 24) = W1 at E O1 ⊢
  refine (check_ok (Is.iv_of E.out.ba.is HS.out.1) _ O1.out 0 (.inl ⟨HA.out, rfl⟩)).mono ?_
  rintro e w1 ⟨rfl, hb⟩
  replace E := Lib.hid (E.out.next hb)
  clear hb O1
  have c2 := E.out.c2
  have b0 := E.out.bm.c0
  have b1 := E.out.bm.c1
  go_wp2_with fail
  refine (isModulus_c (Is.iv_of E.out.bm.is HS.out.2) HM.out HB.out).mono ?_
  rintro e w2 ⟨rfl, hb⟩
  replace E := Lib.hid (E.out.next hb)
  clear hb c2 b0 b1
  have c2 := E.out.c2
  have a0 := E.out.ba.c0
  have a1 := E.out.ba.c1
  have b0 := E.out.bm.c0
  have b1 := E.out.bm.c1
  go_wp2_with fail
  refine (modulo_c (TT m) a m t A n c t' A' n' c' _ (Is.iv_of E.out.ba.is HS.out.1) (Is.iv_of E.out.bm.is HS.out.2) HM.out (by unfold TT; omega)).mono ?_
  rintro e w3 ⟨b, v, mb, tm, Am, nm, cm, ta, Aa, na, ca, tt, At, nt, ct, k, rfl, hbg, hb, hms⟩
  have hk := hms.st.none (TT_lt HB.out)
  subst hk
  have HG2 := Lib.hid E.out.size
  replace E := Lib.hid (E.out.next hb)
  have HW := Lib.hid hms
  have HG := Lib.hid (And.intro (Nat.le_trans E.out.size (Nat.le_refl _)) (Nat.le_trans (Nat.le_trans hb.size (Nat.le_refl _)) (Nat.le_refl _)))
  have hbl := hms.cc.lt
  have hvl := hms.ev.lt
  have hml := hms.ev.bx.lt
  clear hb hms c2 a0 a1 b0 b1
  go_wp2_with fail
  refine (rests_c b _).mono ?_
  rintro e w4 ⟨rfl, hb, hl, hp⟩
  replace E := Lib.hid (E.out.next hb)
  have HP := Lib.hid (show Pp w4 w3.heap.size b from ⟨by omega, hl, hp⟩)
  replace HW := Lib.hid (HW.out.below hb)
  have hsz := hb.size
  have HSeq : Endless Try.prog 102 #[.pointer (some ⟨w3.heap.size, 0, none⟩)] Rv.encs (RvOk (fun j => psi a j % m)) 30000 b w4 := rests1_c HW.out HP.out (mod_sr HM.out HB.out 30000 (by omega)) (evm_es (by omega) (by omega))
  clear hb hl hp
  go_wp2_with fail
  have hs4 := Nat.le_trans HG.out.1 hsz
  have hb5 := Nat.le_trans E.out.size (Nat.le_refl _)
  have hbb : w.heap.size + 5 ≤ b := Nat.le_trans HG2.out hbg
  refine wp_range_endlessA (gf := 102) (lb := #[.pointer (some ⟨w3.heap.size, 0, none⟩)]) rfl (enters_of Try.func102 (by kernel_rfl) rfl) (b := b) (by omega) HSeq (fun _ => rfl)
    (fun pre W => pre.length < most ∧ Rki w a m K pre.length W)
    (fun c' pre W => (c' = .ret ∧ 1 ≤ pre.length ∧ pre.length ≤ most ∧ Rkf w a m pre.length W) ∨ (c' = .exit 0 ∧ pre.length = most ∧ Rki w a m K pre.length W))
    (fun s W W' row hs hg hr => ⟨hs.1, hs.2.kept (by omega) hg hr⟩)
    (fun c' s W W' row hs hg hr => hs.elim (fun h => .inl ⟨h.1, h.2.1, h.2.2.1, h.2.2.2.kept (by omega) hg hr⟩) (fun h => .inr ⟨h.1, h.2.1, h.2.2.kept (by omega) hg hr⟩))
    (fun pre W W' h hs => ⟨h.1, h.2.sto hs hs4 hbb⟩) (fun pre W h => by have := h.1; omega)
    ⟨by simp; omega, ⟨E.out.below, E.out.c2, E.out.c3, E.out.f3, E.out.c4, E.out.f4, fun j h3 h4 => by simp at h4; omega⟩⟩
    (fun pre x a' W => ∃ G, a' = { tmps := #[.agg #[.bool t, .slice A n c], .agg #[.bool t', .slice A' n' c'], .int .i64 K, .pointer (some ⟨w.heap.size, 0, none⟩), .pointer (some ⟨w.heap.size + 1, 0, none⟩), .pointer (some ⟨w.heap.size + 1 + 1, 0, none⟩), .pointer (some ⟨w.heap.size + 1 + 1 + 1, 0, none⟩), .pointer (some ⟨w.heap.size + 1 + 1 + 1 + 1, 0, none⟩), .int .i64 0, .int .i64 (x.n : Int), .pointer (some ⟨G, 0, none⟩), .agg #[.bool t, .slice A n c], .agg #[.bool t', .slice A' n' c'], .slice (some ⟨W0.heap.size, 0, none⟩) 1 1, .int .i64 0, .int .i64 0, .bool false, undef, .agg #[.bool t', .slice A' n' c'], .bool true, .bool false, .bool false, .int .i64 K, .bool (decide (K < 1)), .bool (decide (K < 1)), .bool (decide (K < 1)), .int .i64 K, .bool (decide (20000 < K)), .bool (decide (K < 1) || decide (20000 < K)), .agg #[.bool t, .slice A n c], .agg #[.bool t', .slice A' n' c'], .pointer (some ⟨b, 0, none⟩), .func (.func 102) #[] #[.pointer (some ⟨w3.heap.size, 0, none⟩)], .int .i64 (x.n : Int), .agg #[.bool x.t, .slice x.A x.len x.c], undef, undef, undef, undef, undef, undef], defers := [] } ∧ W.cell? ⟨G, 0, none⟩ = some (.bool x.t) ∧ W.cell? ⟨G, 1, none⟩ = some (.slice x.A x.len x.c) ∧ pre.length < most ∧ RvOk (fun j => psi a j % m) pre x ∧ Rki w a m K pre.length W)
    (fun pre x a' s W W' row hs hg hr => by
      obtain ⟨G, e, h1, h2, h3, h4, h5⟩ := hs
      exact ⟨G, e, cell_kept h1 hg (fun r e => (hr r e).2), cell_kept h2 hg (fun r e => (hr r e).2), h3, h4, h5.kept (by omega) hg hr⟩)
    ?assign ?body ?stop
  case assign =>
    rintro l pre x W ⟨hl, hri⟩ hok
    simp only [Rv.encs]
    gi_wp2
    first
      | exact ⟨KeepsOthers.alloc _ _, Kc.of_below (below_alloc _ _), W.heap.size, rfl, by go_simp, by go_simp, hl, hok, hri.kept (Nat.le_refl _) (World.grownBy_alloc W _ none) (fun r e => by cases e)⟩
      | fail "no end"
  case body =>
    rintro l pre x a' W ⟨G, rfl, g0, g1, hl, hok, hri⟩
    have hlen : (pre ++ [x]).length = pre.length + 1 := by simp
    have hxn := hok.1
    have hz : (x.len = 0) ↔ psi a (pre.length + 1) % m = 0 := by
      rw [hok.2]
      show (words (psi a (pre.length + 1) % m).natAbs).length = 0 ↔ _
      rw [List.length_eq_zero_iff, words_nil]
      omega
    have HZ := Lib.hid hz
    have HN := Lib.hid hxn
    have HRI := Lib.hid hri
    have HL := Lib.hid hl
    have HLEN := Lib.hid hlen
    have d2 := hri.c2
    have d3 := hri.c3
    have d4 := hri.c4
    have v3 := hri.f3
    have v4 := hri.f4
    obtain ⟨N, hN⟩ : ∃ N : Int, N = (x.n : Int) := ⟨_, rfl⟩
    rw [← hN]
    have HNN := Lib.hid hN
    clear hz hxn hri hl hlen hok hN
    by_cases hq : psi a (pre.length + 1) % m = 0
    · have hI := IsZero_c x.t x.A x.len x.c W
      rw [decide_eq_true (HZ.out.2 hq)] at hI
      have HQ := Lib.hid hq
      clear hq
      gi_wp2
      refine ⟨trivial, ?_⟩
      refine (CallsIn.inRound l (callsIn_wide.2 hI)).mono ?_
      rintro e W9 ⟨rfl, hb⟩
      clear hI d2 d3 d4 v3 v4 g0 g1
      have HKO := Lib.hid (keepsOthers_below hb)
      replace HRI := Lib.hid (HRI.out.next hb)
      clear hb
      have d3 := HRI.out.c3
      have d4 := HRI.out.c4
      have v3 := HRI.out.f3
      have v4 := HRI.out.f4
      gi_wp2
      obtain ⟨y1, y2, y3⟩ := HRI.out.put N 0
      have hN9 := HNN.out
      have hn9 := HN.out
      refine ⟨(HKO.out.trans (KeepsOthers.setCell _ _ _)).trans (KeepsOthers.setCell _ _ _), Or.inl ⟨rfl, by rw [HLEN.out]; omega, by have := HL.out; rw [HLEN.out]; omega, ?_⟩⟩
      rw [HLEN.out]
      exact ⟨y1, by rw [← hn9, ← hN9]; exact y2, y3, HQ.out, fun j h3 h4 => HRI.out.no j h3 (by omega)⟩
    · have hI := IsZero_c x.t x.A x.len x.c W
      rw [decide_eq_false (fun e => hq (HZ.out.1 e))] at hI
      have HQ := Lib.hid hq
      clear hq
      have HNO := Lib.hid (show ∀ j, 1 ≤ j → j ≤ pre.length + 1 → psi a j % m ≠ 0 from fun j h3 h4 => by
        rcases Nat.lt_or_ge j (pre.length + 1) with h5 | h5
        · exact HRI.out.no j h3 (by omega)
        · rw [show j = pre.length + 1 by omega]; exact HQ.out)
      by_cases hNK : N = K
      all_goals
        gi_wp2
        refine ⟨trivial, ?_⟩
        refine (CallsIn.inRound l (callsIn_wide.2 hI)).mono ?_
        rintro e W9 ⟨rfl, hb⟩
        clear hI d2 d3 d4 v3 v4 g0 g1
        have HKO := Lib.hid (keepsOthers_below hb)
        have HKC := Lib.hid (Kc.of_below hb)
        replace HRI := Lib.hid (HRI.out.next hb)
        clear hb
        have d2 := HRI.out.c2
        gi_wp2
        have hN9 := HNN.out
        have hn9 := HN.out
        have hK9 := HK.out
        have hL9 := HL.out
        have HR9 : Rki w a m K (pre ++ [x]).length W9 := by
          rw [HLEN.out]
          exact ⟨HRI.out.below, HRI.out.c2, HRI.out.c3, HRI.out.f3, HRI.out.c4, HRI.out.f4, HNO.out⟩
        first
          | exact ⟨HKO.out, Or.inr ⟨rfl, by rw [HLEN.out]; omega, HR9⟩⟩
          | exact ⟨HKO.out, HKC.out, by rw [HLEN.out]; omega, HR9⟩
          | fail "no end"
  case stop =>
    rintro D c9 pre W hD (⟨rfl, hp1, hp2, hrf⟩ | ⟨rfl, hp, hri⟩) hK
    · go_wp2
      refine ⟨by simp, .inl ⟨_, _, rfl, run_takeDeferred hK, ?_⟩⟩
      have hc3 := cell_kept hrf.c3 (grownBy_putObj' _ D (.deferred none)) (fun r e => by cases e; exact ⟨_, hK, rfl⟩)
      have hc4 := cell_kept hrf.c4 (grownBy_putObj' _ D (.deferred none)) (fun r e => by cases e; exact ⟨_, hK, rfl⟩)
      have hB := hrf.below.trans (belowK_b (w := w) (Nat.le_refl _) W D _ (.deferred none) (by omega) hK rfl rfl)
      refine ⟨.tuple #[.int .i64 (pre.length : Int), .int .i64 0], ?_, _, _, rfl, hB, .inl ⟨rfl, _, rfl, hp1, hp2, hrf.yes, hrf.no⟩⟩
      simp [results, Try.results32, go_sem, hc3, hc4]
    · have d3 := hri.c3
      have d4 := hri.c4
      have v3 := hri.f3
      have v4 := hri.f4
      go_wp2
      obtain ⟨y1, y2, y3⟩ := hri.put 0 6
      have hK2 := ((KeepsOthers.setCell W ⟨w.heap.size + 3, 0, none⟩ (.int .i64 0)).trans (KeepsOthers.setCell _ ⟨w.heap.size + 4, 0, none⟩ (.int .i64 6))).same D _ hK rfl
      refine ⟨by simp, .inl ⟨_, _, rfl, run_takeDeferred hK2, ?_⟩⟩
      have hc3 := cell_kept y2 (grownBy_putObj' _ D (.deferred none)) (fun r e => by cases e; exact ⟨_, hK2, rfl⟩)
      have hc4 := cell_kept y3 (grownBy_putObj' _ D (.deferred none)) (fun r e => by cases e; exact ⟨_, hK2, rfl⟩)
      have hB := y1.trans (belowK_b (w := w) (Nat.le_refl _) _ D _ (.deferred none) (by omega) hK2 rfl rfl)
      refine ⟨.tuple #[.int .i64 0, .int .i64 6], ?_, _, _, rfl, hB, .inr ⟨rfl, rfl, fun j h3 h4 => hri.no j h3 (by omega)⟩⟩
      simp [results, Try.results32, go_sem, hc3, hc4]
end
end Go.Proofs.Ytbblckaplddggaa
