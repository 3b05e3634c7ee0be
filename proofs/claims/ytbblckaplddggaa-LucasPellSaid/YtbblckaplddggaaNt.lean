/-
  A range over a function that never ends by itself: the caller's own invariant bounds the rounds. Plain of any program. Nothing here is a claim.
-/
import Derived.Test.YtbblckaplddggaaNs
import Derived.RangeFuncNested
import Derived.RangeFuncBound
import Derived.RangeFuncCalls
import Derived.RangeFuncLeaves
import Derived.RangeFuncFrom
namespace Go.Proofs.Ytbblckaplddggaa
open Go.RowKit

/-- the blocks of cells that there are stay as they are -/
def Kc (W W' : World) : Prop := W.heap.size ≤ W'.heap.size ∧ ∀ (i : Nat) (o : Obj), W.heap[i]? = some o → o.isCells = true → W'.heap[i]? = some o
theorem Kc.trans {A B C : World} (h : Kc A B) (k : Kc B C) : Kc A C := ⟨Nat.le_trans h.1 k.1, fun i o hi ho => k.2 i o (h.2 i o hi ho) ho⟩
theorem Kc.put (W : World) (l : Nat) {o : Obj} (o' : Obj) (h : W.heap[l]? = some o) (ho : o.isCells = false) : Kc W (W.putObj l o') :=
  ⟨(grownBy_putObj' W l o').size, fun i x hi hx => by
    by_cases e : i = l
    · subst e; rw [h] at hi; injection hi with hi; subst hi; rw [ho] at hx; cases hx
    · exact (World.putObj_heap_other e).trans hi⟩
theorem Kc.of_below {W W' : World} (h : Below W.heap.size W W') : Kc W W' := ⟨h.size, fun i _ hi _ => (h.block i (Array.getElem?_eq_some_iff.1 hi).1).trans hi⟩

/-- blocks below D stay as they are, but for cell 0 of block b -/
structure Sto (D b : Nat) (W W' : World) : Prop where
  bel : Below 0 W W'
  block : ∀ i, i < D → i ≠ b → W'.heap[i]? = W.heap[i]?
  own : ∀ o, o ≠ 0 → W'.cell? ⟨b, o, none⟩ = W.cell? ⟨b, o, none⟩
  frz : ∀ o, W'.frozen? ⟨b, o, none⟩ = W.frozen? ⟨b, o, none⟩
theorem Sto.size {D b : Nat} {W W' : World} (h : Sto D b W W') : W.heap.size ≤ W'.heap.size := h.bel.size
theorem Sto.trans {D b : Nat} {A B C : World} (h : Sto D b A B) (k : Sto D b B C) : Sto D b A C :=
  ⟨h.bel.trans k.bel, fun i hi hn => (k.block i hi hn).trans (h.block i hi hn), fun o ho => (k.own o ho).trans (h.own o ho), fun o => (k.frz o).trans (h.frz o)⟩
theorem Sto.of_stp {D b : Nat} {W W' : World} (h : Stp b W W') (hD : D ≤ W.heap.size) : Sto D b W W' :=
  ⟨h.below (Nat.zero_le _) (Nat.zero_le _), fun i hi hn => h.grown.block i (by omega) (fun e => hn (by injection e)), h.own, h.frz⟩
theorem Sto.le {D D' b : Nat} {W W' : World} (h : Sto D b W W') (hD : D' ≤ D) : Sto D' b W W' := ⟨h.bel, fun i hi hn => h.block i (by omega) hn, h.own, h.frz⟩
theorem Sto.two {D b g : Nat} {W W' : World} (h : Sto D b W W') (hg : D ≤ g) (hne : g ≠ b) (u v : Value) : Sto D b W ((W'.setCell ⟨g, 0, none⟩ u).setCell ⟨g, 1, none⟩ v) := by
  refine ⟨⟨h.bel.os, h.bel.tape, h.bel.output, by rw [size_pair]; exact h.bel.size, fun k hk => absurd hk (Nat.not_lt_zero k)⟩, fun i hi hn => ?_, fun o ho => ?_, fun o => by rw [frozen_pair]; exact h.frz o⟩
  · rw [Below.heap_setCell _ _ _ _ (by simp; omega), Below.heap_setCell _ _ _ _ (by simp; omega)]; exact h.block i hi hn
  · rw [World.cell?_setCell_other _ _ _ _ (by intro e; injection e with e; exact hne e), World.cell?_setCell_other _ _ _ _ (by intro e; injection e with e; exact hne e)]
    exact h.own o ho
theorem Sto.cell {D b : Nat} {W W' : World} (h : Sto D b W W') {p : Addr} (hp : p.block < D) (hne : p.block ≠ b) : W'.cell? p = W.cell? p := World.cell?_of_block (h.block p.block hp hne)
theorem Sto.frozen {D b : Nat} {W W' : World} (h : Sto D b W W') {g o : Nat} (hp : g < D) (hne : g ≠ b) : W'.frozen? ⟨g, o, none⟩ = W.frozen? ⟨g, o, none⟩ := by
  have := h.block g hp hne
  simp [World.frozen?, this]

/-- how a round of the caller's body may end -/
def RoundEnd {α : Type} (I : List α → World → Prop) (Ix : Code → List α → World → Prop) (xs : List α) (W : World) : Exit → Act → World → Prop
  | .normal, _, W' => KeepsOthers W W' ∧ Kc W W' ∧ I xs W'
  | .ret, _, W' => KeepsOthers W W' ∧ Ix .ret xs W'
  | .exit id, _, W' => KeepsOthers W W' ∧ Ix (.exit id) xs W'
  | _, _, _ => False

/-- the iterator g with what it has captured: it calls for round after round, and ends where a round says so; no more than N rounds go on; it writes into cell 0 of block b alone -/
def Endless {α : Type} (P : Program) (g : Nat) (lb : Array Value) (encs : α → Array Value) (Ok : List α → α → Prop) (N b : Nat) (w : World) : Prop :=
  ∀ (l : Nat) (J Jx : List α → World → Prop) (W : World), Below w.heap.size w W → (∀ pre W1 W2, J pre W1 → Sto W.heap.size b W1 W2 → J pre W2) → (∀ pre W1, J pre W1 → pre.length < N) →
    (∀ pre x W1, J pre W1 → Ok pre x → YieldAt Fence.wide 2 P l (encs x) W1 fun e W' => (e = .returned (.bool true) ∧ J (pre ++ [x]) W' ∧ Kc W1 W') ∨ (e = .returned (.bool false) ∧ Jx (pre ++ [x]) W')) →
    J [] W → Calls P g (#[.func (.yield l) #[] #[]] ++ lb) W fun e W' => (∃ v, e = .returned v) ∧ ∃ pre, Jx pre W'

theorem wp_range_endless {α : Type} {P : Program} {g : Operand} {ps : Array Tmp} {assign body : Code} {Q : Exit → Act → World → Prop} {a : Act} {w : World} {gf : Nat} {lb : Array Value}
    (hg : a.eval g = .func (.func gf) #[] lb) (eg : ∀ args w, (callFunc gf args).run P w = .ok (.enter gf args) w) {encs : α → Array Value} {Ok : List α → α → Prop} {N b : Nat} (hb : b < w.heap.size) (hseq : Endless P gf lb encs Ok N b w) (hps : ∀ x, (encs x).size = ps.size)
    (I : List α → World → Prop) (Ix : Code → List α → World → Prop) (hI : OwnFrom w.heap.size I) (hIx : ∀ c, OwnFrom w.heap.size (Ix c)) (hS : ∀ pre W W', I pre W → Sto w.heap.size b W W' → I pre W') (hN : ∀ pre W, I pre W → pre.length < N) (h0 : I [] w) (a₁ : α → Act)
    (hassign : ∀ (l : Nat) (x : α) (W : World) (K : Act → World → Prop), K (a₁ x) W →
      assign.wpIn (Fence.wide.inRound l) 2 P (Exit.then K (fun _ _ _ => False)) { tmps := (ps.zip (encs x)).foldl (fun t (p, v) => t.setIfInBounds p v) a.tmps, defers := [] } W)
    (hbody : ∀ (l : Nat) (pre : List α) (x : α) (W : World), I pre W → Ok pre x → body.wpIn (Fence.wide.inRound l) 2 P (RoundEnd I Ix (pre ++ [x]) W) (a₁ x) W)
    (hstop : ∀ (D : Nat) (c : Code) (pre : List α) (W : World), w.heap.size ≤ D → Ix c pre W → W.heap[D]? = some (.deferred (some [])) → c.wp P Q { a with defers := { target := .collected D, args := #[] } :: a.defers } W) :
    (Code.rangeFunc g ps assign body).wp P Q a w := by
  refine (wpIn_wide (n := 3)).1 (wpIn_rangeFunc ?_)
  intro fn hfn
  obtain ⟨rec, hrec⟩ : ∃ rec : LoopState → Option Code → Loop, rec = fun st pe => { state := st, pending := pe, fn, tmps := a.tmps, params := ps, assign, body, defers := w.heap.size } := ⟨_, rfl⟩
  obtain ⟨V, hV⟩ : ∃ V, (w.alloc (.deferred (some []))).alloc (.loop (rec .ready none)) = V := ⟨_, rfl⟩
  have q1 : V.heap[w.heap.size + 1]? = some (.loop (rec .ready none)) := by
    rw [← hV]; have := World.alloc_heap_new (w.alloc (.deferred (some []))) (.loop (rec .ready none)); rwa [World.size_alloc] at this
  have q0 : V.heap[w.heap.size]? = some (.deferred (some [])) := by
    rw [← hV]; exact (Below.heap_alloc _ _ _ (by simp)).trans (World.alloc_heap_new w _)
  have qi : I [] V := by rw [← hV]; exact hI.alloc _ (hI.alloc _ h0)
  have qb : Below w.heap.size w V := by rw [← hV]; exact ((Below.refl _ w).alloc (Nat.le_refl _) _).alloc (by simp) _
  have qs : w.heap.size + 2 ≤ V.heap.size := by rw [← hV]; simp
  refine ⟨w.heap.size + 1, [{ target := .collected w.heap.size, args := #[] }], V, { target := .fn (.func gf) lb, args := #[.func (.yield (w.heap.size + 1)) #[] #[]] }, V, gf,
    #[.func (.yield (w.heap.size + 1)) #[] #[]] ++ lb, V, ?_, ?_, ?_, ?_, fun _ => by omega, ?_⟩
  · rw [← hV, hrec]; exact run_enterLoop_outer _ _ _ _ _
  · simp only [resolve, hg]
    simp [go_sem]
  · intro f' hf'; simp [Target.leads] at hf'; subst hf'; trivial
  · simp [invoke, go_sem, eg]
  refine callsIn_wide.2 ((hseq (w.heap.size + 1)
    (fun pre W => I pre W ∧ W.heap[w.heap.size + 1]? = some (.loop (rec .ready none)) ∧ W.heap[w.heap.size]? = some (.deferred (some [])))
    (fun pre W => ∃ c, Ix c pre W ∧ W.heap[w.heap.size + 1]? = some (.loop (rec .done (some c))) ∧ W.heap[w.heap.size]? = some (.deferred (some [])))
    V qb (fun pre W1 W2 h hs => ⟨hS _ _ _ h.1 (hs.le (by omega)), (hs.block _ (by omega) (by omega)).trans h.2.1, (hs.block _ (by omega) (by omega)).trans h.2.2⟩)
    (fun pre W h => hN pre W h.1) ?_ (And.intro qi (And.intro q1 q0))).mono ?_)
  · rintro pre x W ⟨hi, hl, hk⟩ hok
    have hlt : w.heap.size + 1 < W.heap.size := (Array.getElem?_eq_some_iff.1 hl).1
    have hy := run_yield (P := P) (args := encs x) hl (by rw [hrec]; exact hps x)
    rw [hrec] at hy
    refine ⟨fn, _, assign, body, hy, roundIn_of_wpIn hfn (hassign _ x W _ (Exists.intro _ (And.intro (run_beginRound hl (by rw [hrec])) ?_)))⟩
    have l2 : (W.putObj (w.heap.size + 1) (.loop { rec .ready none with state := .busy })).heap[w.heap.size + 1]? = some (.loop { rec .ready none with state := .busy }) := World.putObj_heap_same hlt
    have k2 : (W.putObj (w.heap.size + 1) (.loop { rec .ready none with state := .busy })).heap[w.heap.size]? = some (.deferred (some [])) := (World.putObj_heap_other (by omega)).trans hk
    have c2 : Kc W (W.putObj (w.heap.size + 1) (.loop { rec .ready none with state := .busy })) := Kc.put _ _ _ hl rfl
    refine wpIn_mono (hbody _ pre x _ (hI.putObj _ hi (by omega) hl rfl) hok) ?_
    have fin : ∀ (jump : Option Code) (W3 : World), KeepsOthers (W.putObj (w.heap.size + 1) (.loop { rec .ready none with state := .busy })) W3 →
        (Instr.endRound (w.heap.size + 1) jump).run P W3 = .ok (.bool jump.isNone) (W3.putObj (w.heap.size + 1) (.loop (rec (if jump.isNone then .ready else .done) jump))) ∧
        W3.heap[w.heap.size + 1]? = some (.loop { rec .ready none with state := .busy }) ∧
        (W3.putObj (w.heap.size + 1) (.loop (rec (if jump.isNone then .ready else .done) jump))).heap[w.heap.size + 1]? = some (.loop (rec (if jump.isNone then .ready else .done) jump)) ∧
        (W3.putObj (w.heap.size + 1) (.loop (rec (if jump.isNone then .ready else .done) jump))).heap[w.heap.size]? = some (.deferred (some [])) := fun jump W3 k3 => by
      have l3 := k3.same _ _ l2 rfl
      have := run_endRound (P := P) jump l3
      rw [hrec] at this ⊢
      exact ⟨this, by rw [hrec] at l3; exact l3, World.putObj_heap_same (Array.getElem?_eq_some_iff.1 l3).1, (World.putObj_heap_other (by omega)).trans (k3.same _ _ k2 rfl)⟩
    rintro e a3 W3 hp
    cases e with
    | normal =>
      obtain ⟨k3, kc3, i3⟩ := hp
      obtain ⟨hr, l3, l4, k4⟩ := fin none W3 k3
      exact ⟨_, _, hr, .inl ⟨rfl, ⟨hI.putObj _ i3 (by omega) l3 rfl, l4, k4⟩, (c2.trans kc3).trans (Kc.put _ _ _ l3 rfl)⟩⟩
    | ret =>
      obtain ⟨k3, i3⟩ := hp
      obtain ⟨hr, l3, l4, k4⟩ := fin (some .ret) W3 k3
      exact ⟨_, _, hr, .inr ⟨rfl, .ret, (hIx _).putObj _ i3 (by omega) l3 rfl, l4, k4⟩⟩
    | exit id =>
      obtain ⟨k3, i3⟩ := hp
      obtain ⟨hr, l3, l4, k4⟩ := fin (some (.exit id)) W3 k3
      exact ⟨_, _, hr, .inr ⟨rfl, .exit id, (hIx _).putObj _ i3 (by omega) l3 rfl, l4, k4⟩⟩
    | goto t => exact hp.elim
    | panic ch => exact hp.elim
    | outgrown => exact hp.elim
  · rintro e W2 ⟨⟨v, rfl⟩, pre, c, hi, hl, hk⟩
    exact ⟨some c, _, by have := run_endLoop (P := P) hl (by rw [hrec]; simp); rw [hrec] at this; exact this, (wpIn_wide (n := 3)).2 (hstop _ c pre _ (Nat.le_refl _) ((hIx c).putObj _ hi (by omega) hl rfl) ((World.putObj_heap_other (by omega)).trans hk))⟩

section
variable {W W' : World}
theorem Kc.blk (h : Kc W W') {p : Addr} {v : Value} (hc : W.cell? p = some v) : W'.heap[p.block]? = W.heap[p.block]? := by
  obtain ⟨o, h1, h2⟩ := cells_of_cell hc
  exact (h.2 _ _ h1 h2).trans h1.symm
theorem Kc.cell (h : Kc W W') {p : Addr} {v : Value} (hc : W.cell? p = some v) : W'.cell? p = some v := (World.cell?_of_block (h.blk hc)).trans hc
theorem Kc.frozen (h : Kc W W') {g o o' : Nat} {v : Value} (hc : W.cell? ⟨g, o', none⟩ = some v) : W'.frozen? ⟨g, o, none⟩ = W.frozen? ⟨g, o, none⟩ := by
  have := h.blk hc
  simp only at this
  simp [World.frozen?, this]
theorem Is.kc {z : Int} {t : Bool} {A : Option Addr} {n c : Nat} (h : Is W z t A n c) (hk : Kc W W') : Is W' z t A n c := by
  obtain ⟨h1, h2, h3, h4, h5⟩ := h
  refine ⟨h1, h2, ⟨h3.len, h3.sm, fun hp => ?_⟩, h4, h5⟩
  obtain ⟨b', o, e, hlt, hcell⟩ := h3.at_ hp
  exact ⟨b', o, e, Nat.lt_of_lt_of_le hlt hk.1, fun i hi => hk.cell (hcell i hi)⟩
theorem Vn.kc {k z : Int} {t : Bool} {A : Option Addr} {n c : Nat} (h : Vn W k z t A n c) (hk : Kc W W') : Vn W' k z t A n c := fun e => ⟨(h e).is.kc hk, (h e).sz⟩
theorem Vb.kc {w : World} {g : Nat} {t : Bool} {A : Option Addr} {n c : Nat} (h : Vb w W g t A n c) (hk : Kc W W') : Vb w W' g t A n c :=
  ⟨h.ge, Nat.lt_of_lt_of_le h.lt hk.1, hk.cell h.c0, hk.cell h.c1, (hk.frozen h.c0).trans h.f0, (hk.frozen h.c0).trans h.f1⟩
theorem Cc.kc {b : Nat} {k : Int} (h : Cc W b k) (hk : Kc W W') : Cc W' b k := ⟨Nat.lt_of_lt_of_le h.lt hk.1, hk.cell h.c0, (hk.frozen h.c0).trans h.f0⟩
theorem Wk.kc {b f : Nat} {caps : Array Value} {ta : Bool} {Aa : Option Addr} {na ca : Nat} {tt : Bool} {At : Option Addr} {nt ct : Nat} (h : Wk W b f caps ta Aa na ca tt At nt ct) (hk : Kc W W') : Wk W' b f caps ta Aa na ca tt At nt ct :=
  ⟨hk.cell h.e1, hk.cell h.a0, hk.cell h.a1, hk.cell h.t0, hk.cell h.t1⟩
theorem Box.kc {g : Nat} {z : Int} {t : Bool} {A : Option Addr} {n c : Nat} (h : Box W g z t A n c) (hk : Kc W W') : Box W' g z t A n c := ⟨Nat.lt_of_lt_of_le h.lt hk.1, hk.cell h.c0, hk.cell h.c1, h.is.kc hk⟩
theorem Evm.kc {b v mb : Nat} {M : Int} {tm : Bool} {Am : Option Addr} {nm cm : Nat} (h : Evm b v mb M tm Am nm cm W) (hk : Kc W W') : Evm b v mb M tm Am nm cm W' :=
  ⟨h.ne, h.neb, Nat.lt_of_lt_of_le h.lt hk.1, hk.cell h.vc, h.bx.kc hk, h.sz⟩
theorem Ms.kc {T b f : Nat} {caps : Array Value} {g : Int → Int} {Ev : World → Prop} {zt za k : Int} {ta : Bool} {Aa : Option Addr} {na ca : Nat} {tt : Bool} {At : Option Addr} {nt ct : Nat} (h : Ms T b f caps g Ev zt za ta Aa na ca tt At nt ct W k) (hk : Kc W W') (he : Ev W → Ev W') : Ms T b f caps g Ev zt za ta Aa na ca tt At nt ct W' k :=
  ⟨h.ea, h.wk.kc hk, he h.ev, h.cc.kc hk, h.st, h.vt.kc hk, h.va.kc hk⟩
end
end Go.Proofs.Ytbblckaplddggaa
