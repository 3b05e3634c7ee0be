/- register machines: what they are in memory; what is valid -/
import Derived.Lib.Hide
import Derived.WalkKit
import Derived.WalkLawsBesides
import Derived.WalkSpells
import Derived.Deep.QuietTactic
import Derived.BigQuiet
import Derived.Below
import Derived.Deep.DeepCutAuto
import Derived.Deep.CutBlock
import Derived.Deep.RegionHeld3
import Derived.Deep.RegionWith
import Derived.BigRegion
import Derived.RegionTactic
import Derived.Laws.EntriesVeiled
import Derived.Laws.AppendOwn
import Derived.Deep.OwnRows
import Derived.Maps.AppendAt
import Derived.Calls
import Derived.Test.YthjdnidapbhdlaaDoorRows
set_option maxRecDepth 100000
namespace Go.Proofs.YthjdnidapbhdlaaDoor
open Go.RowKit
/-- an instruction -/
structure Ins where
  op : Int
  reg : Int
  nx : Int
  zr : Int
def insAt (cs : List Ins) (k : Nat) : Ins := cs.getD k ⟨0, 0, 0, 0⟩
/-- the instructions of a slice -/
structure RdC (w : World) (A : Option Addr) (n : Nat) (cs : List Ins) : Prop where
  len : cs.length = n
  at_ : 0 < n → ∃ b o, A = some ⟨b, o, none⟩ ∧ b < w.heap.size ∧ ∀ k, k < n →
    w.cell? ⟨b, o + k * 4, none⟩ = some (.int .i64 (insAt cs k).op) ∧ w.cell? ⟨b, o + k * 4 + 1, none⟩ = some (.int .i64 (insAt cs k).reg) ∧
    w.cell? ⟨b, o + k * 4 + 2, none⟩ = some (.int .i64 (insAt cs k).nx) ∧ w.cell? ⟨b, o + k * 4 + 3, none⟩ = some (.int .i64 (insAt cs k).zr)
theorem RdC.below {w w' : World} {A : Option Addr} {n : Nat} {cs : List Ins} (h : RdC w A n cs) (hb : Below w.heap.size w w') : RdC w' A n cs := by
  refine ⟨h.len, fun h0 => ?_⟩
  obtain ⟨b, o, e, hlt, hc⟩ := h.at_ h0
  refine ⟨b, o, e, Nat.lt_of_lt_of_le hlt hb.size, fun k hk => ?_⟩
  obtain ⟨c0, c1, c2, c3⟩ := hc k hk
  exact ⟨(hb.cell (p := ⟨b, o + k * 4, none⟩) hlt).trans c0, (hb.cell (p := ⟨b, o + k * 4 + 1, none⟩) hlt).trans c1, (hb.cell (p := ⟨b, o + k * 4 + 2, none⟩) hlt).trans c2, (hb.cell (p := ⟨b, o + k * 4 + 3, none⟩) hlt).trans c3⟩
/-- the ints of a slice -/
structure RdI (w : World) (A : Option Addr) (n : Nat) (zs : List Int) : Prop where
  len : zs.length = n
  at_ : 0 < n → ∃ b o, A = some ⟨b, o, none⟩ ∧ b < w.heap.size ∧ ∀ k, k < n → w.cell? ⟨b, o + k, none⟩ = some (.int .i64 (zs.getD k 0))
theorem RdI.below {w w' : World} {A : Option Addr} {n : Nat} {zs : List Int} (h : RdI w A n zs) (hb : Below w.heap.size w w') : RdI w' A n zs := by
  refine ⟨h.len, fun h0 => ?_⟩
  obtain ⟨b, o, e, hlt, hc⟩ := h.at_ h0
  exact ⟨b, o, e, Nat.lt_of_lt_of_le hlt hb.size, fun k hk => (hb.cell (p := ⟨b, o + k, none⟩) hlt).trans (hc k hk)⟩
theorem RdI.nil (w : World) (A : Option Addr) : RdI w A 0 [] := ⟨rfl, fun h => absurd h (by omega)⟩
theorem bel_alloc (W : World) (o : Obj) : Below W.heap.size W (W.alloc o) := (Below.refl _ _).alloc (Nat.le_refl _) o
def inB (n : Nat) (i : Int) : Bool := decide (0 ≤ i) && decide (i < (n : Int))
abbrev aggM (R : Int) (A : Option Addr) (n c : Nat) : Value := .agg #[.int .i64 R, .slice A n c]
abbrev aggI (x : Ins) : Value := .agg #[.int .i64 x.op, .int .i64 x.reg, .int .i64 x.nx, .int .i64 x.zr]
def RetB (b : Bool) (w : World) (e : Ending) (w' : World) : Prop := e = .returned (.bool b) ∧ Below w.heap.size w w'
set_option maxHeartbeats 1000000 in
theorem isIndex_c (R : Int) (A : Option Addr) (n c : Nat) (i : Int) (w : World) :
    Calls Tryd.prog 60 #[.agg #[.int .i64 R, .slice A n c], .int .i64 i] w (RetB (inB n i) w) := by
  have HB := Lib.hid (bel_alloc w (.cells #[.int .i64 R, .slice A n c] 43))
  by_cases h1 : 0 ≤ i
  · by_cases h2 : i < (n : Int)
    · have H := Lib.hid (show inB n i = true by simp [inB, h1, h2])
      have t1 : decide (0 ≤ i) = true := decide_eq_true h1
      have t2 : decide (i < (n : Int)) = true := decide_eq_true h2
      go_enter Tryd.func60, Tryd.ntmps60
      go_wp2
      go_ret
      exact ⟨by rw [H.out]; rfl, HB.out⟩
    · have H := Lib.hid (show inB n i = false by simp [inB, h2])
      have t1 : decide (0 ≤ i) = true := decide_eq_true h1
      have t2 : decide (i < (n : Int)) = false := decide_eq_false h2
      go_enter Tryd.func60, Tryd.ntmps60
      go_wp2
      go_ret
      exact ⟨by rw [H.out]; rfl, HB.out⟩
  · have H := Lib.hid (show inB n i = false by simp [inB, h1])
    have t1 : decide (0 ≤ i) = false := decide_eq_false h1
    go_enter Tryd.func60, Tryd.ntmps60
    go_wp2
    go_ret
    exact ⟨by rw [H.out]; rfl, HB.out⟩
end Go.Proofs.YthjdnidapbhdlaaDoor
