/-
  Plain facts on memory: a slice of words that reads as a list of numbers; a block of words that is known whole. Nothing here is a claim.
-/
import Derived.Test.YtmgkgomecakoiaaRows
import Derived.Test.YtmgkgomecakoiaaMath
import Derived.WalkKit
import Derived.WalkSpells
import Derived.WalkLawsBesides
import Derived.Lib.Hide
import Derived.Deep.Draws
import Derived.Laws.Rows
import Derived.Laws.CopyOwn
import Derived.Deep.OwnRows
import Derived.Deep.QuietTactic
import Derived.BigQuiet
namespace Go.Proofs.Ytmgkgomecakoiaa
open Go.RowKit Go.Deep

/-- a word in memory -/
def wd (n : Nat) : Value := .int .u32 (n : Int)

/-- the slice '.slice A n c' reads as the words xs -/
structure Rd (w : World) (A : Option Addr) (n : Nat) (xs : List Nat) : Prop where
  len : xs.length = n
  sm : small xs
  at_ : 0 < n → ∃ b o, A = some ⟨b, o, none⟩ ∧ b < w.heap.size ∧ ∀ k, k < n → w.cell? ⟨b, o + k, none⟩ = some (.int .u32 ((xs.getD k 0 : Nat) : Int))

/-- the slice does not lie in block g -/
def Off (A : Option Addr) (g : Nat) : Prop := ∀ a, A = some a → a.block ≠ g

section
variable {w w' : World} {A : Option Addr} {n : Nat} {xs : List Nat}

theorem Rd.keep (h : Rd w A n xs) (hs : w.heap.size ≤ w'.heap.size) (hk : ∀ a, A = some a → 0 < n → w'.heap[a.block]? = w.heap[a.block]?) : Rd w' A n xs :=
  ⟨h.len, h.sm, fun hn => by
    obtain ⟨b, o, e, hb, hc⟩ := h.at_ hn
    exact ⟨b, o, e, by omega, fun k hk' => (World.cell?_of_block (w := w) (a := ⟨b, o + k, none⟩) (hk ⟨b, o, none⟩ e hn)).trans (hc k hk')⟩⟩
theorem Rd.blk (h : Rd w A n xs) (hn : 0 < n) : ∀ a, A = some a → a.block < w.heap.size := by
  intro a ha
  obtain ⟨b, o, e, hb, _⟩ := h.at_ hn
  rw [e] at ha
  injection ha with ha
  subst ha
  exact hb
theorem Rd.below (h : Rd w A n xs) (hb : Below w.heap.size w w') : Rd w' A n xs :=
  h.keep hb.size fun a ha hn => hb.block _ (h.blk hn a ha)
theorem Rd.drewN (h : Rd w A n xs) (k : Nat) : Rd (w.drewN k) A n xs := h.keep (Nat.le_refl _) fun _ _ _ => rfl
theorem Rd.drew (h : Rd w A n xs) : Rd w.drew A n xs := h.drewN 1
theorem Rd.alloc (h : Rd w A n xs) (o : Obj) : Rd (w.alloc o) A n xs := h.below ((Below.refl _ _).alloc (Nat.le_refl _) o)
theorem Rd.grown (h : Rd w A n xs) {g : Nat} (hg : w.grownBy w' (some g)) (ho : 0 < n → Off A g) : Rd w' A n xs :=
  h.keep hg.size fun a ha hn => hg.block _ (h.blk hn a ha) (fun e => ho hn a ha (by injection e))
theorem Rd.nil (A : Option Addr) : Rd w A 0 [] := ⟨rfl, small_nil, fun h => absurd h (by omega)⟩
theorem Rd.take (h : Rd w A n xs) {m : Nat} (hm : m ≤ n) : Rd w A m (xs.take m) := by
  refine ⟨by rw [List.length_take, h.len]; omega, small_take h.sm m, fun h0 => ?_⟩
  obtain ⟨b, o, e, hb, hc⟩ := h.at_ (by omega)
  refine ⟨b, o, e, hb, fun k hk => ?_⟩
  rw [hc k (by omega)]
  simp [List.getD_eq_getElem?_getD, hk]
theorem Rd.drop (h : Rd w A n xs) {m : Nat} (hm : m ≤ n) : Rd w (A.map (·.add m)) (n - m) (xs.drop m) := by
  refine ⟨by rw [List.length_drop, h.len], small_drop h.sm m, fun h0 => ?_⟩
  obtain ⟨b, o, e, hb, hc⟩ := h.at_ (by omega)
  refine ⟨b, o + m, by rw [e]; by_cases h0 : m = 0 <;> simp [Addr.add, h0], hb, fun k hk => ?_⟩
  rw [Nat.add_assoc, hc (m + k) (by omega)]
  simp [List.getD_eq_getElem?_getD, List.getElem?_drop]
theorem Rd.of (h : Rd w A n xs) (hn : 0 < n) : ∃ b o, A = some ⟨b, o, none⟩ ∧ b < w.heap.size ∧ ∀ k, k < n → w.cell? ⟨b, o + k, none⟩ = some (.int .u32 ((xs.getD k 0 : Nat) : Int)) := h.at_ hn
end

/-- a block of words -/
def row (xs : List Nat) : Obj := .cells (xs.map wd).toArray 66 (0, 0)
/-- block g is just these words, and may be written -/
def Bk (w : World) (g : Nat) (xs : List Nat) : Prop := small xs ∧ w.heap[g]? = some (row xs)

section
variable {w w' : World} {g : Nat} {xs : List Nat}
theorem Bk.lt (h : Bk w g xs) : g < w.heap.size := by
  rcases Nat.lt_or_ge g w.heap.size with hlt | hge
  · exact hlt
  · have := h.2; rw [Array.getElem?_eq_none hge] at this; cases this
theorem Bk.cell (h : Bk w g xs) (i : Nat) (hi : i < xs.length) : w.cell? ⟨g, i, none⟩ = some (.int .u32 ((xs.getD i 0 : Nat) : Int)) := by
  rw [cell_of_row w g i _ _ _ h.2]
  simp [List.getD_eq_getElem?_getD, List.getElem?_eq_getElem hi, wd]
theorem Bk.frozen (h : Bk w g xs) (i : Nat) : w.frozen? ⟨g, i, none⟩ = false := by
  have := h.2
  simp [World.frozen?, this, row]
theorem Bk.set_ (h : Bk w g xs) (i v : Nat) (hv : v < 4294967296) : Bk (w.setCell ⟨g, i, none⟩ (.int .u32 (v : Int))) g (xs.set i v) := by
  refine ⟨small_set h.1 i v hv, ?_⟩
  have := h.2
  simp [World.setCell, Array.getElem?_modify, this, List.map_set, wd, row]
theorem Bk.keep (h : Bk w g xs) (hk : w'.heap[g]? = w.heap[g]?) : Bk w' g xs := ⟨h.1, hk.trans h.2⟩
theorem Bk.below {B : Nat} (h : Bk w g xs) (hb : Below B w w') (hg : g < B) : Bk w' g xs := h.keep (hb.block g hg)
theorem Bk.drewN (h : Bk w g xs) (n : Nat) : Bk (w.drewN n) g xs := h
theorem Bk.alloc (h : Bk w g xs) (o : Obj) : Bk (w.alloc o) g xs := h.keep (Below.heap_alloc w o g h.lt)
theorem Bk.far (h : Bk w g xs) {p : Addr} (hp : g ≠ p.block) (u : Value) : Bk (w.setCell p u) g xs := h.keep (Below.heap_setCell w p u g hp)
theorem Bk.grown {g' : Nat} (h : Bk w g xs) (hb : w.grownBy w' (some g')) (hg : g ≠ g') : Bk w' g xs := h.keep (hb.block g h.lt (fun e => hg (by injection e)))
theorem Bk.rd (h : Bk w g xs) : Rd w (some ⟨g, 0, none⟩) xs.length xs :=
  ⟨rfl, h.1, fun _ => ⟨g, 0, rfl, h.lt, fun k hk => by rw [Nat.zero_add]; exact h.cell k hk⟩⟩
theorem Bk.rdAt (h : Bk w g xs) {o n : Nat} (hn : o + n ≤ xs.length) : Rd w (some ⟨g, o, none⟩) n ((xs.drop o).take n) := by
  refine ⟨by simp; omega, small_take (small_drop h.1 _) _, fun _ => ⟨g, o, rfl, h.lt, fun k hk => ?_⟩⟩
  rw [h.cell _ (by omega)]
  simp [List.getD_eq_getElem?_getD, List.getElem?_drop, hk]
end

theorem Bk.new (w : World) {xs : List Nat} (h : small xs) : Bk (w.alloc (row xs)) w.heap.size xs := ⟨h, heap_alloc_new w _⟩
theorem Bk.new0 (w : World) (n : Nat) : Bk (w.alloc (row (List.replicate n 0))) w.heap.size (List.replicate n 0) :=
  Bk.new w (fun x hx => by have := List.eq_of_mem_replicate hx; omega)

/-! a part of a block put in place of another -/
def splice (L : List Nat) (o : Nat) (cs : List Nat) : List Nat := L.take o ++ cs ++ L.drop (o + cs.length)
theorem splice_len {L : List Nat} {o : Nat} {cs : List Nat} (h : o + cs.length ≤ L.length) : (splice L o cs).length = L.length := by
  simp [splice]; omega
theorem splice_self {L : List Nat} {o n : Nat} (h : o + n ≤ L.length) : splice L o ((L.drop o).take n) = L := by
  unfold splice
  have e : ((L.drop o).take n).length = n := by simp; omega
  rw [e, ← List.drop_drop, List.append_assoc, List.take_append_drop, List.take_append_drop]
theorem splice_small {L : List Nat} (h : small L) (o : Nat) {cs : List Nat} (hc : small cs) : small (splice L o cs) :=
  small_append.2 ⟨small_append.2 ⟨small_take h _, hc⟩, small_drop h _⟩
theorem splice_get {L : List Nat} {o : Nat} {cs : List Nat} (h : o ≤ L.length) {i : Nat} (hi : i < cs.length) : (splice L o cs).getD (o + i) 0 = cs.getD i 0 := by
  simp only [splice, List.getD_eq_getElem?_getD]
  rw [List.append_assoc, List.getElem?_append_right (by simp; omega)]
  rw [List.length_take, Nat.min_eq_left h, Nat.add_sub_cancel_left, List.getElem?_append_left hi]
theorem splice_set {L : List Nat} {o : Nat} {cs : List Nat} (h : o ≤ L.length) {i : Nat} (hi : i < cs.length) (v : Nat) : (splice L o cs).set (o + i) v = splice L o (cs.set i v) := by
  simp only [splice, List.length_set]
  rw [List.append_assoc, List.set_append_right _ _ (by simp; omega)]
  rw [List.length_take, Nat.min_eq_left h, Nat.add_sub_cancel_left, List.set_append_left _ _ hi, List.append_assoc]
theorem splice_zero {L cs : List Nat} : splice L 0 cs = cs ++ L.drop cs.length := by simp [splice]
theorem splice_all {L cs : List Nat} (h : cs.length = L.length) : splice L 0 cs = cs := by
  rw [splice_zero, h, List.drop_length, List.append_nil]
theorem splice_part {L : List Nat} {o : Nat} {cs : List Nat} (h : o ≤ L.length) : ((splice L o cs).drop o).take cs.length = cs := by
  simp only [splice]
  rw [List.append_assoc, List.drop_append, List.drop_of_length_le (by simp; omega), List.length_take, Nat.min_eq_left h, Nat.sub_self, List.drop_zero, List.nil_append, List.take_left]

theorem info32 : (Try.prog.info? 66).map (fun i => (i.zero, i.size, i.bytes)) = some (some (.int .u32 0), 1, 4) := by kernel_rfl
theorem size32 : (Try.prog.info? 66).map (·.size) = some 1 := by kernel_rfl
/-- make of words -/
theorem mk_words (n : Nat) (hn : n ≤ 70368744177664) (w : World) :
    (Instr.makeSlice 22 (.int .i64 (n : Int)) (.int .i64 (n : Int))).run Try.prog w = .ok (.slice (some ⟨w.heap.size, 0, none⟩) n n) (w.alloc (row (List.replicate n 0))) := by
  have h := run_make_row' (P := Try.prog) 22 66 (.int .u32 0) 4 Try.underlying22 info32 rfl .i64 .i64 n (by omega) (by omega) w
  rw [h]
  have e : madeCells #[Value.int .u32 0] n = ((List.replicate n 0).map wd).toArray := by
    apply Array.ext'
    apply List.ext_getElem?
    intro i
    by_cases hi : i < n
    · simp [madeCells, hi, wd, Nat.mod_one]
    · simp [madeCells, hi]
  rw [e]
  rfl

/-- copy into a block of words -/
theorem wpList_copy_words {w : World} {ops : Array Oper} {rest : List Oper} {o : Oper} {a : Act} {Q : Exit → Act → World → Prop} (hgd : o.guard = none) (d s : Operand)
    (ho : o.op = .call { callee := .builtin .copy, args := #[d, s], argTypes := #[22, 22] })
    (dp sp : Option Addr) (dLen dCap sLen sCap : Nat) (hd : a.eval d = .slice dp dLen dCap) (hs : a.eval s = .slice sp sLen sCap)
    (g off : Nat) (L xs : List Nat) (hg : Bk w g L) (hr : Rd w sp sLen xs) (hdp : dp = some ⟨g, off, none⟩) (hle : sLen ≤ dLen) (hfit : off + sLen ≤ L.length)
    (h : ∀ w', Bk w' g (splice L off xs) → w.grownBy w' (some g) → wpList Try.prog ops Q rest (a.put o.dst (.int .i64 (sLen : Int))) w') :
    wpList Try.prog ops Q (o :: rest) a w := by
  subst hdp
  have hlen := hr.len
  by_cases h0 : sLen = 0
  · subst h0
    have hx : xs = [] := List.eq_nil_of_length_eq_zero hlen
    subst hx
    refine wpList_copy_nothing hgd d s _ _ ho 66 Try.underlying22 size32 _ sp dLen dCap 0 sCap hd hs (by simp) ?_
    refine h w ?_ ⟨rfl, rfl, rfl, Nat.le_refl _, fun _ _ _ => rfl⟩
    have e : splice L off [] = L := by simp [splice]
    rw [e]
    exact hg
  · obtain ⟨b, q, rfl, hb, hc⟩ := hr.at_ (by omega)
    have hn : (xs.map wd).length = Nat.min sLen dLen := by
      rw [List.length_map, hlen]; exact (Nat.min_eq_left hle).symm
    refine wpList_copy_own hgd d s _ _ ho 66 Try.underlying22 size32 g off dLen dCap _ sLen sCap hd hs _ 66 hg.2 (xs.map wd) hn ?_ (by simp; omega) ?_ ?_
    · intro j v hv
      have hj : j < xs.length := by
        rcases Nat.lt_or_ge j xs.length with h1 | h1
        · exact h1
        · rw [List.getElem?_eq_none (by simpa using h1)] at hv; cases hv
      have ea : (⟨b, q, none⟩ : Addr).add j = ⟨b, q + j, none⟩ := by unfold Addr.add; split <;> simp_all
      rw [ea, hc j (by omega)]
      rw [← hv]
      simp [wd, List.getElem?_eq_getElem hj]
    · intro v hv
      obtain ⟨x, _, rfl⟩ := List.mem_map.1 hv
      rfl
    · have e : (((xs.map wd).length : Nat) : Int) = (sLen : Int) := by rw [List.length_map, hlen]
      have e2 : (goInt (xs.map wd).length) = .int .i64 (sLen : Int) := by unfold goInt; rw [e]
      rw [e2]
      refine h _ ⟨splice_small hg.1 _ hr.sm, ?_⟩ ?_
      · rw [setRow_heap w g _ _ _ _ hg.2]
        simp [row, splice, List.map_take, List.map_drop]
      · exact ⟨rfl, rfl, rfl, by simp [World.setRow], fun i _ hne => setRow_other w g i _ (fun e => hne (by rw [e]))⟩

theorem below_drewN {B : Nat} {a w : World} (h : Below B a w) (n : Nat) : Below B a (w.drewN n) := ⟨h.os, h.tape, h.output, h.size, h.block⟩
theorem grown_drewN {a w : World} {row : Option Nat} (h : a.grownBy w row) (n : Nat) : a.grownBy (w.drewN n) row := ⟨h.os, h.tape, h.output, h.size, h.block⟩
theorem grown_setCell {a w : World} {g : Nat} (h : a.grownBy w (some g)) {p : Addr} (hp : p.block = g ∨ a.heap.size ≤ p.block) (u : Value) : a.grownBy (w.setCell p u) (some g) :=
  ⟨h.os, h.tape, h.output, by simpa [World.setCell] using h.size, fun i hi hne => (Below.heap_setCell w p u i (by
    rintro rfl
    rcases hp with hp | hp
    · exact hne (by rw [hp])
    · omega)).trans (h.block i hi hne)⟩
theorem grown_of_below {a w : World} (h : Below a.heap.size a w) (row : Option Nat) : a.grownBy w row := ⟨h.os, h.tape, h.output, h.size, fun i hi _ => h.block i hi⟩
theorem grown_trans {a b c : World} {g : Nat} (h : a.grownBy b (some g)) (k : b.grownBy c (some g)) : a.grownBy c (some g) :=
  ⟨k.os.trans h.os, k.tape.trans h.tape, k.output.trans h.output, Nat.le_trans h.size k.size, fun i hi hne => (k.block i (Nat.lt_of_lt_of_le hi h.size) hne).trans (h.block i hi hne)⟩
theorem below_of_grown {a w : World} {B g : Nat} (h : a.grownBy w (some g)) (hB : B ≤ a.heap.size) (hg : B ≤ g) : Below B a w :=
  ⟨h.os, h.tape, h.output, h.size, fun i hi => h.block i (by omega) (fun e => by injection e; omega)⟩

theorem below_new {w w1 : World} {o : Obj} (h : (w.alloc o).grownBy w1 (some w.heap.size)) : Below w.heap.size w w1 :=
  ((Below.refl _ _).alloc (Nat.le_refl _) o).trans (below_of_grown h (by simp) (Nat.le_refl _))
theorem quiet_add_same {P : Program} {f : FuncId} {args : Array Value} {w : World} {a n : Nat} {v : Value}
    (h : Calls P f args (w.drewN (a + n)) fun e w' => e = .returned v ∧ w' = w.drewN (a + n)) :
    Calls P f args (w.drewN (a + n)) fun e w'' => e = .returned v ∧ ∃ m, w'' = w.drewN (a + m) :=
  h.mono fun _ _ ⟨he, hm⟩ => ⟨he, n, hm⟩
/-- a call that only reads, and returns v -/
def Quietly (w : World) (v : Value) (e : Ending) (w' : World) : Prop := e = .returned v ∧ ∃ k, w' = w.drewN k
theorem quiet_add_q {P : Program} {f : FuncId} {args : Array Value} {w : World} {a n : Nat} {v : Value}
    (h : Calls P f args (w.drewN (a + n)) (Quietly (w.drewN (a + n)) v)) :
    Calls P f args (w.drewN (a + n)) fun e w'' => e = .returned v ∧ ∃ m, w'' = w.drewN (a + m) :=
  h.mono fun _ _ ⟨he, m, hm⟩ => ⟨he, n + m, by rw [hm, World.drewN_drewN, Nat.add_assoc]⟩

/-- a new slice of the call's own that reads as the words of v -/
def Out (w : World) (v : Nat) (e : Ending) (w' : World) : Prop :=
  ∃ A c, e = .returned (.slice A (words v).length c) ∧ Rd w' A (words v).length (words v) ∧ (words v).length ≤ c ∧ c ≤ 9223372036854775807 ∧ Below w.heap.size w w' ∧
    (0 < (words v).length → ∃ g L, A = some ⟨g, 0, none⟩ ∧ w.heap.size ≤ g ∧ Bk w' g L ∧ L.take (words v).length = words v)

/-- a new block of the call's own with the words xs -/
def New (w : World) (xs : List Nat) (e : Ending) (w' : World) : Prop :=
  ∃ g, e = .returned (.slice (some ⟨g, 0, none⟩) xs.length xs.length) ∧ w.heap.size ≤ g ∧ Bk w' g xs ∧ Below w.heap.size w w'

/-- where a trimmed slice begins -/
def trimA (A : Option Addr) (m : Nat) : Option Addr := if m = 0 then none else A
theorem trimA_zero (A : Option Addr) : trimA A 0 = none := rfl
theorem trimA_pos (A : Option Addr) {m : Nat} (h : m ≠ 0) : trimA A m = A := if_neg h
def TrimPost (A : Option Addr) (m : Nat) (w : World) (e : Ending) (w' : World) : Prop :=
  ∃ A', e = .returned (.slice A' m m) ∧ (A' = A ∨ m = 0) ∧ ∃ k, w' = w.drewN k

theorem out_of_trim {w w1 w' : World} {g v : Nat} {cs : List Nat} {e : Ending} (hb : Bk w1 g cs) (hg : w.heap.size ≤ g) (hv : val cs = v) (hw : Below w.heap.size w w1) (hl : cs.length ≤ 9223372036854775807)
    (h : TrimPost (some ⟨g, 0, none⟩) (words (val cs)).length w1 e w') : Out w v e w' := by
  obtain ⟨A', rfl, hA, k, rfl⟩ := h
  subst hv
  obtain ⟨t1, t2⟩ := take_words hb.1
  refine ⟨A', _, rfl, ?_, Nat.le_refl _, by omega, below_drewN hw k, fun hp => ?_⟩
  · rcases hA with rfl | h0
    · have := (hb.drewN k).rd.take t2
      rwa [t1] at this
    · rw [h0]
      rw [List.eq_nil_of_length_eq_zero h0]
      exact Rd.nil _
  · rcases hA with rfl | h0
    · exact ⟨g, cs, rfl, hg, hb.drewN k, t1⟩
    · omega

theorem ret_int {k : IntKind} {a b : Int} (h : a = b) : Ending.returned (.int k a) = .returned (.int k b) := by rw [h]
end Go.Proofs.Ytmgkgomecakoiaa
