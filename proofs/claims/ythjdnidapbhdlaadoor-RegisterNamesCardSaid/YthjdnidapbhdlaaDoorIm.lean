/- runs with renamed registers; lists of one's own, of ints and of bools; what a law keeps when it writes; the law RegisterNames -/
import Derived.Test.YthjdnidapbhdlaaDoorIi
import Derived.Test.YthjdnidapbhdlaaDoorHy
import Derived.Test.YthjdnidapbhdlaaDoorIg
set_option maxRecDepth 100000
namespace Go.Proofs.YthjdnidapbhdlaaDoor
open Go.RowKit
def renI (ts : List Int) (x : Ins) : Ins := if x.op = 3 then x else ⟨x.op, ts.getD x.reg.toNat 0, x.nx, x.zr⟩
def renC (ts : List Int) (cs : List Ins) : List Ins := cs.map (renI ts)
theorem renC_len (ts : List Int) (cs : List Ins) : (renC ts cs).length = cs.length := by simp [renC]
theorem ren_at (ts : List Int) {cs : List Ins} {k : Nat} (hk : k < cs.length) : insAt (renC ts cs) k = renI ts (insAt cs k) := by
  unfold insAt renC
  simp [List.getD_eq_getElem?_getD, hk]
/-- a renaming, one to one -/
structure PermT (R : Int) (ts : List Int) : Prop where
  len : (ts.length : Int) = R
  rng : ∀ i, i < ts.length → 0 ≤ ts.getD i 0 ∧ ts.getD i 0 < R
  inj : ∀ i j, i < ts.length → j < ts.length → ts.getD i 0 = ts.getD j 0 → i = j
/-- the renamed contents -/
structure RelZ (ts zs ys : List Int) : Prop where
  lz : zs.length = ts.length
  ly : ys.length = ts.length
  eq : ∀ i, i < ts.length → ys.getD (ts.getD i 0).toNat 0 = zs.getD i 0
theorem ren_valid {R : Int} {n : Nat} {i : Int} {x : Ins} {ts : List Int} (hp : PermT R ts) (h : validI R n i x = true) : validI R n i (renI ts x) = true := by
  obtain ⟨op, reg, nx, zr⟩ := x
  have key : 0 ≤ reg → reg < R → 0 ≤ ts.getD reg.toNat 0 ∧ ts.getD reg.toNat 0 < R := fun h0 h1 => hp.rng _ (by have := hp.len; omega)
  unfold renI
  by_cases h3 : op = 3
  · simp only [h3, if_true]; rw [← h3]; exact h
  · simp only [if_neg h3]
    unfold validI at h ⊢
    simp only at h ⊢
    by_cases h0 : op = 0 ∨ op = 1
    · simp only [if_pos h0, Bool.and_eq_true, decide_eq_true_eq] at h ⊢
      obtain ⟨⟨⟨a, b⟩, c⟩, d⟩ := h
      exact ⟨⟨key a b, c⟩, d⟩
    · simp only [if_neg h0] at h ⊢
      by_cases h2 : op = 2
      · simp only [if_pos h2, Bool.and_eq_true, decide_eq_true_eq] at h ⊢
        obtain ⟨⟨⟨⟨a, b⟩, c⟩, d⟩, e⟩ := h
        exact ⟨⟨⟨key a b, c⟩, d⟩, e⟩
      · simp only [if_neg h2, if_neg h3] at h
        cases h
theorem ren_vm {R : Int} {cs : List Ins} {ts : List Int} (hp : PermT R ts) (h : validM R cs = true) : validM R (renC ts cs) = true := by
  unfold validM validCs at h ⊢
  simp only [renC_len]
  rw [Bool.and_eq_true] at h ⊢
  refine ⟨h.1, decide_eq_true fun i hi => ?_⟩
  rw [ren_at ts hi]
  exact ren_valid hp (of_decide_eq_true h.2 i hi)
theorem ren_fits {R : Int} {cs : List Ins} {at_ : Int} {zs ys ts : List Int} (hp : PermT R ts) (hf : FitsP R cs at_ zs) (ly : ys.length = ts.length) (ha : allIn 1099511627776 ys = true) : FitsP R (renC ts cs) at_ ys :=
  ⟨ren_vm hp hf.vm, hf.at0, by rw [renC_len]; exact hf.at1, by rw [ly]; exact hp.len, ha⟩
theorem RelZ.set {R : Int} {ts zs ys : List Int} (hp : PermT R ts) (h : RelZ ts zs ys) (r : Nat) (hr : r < ts.length) (z : Int) : RelZ ts (zs.set r z) (ys.set (ts.getD r 0).toNat z) := by
  refine ⟨by simp [h.lz], by simp [h.ly], fun i hi => ?_⟩
  have hl := hp.len
  have hri := hp.rng i hi
  have hrr := hp.rng r hr
  by_cases e : r = i
  · subst e
    rw [set_get (by rw [h.ly]; omega), set_get (by rw [h.lz]; exact hr)]
  · have ne : (ts.getD r 0).toNat ≠ (ts.getD i 0).toNat := fun e2 => e (hp.inj r i hr hi (by omega))
    have e1 : (zs.set r z).getD i 0 = zs.getD i 0 := by simp [List.getD_eq_getElem?_getD, e]
    have e2 : (ys.set (ts.getD r 0).toNat z).getD (ts.getD i 0).toNat 0 = ys.getD (ts.getD i 0).toNat 0 := by
      generalize (ts.getD r 0).toNat = a at ne
      generalize (ts.getD i 0).toNat = b at ne
      simp [List.getD_eq_getElem?_getD, ne]
    rw [e1, e2]
    exact h.eq i hi
/-- an instruction and the renamed one do the same -/
theorem ren_step {R : Int} {cs : List Ins} {at_ : Int} {zs ys ts : List Int} (hp : PermT R ts) (hf : FitsP R cs at_ zs) (h : RelZ ts zs ys) :
    endM (insAt (renC ts cs) at_.toNat) ys = endM (insAt cs at_.toNat) zs ∧
    (endM (insAt cs at_.toNat) zs = false → advOk (insAt (renC ts cs) at_.toNat) ys = advOk (insAt cs at_.toNat) zs ∧ advAt (insAt (renC ts cs) at_.toNat) ys = advAt (insAt cs at_.toNat) zs ∧
      RelZ ts (advZs (insAt cs at_.toNat) zs) (advZs (insAt (renC ts cs) at_.toNat) ys)) := by
  have hv := hf.ins
  have hk : at_.toNat < cs.length := by have := hf.at0; have := hf.at1; omega
  have hlen := hp.len
  rw [ren_at ts hk]
  generalize insAt cs at_.toNat = x at hv
  obtain ⟨op, reg, nx, zr⟩ := x
  rcases valid_cases hv with ⟨h3, _⟩ | ⟨h0, r0, r1, _⟩
  · simp only at h3
    subst h3
    refine ⟨by simp [renI, endM], fun he => ?_⟩
    simp [endM] at he
  · simp only at h0 r0 r1
    obtain ⟨r, rfl⟩ := Int.eq_ofNat_of_zero_le r0
    have hr : r < ts.length := by omega
    have h3 : ¬ op = 3 := by omega
    have e := h.eq r hr
    have hrr := hp.rng r hr
    have es := h.set hp r hr
    have hz : r < zs.length := by rw [h.lz]; exact hr
    have hy : (ts.getD r 0).toNat < ys.length := by rw [h.ly]; omega
    simp only [renI, if_neg h3, Int.toNat_natCast]
    unfold endM advOk advAt advZs rvM
    simp only [Int.toNat_natCast]
    generalize ts.getD r 0 = t at e hrr es hy
    rw [e]
    refine ⟨rfl, fun _ => ⟨?_, rfl, ?_⟩⟩
    · rcases h0 with rfl | rfl | rfl
      · simp only [if_true]
        rw [set_get hy, set_get hz]
      · simp only [if_neg (show ¬ (1 : Int) = 0 by omega), if_true]
        rw [set_get hy, set_get hz]
      · simp only [if_neg (show ¬ (2 : Int) = 0 by omega), if_neg (show ¬ (2 : Int) = 1 by omega)]
        rw [e]
    · rcases h0 with rfl | rfl | rfl
      · simp only [if_true]
        exact es _
      · simp only [if_neg (show ¬ (1 : Int) = 0 by omega), if_true]
        exact es _
      · simp only [if_neg (show ¬ (2 : Int) = 0 by omega), if_neg (show ¬ (2 : Int) = 1 by omega)]
        exact h
/-- runs -/
structure SameRun (ts : List Int) (r q : RunE) : Prop where
  at_ : q.at_ = r.at_
  k : q.k = r.k
  big : q.big = r.big
  zs : r.big = false → RelZ ts r.zs q.zs
theorem ren_run {R : Int} {cs : List Ins} {ts : List Int} (hp : PermT R ts) : ∀ (n : Nat) (at_ : Int) (zs ys : List Int), FitsP R cs at_ zs → RelZ ts zs ys → SameRun ts (runM cs n at_ zs) (runM (renC ts cs) n at_ ys)
  | 0, at_, zs, ys, hf, h => ⟨rfl, rfl, rfl, fun _ => h⟩
  | n + 1, at_, zs, ys, hf, h => by
    obtain ⟨e1, e2⟩ := ren_step hp hf h
    unfold runM
    simp only [e1]
    by_cases h1 : endM (insAt cs at_.toNat) zs = true
    · simp only [h1, if_true]
      exact ⟨rfl, rfl, rfl, fun _ => h⟩
    · have h1' : endM (insAt cs at_.toNat) zs = false := by simpa using h1
      obtain ⟨e3, e4, e5⟩ := e2 h1'
      simp only [if_neg h1, e3, e4]
      by_cases h2 : advOk (insAt cs at_.toNat) zs = false
      · simp only [if_pos h2]
        exact ⟨rfl, rfl, rfl, fun h => by cases h⟩
      · simp only [if_neg h2]
        have h2' : advOk (insAt cs at_.toNat) zs = true := by simpa using h2
        have hf2 : FitsP R cs (advAt (insAt cs at_.toNat) zs) (advZs (insAt cs at_.toNat) zs) := by
          obtain ⟨k, rfl⟩ := Int.eq_ofNat_of_zero_le hf.at0
          rw [Int.toNat_natCast] at *
          exact adv_fits hf h1' h2'
        have ih := ren_run hp n _ _ _ hf2 e5
        obtain ⟨i1, i2, i3, i4⟩ := ih
        rw [i3]
        by_cases h3 : (runM cs n (advAt (insAt cs at_.toNat) zs) (advZs (insAt cs at_.toNat) zs)).big = true
        · simp only [if_pos h3]
          exact ⟨rfl, rfl, rfl, fun h => by cases h⟩
        · simp only [if_neg h3]
          exact ⟨i1, by simp only; rw [i2], rfl, fun _ => i4 (by simpa using h3)⟩
end Go.Proofs.YthjdnidapbhdlaaDoor
namespace Go.Proofs.YthjdnidapbhdlaaDoor
open Go.RowKit Go.Deep
theorem infoB : (Tryd.prog.info? 4).map (fun i => (i.zero, i.size, i.bytes)) = some (some (.bool false), 1, 1) := by kernel_rfl
abbrev rowI (zs : List Int) : Obj := .cells (zs.map zc).toArray 3
abbrev rowB (bs : List Bool) : Obj := .cells (bs.map Value.bool).toArray 4
theorem made_rep (z : Value) (n : Nat) : madeCells #[z] n = (List.replicate n z).toArray := by
  apply Array.ext'
  apply List.ext_getElem?
  intro i
  by_cases hi : i < n
  · simp [madeCells, hi, Nat.mod_one]
  · simp [madeCells, hi]
theorem mk_ints (n : Nat) (hn : n ≤ 1000000) (w : World) :
    (Instr.makeSlice 44 (.int .i64 (n : Int)) (.int .i64 (n : Int))).run Tryd.prog w = .ok (.slice (some ⟨w.heap.size, 0, none⟩) n n) (w.alloc (rowI (List.replicate n 0))) := by
  have h := run_make_row' (P := Tryd.prog) 44 3 (.int .i64 0) 8 Tryd.underlying44 info3 rfl .i64 .i64 n (by omega) (by omega) w
  rw [h, made_rep, rowI, List.map_replicate]
theorem mk_bools (n : Nat) (hn : n ≤ 1000000) (w : World) :
    (Instr.makeSlice 68 (.int .i64 (n : Int)) (.int .i64 (n : Int))).run Tryd.prog w = .ok (.slice (some ⟨w.heap.size, 0, none⟩) n n) (w.alloc (rowB (List.replicate n false))) := by
  have h := run_make_row' (P := Tryd.prog) 68 4 (.bool false) 1 Tryd.underlying68 infoB rfl .i64 .i64 n (by omega) (by omega) w
  rw [h, made_rep, rowB, List.map_replicate]
theorem Ow.new (w : World) (zs : List Int) : Ow (w.alloc (rowI zs)) w.heap.size zs :=
  ⟨(zs.map zc).toArray, (Go.heap_alloc_new _ _), by show (zs.map zc).take zs.length = _; rw [List.take_of_length_le (by simp)]⟩
/-- block g holds these bools first, and may be written -/
def OwB (w : World) (g : Nat) (zs : List Bool) : Prop := ∃ cur : Array Value, w.heap[g]? = some (.cells cur 4 (0, 0)) ∧ cur.toList.take zs.length = zs.map Value.bool
section
variable {w w' : World} {g : Nat} {zs : List Bool}
theorem OwB.new (w : World) (zs : List Bool) : OwB (w.alloc (rowB zs)) w.heap.size zs :=
  ⟨(zs.map Value.bool).toArray, (Go.heap_alloc_new _ _), by show (zs.map Value.bool).take zs.length = _; rw [List.take_of_length_le (by simp)]⟩
theorem OwB.lt (h : OwB w g zs) : g < w.heap.size := by
  obtain ⟨cur, h, _⟩ := h
  rcases Nat.lt_or_ge g w.heap.size with h1 | h1
  · exact h1
  · rw [Array.getElem?_eq_none h1] at h; cases h
theorem OwB.cell (h : OwB w g zs) (k : Nat) (hk : k < zs.length) : w.cell? ⟨g, k, none⟩ = some (.bool (zs.getD k false)) := by
  obtain ⟨cur, h, ht⟩ := h
  rw [cell_of_row w g k _ _ _ h]
  have h3 := congrArg (fun l : List Value => l[k]?) ht
  simp only [List.getElem?_take, hk, if_true] at h3
  rw [Array.getElem?_toList] at h3
  rw [h3]
  simp [List.getD_eq_getElem?_getD, List.getElem?_eq_getElem hk]
theorem OwB.frozen (h : OwB w g zs) (k : Nat) : w.frozen? ⟨g, k, none⟩ = false := by
  obtain ⟨cur, h, _⟩ := h
  simp [World.frozen?, h]
theorem OwB.set_ (h : OwB w g zs) (k : Nat) (z : Bool) : OwB (w.setCell ⟨g, k, none⟩ (.bool z)) g (zs.set k z) := by
  obtain ⟨cur, h, ht⟩ := h
  refine ⟨cur.setIfInBounds k (.bool z), by simp [World.setCell, Array.getElem?_modify, h], ?_⟩
  rw [List.length_set, Array.toList_setIfInBounds, List.take_set, ht, List.map_set]
theorem OwB.keep (h : OwB w g zs) (hk : w'.heap[g]? = w.heap[g]?) : OwB w' g zs := by
  obtain ⟨cur, h, ht⟩ := h
  exact ⟨cur, hk.trans h, ht⟩
theorem OwB.next (h : OwB w g zs) (hb : Below w.heap.size w w') : OwB w' g zs := h.keep (hb.block g h.lt)
theorem OwB.far (h : OwB w g zs) {p : Addr} (hp : g ≠ p.block) (u : Value) : OwB (w.setCell p u) g zs := h.keep (Below.heap_setCell w p u g hp)
end
theorem Ow.low {w w' : World} {g B : Nat} {zs : List Int} (h : Ow w g zs) (hg : g < B) (hb : Below B w w') : Ow w' g zs := h.keep (hb.block g hg)
theorem BoxM.low {W W' : World} {g B : Nat} {R : Int} {A : Option Addr} {n c : Nat} (h : BoxM W g R A n c) (hg : g < B) (hb : Below B W W') : BoxM W' g R A n c :=
  ⟨Nat.lt_of_lt_of_le h.lt hb.size, (hb.cell (p := ⟨g, 0, none⟩) hg).trans h.c0, (hb.cell (p := ⟨g, 1, none⟩) hg).trans h.c1⟩
theorem BxS.low {W W' : World} {g B : Nat} {at_ : Int} {A : Option Addr} {n c : Nat} (h : BxS W g at_ A n c) (hg : g < B) (hb : Below B W W') : BxS W' g at_ A n c :=
  ⟨Nat.lt_of_lt_of_le h.lt hb.size, (hb.cell (p := ⟨g, 0, none⟩) hg).trans h.c0, (hb.cell (p := ⟨g, 1, none⟩) hg).trans h.c1, (hb.frozen (p := ⟨g, 0, none⟩) hg).trans h.f0, (hb.frozen (p := ⟨g, 1, none⟩) hg).trans h.f1⟩
/-- what stands at the beginning -/
structure LR0 (w : World) (A : Option Addr) (n : Nat) (cs : List Ins) (B : Option Addr) (m : Nat) (zs : List Int) (C : Option Addr) (k : Nat) (ys : List Int) : Prop where
  rc : RdC w A n cs
  ri : RdI w B m zs
  ry : RdI w C k ys
  ml : Ml w
section
variable {w W W' : World} {g : Nat} {R : Int} {A : Option Addr} {n c : Nat} {cs : List Ins} {at_ : Int} {B : Option Addr} {m d : Nat} {zs : List Int} {C : Option Addr} {k : Nat} {ys : List Int}
theorem LR.off (h : LR w W g R A n c cs at_ B m d zs C k ys) (h0 : LR0 w A n cs B m zs C k ys) {p : Addr} (h1 : p.block ≠ g) (h2 : p.block ≠ g + 1) (h3 : w.heap.size ≤ p.block) (u : Value) : LR w (W.setCell p u) g R A n c cs at_ B m d zs C k ys := by
  have hb := bel_set h.ms.below h3 u
  exact ⟨⟨hb, h.ms.ge, h.ms.bm.off h1 u, h.ms.bs.off h2 u, h0.rc.below hb, h0.ri.below hb⟩, h0.ry.below hb, h0.ml.next hb⟩
theorem LR.low (h : LR w W g R A n c cs at_ B m d zs C k ys) (h0 : LR0 w A n cs B m zs C k ys) {Bd : Nat} (h1 : g + 1 < Bd) (h3 : w.heap.size ≤ Bd) (hb : Below Bd W W') : LR w W' g R A n c cs at_ B m d zs C k ys := by
  have hb2 := h.ms.below.trans (hb.mono h3)
  exact ⟨⟨hb2, h.ms.ge, h.ms.bm.low (by omega) hb, h.ms.bs.low h1 hb, h0.rc.below hb2, h0.ri.below hb2⟩, h0.ry.below hb2, h0.ml.next hb2⟩
end
/-- the renaming, as far as it was looked at -/
structure Seen (r i : Nat) (ts zs : List Int) (bs : List Bool) (ys : List Int) : Prop where
  lb : bs.length = r
  ly : ys.length = r
  rng : ∀ q, q < i → 0 ≤ ts.getD q 0 ∧ ts.getD q 0 < (r : Int)
  met : ∀ q, q < i → bs.getD (ts.getD q 0).toNat false = true
  inj : ∀ p q, p < i → q < i → ts.getD p 0 = ts.getD q 0 → p = q
  eq : ∀ q, q < i → ys.getD (ts.getD q 0).toNat 0 = zs.getD q 0
  all : allIn 1099511627776 ys = true
theorem Seen.zero (r : Nat) (ts zs : List Int) : Seen r 0 ts zs (List.replicate r false) (List.replicate r 0) := by
  refine ⟨by simp, by simp, fun q h => by omega, fun q h => by omega, fun p q h => by omega, fun q h => by omega, ?_⟩
  refine decide_eq_true fun i hi => ?_
  rw [List.length_replicate] at hi
  simp [List.getD_eq_getElem?_getD, hi, inR]
theorem Seen.step {r i t : Nat} {ts zs ys : List Int} {bs : List Bool} (h : Seen r i ts zs bs ys) (ht : ts.getD i 0 = (t : Int)) (htr : t < r) (hm : bs.getD t false = false) (h0 : 0 ≤ zs.getD i 0) (h1 : zs.getD i 0 ≤ 1099511627776) :
    Seen r (i + 1) ts zs (bs.set t true) (ys.set t (zs.getD i 0)) := by
  have ne : ∀ q, q < i → (ts.getD q 0).toNat ≠ t := fun q hq e => by
    have := h.met q hq
    rw [e, hm] at this
    cases this
  refine ⟨by simp [h.lb], by simp [h.ly], fun q hq => ?_, fun q hq => ?_, fun p q hp hq e => ?_, fun q hq => ?_, allIn_set h.all t h0 h1⟩
  · rcases Nat.lt_or_ge q i with hl | hl
    · exact h.rng q hl
    · have : q = i := by omega
      subst this
      rw [ht]; omega
  · rcases Nat.lt_or_ge q i with hl | hl
    · have := ne q hl
      have h2 := h.met q hl
      generalize (ts.getD q 0).toNat = a at this h2 ⊢
      rw [← h2]
      simp [List.getD_eq_getElem?_getD, Ne.symm this]
    · have : q = i := by omega
      subst this
      rw [ht, Int.toNat_natCast]
      have := h.lb
      simp [List.getD_eq_getElem?_getD, show t < bs.length by omega]
  · rcases Nat.lt_or_ge p i with hl | hl <;> rcases Nat.lt_or_ge q i with hl2 | hl2
    · exact h.inj p q hl hl2 e
    · have : q = i := by omega
      subst this
      exact absurd (by rw [e, ht]; rfl) (ne p hl)
    · have : p = i := by omega
      subst this
      exact absurd (by rw [← e, ht]; rfl) (ne q hl2)
    · omega
  · rcases Nat.lt_or_ge q i with hl | hl
    · have := ne q hl
      have h2 := h.eq q hl
      generalize (ts.getD q 0).toNat = a at this h2 ⊢
      rw [← h2]
      simp [List.getD_eq_getElem?_getD, Ne.symm this]
    · have : q = i := by omega
      subst this
      rw [ht, Int.toNat_natCast]
      exact set_get (by rw [h.ly]; exact htr) _
theorem Seen.perm {r : Nat} {ts zs ys : List Int} {bs : List Bool} (h : Seen r r ts zs bs ys) (hl : ts.length = r) : PermT (r : Int) ts :=
  ⟨by rw [hl], fun i hi => h.rng i (by omega), fun i j hi hj e => h.inj i j (by omega) (by omega) e⟩
theorem Seen.rel {r : Nat} {ts zs ys : List Int} {bs : List Bool} (h : Seen r r ts zs bs ys) (hl : ts.length = r) (hz : zs.length = r) : RelZ ts zs ys :=
  ⟨by rw [hl, hz], by rw [hl, h.ly], fun i hi => h.eq i (by omega)⟩
theorem wpList_app_ins {w : World} {ops : Array Oper} {rest : List Oper} {o : Oper} {a : Act} {Q : Exit → Act → World → Prop} (hgd : o.guard = none) (s y : Operand)
    (ho : o.op = .call { callee := .builtin .append, args := #[s, y], argTypes := #[41, 41] })
    (B : Nat) (A : Option Addr) (j c : Nat) (cs : List Ins) (x : Ins) (g n : Nat) (hs : a.eval s = .slice A j c) (hy : a.eval y = .slice (some ⟨g, 0, none⟩) 1 n) (hown : OwC w B A j c cs) (hB : B ≤ w.heap.size) (hx : BxI w g x) (hj : j ≤ 1000000)
    (h : ∀ g' c' w', OwC w' B (some ⟨g', 0, none⟩) (j + 1) c' (cs ++ [x]) → Below B w w' → wpList Tryd.prog ops Q rest (a.put o.dst (.slice (some ⟨g', 0, none⟩) (j + 1) c')) w') : wpList Tryd.prog ops Q (o :: rest) a w :=
  wpList_plain hgd fun _ hK => wp_app_ins s y ho B A j c cs x g n hs hy hown hB hx hj fun g' c' w' h1 h2 => hK _ _ (h g' c' w' h1 h2)
end Go.Proofs.YthjdnidapbhdlaaDoor
namespace Go.Proofs.YthjdnidapbhdlaaDoor
open Go.RowKit
set_option maxHeartbeats 8000000 in
theorem RegisterNames_c (R : Int) (A : Option Addr) (n c : Nat) (cs : List Ins) (at_ : Int) (B : Option Addr) (m d : Nat) (zs : List Int) (C : Option Addr) (k e : Nat) (ts : List Int) (N : Nat) (w : World) (h : RdC w A n cs) (h' : RdI w B m zs) (h2 : RdI w C k ts) (hm : m ≤ 9223372036854775807) (hN : N ≤ 65535) (hml : Ml w) :
    Calls Tryd.prog 7 #[.agg #[.int .i64 R, .slice A n c], .agg #[.int .i64 at_, .slice B m d], .slice C k e, .int .u16 (N : Int)] w (RetB true w) := by
  have E := Lib.hid (LR.start R A n c cs at_ B m d zs C k ts w h h' h2 hml)
  have E0 := Lib.hid (LR0.mk h h' h2 hml)
  clear h h' h2 hml
  go_enter Tryd.func7, Tryd.ntmps7
  go_upto_region 1 with (fail)
  generalize (w.alloc (.cells #[.int .i64 R, .slice A n c] 43)).alloc (.cells #[.int .i64 at_, .slice B m d] 46) = W0 at E ⊢
  obtain ⟨g, hg⟩ : ∃ g, g = w.heap.size := ⟨_, rfl⟩
  rw [← hg] at E ⊢
  have HG := Lib.hid (show w.heap.size ≤ g by omega)
  clear hg
  obtain ⟨m0, m1, s0, s1⟩ := E.out.cells
  by_cases hw : n ≤ 100 ∧ m ≤ 100 ∧ k ≤ 100
  · go_wp2_with fail
    refine (wide_f R A n c at_ B m d C k e W0 hw).mono ?_
    rintro e' w1 ⟨rfl, hb⟩
    replace E := Lib.hid (E.out.next hb)
    have HK := Lib.hid hw.2.2
    clear hb hw m0 m1 s0 s1
    obtain ⟨m0, m1, s0, s1⟩ := E.out.cells
    go_wp2_with fail
    refine (refFits_c R A n c cs at_ B m d zs w1 E.out.ms.rc E.out.ms.ri hm).mono ?_
    rintro e' w2 ⟨rfl, hb⟩
    replace E := Lib.hid (E.out.next hb)
    clear hb m0 m1 s0 s1
    obtain ⟨m0, m1, s0, s1⟩ := E.out.cells
    obtain ⟨v, hv⟩ : ∃ v, v = fitsM R cs at_ zs := ⟨_, rfl⟩
    rw [← hv]
    have HV := Lib.hid hv
    clear hv
    cases v with
    | false =>
      go_wp2_with fail
      refine (awake13_c w2 E.out.ml).mono ?_
      rintro e' w3 ⟨rfl, hb⟩
      replace E := Lib.hid (E.out.next hb)
      clear hb
      go_wp2
      go_ret
      exact ⟨rfl, E.out.ms.below⟩
    | true =>
      have HF := Lib.hid (fits_p HV.out.symm)
      by_cases hs : (k : Int) = R ∧ N ≤ 2000
      · have HS := Lib.hid hs.2
        obtain ⟨hkR, hN2⟩ := hs
        subst hkR
        have t1 : ((k : Int) == (k : Int)) = true := by simp
        have t2 : decide ((2000 : Int) < (N : Int)) = false := decide_eq_false (by omega)
        have HL := Lib.hid (show zs.length = k ∧ ts.length = k ∧ m = k ∧ cs.length = n ∧ 1 ≤ k ∧ k ≤ 4 ∧ 1 ≤ n ∧ n ≤ 15 by
          have h1 := HF.out.len
          have h2 := HF.out.bounds
          have h3 := E0.out.ry.len
          have h4 := E0.out.ri.len
          have h5 := E0.out.rc.len
          omega)
        have hk4 : k ≤ 4 := HL.out.2.2.2.2.2.1
        have hmkB := mk_bools k (by omega)
        have hmkI := mk_ints k (by omega)
        go_upto_region 3 with (fail)
        clear t1 t2 hN2
        have HGM := Lib.hid (show g + 1 < w2.heap.size from E.out.ms.bs.lt)
        go_upto_region 4 with (fail)
        have OB := Lib.hid (OwB.new w2 (List.replicate k false))
        have hb := bel_alloc w2 (rowB (List.replicate k false))
        replace E := Lib.hid (E.out.next hb)
        clear hb m0 m1 s0 s1 hmkB
        generalize w2.alloc (rowB (List.replicate k false)) = W3 at E OB ⊢
        obtain ⟨gM, hgM⟩ : ∃ x, x = w2.heap.size := ⟨_, rfl⟩
        rw [← hgM] at OB HGM ⊢
        clear hgM
        have HGR := Lib.hid (show gM < W3.heap.size from OB.out.lt)
        obtain ⟨m0, m1, s0, s1⟩ := E.out.cells
        go_upto_region 5 with (fail)
        have OR := Lib.hid (Ow.new W3 (List.replicate k 0))
        have hb := bel_alloc W3 (rowI (List.replicate k 0))
        replace E := Lib.hid (E.out.next hb)
        replace OB := Lib.hid (OB.out.next hb)
        clear hb m0 m1 s0 s1 hmkI
        generalize W3.alloc (rowI (List.replicate k 0)) = W4 at E OB OR ⊢
        obtain ⟨gR, hgR⟩ : ∃ x, x = W3.heap.size := ⟨_, rfl⟩
        rw [← hgR] at OR HGR ⊢
        clear hgR
        go_wp2
        go_loopw [11] (fun v wr => ∃ (i : Nat) (bs : List Bool) (ys : List Int), v = .int .i64 (i : Int) ∧ i ≤ k ∧ Seen k i ts zs bs ys ∧ OwB wr gM bs ∧ Ow wr gR ys ∧ LR w wr g (k : Int) A n c cs at_ B m d zs C k ts) (fun v _ => k - (intOf v).toNat)
        case atStart => exact ⟨0, _, _, rfl, Nat.zero_le _, Seen.zero k ts zs, OB.out, OR.out, E.out⟩
        case round =>
          obtain ⟨i, bs, ys, rfl, hi, hsn, hob, hor, he⟩ := hrel
          clear OB OR E
          have SN := Lib.hid hsn
          have OB := Lib.hid hob
          have OR := Lib.hid hor
          have E := Lib.hid he
          clear hsn hob hor he
          obtain ⟨m0, m1, s0, s1⟩ := E.out.cells
          rcases Nat.lt_or_ge i k with hik | hik
          · have u1 : decide ((i : Int) < (k : Int)) = true := decide_eq_true (by omega)
            have hiI : (i : Int) < (k : Int) := by omega
            obtain ⟨b, o, hC, _, hcc⟩ := E.out.ry.at_ (by omega)
            have q0 := hcc i hik
            obtain ⟨tz, htz⟩ : ∃ z, z = ts.getD i 0 := ⟨_, rfl⟩
            rw [← htz] at q0
            have HT := Lib.hid htz
            subst hC
            clear hcc htz
            by_cases ht0 : tz < 0
            · have u2 : decide (tz < 0) = true := decide_eq_true ht0
              go_upto_region 8 with (fail)
              go_quiet (fail)
              go_wp2_with fail
              refine (awake13_c _ (E.out.next (bel_drew (Below.refl _ _) _)).ml).mono ?_
              rintro e' w3 ⟨rfl, hb⟩
              replace E := Lib.hid ((E.out.next (bel_drew (Below.refl _ _) _)).next hb)
              clear hb
              go_wp2
              go_ret
              exact ⟨rfl, E.out.ms.below⟩
            · have u2 : decide (tz < 0) = false := decide_eq_false ht0
              by_cases htk : (k : Int) ≤ tz
              · have u3 : decide ((k : Int) ≤ tz) = true := decide_eq_true htk
                go_upto_region 8 with (fail)
                go_quiet (fail)
                go_wp2_with fail
                refine (awake13_c _ (E.out.next (bel_drew (Below.refl _ _) _)).ml).mono ?_
                rintro e' w3 ⟨rfl, hb⟩
                replace E := Lib.hid ((E.out.next (bel_drew (Below.refl _ _) _)).next hb)
                clear hb
                go_wp2
                go_ret
                exact ⟨rfl, E.out.ms.below⟩
              · have u3 : decide ((k : Int) ≤ tz) = false := decide_eq_false htk
                obtain ⟨t, rfl⟩ := Int.eq_ofNat_of_zero_le (show 0 ≤ tz by omega)
                have htk2 : t < k := by omega
                have q1 := OB.out.cell t (by rw [SN.out.lb]; exact htk2)
                obtain ⟨v, hv⟩ : ∃ v, v = bs.getD t false := ⟨_, rfl⟩
                rw [← hv] at q1
                have HV2 := Lib.hid hv
                clear hv
                cases v with
                | true =>
                  go_upto_region 8 with (fail)
                  go_quiet (fail)
                  go_wp2_with fail
                  refine (awake13_c _ (E.out.next (bel_drew (Below.refl _ _) _)).ml).mono ?_
                  rintro e' w3 ⟨rfl, hb⟩
                  replace E := Lib.hid ((E.out.next (bel_drew (Below.refl _ _) _)).next hb)
                  clear hb
                  go_wp2
                  go_ret
                  exact ⟨rfl, E.out.ms.below⟩
                | false =>
                  go_upto_region 8 with (fail)
                  go_quiet (fail)
                  replace E := Lib.hid (E.out.next (bel_drew (Below.refl _ _) nq))
                  replace OB := Lib.hid (OB.out.next (bel_drew (Below.refl _ _) nq))
                  replace OR := Lib.hid (OR.out.next (bel_drew (Below.refl _ _) nq))
                  clear m0 m1 s0 s1 q0 q1 u1
                  generalize wr.drewN nq = D at E OB OR ⊢
                  obtain ⟨b2, o2, hC, _, hcc⟩ := E.out.ry.at_ (by omega)
                  injection hC with hC
                  injection hC with hC1 hC2
                  subst hC1 hC2
                  have q0 := hcc i hik
                  rw [← HT.out] at q0
                  have f1 := OB.out.frozen t
                  have l1 := OB.out.lt
                  have q1 := OB.out.cell t (by rw [SN.out.lb]; exact htk2)
                  clear hcc
                  go_upto_region 10 with (fail)
                  go_upto_region 11 with (fail)
                  have n1 : gM ≠ g := by have := HGM.out; omega
                  have n2 : gM ≠ g + 1 := by have := HGM.out; omega
                  have n3 : w.heap.size ≤ gM := by have := HGM.out; have := HG.out; omega
                  have n4 : gR ≠ gM := by have := HGR.out; omega
                  replace E := Lib.hid (E.out.off E0.out (p := ⟨gM, t, none⟩) n1 n2 n3 (.bool true))
                  replace OB := Lib.hid (OB.out.set_ t true)
                  replace OR := Lib.hid (OR.out.far (p := ⟨gM, t, none⟩) n4 (.bool true))
                  clear q0 q1 f1 l1 n1 n2 n3 n4
                  generalize D.setCell ⟨gM, t, none⟩ (.bool true) = D2 at E OB OR ⊢
                  obtain ⟨b2, o2, hC, _, hcc⟩ := E.out.ry.at_ (by omega)
                  injection hC with hC
                  injection hC with hC1 hC2
                  subst hC1 hC2
                  have q0 := hcc i hik
                  rw [← HT.out] at q0
                  clear hcc
                  obtain ⟨b3, o3, hB3, _, hcc⟩ := E.out.ms.ri.at_ (by have := HL.out; omega)
                  have q1 := hcc i (by have := HL.out; omega)
                  obtain ⟨zz, hzz⟩ : ∃ z, z = zs.getD i 0 := ⟨_, rfl⟩
                  rw [← hzz] at q1
                  have HZ := Lib.hid hzz
                  have f1 := OR.out.frozen t
                  have l1 := OR.out.lt
                  have l2 := SN.out.ly
                  have him : (i : Int) < (m : Int) := by have := HL.out; omega
                  have q2 := OR.out.cell t (by omega)
                  obtain ⟨m0, m1, s0, s1⟩ := E.out.cells
                  rw [hB3] at s1
                  clear hcc hzz l2
                  go_region
                  go_wp2
                  go_roundw
                  case measure => simp [intOf]; omega
                  case rel =>
                    have n1 : gR ≠ g := by have := HGM.out; have := HGR.out; omega
                    have n2 : gR ≠ g + 1 := by have := HGM.out; have := HGR.out; omega
                    have n3 : w.heap.size ≤ gR := by have := HGM.out; have := HGR.out; have := HG.out; omega
                    have n4 : gM ≠ gR := by have := HGR.out; omega
                    have hst := SN.out.step HT.out.symm htk2 HV2.out.symm (allIn_at HF.out.all (by have := HL.out; omega)).1 (allIn_at HF.out.all (by have := HL.out; omega)).2
                    rw [← HZ.out] at hst
                    exact ⟨i + 1, _, _, by go_num, by omega, hst, (OB.out.far (p := ⟨gR, t, none⟩) n4 _).next (Below.refl _ _).drew, (OR.out.set_ t zz).next (Below.refl _ _).drew, (E.out.off E0.out (p := ⟨gR, t, none⟩) n1 n2 n3 _).next (Below.refl _ _).drew⟩
          · have u1 : decide ((i : Int) < (k : Int)) = false := decide_eq_false (by omega)
            have u1n : decide (i < k) = false := decide_eq_false (by omega)
            have hsn := SN.out
            rw [show i = k by omega] at hsn
            have SK := Lib.hid hsn
            clear hsn SN
            go_upto_region 12 with (fail)
            go_upto_region 13 with (fail)
            have X := Lib.hid (BxM.new wr (k : Int) none 0 0)
            have hb := bel_alloc wr (.cells #[.int .i64 (k : Int), .slice none 0 0] 43)
            have HBE := Lib.hid (show g + 1 < gM ∧ gM < gR ∧ gR < wr.heap.size from ⟨HGM.out, HGR.out, OR.out.lt⟩)
            replace E := Lib.hid (E.out.next hb)
            replace OR := Lib.hid (OR.out.next hb)
            clear hb m0 m1 s0 s1 OB u1 u1n hik hi
            generalize wr.alloc (.cells #[.int .i64 (k : Int), .slice none 0 0] 43) = W5 at E OR X ⊢
            obtain ⟨gD, hgD⟩ : ∃ x, x = wr.heap.size := ⟨_, rfl⟩
            rw [← hgD] at X HBE ⊢
            clear hgD
            obtain ⟨Bd, hBd⟩ : ∃ x, x = W5.heap.size := ⟨_, rfl⟩
            have HBD := Lib.hid (show g + 1 < Bd ∧ gM < Bd ∧ gR < Bd ∧ gD < Bd ∧ w.heap.size ≤ Bd by have h1 := X.out.lt; have h2 := HBE.out; have h3 := HG.out; omega)
            have OC := Lib.hid (OwC.nil W5 Bd)
            have HSZ := Lib.hid (SzP.mk (Nat.le_of_eq hBd))
            clear hBd
            go_wp2
            go_loopw [13] (fun v wq => ∃ (j c2 : Nat) (A2 : Option Addr), v = .int .i64 (j : Int) ∧ j ≤ n ∧ BxM wq gD (k : Int) A2 j c2 ∧ OwC wq Bd A2 j c2 ((renC ts cs).take j) ∧ Ow wq gR ys ∧ LR w wq g (k : Int) A n c cs at_ B m d zs C k ts ∧ Bd ≤ wq.heap.size) (fun v _ => n - (intOf v).toNat)
            case atStart => exact ⟨0, 0, none, rfl, Nat.zero_le _, X.out, OC.out, OR.out, E.out, HSZ.out.le⟩
            case round =>
              obtain ⟨j, c2, A2, rfl, hj, hx, hoc, hor, he, hsz⟩ := hrel
              clear X OC OR E HSZ
              have X := Lib.hid hx
              have OC := Lib.hid hoc
              have OR := Lib.hid hor
              have E := Lib.hid he
              have HSZ := Lib.hid (SzP.mk hsz)
              clear hx hoc hor he hsz
              obtain ⟨m0, m1, s0, s1⟩ := E.out.cells
              rcases Nat.lt_or_ge j n with hjn | hjn
              · have u1 : decide ((j : Int) < (n : Int)) = true := decide_eq_true (by omega)
                have u1n : decide (j < n) = true := decide_eq_true hjn
                have hjI : (j : Int) < (n : Int) := by omega
                obtain ⟨b, o, hA, _, hcc⟩ := E.out.ms.rc.at_ (by omega)
                obtain ⟨x0, x1, x2, x3⟩ := hcc j hjn
                obtain ⟨x, hx⟩ : ∃ x, x = insAt cs j := ⟨_, rfl⟩
                rw [← hx] at x0 x1 x2 x3
                have HXA := Lib.hid (show (renC ts cs).take j ++ [renI ts x] = (renC ts cs).take (j + 1) by
                  have h := HL.out
                  rw [List.take_add_one, hx, ← ren_at ts (by omega)]
                  congr 1
                  unfold insAt
                  simp [List.getD_eq_getElem?_getD, List.getElem?_eq_getElem (show j < (renC ts cs).length by rw [renC_len]; omega)])
                have HVI := Lib.hid (show x.op = 3 ∨ (0 ≤ x.reg ∧ x.reg < (k : Int)) by
                  have h1 := HF.out.vm
                  unfold validM validCs at h1
                  rw [Bool.and_eq_true] at h1
                  have h2 := of_decide_eq_true h1.2 j (by have := HL.out; omega)
                  rw [← hx] at h2
                  rcases valid_cases h2 with ⟨h3, _⟩ | ⟨_, r0, r1, _⟩
                  · exact .inl h3
                  · exact .inr ⟨r0, r1⟩)
                subst hA
                clear hcc hx
                go_upto_region 17 with (fail)
                have XI := Lib.hid (BxI.new wr x)
                have hb := bel_alloc wr (.cells #[.int .i64 x.op, .int .i64 x.reg, .int .i64 x.nx, .int .i64 x.zr] 70)
                have HGI := Lib.hid (show Bd ≤ wr.heap.size from HSZ.out.le)
                replace E := Lib.hid (E.out.next hb)
                replace X := Lib.hid (X.out.next hb)
                replace OR := Lib.hid (OR.out.next hb)
                have HOC := Lib.hid (fun u => OC.out.keep (bel_set hb (p := ⟨wr.heap.size, 1, none⟩) (Nat.le_refl _) u))
                replace OC := Lib.hid (OC.out.keep hb)
                replace HSZ := Lib.hid (HSZ.out.next hb)
                clear hb m0 m1 s0 s1 x0 x1 x2 x3 u1
                generalize wr.alloc (.cells #[.int .i64 x.op, .int .i64 x.reg, .int .i64 x.nx, .int .i64 x.zr] 70) = W7 at E X OR OC HSZ XI HOC ⊢
                obtain ⟨gI, hgI⟩ : ∃ q, q = wr.heap.size := ⟨_, rfl⟩
                rw [← hgI] at XI HGI HOC ⊢
                clear hgI
                have i0 := XI.out.c0
                by_cases h3 : x.op = 3
                · have u2 : (x.op == 3) = true := by simp [h3]
                  rw [show renI ts x = x from if_pos h3] at HXA
                  clear HVI
                  go_upto_region 19 with (fail)
                  clear u2 h3 i0
                  have m0d := X.out.c0
                  have m1d := X.out.c1
                  have i0 := XI.out.c0
                  have i1 := XI.out.c1
                  have i2 := XI.out.c2
                  have i3 := XI.out.c3
                  go_wp2_with (at_builtin; refine wpList_app_ins rfl (.tmp 122) (.tmp 124) rfl Bd A2 j c2 ((renC ts cs).take j) x W7.heap.size 1 rfl rfl (OC.out.keep (bel_alloc _ _)) (Nat.le_trans HSZ.out.le (bel_alloc _ _).size) (BxI.new W7 x) (by have := HL.out; omega) ?_)
                  intro g' c' w9 h1 hb
                  have hba := bel_alloc W7 (.cells #[.int .i64 x.op, .int .i64 x.reg, .int .i64 x.nx, .int .i64 x.zr] 70)
                  rw [HXA.out] at h1
                  have OC2 := Lib.hid h1
                  have hsz : Bd ≤ w9.heap.size := Nat.le_trans (Nat.le_trans HSZ.out.le hba.size) hb.size
                  have X2 := Lib.hid ((X.out.next hba).low HBD.out.2.2.2.1 hb)
                  have OR2 := Lib.hid ((OR.out.next hba).low HBD.out.2.2.1 hb)
                  have E2 := Lib.hid ((E.out.next hba).low E0.out HBD.out.1 HBD.out.2.2.2.2 hb)
                  clear m0d m1d i0 i1 i2 i3 h1 hb hba X XI OC OR E
                  have HSZ2 := Lib.hid hsz
                  clear hsz
                  have m0d := X2.out.c0
                  have m1d := X2.out.c1
                  have f1d := X2.out.fr 1
                  have l1d := X2.out.lt
                  have hj15 : j < 15 := by have := HL.out; omega
                  go_wp2
                  go_roundw
                  case measure => simp [intOf]; omega
                  case rel =>
                    have n1 : gD ≠ g := by have := HBE.out; omega
                    have n2 : gD ≠ g + 1 := by have := HBE.out; omega
                    have n3 : w.heap.size ≤ gD := by have := HBE.out; have := HG.out; omega
                    have n4 : gR ≠ gD := by have := HBE.out; omega
                    exact ⟨j + 1, c', some ⟨g', 0, none⟩, by go_num, by omega, X2.out.put1 _ _ _, OC2.out.far (p := ⟨gD, 1, none⟩) HBD.out.2.2.2.1 _, OR2.out.far (p := ⟨gD, 1, none⟩) n4 _, E2.out.off E0.out (p := ⟨gD, 1, none⟩) n1 n2 n3 _, by rw [World.size_setCell]; exact HSZ2.out⟩
                · have u2 : (x.op == 3) = false := beq_eq_false_iff_ne.2 h3
                  obtain ⟨r0, r1⟩ := HVI.out.resolve_left h3
                  obtain ⟨op, reg, nx, zr⟩ := x
                  dsimp only at XI r0 r1 h3 u2 i0 HXA ⊢
                  obtain ⟨r, rfl⟩ := Int.eq_ofNat_of_zero_le r0
                  have hrk : r < k := by omega
                  rw [show renI ts ⟨op, (r : Int), nx, zr⟩ = ⟨op, ts.getD r 0, nx, zr⟩ from if_neg h3] at HXA
                  go_upto_region 18 with (fail)
                  obtain ⟨b2, o2, hC, _, hcc⟩ := E.out.ry.at_ (by omega)
                  have q0 := hcc r hrk
                  generalize ts.getD r 0 = tz at q0 HXA
                  have i1 := XI.out.c1
                  have j1 := XI.out.fr 1
                  have l1 := XI.out.lt
                  subst hC
                  clear hcc
                  go_upto_region 19 with (fail)
                  have n1 : gI ≠ g := by have := HGI.out; have := HBD.out; omega
                  have n2 : gI ≠ g + 1 := by have := HGI.out; have := HBD.out; omega
                  have n3 : w.heap.size ≤ gI := by have := HGI.out; have := HBD.out; omega
                  have n4 : gR ≠ gI := by have := HGI.out; have := HBD.out; omega
                  have n5 : gI ≠ gD := by have := HGI.out; have := HBD.out; omega
                  have HNI := Lib.hid n5
                  replace E := Lib.hid (E.out.off E0.out (p := ⟨gI, 1, none⟩) n1 n2 n3 (.int .i64 tz))
                  replace OR := Lib.hid (OR.out.far (p := ⟨gI, 1, none⟩) n4 (.int .i64 tz))
                  replace X := Lib.hid (X.out.off (p := ⟨gI, 1, none⟩) n5 (.int .i64 tz))
                  replace XI := Lib.hid (XI.out.one 1 tz ⟨op, tz, nx, zr⟩ rfl (by omega))
                  replace HSZ := Lib.hid (SzP.mk (show Bd ≤ (W7.setCell ⟨gI, 1, none⟩ (.int .i64 tz)).heap.size by rw [World.size_setCell]; exact HSZ.out.le))
                  have ho2 := HOC.out (.int .i64 tz)
                  clear OC i0 i1 j1 l1 q0 u2 n1 n2 n3 n4 n5
                  have OC := Lib.hid ho2
                  clear ho2 HOC
                  generalize W7.setCell ⟨gI, 1, none⟩ (.int .i64 tz) = W8 at E X OR OC HSZ XI ⊢
                  have m0d := X.out.c0
                  have m1d := X.out.c1
                  have i0 := XI.out.c0
                  have i1 := XI.out.c1
                  have i2 := XI.out.c2
                  have i3 := XI.out.c3
                  go_wp2_with (at_builtin; refine wpList_app_ins rfl (.tmp 122) (.tmp 124) rfl Bd A2 j c2 ((renC ts cs).take j) (⟨op, tz, nx, zr⟩ : Ins) W8.heap.size 1 rfl rfl (OC.out.keep (bel_alloc _ _)) (Nat.le_trans HSZ.out.le (bel_alloc _ _).size) (BxI.new W8 (⟨op, tz, nx, zr⟩ : Ins)) (by have := HL.out; omega) ?_)
                  intro g' c' w9 h1 hb
                  have hba := bel_alloc W8 (.cells #[.int .i64 (⟨op, tz, nx, zr⟩ : Ins).op, .int .i64 (⟨op, tz, nx, zr⟩ : Ins).reg, .int .i64 (⟨op, tz, nx, zr⟩ : Ins).nx, .int .i64 (⟨op, tz, nx, zr⟩ : Ins).zr] 70)
                  rw [HXA.out] at h1
                  have OC2 := Lib.hid h1
                  have hsz : Bd ≤ w9.heap.size := Nat.le_trans (Nat.le_trans HSZ.out.le hba.size) hb.size
                  have X2 := Lib.hid ((X.out.next hba).low HBD.out.2.2.2.1 hb)
                  have OR2 := Lib.hid ((OR.out.next hba).low HBD.out.2.2.1 hb)
                  have E2 := Lib.hid ((E.out.next hba).low E0.out HBD.out.1 HBD.out.2.2.2.2 hb)
                  clear m0d m1d i0 i1 i2 i3 h1 hb hba X XI OC OR E
                  have HSZ2 := Lib.hid hsz
                  clear hsz
                  have m0d := X2.out.c0
                  have m1d := X2.out.c1
                  have f1d := X2.out.fr 1
                  have l1d := X2.out.lt
                  have hj15 : j < 15 := by have := HL.out; omega
                  go_wp2
                  go_roundw
                  case measure => simp [intOf]; omega
                  case rel =>
                    have n1 : gD ≠ g := by have := HBE.out; omega
                    have n2 : gD ≠ g + 1 := by have := HBE.out; omega
                    have n3 : w.heap.size ≤ gD := by have := HBE.out; have := HG.out; omega
                    have n4 : gR ≠ gD := by have := HBE.out; omega
                    exact ⟨j + 1, c', some ⟨g', 0, none⟩, by go_num, by omega, X2.out.put1 _ _ _, OC2.out.far (p := ⟨gD, 1, none⟩) HBD.out.2.2.2.1 _, OR2.out.far (p := ⟨gD, 1, none⟩) n4 _, E2.out.off E0.out (p := ⟨gD, 1, none⟩) n1 n2 n3 _, by rw [World.size_setCell]; exact HSZ2.out⟩
              · have u1 : decide ((j : Int) < (n : Int)) = false := decide_eq_false (by omega)
                have u1n : decide (j < n) = false := decide_eq_false (by omega)
                have hoc := OC.out
                rw [show (renC ts cs).take j = renC ts cs by rw [List.take_of_length_le (by rw [renC_len]; have := HL.out; omega)]] at hoc
                have RC2 := Lib.hid hoc.rd
                have HJ := Lib.hid (show j = n by omega)
                clear OC hoc hj hjn HSZ
                have PT := Lib.hid (SK.out.perm HL.out.2.1)
                have RZ := Lib.hid (SK.out.rel HL.out.2.1 HL.out.1)
                have HFY := Lib.hid (ren_fits PT.out HF.out (by rw [SK.out.ly, HL.out.2.1]) SK.out.all)
                have HRUN := Lib.hid (ren_run PT.out N at_ zs ys HF.out RZ.out)
                have hrd := OR.out.rd
                rw [SK.out.ly] at hrd
                have RY := Lib.hid hrd
                clear OR hrd RZ SK
                go_wp2_with fail
                refine (Run_ok (k : Int) A n c cs at_ B m d zs N wr E.out.ms.rc E.out.ms.ri hm HF.out (by have := HS.out; omega)).mono ?_
                rintro e' w5 ⟨A1, c1, rfl, hr1, _, _, hb, _⟩
                obtain ⟨r1, hr⟩ : ∃ r, r = runM cs N at_ zs := ⟨_, rfl⟩
                rw [← hr] at hr1 HRUN ⊢
                have hbb := bel_alloc w5 (.cells #[.int .i64 r1.at_, .slice A1 r1.zs.length c1] 46)
                replace E := Lib.hid ((E.out.next hb).next hbb)
                replace X := Lib.hid ((X.out.next hb).next hbb)
                replace RC2 := Lib.hid ((RC2.out.below hb).below hbb)
                replace RY := Lib.hid ((RY.out.below hb).below hbb)
                have X1 := Lib.hid (BxS.new w5 r1.at_ A1 r1.zs.length c1)
                have Y1 := Lib.hid (hr1.below hbb)
                obtain ⟨f1, hf1⟩ : ∃ f : Int, f = if r1.big = true then 4 else 0 := ⟨_, rfl⟩
                rw [← hf1]
                have HF1 := Lib.hid hf1
                clear hbb hb hr1 hr m0 m1 s0 s1 hf1 u1 u1n
                go_upto_region 21 with (fail)
                generalize w5.alloc (.cells #[.int .i64 r1.at_, .slice A1 r1.zs.length c1] 46) = W6 at E X RC2 RY X1 Y1 ⊢
                generalize w5.heap.size = g1 at X1 ⊢
                obtain ⟨m0, m1, s0, s1⟩ := E.out.cells
                have d0 := X.out.c0
                have d1 := X.out.c1
                go_wp2_with fail
                refine (Run_ok (k : Int) A2 j c2 (renC ts cs) at_ (some ⟨gR, 0, none⟩) k k ys N W6 RC2.out RY.out (by omega) HFY.out (by have := HS.out; omega)).mono ?_
                rintro e' w7 ⟨A3, c3, rfl, hr2, _, _, hb, _⟩
                obtain ⟨r2, hr⟩ : ∃ r, r = runM (renC ts cs) N at_ ys := ⟨_, rfl⟩
                rw [← hr] at hr2 HRUN ⊢
                have hbb := bel_alloc w7 (.cells #[.int .i64 r2.at_, .slice A3 r2.zs.length c3] 46)
                replace E := Lib.hid ((E.out.next hb).next hbb)
                replace X1 := Lib.hid ((X1.out.next hb).next hbb)
                replace Y1 := Lib.hid ((Y1.out.below hb).below hbb)
                have X2 := Lib.hid (BxS.new w7 r2.at_ A3 r2.zs.length c3)
                have Y2 := Lib.hid (hr2.below hbb)
                obtain ⟨q1, q2, q3, q4⟩ := HRUN.out
                clear hbb hb hr2 hr m0 m1 s0 s1 d0 d1 X RC2 RY HRUN HFY
                obtain ⟨at1, zs1, k1, b1⟩ := r1
                obtain ⟨at2, zs2, k2, b2⟩ := r2
                dsimp only at q1 q2 q3 q4 HF1 X1 Y1 X2 Y2 ⊢
                subst q1 q2 q3
                cases b2 with
                | true =>
                  have hf1 : f1 = 4 := HF1.out
                  subst hf1
                  clear HF1 q4
                  go_upto_region 22 with (fail)
                  generalize w7.alloc (.cells #[.int .i64 at2, .slice A3 zs2.length c3] 46) = W9 at E X1 Y1 X2 Y2 ⊢
                  go_wp2_with fail
                  refine (awake13_c _ E.out.ml).mono ?_
                  rintro e' wa ⟨rfl, hb⟩
                  replace E := Lib.hid (E.out.next hb)
                  clear hb
                  go_wp2
                  go_ret
                  exact ⟨rfl, E.out.ms.below⟩
                | false =>
                  have hf1 : f1 = 0 := HF1.out
                  subst hf1
                  have RZ := Lib.hid (q4 rfl)
                  have hl1 : zs1.length = k := by have h1 := RZ.out.lz; have h2 := HL.out; omega
                  have hl2 : zs2.length = k := by have h1 := RZ.out.ly; have h2 := HL.out; omega
                  rw [hl1] at X1 Y1
                  rw [hl2] at E X1 Y1 X2 Y2
                  rw [hl1, hl2]
                  clear HF1 q4 hl1 hl2
                  go_upto_region 22 with (fail)
                  generalize w7.alloc (.cells #[.int .i64 at2, .slice A3 k c3] 46) = W9 at E X1 Y1 X2 Y2 ⊢
                  generalize w7.heap.size = g2 at X2 ⊢
                  obtain ⟨m0, m1, s0, s1⟩ := E.out.cells
                  have a0 := X1.out.c0
                  have a1 := X1.out.c1
                  have d0 := X2.out.c0
                  have d1 := X2.out.c1
                  go_wp2
                  go_loopw [21] (fun v wq => ∃ q p : Nat, v = .int .i64 (q : Int) ∧ q ≤ k ∧ wq = W9.drewN p) (fun v _ => k - (intOf v).toNat)
                  case atStart => exact ⟨0, 0, rfl, Nat.zero_le _, rfl⟩
                  case round =>
                    obtain ⟨q, p, rfl, hq, rfl⟩ := hrel
                    rcases Nat.lt_or_ge q k with hqk | hqk
                    · have u1 : decide ((q : Int) < (k : Int)) = true := decide_eq_true (by omega)
                      have u1n : decide (q < k) = true := decide_eq_true hqk
                      have hqI : (q : Int) < (k : Int) := by omega
                      obtain ⟨b4, o4, hA1, _, hc4⟩ := Y1.out.at_ (by omega)
                      obtain ⟨b5, o5, hA3, _, hc5⟩ := Y2.out.at_ (by omega)
                      obtain ⟨b6, o6, hC, _, hc6⟩ := E.out.ry.at_ (by omega)
                      have p6 := hc6 q hqk
                      have h7 := PT.out.rng q (by have := HL.out; omega)
                      have h8 := RZ.out.eq q (by have := HL.out; omega)
                      obtain ⟨t, ht⟩ := Int.eq_ofNat_of_zero_le h7.1
                      rw [ht] at p6 h7 h8
                      rw [Int.toNat_natCast] at h8
                      have htk : t < k := by omega
                      have htI : (t : Int) < (k : Int) := by omega
                      have p4 := hc4 q hqk
                      have p5 := hc5 t htk
                      rw [h8] at p5
                      generalize zs1.getD q 0 = zv at p4 p5
                      subst hA1 hA3 hC
                      clear hc4 hc5 hc6 h7 h8 ht
                      go_upto_region 29 with (fail)
                      go_quiet (fail)
                      go_wp2
                      go_roundw
                      case measure => simp [intOf]; omega
                      case rel => exact ⟨q + 1, _, by go_num, by omega, rfl⟩
                    · have u1 : decide ((q : Int) < (k : Int)) = false := decide_eq_false (by omega)
                      have u1n : decide (q < k) = false := decide_eq_false (by omega)
                      replace E := Lib.hid (E.out.next (bel_drew (Below.refl _ _) p))
                      go_wp2_with fail
                      refine (awake13_c _ E.out.ml).mono ?_
                      rintro e' wa ⟨rfl, hb⟩
                      replace E := Lib.hid (E.out.next hb)
                      clear hb
                      go_wp2
                      go_ret
                      exact ⟨rfl, E.out.ms.below⟩
      · by_cases hkR : (k : Int) = R
        · subst hkR
          have t1 : ((k : Int) == (k : Int)) = true := by simp
          have t2 : decide ((2000 : Int) < (N : Int)) = true := decide_eq_true (by omega)
          go_wp2_with fail
          refine (awake13_c _ E.out.ml).mono ?_
          rintro e' wa ⟨rfl, hb⟩
          replace E := Lib.hid (E.out.next hb)
          clear hb
          go_wp2
          go_ret
          exact ⟨rfl, E.out.ms.below⟩
        · have t1 : ((k : Int) == R) = false := beq_eq_false_iff_ne.2 hkR
          go_wp2_with fail
          refine (awake13_c _ E.out.ml).mono ?_
          rintro e' wa ⟨rfl, hb⟩
          replace E := Lib.hid (E.out.next hb)
          clear hb
          go_wp2
          go_ret
          exact ⟨rfl, E.out.ms.below⟩
  · go_wp2_with fail
    refine (wide_t R A n c at_ B m d C k e W0 hw).mono ?_
    rintro e' w1 ⟨rfl, hb⟩
    replace E := Lib.hid (E.out.next hb)
    clear hb hw m0 m1 s0 s1
    go_wp2_with fail
    refine (awake13_c w1 E.out.ml).mono ?_
    rintro e' w2 ⟨rfl, hb⟩
    replace E := Lib.hid (E.out.next hb)
    clear hb
    go_wp2
    go_ret
    exact ⟨rfl, E.out.ms.below⟩
end Go.Proofs.YthjdnidapbhdlaaDoor
