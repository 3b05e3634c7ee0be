import Derived.Test.YteabokkofoomkaaCas
import Derived.Test.YteabokkofoomkaaCay
import Derived.Test.YteabokkofoomkaaCaw
import Derived.Stop.BytesEq
import Derived.MapKept
import Derived.Laws.IdiomRangeMap
import Derived.Shelf.SlicesQ.Load
import Derived.Carry
import Derived.Deep.MidRow
set_option maxRecDepth 100000
namespace Go.Proofs.Yteabokkofoomkaa
open Go.RowKit Go.Shelf Go.Deep Go.MapKept
open Extern.Stop (cell)
def keyV (ks : List UInt8) : Value := .agg (ks.map cell).toArray
theorem keyV_inj {a b : List UInt8} (h : keyV a = keyV b) : a = b := by
 unfold keyV at h
 injection h with h
 have h2 : a.map cell = b.map cell := by simpa using congrArg Array.toList h
 refine List.map_inj_right (fun x y e => ?_) |>.1 h2
 have e1 : ((x.toNat : Nat) : Int) = (y.toNat : Int) := congrArg (fun v : Value => match v with | .int _ z => z | _ => 0) e
 exact UInt8.toNat_inj.1 (by omega)
theorem size_byte (w : World) : (sizeOf 5).run Try.prog w = .ok 1 w := by
 obtain ⟨i, hi, hs⟩ : ∃ i, Try.prog.info? 5 = some i ∧ i.size = 1 := ⟨_, rfl, by kernel_rfl⟩
 simp [sizeOf, typeInfo, hi, hs]
theorem run_check_byte (w : World) (e : Bool) (n : Nat) (x : UInt8) : (Instr.checkKey e n.succ 5 (cell x)).run Try.prog w = .ok () w :=
 run_checkKey (P := Try.prog) (w := w) (kt := 5) (d := .int .u8) (k := cell x) Try.underlying5 (show IsKey (.int .u8) (cell x) from rfl) e n
theorem all_same (n : Nat) : ∀ ks : List UInt8, ((ks.map cell).zip (ks.map cell)).all (fun (x, y) => Instr.sameBits n.succ x y) = true
 | [] => rfl
 | k :: t => by
   have ih := all_same n t
   simp only [List.map_cons, List.zip_cons_cons, List.all_cons, ih, Bool.and_true]
   simp [cell, Instr.sameBits]
theorem same_key (ks : List UInt8) : Instr.sameBits 10000 (keyV ks) (keyV ks) = true := by
 show Instr.sameBits (9998 + 2) (.agg (ks.map cell).toArray) (.agg (ks.map cell).toArray) = true
 rw [Instr.sameBits]
 simp only [beq_self_eq_true, Bool.true_and]
 exact all_same 9998 ks
abbrev Ent : Type := List UInt8 × Value
def findE (M : List Ent) (ks : List UInt8) : Option Value := (M.find? (fun p => p.1 == ks)).map (·.2)
def putE (ks : List UInt8) (v : Value) : List Ent → List Ent
 | [] => [(ks, v)]
 | p :: t => if p.1 == ks then (ks, v) :: t else p :: putE ks v t
structure MapB (W : World) (mb : Nat) (M : List Ent) : Prop where
 len : ∀ p ∈ M, p.1.length = 32
 ex : ∃ es clock, W.heap[mb]? = some (.map es clock) ∧ es.toList.map (fun e => (e.key, e.val)) = M.map (fun p => (keyV p.1, p.2)) ∧ Stamped es clock
theorem MapB.new (W : World) : MapB (W.alloc (.map #[] 0)) W.heap.size [] := ⟨(fun _ h => absurd h List.not_mem_nil), #[], 0, heap_alloc_new W _, rfl, stamped_empty 0⟩
theorem MapB.of_block {W W' : World} {mb : Nat} {M : List Ent} (h : MapB W mb M) (hb : W'.heap[mb]? = W.heap[mb]?) : MapB W' mb M := by
 obtain ⟨hl, es, clock, e, h1, h2⟩ := h
 exact ⟨hl, es, clock, hb.trans e, h1, h2⟩
theorem MapB.lt {W : World} {mb : Nat} {M : List Ent} (h : MapB W mb M) : mb < W.heap.size := by
 obtain ⟨_, es, clock, e, _⟩ := h
 exact (Array.getElem?_eq_some_iff.1 e).1
abbrev zeroI : Value := .agg #[.bool false, .slice none 0 0]
structure But (b : Nat) (W W' : World) : Prop where
 os : W'.os = W.os
 tape : W'.tape = W.tape
 output : W'.output = W.output
 size : W'.heap.size = W.heap.size
 block : ∀ k, k ≠ b → W'.heap[k]? = W.heap[k]?
theorem But.below {b B : Nat} {w W W' : World} (h : But b W W') (hb : Below B w W) (hB : B ≤ b) : Below B w W' :=
 ⟨h.os.trans hb.os, h.tape.trans hb.tape, h.output.trans hb.output, by rw [h.size]; exact hb.size, fun k hk => (h.block k (by omega)).trans (hb.block k hk)⟩
theorem putE_at {ks : List UInt8} {v : Value} : ∀ {M : List Ent} {j : Nat} {u : Value}, M[j]? = some (ks, u) → (∀ q, q < j → ∀ p, M[q]? = some p → p.1 ≠ ks) → putE ks v M = M.modify j (fun _ => (ks, v))
 | [], j, u, h, _ => by simp at h
 | p :: M, 0, u, h, _ => by
   obtain rfl : p = (ks, u) := by simpa using h
   simp [putE]
 | p :: M, j + 1, u, h, hq => by
   have h1 : (p.1 == ks) = false := by rw [beq_eq_false_iff_ne]; exact hq 0 (by omega) p (by simp)
   have ih := putE_at (v := v) (M := M) (j := j) (u := u) (by simpa using h) (fun q hq' p' hp' => hq (q + 1) (by omega) p' (by simpa using hp'))
   simp [putE, h1, ih]
theorem putE_new {ks : List UInt8} {v : Value} : ∀ {M : List Ent}, (∀ p ∈ M, p.1 ≠ ks) → putE ks v M = M ++ [(ks, v)]
 | [], _ => rfl
 | p :: M, h => by
   have h1 : (p.1 == ks) = false := by rw [beq_eq_false_iff_ne]; exact h p (by simp)
   have ih := putE_new (v := v) (M := M) (fun p' hp' => h p' (by simp [hp']))
   simp [putE, h1, ih]
theorem set_but {W : World} {b : Nat} (o : Obj) : But b W { W with heap := W.heap.setIfInBounds b o } :=
 ⟨rfl, rfl, rfl, by simp, fun k hk => by simp [Ne.symm hk]⟩
def bornAt (es : Array MapEntry) (j : Nat) : Nat := ((es[j]?).map (·.born)).getD 0
structure IterB (W : World) (mb bi : Nat) (M : List Ent) (S : List Nat) : Prop where
 mp : MapB W mb M
 ne : mb ≠ bi
 lt : ∀ j ∈ S, j < M.length
 nd : S.Nodup
 ex : ∃ es clock seen, W.heap[mb]? = some (.map es clock) ∧ es.toList.map (fun e => (e.key, e.val)) = M.map (fun p => (keyV p.1, p.2)) ∧ Stamped es clock ∧ W.heap[bi]? = some (.mapIter (some mb) clock seen clock) ∧ seen.toList = S.map (bornAt es)
end Go.Proofs.Yteabokkofoomkaa
set_option maxRecDepth 100000
namespace Go.Proofs.Yteabokkofoomkaa
open Go.RowKit Go.Shelf Go.Deep
def coefZ : List Zt → List Int → Int
 | [], _ => 0
 | t :: l, es => (if t.es = es then t.z else 0) + coefZ l es
theorem coefZ_app (a b : List Zt) (es : List Int) : coefZ (a ++ b) es = coefZ a es + coefZ b es := by
 induction a with
 | nil => simp [coefZ]
 | cons t a ih => simp only [List.cons_append, coefZ, ih]; omega
open Extern.Stop (cell)
def ExpsB (V : Nat) (es : List Int) : Prop := es.length = V ∧ ∀ k, k < V → 0 ≤ es.getD k 0 ∧ es.getD k 0 ≤ 240
def addE (a b : List Int) : List Int := (List.range a.length).map fun i => a.getD i 0 + b.getD i 0
theorem addE_len (a b : List Int) : (addE a b).length = a.length := by simp [addE]
theorem addE_at {a b : List Int} {i : Nat} (h : i < a.length) : (addE a b).getD i 0 = a.getD i 0 + b.getD i 0 := by
 unfold addE
 rw [List.getD_eq_getElem?_getD, List.getElem?_map, List.getElem?_range h]
 rfl
def keyU (es : List Int) : List UInt8 := (List.range 32).map fun i => UInt8.ofNat (es.getD i 0).toNat
theorem keyU_len (es : List Int) : (keyU es).length = 32 := by simp [keyU]
theorem keyU_at {V : Nat} {es : List Int} (h : ExpsB V es) {i : Nat} (hi : i < 32) : (((keyU es).getD i 0).toNat : Int) = es.getD i 0 := by
 unfold keyU
 rw [List.getD_eq_getElem?_getD, List.getElem?_map, List.getElem?_range hi]
 simp only [Option.map_some, Option.getD_some]
 have hb : 0 ≤ es.getD i 0 ∧ es.getD i 0 ≤ 240 := by
  by_cases hv : i < V
  · exact h.2 i hv
  · rw [List.getD_eq_getElem?_getD, List.getElem?_eq_none (by rw [h.1]; omega)]
    decide
 rw [UInt8.toNat_ofNat']
 omega
theorem keyU_inj {V : Nat} (hV : V ≤ 32) {a b : List Int} (ha : ExpsB V a) (hb : ExpsB V b) (h : keyU a = keyU b) : a = b := by
 refine List.ext_getElem (by rw [ha.1, hb.1]) fun i h1 h2 => ?_
 have e1 := keyU_at ha (i := i) (by have := ha.1; omega)
 have e2 := keyU_at hb (i := i) (by have := ha.1; omega)
 rw [h] at e1
 have e3 := e1.symm.trans e2
 simpa [List.getD_eq_getElem?_getD, List.getElem?_eq_getElem h1, List.getElem?_eq_getElem h2] using e3
structure KV (W : World) (g : Nat) (f : Nat → Int) : Prop where
 lt : g < W.heap.size
 at_ : ∀ i, i < 32 → W.cell? ⟨g, i, none⟩ = some (.int .u8 (f i))
 fr : ∀ o, W.frozen? ⟨g, o, none⟩ = false
theorem KV.next {W W' : World} {g : Nat} {f : Nat → Int} (h : KV W g f) (hb : Below W.heap.size W W') : KV W' g f :=
 ⟨Nat.lt_of_lt_of_le h.lt hb.size, fun i hi => (hb.cell (p := ⟨g, i, none⟩) h.lt).trans (h.at_ i hi), fun o => (hb.frozen (p := ⟨g, o, none⟩) h.lt).trans (h.fr o)⟩
theorem KV.stp {W W' : World} {b g : Nat} {f : Nat → Int} (h : KV W g f) (hne : g ≠ b) (hs : Stp b W W') : KV W' g f :=
 ⟨Nat.lt_of_lt_of_le h.lt hs.size, fun i hi => (hs.cell (p := ⟨g, i, none⟩) h.lt hne).trans (h.at_ i hi), fun o => (hs.frozen h.lt hne).trans (h.fr o)⟩
theorem KV.set_ {W : World} {g : Nat} {f : Nat → Int} (h : KV W g f) {i : Nat} (hi : i < 32) (z : Int) : KV (W.setCell ⟨g, i, none⟩ (.int .u8 z)) g (fun q => if q = i then z else f q) := by
 refine ⟨by rw [World.size_setCell]; exact h.lt, fun q hq => ?_, fun o => by rw [World.frozen?_setCell]; exact h.fr o⟩
 by_cases e : q = i
 · subst e
   rw [if_pos rfl]
   exact World.cell?_setCell_same _ _ _ (h.at_ q hq)
 · rw [if_neg e]
   exact (World.cell?_setCell_other _ _ _ _ (by intro e2; injection e2 with _ e2; exact e e2.symm)).trans (h.at_ q hq)
theorem KV.load {W : World} {g : Nat} {f : Nat → Int} (h : KV W g f) {ks : List UInt8} (hk : ks.length = 32) (hf : ∀ i, i < 32 → f i = ((ks.getD i 0).toNat : Int)) :
 Sem.run Try.prog (loadCellsFrom ⟨g, 0, none⟩ 0 32 #[]) W = .ok (ks.map cell).toArray W := by
 refine run_loadCellsFrom_list _ _ _ _ 32 (by simpa using hk) fun j v hv => ?_
 have hj : j < 32 := by
  have := (List.getElem?_eq_some_iff.1 hv).1
  simpa [hk] using this
 have e : (⟨g, 0, none⟩ : Addr).add j = ⟨g, j, none⟩ := by
  unfold Addr.add
  split
  · rename_i h0; subst h0; rfl
  · simp
 rw [e, h.at_ j hj, hf j hj, ← hv]
 simp [List.getD_eq_getElem?_getD, List.getElem?_eq_getElem (show j < ks.length by omega), cell]
abbrev EZ : Type := List Int × Int
def findZ (E : List EZ) (es : List Int) : Int := ((E.find? (fun p => p.1 == es)).map (·.2)).getD 0
def putZ (es : List Int) (z : Int) : List EZ → List EZ
 | [] => [(es, z)]
 | p :: t => if p.1 == es then (es, z) :: t else p :: putZ es z t
theorem findZ_put (es : List Int) (z : Int) : ∀ (E : List EZ) (fs : List Int), findZ (putZ es z E) fs = if fs = es then z else findZ E fs
 | [], fs => by
   unfold putZ findZ
   by_cases h : fs = es
   · subst h; simp
   · rw [if_neg h]
     have : (es == fs) = false := by rw [beq_eq_false_iff_ne]; exact fun e => h e.symm
     simp [this]
 | p :: E, fs => by
   have ih := findZ_put es z E fs
   unfold putZ
   by_cases q : p.1 = es
   · have q1 : (p.1 == es) = true := by simpa using q
     rw [if_pos q1]
     unfold findZ
     by_cases h : fs = es
     · subst h; simp
     · rw [if_neg h]
       have h1 : (es == fs) = false := by rw [beq_eq_false_iff_ne]; exact fun e => h e.symm
       have h2 : (p.1 == fs) = false := by rw [beq_eq_false_iff_ne, q]; exact fun e => h e.symm
       simp [h1, h2]
   · have q1 : (p.1 == es) = false := by simpa using q
     rw [q1]
     simp only [Bool.false_eq_true, if_false]
     unfold findZ at ih ⊢
     by_cases h : p.1 = fs
     · have h1 : (p.1 == fs) = true := by simpa using h
       rw [if_neg (by rintro rfl; exact q h)]
       simp [h1]
     · have h1 : (p.1 == fs) = false := by simpa using h
       simp only [List.find?_cons, h1]
       exact ih
inductive All2 {α β : Type} (R : α → β → Prop) : List α → List β → Prop where
 | nil : All2 R [] []
 | cons {a : α} {b : β} {l : List α} {m : List β} : R a b → All2 R l m → All2 R (a :: l) (b :: m)
structure EntOk (W : World) (V : Nat) (e : EZ) (p : Ent) : Prop where
 es : ExpsB V e.1
 key : p.1 = keyU e.1
 val : ∃ t A n c, p.2 = .agg #[.bool t, .slice A n c] ∧ Iv W e.2 t A n c
structure JM (W : World) (mb V : Nat) (E : List EZ) : Prop where
 nd : (E.map (·.1)).Nodup
 ex : ∃ M, MapB W mb M ∧ All2 (EntOk W V) E M
theorem JM.new (W : World) (V : Nat) : JM (W.alloc (.map #[] 0)) W.heap.size V [] := ⟨List.nodup_nil, [], MapB.new W, .nil⟩
theorem JM.lt {W : World} {mb V : Nat} {E : List EZ} (h : JM W mb V E) : mb < W.heap.size := by
 obtain ⟨_, M, hM, _⟩ := h
 exact hM.lt
theorem EntOk.mono {W W' : World} {V : Nat} {e : EZ} {p : Ent} (h : EntOk W V e p) (hi : ∀ z t A n c, Iv W z t A n c → Iv W' z t A n c) : EntOk W' V e p := by
 obtain ⟨t, A, n, c, h1, h2⟩ := h.val
 exact ⟨h.es, h.key, t, A, n, c, h1, hi _ _ _ _ _ h2⟩
theorem forall2_mono {α β : Type} {R R' : α → β → Prop} (h : ∀ a b, R a b → R' a b) : ∀ {l : List α} {m : List β}, All2 R l m → All2 R' l m
 | _, _, .nil => .nil
 | _, _, .cons x t => .cons (h _ _ x) (forall2_mono h t)
theorem JM.mono {W W' : World} {mb V : Nat} {E : List EZ} (h : JM W mb V E) (hb : W'.heap[mb]? = W.heap[mb]?) (hi : ∀ z t A n c, Iv W z t A n c → Iv W' z t A n c) : JM W' mb V E := by
 obtain ⟨hn, M, hM, hF⟩ := h
 exact ⟨hn, M, hM.of_block hb, forall2_mono (fun _ _ x => x.mono hi) hF⟩
theorem JM.next {W W' : World} {mb V : Nat} {E : List EZ} (h : JM W mb V E) (hb : Below W.heap.size W W') : JM W' mb V E :=
 h.mono (hb.block mb h.lt) fun _ _ _ _ _ x => x.below hb
theorem JM.stp {W W' : World} {b mb V : Nat} {k : Int} {E : List EZ} (h : JM W mb V E) (hc : Cc W b k) (hs : Stp b W W') (hne : mb ≠ b) : JM W' mb V E :=
 h.mono (hs.grown.block mb h.lt (by intro e; injection e with e; exact hne e)) fun _ _ _ _ _ x => x.stp hc hs
theorem Iv.but {W W' : World} {mb : Nat} {M : List Ent} (hM : MapB W mb M) (hb : But mb W W') {z : Int} {t : Bool} {A : Option Addr} {n c : Nat} (h : Iv W z t A n c) : Iv W' z t A n c := by
 obtain ⟨⟨h1, h2, h3, h4, h5⟩, hs⟩ := h
 refine ⟨⟨h1, h2, ⟨h3.len, h3.sm, fun hp => ?_⟩, h4, h5⟩, hs⟩
 obtain ⟨b', o, e, hlt, hcell⟩ := h3.at_ hp
 refine ⟨b', o, e, by rw [hb.size]; exact hlt, fun i hi => ?_⟩
 have hc := hcell i hi
 have hne : b' ≠ mb := by
  rintro rfl
  obtain ⟨_, es, clock, e2, _⟩ := hM
  unfold World.cell? at hc
  rw [e2] at hc
  cases hc
 exact (World.cell?_of_block (hb.block b' hne)).trans hc
theorem find_pair {W : World} {V : Nat} (hV : V ≤ 32) {es : List Int} (hes : ExpsB V es) : ∀ {E : List EZ} {M : List Ent}, All2 (EntOk W V) E M → ∃ t A n c, (findE M (keyU es)).getD zeroI = .agg #[.bool t, .slice A n c] ∧ Iv W (findZ E es) t A n c
 | _, _, .nil => ⟨false, none, 0, 0, rfl, ⟨zero_is W, by show (0 : Int).natAbs < pw 4096; exact pw_pos 4096⟩⟩
 | e :: E, p :: M, .cons x t => by
   by_cases q : e.1 = es
   · obtain ⟨t, A, n, c, h1, h2⟩ := x.val
     have k1 : (p.1 == keyU es) = true := by rw [x.key, q]; simp
     have k2 : (e.1 == es) = true := by simpa using q
     exact ⟨t, A, n, c, by simp [findE, k1, h1], by simpa [findZ, List.find?_cons, k2] using h2⟩
   · have k1 : (p.1 == keyU es) = false := by
      rw [beq_eq_false_iff_ne, x.key]
      exact fun h => q (keyU_inj hV x.es hes h)
     have k2 : (e.1 == es) = false := by simpa using q
     obtain ⟨t', A, n, c, h1, h2⟩ := find_pair hV hes t
     exact ⟨t', A, n, c, by simpa [findE, List.find?_cons, k1] using h1, by simpa [findZ, List.find?_cons, k2] using h2⟩
theorem put_pair {W : World} {V : Nat} (hV : V ≤ 32) {es : List Int} (hes : ExpsB V es) {z : Int} {t : Bool} {A : Option Addr} {n c : Nat} (hi : Iv W z t A n c) : ∀ {E : List EZ} {M : List Ent}, All2 (EntOk W V) E M → All2 (EntOk W V) (putZ es z E) (putE (keyU es) (.agg #[.bool t, .slice A n c]) M)
 | _, _, .nil => .cons ⟨hes, rfl, t, A, n, c, rfl, hi⟩ .nil
 | e :: E, p :: M, .cons x tl => by
   unfold putZ putE
   by_cases q : e.1 = es
   · have k1 : (p.1 == keyU es) = true := by rw [x.key, q]; simp
     have k2 : (e.1 == es) = true := by simpa using q
     rw [if_pos k1, if_pos k2]
     exact .cons ⟨hes, rfl, t, A, n, c, rfl, hi⟩ tl
   · have k1 : (p.1 == keyU es) = false := by
      rw [beq_eq_false_iff_ne, x.key]
      exact fun h => q (keyU_inj hV x.es hes h)
     have k2 : (e.1 == es) = false := by simpa using q
     rw [k1, k2]
     simp only [Bool.false_eq_true, if_false]
     exact .cons x (put_pair hV hes hi tl)
theorem putZ_mem {es : List Int} {z : Int} : ∀ {E : List EZ} {x : List Int}, x ∈ (putZ es z E).map (·.1) → x = es ∨ x ∈ E.map (·.1)
 | [], x, h => by simp [putZ] at h; exact .inl h
 | p :: E, x, h => by
   unfold putZ at h
   split at h
   · rcases List.mem_cons.1 h with h | h
     · exact .inl h
     · exact .inr (by simp at h ⊢; exact .inr h)
   · rcases List.mem_cons.1 h with h | h
     · exact .inr (by rw [h]; simp)
     · rcases putZ_mem h with h | h
       · exact .inl h
       · exact .inr (by simp at h ⊢; exact .inr h)
theorem putZ_nd {es : List Int} {z : Int} : ∀ {E : List EZ}, (E.map (·.1)).Nodup → ((putZ es z E).map (·.1)).Nodup
 | [], _ => by simp [putZ]
 | p :: E, h => by
   rw [List.map_cons, List.nodup_cons] at h
   unfold putZ
   split
   · rename_i q
     rw [List.map_cons, List.nodup_cons]
     rw [beq_iff_eq] at q
     exact ⟨by rw [← q]; exact h.1, h.2⟩
   · rename_i q
     rw [List.map_cons, List.nodup_cons]
     refine ⟨fun hm => ?_, putZ_nd h.2⟩
     rcases putZ_mem hm with e | e
     · exact q (by rw [beq_iff_eq]; exact e)
     · exact h.1 e
end Go.Proofs.Yteabokkofoomkaa
set_option maxRecDepth 100000
namespace Go.Proofs.Yteabokkofoomkaa
open Go.RowKit Go.Shelf Go.Deep
open Extern.Stop (cell)
theorem Stp.but {b mb : Nat} {w W W' : World} (h : Stp b w W) (hb : But mb W W') (hm : w.heap.size ≤ mb) (hne : mb ≠ b) : Stp b w W' := by
 refine ⟨⟨hb.os.trans h.grown.os, hb.tape.trans h.grown.tape, hb.output.trans h.grown.output, by rw [hb.size]; exact h.grown.size, fun q hq hn => (hb.block q (by omega)).trans (h.grown.block q hq hn)⟩, fun o ho => ?_, fun o => ?_⟩
 · exact (World.cell?_of_block (hb.block b (Ne.symm hne))).trans (h.own o ho)
 · exact (World.frozen?_of_block (hb.block b (Ne.symm hne))).trans (h.frz o)
theorem Cc.but {b mb : Nat} {k : Int} {W W' : World} (h : Cc W b k) (hb : But mb W W') (hne : mb ≠ b) : Cc W' b k :=
 ⟨by rw [hb.size]; exact h.lt, (World.cell?_of_block (hb.block b (Ne.symm hne))).trans h.c0, (World.frozen?_of_block (hb.block b (Ne.symm hne))).trans h.f0⟩
def prodZ (a b : Zt) : Zt := ⟨a.z * b.z, addE a.es b.es⟩
structure JB (w W : World) (gm mb V T : Nat) (k : Int) (E : List EZ) (D : List Zt) : Prop where
 st : Stp gm w W
 cc : Cc W gm k
 sk : St T k
 jm : JM W mb V E
 co : k = 0 → ∀ es, findZ E es = coefZ D es
 mb : w.heap.size ≤ mb
 ln : E.length ≤ D.length
theorem JB.ne {w W : World} {gm mb V T : Nat} {k : Int} {E : List EZ} {D : List Zt} (h : JB w W gm mb V T k E D) (hg : gm < w.heap.size) : mb ≠ gm := by
 have := h.mb
 omega
theorem JB.next {w W W' : World} {gm mb V T : Nat} {k : Int} {E : List EZ} {D : List Zt} (h : JB w W gm mb V T k E D) (hb : Below W.heap.size W W') : JB w W' gm mb V T k E D :=
 ⟨h.st.trans (Stp.of_below h.cc.lt hb), h.cc.below hb, h.sk, h.jm.next hb, h.co, h.mb, h.ln⟩
theorem JB.low {w0 w W : World} {gm mb V T : Nat} {k : Int} {E : List EZ} {D : List Zt} (h : JB w W gm mb V T k E D) (h0 : Below w0.heap.size w0 w) (hg : w0.heap.size ≤ gm) : Below w0.heap.size w0 W :=
 h0.trans (h.st.below h0.size hg)
theorem JB.of {w W : World} {gm mb V T : Nat} {k : Int} {E : List EZ} {D D' : List Zt} (h : JB w W gm mb V T k E D) (e : D = D') : JB w W gm mb V T k E D' := e ▸ h
theorem Iv.set8 {W : World} {z : Int} {t : Bool} {A : Option Addr} {n c : Nat} (h : Iv W z t A n c) {p : Addr} {x : Int} (hp : W.cell? p = some (.int .u8 x)) (u : Value) : Iv (W.setCell p u) z t A n c :=
 ⟨⟨h.is.1, h.is.2.1, h.is.2.2.1.set_other hp (fun _ e => by cases e) u, h.is.2.2.2⟩, h.sz⟩
theorem JB.setk {w W : World} {gm mb V T : Nat} {k : Int} {E : List EZ} {D : List Zt} (h : JB w W gm mb V T k E D) {p : Addr} (hw : w.heap.size ≤ p.block) (hm : p.block ≠ gm) (hb : p.block ≠ mb) {x : Int} (hp : W.cell? p = some (.int .u8 x)) (u : Value) : JB w (W.setCell p u) gm mb V T k E D := by
 refine ⟨⟨grown_setCell h.st.grown (.inr hw) u, fun o ho => ?_, fun o => ?_⟩, ⟨by rw [World.size_setCell]; exact h.cc.lt, ?_, ?_⟩, h.sk, h.jm.mono (Below.heap_setCell W p u mb (Ne.symm hb)) (fun _ _ _ _ _ y => y.set8 hp u), h.co, h.mb, h.ln⟩
 · exact (World.cell?_setCell_other _ _ _ _ (by intro e; subst e; exact hm rfl)).trans (h.st.own o ho)
 · rw [World.frozen?_setCell]; exact h.st.frz o
 · exact (World.cell?_setCell_other _ _ _ _ (by intro e; subst e; exact hm rfl)).trans h.cc.c0
 · rw [World.frozen?_setCell]; exact h.cc.f0
structure PB (W : World) (g : Nat) (A : Option Addr) (n c : Nat) (B : Option Addr) (m d : Nat) : Prop where
 lt : g < W.heap.size
 c0 : W.cell? ⟨g, 0, none⟩ = some (.slice A n c)
 c1 : W.cell? ⟨g, 1, none⟩ = some (.slice B m d)
section
variable {W W' : World} {g : Nat} {A : Option Addr} {n c : Nat} {B : Option Addr} {m d : Nat} {s : Bool}
theorem blk_lt (h : g < W.heap.size) (hb : W'.heap[g]? = W.heap[g]?) : g < W'.heap.size := by
 rw [Array.getElem?_eq_getElem h] at hb
 exact (Array.getElem?_eq_some_iff.1 hb).1
theorem PB.blk (h : PB W g A n c B m d) (hb : W'.heap[g]? = W.heap[g]?) : PB W' g A n c B m d :=
 ⟨blk_lt h.lt hb, (World.cell?_of_block hb).trans h.c0, (World.cell?_of_block hb).trans h.c1⟩
theorem PB.next (h : PB W g A n c B m d) (hb : Below W.heap.size W W') : PB W' g A n c B m d := h.blk (hb.block g h.lt)
theorem BxT.blk (h : BxT W g s A n c B m d) (hb : W'.heap[g]? = W.heap[g]?) : BxT W' g s A n c B m d :=
 ⟨blk_lt h.lt hb, (World.cell?_of_block hb).trans h.c0, (World.cell?_of_block hb).trans h.c1, (World.cell?_of_block hb).trans h.c2⟩
end
theorem take_flat {α β : Type} (f : α → List β) {l : List α} {i : Nat} (h : i < l.length) : (l.take (i + 1)).flatMap f = (l.take i).flatMap f ++ f l[i] := by
 rw [List.take_add_one, List.getElem?_eq_getElem h, List.flatMap_append]
 simp
def kf (a b : List Int) (x : Nat) (i : Nat) : Int := if i < x then a.getD i 0 + b.getD i 0 else 0
theorem JB.stp {w W W' : World} {gm mb V T : Nat} {k k' : Int} {E : List EZ} {D : List Zt} (h : JB w W gm mb V T k E D) (hg : gm < w.heap.size) (hs : Stp gm W W') (hc : Cc W' gm k') (hk : St T k') (h0 : k' = 0 → k = 0) : JB w W' gm mb V T k' E D :=
 ⟨h.st.trans hs, hc, hk, h.jm.stp h.cc hs (h.ne hg), fun e => h.co (h0 e), h.mb, h.ln⟩
theorem putZ_len (es : List Int) (z : Int) : ∀ E : List EZ, (putZ es z E).length ≤ E.length + 1
 | [] => by simp [putZ]
 | p :: E => by
   have := putZ_len es z E
   unfold putZ
   split <;> simp <;> omega
end Go.Proofs.Yteabokkofoomkaa
set_option maxRecDepth 100000
namespace Go.Proofs.Yteabokkofoomkaa
open Go.RowKit Go.Shelf Go.Deep
open Extern.Stop (cell)
theorem NV.blk {W W' : World} {g : Nat} {t : Bool} {A : Option Addr} {n c : Nat} (h : NV W g t A n c) (hb : W'.heap[g]? = W.heap[g]?) (hf : ∀ o, W'.frozen? ⟨g, o, none⟩ = W.frozen? ⟨g, o, none⟩) : NV W' g t A n c :=
 ⟨blk_lt h.lt hb, (World.cell?_of_block hb).trans h.r0, (World.cell?_of_block hb).trans h.r1, (hf 0).trans h.f0, (hf 1).trans h.f1⟩
theorem KV.there {W : World} {g : Nat} {f : Nat → Int} (h : KV W g f) : W.there g 0 32 := fun j hj => by
 rw [Nat.zero_add]
 exact ⟨by rw [h.at_ j hj]; rfl, h.fr j⟩
def iterN (W : World) (bi : Nat) : Nat := match W.heap[bi]? with | some (.mapIter _ _ s _) => s.size | _ => 0
theorem IterB.num {W : World} {mb bi : Nat} {M : List Ent} {S : List Nat} (h : IterB W mb bi M S) : iterN W bi = S.length := by
 obtain ⟨_, _, _, _, es, clock, seen, _, _, _, hbi, hs⟩ := h
 unfold iterN
 rw [hbi]
 simpa using congrArg List.length hs
theorem IterB.blk {W W' : World} {mb bi : Nat} {M : List Ent} {S : List Nat} (h : IterB W mb bi M S) (h1 : W'.heap[mb]? = W.heap[mb]?) (h2 : W'.heap[bi]? = W.heap[bi]?) : IterB W' mb bi M S := by
 obtain ⟨hmp, hne, hlt, hnd, es, clock, seen, hb, he, hst, hbi, hs⟩ := h
 exact ⟨hmp.of_block h1, hne, hlt, hnd, es, clock, seen, h1.trans hb, he, hst, h2.trans hbi, hs⟩
theorem IterB.lt2 {W : World} {mb bi : Nat} {M : List Ent} {S : List Nat} (h : IterB W mb bi M S) : bi < W.heap.size := by
 obtain ⟨_, _, _, _, es, clock, seen, _, _, _, hbi, _⟩ := h
 exact (Array.getElem?_eq_some_iff.1 hbi).1
theorem IterB.next {W W' : World} {mb bi : Nat} {M : List Ent} {S : List Nat} (h : IterB W mb bi M S) (hb : Below W.heap.size W W') : IterB W' mb bi M S :=
 h.blk (hb.block mb h.mp.lt) (hb.block bi h.lt2)
theorem nodup_le : ∀ (l m : List Nat), l.Nodup → (∀ x ∈ l, x ∈ m) → l.length ≤ m.length
 | [], _, _, _ => Nat.zero_le _
 | x :: l, m, h, hs => by
   rw [List.nodup_cons] at h
   have hx := hs x (by simp)
   have ih := nodup_le l (m.erase x) h.2 (fun y hy => (List.mem_erase_of_ne (by rintro rfl; exact h.1 hy)).2 (hs y (by simp [hy])))
   rw [List.length_erase_of_mem hx] at ih
   have := List.length_pos_of_mem hx
   simp only [List.length_cons]
   omega
theorem IterB.len_le {W : World} {mb bi : Nat} {M : List Ent} {S : List Nat} (h : IterB W mb bi M S) : S.length ≤ M.length := by
 have h1 := nodup_le S (List.range M.length) h.nd fun x hx => List.mem_range.2 (h.lt x hx)
 simpa using h1
theorem But.cells {b : Nat} {W W' : World} (h : But b W W') (hn : ∀ c e f, W.heap[b]? ≠ some (.cells c e f)) {p : Addr} {v : Value} (hp : W.cell? p = some v) : W'.cell? p = some v := by
 have hne : p.block ≠ b := by
  intro e
  unfold World.cell? at hp
  rw [e] at hp
  cases hq : W.heap[b]? with
  | none => rw [hq] at hp; cases hp
  | some o =>
    rw [hq] at hp
    cases o with
    | cells c e f => exact hn c e f hq
    | _ => cases hp
 exact (World.cell?_of_block (h.block p.block hne)).trans hp
theorem Rd.but {b : Nat} {W W' : World} (h : But b W W') (hn : ∀ c e f, W.heap[b]? ≠ some (.cells c e f)) {A : Option Addr} {n : Nat} {xs : List Nat} (hr : Rd W A n xs) : Rd W' A n xs :=
 ⟨hr.len, hr.sm, fun h0 => by
  obtain ⟨b', o, e, hlt, hc⟩ := hr.at_ h0
  exact ⟨b', o, e, by rw [h.size]; exact hlt, fun k hk => h.cells hn (hc k hk)⟩⟩
theorem RdI.but {b : Nat} {W W' : World} (h : But b W W') (hn : ∀ c e f, W.heap[b]? ≠ some (.cells c e f)) {A : Option Addr} {n : Nat} {zs : List Int} (hr : RdI W A n zs) : RdI W' A n zs :=
 ⟨hr.len, fun h0 => by
  obtain ⟨b', o, e, hlt, hc⟩ := hr.at_ h0
  exact ⟨b', o, e, by rw [h.size]; exact hlt, fun k hk => h.cells hn (hc k hk)⟩⟩
theorem OwT.but {b : Nat} {W W' : World} (h : But b W W') (hn : ∀ c e f, W.heap[b]? ≠ some (.cells c e f)) {B : Nat} (hB : b < B) {A : Option Addr} {j c : Nat} {ts : List Trm} (hr : OwT W B A j c ts) : OwT W' B A j c ts := by
 have hc := hr.cap.2.2
 obtain ⟨rs, hown, hl, hk⟩ := hr.ex
 refine ⟨hr.len, hr.kind.keep fun a ha => h.block _ (by have := (hc a ha).1; omega), rs, ?_, hl, fun k hk2 => ⟨(hk k hk2).s, Rd.but h hn (hk k hk2).rd, (hk k hk2).nc, (hk k hk2).cm, RdI.but h hn (hk k hk2).ri, (hk k hk2).md, (hk k hk2).dm⟩⟩
 refine hown.kept (row := some b) ⟨h.os, h.tape, h.output, by rw [h.size]; exact Nat.le_refl _, fun k _ hne => h.block k (by intro e; subst e; exact hne rfl)⟩ ?_
 rcases A with _ | a
 · exact .inl rfl
 · exact .inr (by
    intro e
    have h1 : a.block = b := by injection e
    have h2 := (hc a rfl).1
    omega)
theorem IterB.nocells {W : World} {mb bi : Nat} {M : List Ent} {S : List Nat} (h : IterB W mb bi M S) : ∀ c e f, W.heap[bi]? ≠ some (.cells c e f) := by
 obtain ⟨_, _, _, _, es, clock, seen, _, _, _, hbi, _⟩ := h
 intro c e f q
 rw [hbi] at q
 cases q
end Go.Proofs.Yteabokkofoomkaa
