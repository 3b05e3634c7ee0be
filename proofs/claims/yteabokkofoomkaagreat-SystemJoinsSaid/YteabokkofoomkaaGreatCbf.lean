import Derived.Test.YteabokkofoomkaaGreatCbe
import Derived.Test.YteabokkofoomkaaGreatCbd
import Derived.Test.YteabokkofoomkaaGreatCan
import Derived.Test.YteabokkofoomkaaGreatCaq
import Derived.Test.YteabokkofoomkaaGreatCaj
import Derived.Laws.EntriesVeiled
import Derived.RangeFuncNested
import Derived.RangeFuncBound
import Derived.RangeFuncCalls
import Derived.RangeFuncLeaves
import Derived.RangeFuncFrom
import Derived.Deep.RegionWith
import Derived.Deep.DeepMust
import Derived.Deep.DeepCutAuto
import Derived.OwnWalkIn
import Derived.TacticsInMore
import Derived.LoopNIn
import Derived.LoopIn
import Derived.Shelf.RegionOpen
import Derived.Shelf.Abstract
import Derived.WalkKit
set_option maxRecDepth 100000
namespace Go.Proofs.YteabokkofoomkaaGreat
open Go.RowKit Go.Shelf
set_option maxHeartbeats 1000000 in
theorem IsZero_c (s : Bool) (A : Option Addr) (n c : Nat) (w : World) : Calls Tryz.prog 81 #[.agg #[.bool s, .slice A n c]] w (IsB (decide (n = 0)) w) := by
 by_cases h : n = 0
 · subst h
   go_enter Tryz.func81, Tryz.ntmps81
   go_wp2
   go_ret
   exact ⟨rfl, below_alloc _ _⟩
 · have H := Lib.hid (show decide (n = 0) = false from decide_eq_false h)
   have t0 : ((n : Int) == 0) = false := by rw [beq_eq_false_iff_ne]; omega
   clear h
   go_enter Tryz.func81, Tryz.ntmps81
   go_wp2
   go_ret
   exact ⟨by rw [H.out]; rfl, below_alloc _ _⟩
set_option maxHeartbeats 2000000 in
theorem Copy_pos {w : World} {z : Int} {t : Bool} {A : Option Addr} {n c : Nat} (h : Iv w z t A n c) (hn : ¬ n = 0) :
 Calls Tryz.prog 92 #[.agg #[.bool t, .slice A n c]] w (NumV w z) := by
 have E := Lib.hid (Ar.start h.is)
 have HI := Lib.hid h
 have HL := Lib.hid h.is.2.2.1.len
 have hn4 : n ≤ 4096 := by rw [h.is.2.1]; exact words_len_le.2 h.sz
 have hmk := mk_words n (by omega)
 have HD := Lib.hid (show decide (n = 0) = false from decide_eq_false hn)
 clear h hn
 go_enter Tryz.func92, Tryz.ntmps92
 go_wp2_with fail
 generalize (w.alloc (.cells #[.bool t, .slice A n c] 58)).alloc (.cells #[.bool false, .slice none 0 0] 58) = W0 at E ⊢
 refine (IsZero_c t A n c W0).mono ?_
 rintro e w1 ⟨rfl, hb⟩
 rw [HD.out]
 replace E := Lib.hid (E.out.next hb)
 clear hb
 have a0 := E.out.bx.c0
 have a1 := E.out.bx.c1
 have hlt := E.out.bx.lt
 have hvl : w.heap.size + 1 < w1.heap.size := E.out.vb.lt
 go_upto_region 3 with (fail)
 go_region
 · have HK : Hid (Bk (((w1.alloc (row (List.replicate n 0))).alloc (.cells #[.bool t, .slice (some ⟨w1.heap.size, 0, none⟩) n n] 58)).drew) (w1.heap.size) (List.replicate n 0)) := (((Bk.new0 w1 n).alloc _).drewN 1)
   have hb1 : Below w1.heap.size w1 (((w1.alloc (row (List.replicate n 0))).alloc (.cells #[.bool t, .slice (some ⟨w1.heap.size, 0, none⟩) n n] 58)).drew) := (((Below.refl _ _).alloc (Nat.le_refl _) _).alloc (by simp) _).drew
   have v0 : (((w1.alloc (row (List.replicate n 0))).alloc (.cells #[.bool t, .slice (some ⟨w1.heap.size, 0, none⟩) n n] 58)).drew).cell? ⟨w1.heap.size + 1, 0, none⟩ = some (.bool t) := by go_simp
   have v1 : (((w1.alloc (row (List.replicate n 0))).alloc (.cells #[.bool t, .slice (some ⟨w1.heap.size, 0, none⟩) n n] 58)).drew).cell? ⟨w1.heap.size + 1, 1, none⟩ = some (.slice (some ⟨w1.heap.size, 0, none⟩) n n) := by go_simp
   have hps : w1.heap.size + 1 < (((w1.alloc (row (List.replicate n 0))).alloc (.cells #[.bool t, .slice (some ⟨w1.heap.size, 0, none⟩) n n] 58)).drew).heap.size := by first | (simp; done) | (simp; omega)
   have HR := Lib.hid ((E.out.next hb1).bx.is.2.2.1)
   replace E := Lib.hid (E.out.next hb1)
   clear a0 a1 hb1 hmk
   have a0 := E.out.bx.c0
   have a1 := E.out.bx.c1
   go_upto_region 4 with (fail)
   generalize ((w1.alloc (row (List.replicate n 0))).alloc (.cells #[.bool t, .slice (some ⟨w1.heap.size, 0, none⟩) n n] 58)).drew = W2 at HK HR E v0 v1 hps a0 a1 ⊢
   go_wp2_with (with_reducible refine wpList_copy_words rfl (.tmp 17) (.tmp 19) rfl _ _ _ _ _ _ rfl rfl (w1.heap.size) 0 _ (words z.natAbs) HK.out HR.out rfl (Nat.le_refl _) (by simp) ?_; intro w2 hb hg; have HB := Lib.hid hb; have HG := Lib.hid hg; have x0 := (World.cell?_of_block (w := W2) (a := ⟨w1.heap.size + 1, 0, none⟩) (hg.block (w1.heap.size + 1) hps (fun e => by injection e with e; omega))).trans v0; have x1 := (World.cell?_of_block (w := W2) (a := ⟨w1.heap.size + 1, 1, none⟩) (hg.block (w1.heap.size + 1) hps (fun e => by injection e with e; omega))).trans v1; have VR := Lib.hid (Vb.mk (w := w) E.out.vb.ge (Nat.lt_of_lt_of_le E.out.vb.lt hg.size) ((World.cell?_of_block (w := W2) (a := ⟨w.heap.size + 1, 0, none⟩) (hg.block (w.heap.size + 1) E.out.vb.lt (fun e => by injection e with e; omega))).trans E.out.vb.c0) ((World.cell?_of_block (w := W2) (a := ⟨w.heap.size + 1, 1, none⟩) (hg.block (w.heap.size + 1) E.out.vb.lt (fun e => by injection e with e; omega))).trans E.out.vb.c1) (by have := hg.block (w.heap.size + 1) E.out.vb.lt (fun e => by injection e with e; omega); have := E.out.vb.f0; simp_all [World.frozen?]) (by have := hg.block (w.heap.size + 1) E.out.vb.lt (fun e => by injection e with e; omega); have := E.out.vb.f1; simp_all [World.frozen?])); have r0 := VR.out.c0; have r1 := VR.out.c1; have f0 := VR.out.f0; have f1 := VR.out.f1; clear hb hg)
   refine bodyPost_ret (v := .agg #[.bool t, .slice (some ⟨w1.heap.size, 0, none⟩) n n]) (by simp [results, Tryz.results92, go_sem, r0, r1]) rfl ?_
   have hk := HB.out
   rw [splice_all (by rw [HL.out]; simp)] at hk
   have hrd := hk.rd
   rw [HL.out] at hrd
   have hi : Is _ z t (some ⟨w1.heap.size, 0, none⟩) n n := ⟨HI.out.is.1, HI.out.is.2.1, hrd, Nat.le_refl _, by omega⟩
   exact ⟨t, _, n, n, rfl, ⟨hi.store r0 r1 _ _, HI.out.sz⟩, below_store (E.out.below.trans (below_of_grown HG.out E.out.below.size (by omega))) (by omega) _ _⟩
 · have HK : Hid (Bk (((w1.alloc (.cells #[.bool t, .slice (some ⟨w1.heap.size + 1, 0, none⟩) n n] 58)).alloc (row (List.replicate n 0))).drew) (w1.heap.size + 1) (List.replicate n 0)) := (by have := (Bk.new0 (w1.alloc (.cells #[.bool t, .slice (some ⟨w1.heap.size + 1, 0, none⟩) n n] 58)) n).drewN 1; rw [World.size_alloc] at this; exact this)
   have hb1 : Below w1.heap.size w1 (((w1.alloc (.cells #[.bool t, .slice (some ⟨w1.heap.size + 1, 0, none⟩) n n] 58)).alloc (row (List.replicate n 0))).drew) := (((Below.refl _ _).alloc (Nat.le_refl _) _).alloc (by simp) _).drew
   have v0 : (((w1.alloc (.cells #[.bool t, .slice (some ⟨w1.heap.size + 1, 0, none⟩) n n] 58)).alloc (row (List.replicate n 0))).drew).cell? ⟨w1.heap.size, 0, none⟩ = some (.bool t) := by go_simp
   have v1 : (((w1.alloc (.cells #[.bool t, .slice (some ⟨w1.heap.size + 1, 0, none⟩) n n] 58)).alloc (row (List.replicate n 0))).drew).cell? ⟨w1.heap.size, 1, none⟩ = some (.slice (some ⟨w1.heap.size + 1, 0, none⟩) n n) := by go_simp
   have hps : w1.heap.size < (((w1.alloc (.cells #[.bool t, .slice (some ⟨w1.heap.size + 1, 0, none⟩) n n] 58)).alloc (row (List.replicate n 0))).drew).heap.size := by first | (simp; done) | (simp; omega)
   have HR := Lib.hid ((E.out.next hb1).bx.is.2.2.1)
   replace E := Lib.hid (E.out.next hb1)
   clear a0 a1 hb1 hmk
   have a0 := E.out.bx.c0
   have a1 := E.out.bx.c1
   go_upto_region 4 with (fail)
   generalize ((w1.alloc (.cells #[.bool t, .slice (some ⟨w1.heap.size + 1, 0, none⟩) n n] 58)).alloc (row (List.replicate n 0))).drew = W2 at HK HR E v0 v1 hps a0 a1 ⊢
   go_wp2_with (with_reducible refine wpList_copy_words rfl (.tmp 17) (.tmp 19) rfl _ _ _ _ _ _ rfl rfl (w1.heap.size + 1) 0 _ (words z.natAbs) HK.out HR.out rfl (Nat.le_refl _) (by simp) ?_; intro w2 hb hg; have HB := Lib.hid hb; have HG := Lib.hid hg; have x0 := (World.cell?_of_block (w := W2) (a := ⟨w1.heap.size, 0, none⟩) (hg.block (w1.heap.size) hps (fun e => by injection e with e; omega))).trans v0; have x1 := (World.cell?_of_block (w := W2) (a := ⟨w1.heap.size, 1, none⟩) (hg.block (w1.heap.size) hps (fun e => by injection e with e; omega))).trans v1; have VR := Lib.hid (Vb.mk (w := w) E.out.vb.ge (Nat.lt_of_lt_of_le E.out.vb.lt hg.size) ((World.cell?_of_block (w := W2) (a := ⟨w.heap.size + 1, 0, none⟩) (hg.block (w.heap.size + 1) E.out.vb.lt (fun e => by injection e with e; omega))).trans E.out.vb.c0) ((World.cell?_of_block (w := W2) (a := ⟨w.heap.size + 1, 1, none⟩) (hg.block (w.heap.size + 1) E.out.vb.lt (fun e => by injection e with e; omega))).trans E.out.vb.c1) (by have := hg.block (w.heap.size + 1) E.out.vb.lt (fun e => by injection e with e; omega); have := E.out.vb.f0; simp_all [World.frozen?]) (by have := hg.block (w.heap.size + 1) E.out.vb.lt (fun e => by injection e with e; omega); have := E.out.vb.f1; simp_all [World.frozen?])); have r0 := VR.out.c0; have r1 := VR.out.c1; have f0 := VR.out.f0; have f1 := VR.out.f1; clear hb hg)
   refine bodyPost_ret (v := .agg #[.bool t, .slice (some ⟨w1.heap.size + 1, 0, none⟩) n n]) (by simp [results, Tryz.results92, go_sem, r0, r1]) rfl ?_
   have hk := HB.out
   rw [splice_all (by rw [HL.out]; simp)] at hk
   have hrd := hk.rd
   rw [HL.out] at hrd
   have hi : Is _ z t (some ⟨w1.heap.size + 1, 0, none⟩) n n := ⟨HI.out.is.1, HI.out.is.2.1, hrd, Nat.le_refl _, by omega⟩
   exact ⟨t, _, n, n, rfl, ⟨hi.store r0 r1 _ _, HI.out.sz⟩, below_store (E.out.below.trans (below_of_grown HG.out E.out.below.size (by omega))) (by omega) _ _⟩
set_option maxHeartbeats 1000000 in
theorem Copy_zero {w : World} {z : Int} {t : Bool} {A : Option Addr} {n c : Nat} (h : Iv w z t A n c) (hn : n = 0) :
 Calls Tryz.prog 92 #[.agg #[.bool t, .slice A n c]] w (NumV w z) := by
 have hz : z = 0 := by have := h.is.2.1; rw [hn] at this; have := words_nil.1 (List.eq_nil_of_length_eq_zero this.symm); omega
 have ht : t = false := by rw [h.is.1, hz]; rfl
 have E := Lib.hid (Ar.start h.is)
 have HD := Lib.hid (show decide (n = 0) = true from decide_eq_true hn)
 have HZ := Lib.hid hz
 subst ht
 clear h hn hz
 go_enter Tryz.func92, Tryz.ntmps92
 go_wp2_with fail
 generalize (w.alloc (.cells #[.bool false, .slice A n c] 58)).alloc (.cells #[.bool false, .slice none 0 0] 58) = W0 at E ⊢
 refine (IsZero_c false A n c W0).mono ?_
 rintro e w1 ⟨rfl, hb⟩
 rw [HD.out]
 replace E := Lib.hid (E.out.next hb)
 clear hb
 have a0 := E.out.bx.c0
 have a1 := E.out.bx.c1
 have r0 := E.out.vb.c0
 have r1 := E.out.vb.c1
 have f0 := E.out.vb.f0
 have f1 := E.out.vb.f1
 go_wp2
 refine bodyPost_ret (v := .agg #[.bool false, .slice none 0 0]) (by simp [results, Tryz.results92, go_sem, r0, r1]) rfl ?_
 have hi : Is w1 z false none 0 0 := ⟨by rw [HZ.out]; rfl, by rw [HZ.out]; exact words_zero ▸ rfl, by rw [HZ.out]; exact words_zero ▸ Rd.nil _, Nat.le_refl _, by omega⟩
 exact ⟨false, none, 0, 0, rfl, ⟨hi.store r0 r1 _ _, by rw [HZ.out]; exact sz_zero⟩, below_store E.out.below (by omega) _ _⟩
theorem Copy_c {w : World} {z : Int} {t : Bool} {A : Option Addr} {n c : Nat} (h : Iv w z t A n c) : Calls Tryz.prog 92 #[.agg #[.bool t, .slice A n c]] w (NumV w z) := by
 by_cases hn : n = 0
 · exact Copy_zero h hn
 · exact Copy_pos h hn
structure Evm (b v mb : Nat) (M : Int) (tm : Bool) (Am : Option Addr) (nm cm : Nat) (W : World) : Prop where
 ne : v ≠ b
 neb : mb ≠ b
 lt : v < W.heap.size
 vc : W.cell? ⟨v, 0, none⟩ = some (.pointer (some ⟨b, 0, none⟩))
 bx : Box W mb M tm Am nm cm
 sz : Sz M 4096
theorem Box.stp {b : Nat} {k : Int} {w w' : World} {g : Nat} {z : Int} {t : Bool} {A : Option Addr} {n c : Nat} (h : Box w g z t A n c) (hc : Cc w b k) (hs : Stp b w w') (hne : g ≠ b) : Box w' g z t A n c :=
 ⟨Nat.lt_of_lt_of_le h.lt hs.size, (hs.cell (p := ⟨g, 0, none⟩) h.lt hne).trans h.c0, (hs.cell (p := ⟨g, 1, none⟩) h.lt hne).trans h.c1, h.is.stp hc hs⟩
theorem Evm.stp {b v mb : Nat} {M k : Int} {tm : Bool} {Am : Option Addr} {nm cm : Nat} {W W' : World} (h : Evm b v mb M tm Am nm cm W) (hc : Cc W b k) (hs : Stp b W W') : Evm b v mb M tm Am nm cm W' :=
 ⟨h.ne, h.neb, Nat.lt_of_lt_of_le h.lt hs.size, (hs.cell (p := ⟨v, 0, none⟩) h.lt h.ne).trans h.vc, h.bx.stp hc hs h.neb, h.sz⟩
section
variable {w W W' : World} {b f : Nat} {caps : Array Value} {t : Bool} {A : Option Addr} {n c : Nat} {t' : Bool} {A' : Option Addr} {n' c' : Nat} {k k' : Int}
theorem Is.pair {z : Int} {t : Bool} {A : Option Addr} {n c : Nat} (h : Is W z t A n c) {i j : Nat} {x : Bool} {a : Option Addr} {p q : Nat} (hij : i ≠ j) (h0 : W.cell? ⟨b, i, none⟩ = some (.bool x)) (h1 : W.cell? ⟨b, j, none⟩ = some (.slice a p q)) (u v : Value) : Is ((W.setCell ⟨b, i, none⟩ u).setCell ⟨b, j, none⟩ v) z t A n c := by
 refine (h.set_other h0 (by intro z; simp) u).set_other (v := .slice a p q) ?_ (by intro z; simp) v
 rw [World.cell?_setCell_other _ _ _ _ (fun e => hij (by injection e))]
 exact h1
theorem Evm.pair {v mb : Nat} {M : Int} {tm : Bool} {Am : Option Addr} {nm cm : Nat} (h : Evm b v mb M tm Am nm cm W) {i j : Nat} {x : Bool} {a : Option Addr} {p q : Nat} (hij : i ≠ j) (h0 : W.cell? ⟨b, i, none⟩ = some (.bool x)) (h1 : W.cell? ⟨b, j, none⟩ = some (.slice a p q)) (u u' : Value) : Evm b v mb M tm Am nm cm ((W.setCell ⟨b, i, none⟩ u).setCell ⟨b, j, none⟩ u') :=
 ⟨h.ne, h.neb, by simpa [World.setCell] using h.lt, cell_45 h.ne h.vc, ⟨by simpa [World.setCell] using h.bx.lt, cell_45 h.neb h.bx.c0, cell_45 h.neb h.bx.c1, h.bx.is.pair hij h0 h1 u u'⟩, h.sz⟩
theorem Vn.pairc {z : Int} {t : Bool} {A : Option Addr} {n c : Nat} (h : Vn W k z t A n c) {i j : Nat} {x : Bool} {a : Option Addr} {p q : Nat} (hij : i ≠ j) (h0 : W.cell? ⟨b, i, none⟩ = some (.bool x)) (h1 : W.cell? ⟨b, j, none⟩ = some (.slice a p q)) (u v : Value) : Vn ((W.setCell ⟨b, i, none⟩ u).setCell ⟨b, j, none⟩ v) k z t A n c :=
 fun e => ⟨(h e).is.pair hij h0 h1 u v, (h e).sz⟩
end
theorem Vb.next' {w W W' : World} {b g : Nat} {t : Bool} {A : Option Addr} {n c : Nat} (h : Vb w W g t A n c) (hs : Stp b W W') (hne : g ≠ b) : Vb w W' g t A n c :=
 ⟨h.ge, Nat.lt_of_lt_of_le h.lt hs.size, (hs.cell (p := ⟨g, 0, none⟩) h.lt hne).trans h.c0, (hs.cell (p := ⟨g, 1, none⟩) h.lt hne).trans h.c1, (hs.frozen h.lt hne).trans h.f0, (hs.frozen h.lt hne).trans h.f1⟩
end Go.Proofs.YteabokkofoomkaaGreat
namespace Go.Proofs.YteabokkofoomkaaGreat
open Go.RowKit
def Kc (W W' : World) : Prop := W.heap.size ≤ W'.heap.size ∧ ∀ (i : Nat) (o : Obj), W.heap[i]? = some o → o.isCells = true → W'.heap[i]? = some o
theorem Kc.trans {A B C : World} (h : Kc A B) (k : Kc B C) : Kc A C := ⟨Nat.le_trans h.1 k.1, fun i o hi ho => k.2 i o (h.2 i o hi ho) ho⟩
theorem Kc.put (W : World) (l : Nat) {o : Obj} (o' : Obj) (h : W.heap[l]? = some o) (ho : o.isCells = false) : Kc W (W.putObj l o') :=
 ⟨(grownBy_putObj' W l o').size, fun i x hi hx => by
   by_cases e : i = l
   · subst e; rw [h] at hi; injection hi with hi; subst hi; rw [ho] at hx; cases hx
   · exact (World.putObj_heap_other e).trans hi⟩
theorem Kc.of_below {W W' : World} (h : Below W.heap.size W W') : Kc W W' := ⟨h.size, fun i _ hi _ => (h.block i (Array.getElem?_eq_some_iff.1 hi).1).trans hi⟩
structure Sto (D b : Nat) (W W' : World) : Prop where
 bel : Below 0 W W'
 block : ∀ i, i < D → i ≠ b → W'.heap[i]? = W.heap[i]?
 own : ∀ o, o ≠ 0 → W'.cell? ⟨b, o, none⟩ = W.cell? ⟨b, o, none⟩
 frz : ∀ o, W'.frozen? ⟨b, o, none⟩ = W.frozen? ⟨b, o, none⟩
theorem Sto.size {D b : Nat} {W W' : World} (h : Sto D b W W') : W.heap.size ≤ W'.heap.size := h.bel.size
theorem Sto.trans {D b : Nat} {A B C : World} (h : Sto D b A B) (k : Sto D b B C) : Sto D b A C :=
 ⟨h.bel.trans k.bel, fun i hi hn => (k.block i hi hn).trans (h.block i hi hn), fun o ho => (k.own o ho).trans (h.own o ho), fun o => (k.frz o).trans (h.frz o)⟩
theorem Sto.of_stp {D b : Nat} {W W' : World} (h : Stp b W W') (hD : D ≤ W.heap.size) : Sto D b W W' :=
 ⟨h.below (Nat.zero_le _) (Nat.zero_le _), fun i hi hn => h.grown.block i (by omega) (fun e => hn (by injection e)), h.own, h.frz⟩
theorem Sto.le {D D' b : Nat} {W W' : World} (h : Sto D b W W') (hD : D' ≤ D) : Sto D' b W W' := ⟨h.bel, fun i hi hn => h.block i (by omega) hn, h.own, h.frz⟩
theorem Sto.two {D b g : Nat} {W W' : World} (h : Sto D b W W') (hg : D ≤ g) (hne : g ≠ b) (u v : Value) : Sto D b W ((W'.setCell ⟨g, 0, none⟩ u).setCell ⟨g, 1, none⟩ v) := by
 refine ⟨⟨h.bel.os, h.bel.tape, h.bel.output, by rw [size_pair]; exact h.bel.size, fun k hk => absurd hk (Nat.not_lt_zero k)⟩, fun i hi hn => ?_, fun o ho => ?_, fun o => by rw [frozen_pair]; exact h.frz o⟩
 · rw [Below.heap_setCell _ _ _ _ (by simp; omega), Below.heap_setCell _ _ _ _ (by simp; omega)]; exact h.block i hi hn
 · rw [World.cell?_setCell_other _ _ _ _ (by intro e; injection e with e; exact hne e), World.cell?_setCell_other _ _ _ _ (by intro e; injection e with e; exact hne e)]
   exact h.own o ho
theorem Sto.cell {D b : Nat} {W W' : World} (h : Sto D b W W') {p : Addr} (hp : p.block < D) (hne : p.block ≠ b) : W'.cell? p = W.cell? p := World.cell?_of_block (h.block p.block hp hne)
theorem Sto.frozen {D b : Nat} {W W' : World} (h : Sto D b W W') {g o : Nat} (hp : g < D) (hne : g ≠ b) : W'.frozen? ⟨g, o, none⟩ = W.frozen? ⟨g, o, none⟩ := by
 have := h.block g hp hne
 simp [World.frozen?, this]
section
variable {W W' : World}
theorem Kc.blk (h : Kc W W') {p : Addr} {v : Value} (hc : W.cell? p = some v) : W'.heap[p.block]? = W.heap[p.block]? := by
 obtain ⟨o, h1, h2⟩ := cells_of_cell hc
 exact (h.2 _ _ h1 h2).trans h1.symm
theorem Kc.cell (h : Kc W W') {p : Addr} {v : Value} (hc : W.cell? p = some v) : W'.cell? p = some v := (World.cell?_of_block (h.blk hc)).trans hc
theorem Kc.frozen (h : Kc W W') {g o o' : Nat} {v : Value} (hc : W.cell? ⟨g, o', none⟩ = some v) : W'.frozen? ⟨g, o, none⟩ = W.frozen? ⟨g, o, none⟩ := by
 have := h.blk hc
 simp only at this
 simp [World.frozen?, this]
theorem Is.kc {z : Int} {t : Bool} {A : Option Addr} {n c : Nat} (h : Is W z t A n c) (hk : Kc W W') : Is W' z t A n c := by
 obtain ⟨h1, h2, h3, h4, h5⟩ := h
 refine ⟨h1, h2, ⟨h3.len, h3.sm, fun hp => ?_⟩, h4, h5⟩
 obtain ⟨b', o, e, hlt, hcell⟩ := h3.at_ hp
 exact ⟨b', o, e, Nat.lt_of_lt_of_le hlt hk.1, fun i hi => hk.cell (hcell i hi)⟩
theorem Vn.kc {k z : Int} {t : Bool} {A : Option Addr} {n c : Nat} (h : Vn W k z t A n c) (hk : Kc W W') : Vn W' k z t A n c := fun e => ⟨(h e).is.kc hk, (h e).sz⟩
theorem Vb.kc {w : World} {g : Nat} {t : Bool} {A : Option Addr} {n c : Nat} (h : Vb w W g t A n c) (hk : Kc W W') : Vb w W' g t A n c :=
 ⟨h.ge, Nat.lt_of_lt_of_le h.lt hk.1, hk.cell h.c0, hk.cell h.c1, (hk.frozen h.c0).trans h.f0, (hk.frozen h.c0).trans h.f1⟩
theorem Cc.kc {b : Nat} {k : Int} (h : Cc W b k) (hk : Kc W W') : Cc W' b k := ⟨Nat.lt_of_lt_of_le h.lt hk.1, hk.cell h.c0, (hk.frozen h.c0).trans h.f0⟩
theorem Wk.kc {b f : Nat} {caps : Array Value} {ta : Bool} {Aa : Option Addr} {na ca : Nat} {tt : Bool} {At : Option Addr} {nt ct : Nat} (h : Wk W b f caps ta Aa na ca tt At nt ct) (hk : Kc W W') : Wk W' b f caps ta Aa na ca tt At nt ct :=
 ⟨hk.cell h.e1, hk.cell h.a0, hk.cell h.a1, hk.cell h.t0, hk.cell h.t1⟩
theorem Box.kc {g : Nat} {z : Int} {t : Bool} {A : Option Addr} {n c : Nat} (h : Box W g z t A n c) (hk : Kc W W') : Box W' g z t A n c := ⟨Nat.lt_of_lt_of_le h.lt hk.1, hk.cell h.c0, hk.cell h.c1, h.is.kc hk⟩
theorem Evm.kc {b v mb : Nat} {M : Int} {tm : Bool} {Am : Option Addr} {nm cm : Nat} (h : Evm b v mb M tm Am nm cm W) (hk : Kc W W') : Evm b v mb M tm Am nm cm W' :=
 ⟨h.ne, h.neb, Nat.lt_of_lt_of_le h.lt hk.1, hk.cell h.vc, h.bx.kc hk, h.sz⟩
theorem Ms.kc {T b f : Nat} {caps : Array Value} {g : Int → Int} {Ev : World → Prop} {zt za k : Int} {ta : Bool} {Aa : Option Addr} {na ca : Nat} {tt : Bool} {At : Option Addr} {nt ct : Nat} (h : Ms T b f caps g Ev zt za ta Aa na ca tt At nt ct W k) (hk : Kc W W') (he : Ev W → Ev W') : Ms T b f caps g Ev zt za ta Aa na ca tt At nt ct W' k :=
 ⟨h.ea, h.wk.kc hk, he h.ev, h.cc.kc hk, h.st, h.vt.kc hk, h.va.kc hk⟩
end
end Go.Proofs.YteabokkofoomkaaGreat
set_option maxRecDepth 100000
namespace Go.Proofs.YteabokkofoomkaaGreat
open Go.RowKit Go.Shelf
section
variable {w w' W W' : World} {T b f : Nat} {caps : Array Value} {g : Int → Int} {Ev : World → Prop} {k k' zt zx zy za z : Int} {ta : Bool} {Aa : Option Addr} {na ca : Nat} {tt : Bool} {At : Option Addr} {nt ct : Nat} {t : Bool} {A : Option Addr} {n c : Nat} {t' : Bool} {A' : Option Addr} {n' c' : Nat} {e : Ending}
structure Pp (W : World) (pb b : Nat) : Prop where
 ne : pb ≠ b
 lt : pb < W.heap.size
 c0 : W.cell? ⟨pb, 0, none⟩ = some (.pointer (some ⟨b, 0, none⟩))
theorem Pp.stp {pb : Nat} (h : Pp W pb b) (hs : Stp b W W') : Pp W' pb b := ⟨h.ne, Nat.lt_of_lt_of_le h.lt hs.size, (hs.cell (p := ⟨pb, 0, none⟩) h.lt h.ne).trans h.c0⟩
theorem Pp.below {pb : Nat} (h : Pp W pb b) (hs : Below W.heap.size W W') : Pp W' pb b := ⟨h.ne, Nat.lt_of_lt_of_le h.lt hs.size, (hs.cell (p := ⟨pb, 0, none⟩) h.lt).trans h.c0⟩
theorem Pp.kc {pb : Nat} (h : Pp W pb b) (hs : Kc W W') : Pp W' pb b := ⟨h.ne, Nat.lt_of_lt_of_le h.lt hs.1, hs.cell h.c0⟩
theorem Pp.two {pb p : Nat} (h : Pp W pb b) (hne : p ≠ pb) (u v : Value) : Pp ((W.setCell ⟨p, 0, none⟩ u).setCell ⟨p, 1, none⟩ v) pb b := ⟨h.ne, by rw [size_pair]; exact h.lt, cell_two hne h.c0⟩
theorem St.none {T : Nat} {k : Int} (h : St T k) (hT : T < pw 4096) : k = 0 := h.elim id fun h => by omega
structure Es (Ev : World → Prop) (D : Nat) : Prop where
 kc : ∀ W W', Ev W → Kc W W' → Ev W'
 two : ∀ (W : World) (p : Nat) (x : Bool) (a : Option Addr) (i j : Nat) (u v : Value), D ≤ p → W.cell? ⟨p, 0, none⟩ = some (.bool x) → W.cell? ⟨p, 1, none⟩ = some (.slice a i j) → Ev W → Ev ((W.setCell ⟨p, 0, none⟩ u).setCell ⟨p, 1, none⟩ v)
structure Lp (T b f : Nat) (caps : Array Value) (g : Int → Int) (Ev : World → Prop) (zt za : Int) (ta : Bool) (Aa : Option Addr) (na ca : Nat) (tt : Bool) (At : Option Addr) (nt ct : Nat) (w W : World) (pb p q : Nat) (z1 : Int) (t1 : Bool) (A1 : Option Addr) (n1 c1 : Nat) (z2 : Int) (t2 : Bool) (A2 : Option Addr) (n2 c2 : Nat) : Prop where
 ne : p ≠ q
 bl : b < w.heap.size
 pl : pb < w.heap.size
 ms : Ms T b f caps g Ev zt za ta Aa na ca tt At nt ct W 0
 pp : Pp W pb b
 vp : Vb w W p t1 A1 n1 c1
 vq : Vb w W q t2 A2 n2 c2
 v1 : Vn W 0 z1 t1 A1 n1 c1
 v2 : Vn W 0 z2 t2 A2 n2 c2
section
variable {pb p q : Nat} {z1 z2 z3 : Int} {t1 : Bool} {A1 : Option Addr} {n1 c1 : Nat} {t2 : Bool} {A2 : Option Addr} {n2 c2 : Nat} {t3 : Bool} {A3 : Option Addr} {n3 c3 : Nat}
theorem Lp.kc (h : Lp T b f caps g Ev zt za ta Aa na ca tt At nt ct w W pb p q z1 t1 A1 n1 c1 z2 t2 A2 n2 c2) (hk : Kc W W') (he : Ev W → Ev W') : Lp T b f caps g Ev zt za ta Aa na ca tt At nt ct w W' pb p q z1 t1 A1 n1 c1 z2 t2 A2 n2 c2 :=
 ⟨h.ne, h.bl, h.pl, h.ms.kc hk he, h.pp.kc hk, h.vp.kc hk, h.vq.kc hk, h.v1.kc hk, h.v2.kc hk⟩
theorem Lp.next (h : Lp T b f caps g Ev zt za ta Aa na ca tt At nt ct w W pb p q z1 t1 A1 n1 c1 z2 t2 A2 n2 c2) (hs : Stp b W W') (hm : Ms T b f caps g Ev zt za ta Aa na ca tt At nt ct W' 0) : Lp T b f caps g Ev zt za ta Aa na ca tt At nt ct w W' pb p q z1 t1 A1 n1 c1 z2 t2 A2 n2 c2 :=
 ⟨h.ne, h.bl, h.pl, hm, h.pp.stp hs, h.vp.next hs h.bl, h.vq.next hs h.bl, h.v1.next h.ms.cc hs id, h.v2.next h.ms.cc hs id⟩
theorem Lp.put (h : Lp T b f caps g Ev zt za ta Aa na ca tt At nt ct w W pb p q z1 t1 A1 n1 c1 z2 t2 A2 n2 c2) (hE : Es Ev w.heap.size) (v3 : Vn W 0 z3 t3 A3 n3 c3) :
 Lp T b f caps g Ev zt za ta Aa na ca tt At nt ct w (st2 (st2 W p t2 A2 n2 c2) q t3 A3 n3 c3) pb p q z2 t2 A2 n2 c2 z3 t3 A3 n3 c3 := by
 have bl := h.bl
 have pl := h.pl
 have gp := h.vp.ge
 have gq := h.vq.ge
 have vq := h.vq.far h.ne (.bool t2) (.slice A2 n2 c2)
 have m1 := h.ms.two (u := .bool t2) (v := .slice A2 n2 c2) (by omega) h.vp.c0 h.vp.c1 (hE.two _ _ _ _ _ _ _ _ gp h.vp.c0 h.vp.c1 h.ms.ev)
 have m2 := m1.two (u := .bool t3) (v := .slice A3 n3 c3) (by omega) vq.c0 vq.c1 (hE.two _ _ _ _ _ _ _ _ gq vq.c0 vq.c1 m1.ev)
 exact ⟨h.ne, bl, pl, m2, (h.pp.two (by omega) _ _).two (by omega) _ _, (h.vp.put _ _ _ _).far (Ne.symm h.ne) _ _, vq.put _ _ _ _, (h.v2.two h.vp.c0 h.vp.c1 _ _).two vq.c0 vq.c1 _ _, (v3.two h.vp.c0 h.vp.c1 _ _).two vq.c0 vq.c1 _ _⟩
theorem Lp.put' (h : Lp T b f caps g Ev zt za ta Aa na ca tt At nt ct w W pb p q z1 t1 A1 n1 c1 z2 t2 A2 n2 c2) (hE : Es Ev w.heap.size) (v3 : Vn W 0 z3 t3 A3 n3 c3) :
 Lp T b f caps g Ev zt za ta Aa na ca tt At nt ct w (st2 (st2 W q t3 A3 n3 c3) p t2 A2 n2 c2) pb p q z2 t2 A2 n2 c2 z3 t3 A3 n3 c3 := by
 have bl := h.bl
 have pl := h.pl
 have gp := h.vp.ge
 have gq := h.vq.ge
 have vp := h.vp.far (Ne.symm h.ne) (.bool t3) (.slice A3 n3 c3)
 have m1 := h.ms.two (u := .bool t3) (v := .slice A3 n3 c3) (by omega) h.vq.c0 h.vq.c1 (hE.two _ _ _ _ _ _ _ _ gq h.vq.c0 h.vq.c1 h.ms.ev)
 have m2 := m1.two (u := .bool t2) (v := .slice A2 n2 c2) (by omega) vp.c0 vp.c1 (hE.two _ _ _ _ _ _ _ _ gp vp.c0 vp.c1 m1.ev)
 exact ⟨h.ne, bl, pl, m2, (h.pp.two (by omega) _ _).two (by omega) _ _, vp.put _ _ _ _, (h.vq.put _ _ _ _).far h.ne _ _, (h.v2.two h.vq.c0 h.vq.c1 _ _).two vp.c0 vp.c1 _ _, (v3.two h.vq.c0 h.vq.c1 _ _).two vp.c0 vp.c1 _ _⟩
theorem Lp.sto (h : Lp T b f caps g Ev zt za ta Aa na ca tt At nt ct w W pb p q z1 t1 A1 n1 c1 z2 t2 A2 n2 c2) {W0 : World} {D : Nat} (hD : D ≤ w.heap.size) (hs : Sto D b W0 W) {u1 u2 u3 u4 : Value} : Sto D b W0 (((W.setCell ⟨p, 0, none⟩ u1).setCell ⟨p, 1, none⟩ u2).setCell ⟨q, 0, none⟩ u3 |>.setCell ⟨q, 1, none⟩ u4) := by
 have bl := h.bl
 have gp := h.vp.ge
 have gq := h.vq.ge
 exact (hs.two (by omega) (by omega) _ _).two (by omega) (by omega) _ _
theorem Lp.sto' (h : Lp T b f caps g Ev zt za ta Aa na ca tt At nt ct w W pb p q z1 t1 A1 n1 c1 z2 t2 A2 n2 c2) {W0 : World} {D : Nat} (hD : D ≤ w.heap.size) (hs : Sto D b W0 W) {u1 u2 u3 u4 : Value} : Sto D b W0 (((W.setCell ⟨q, 0, none⟩ u1).setCell ⟨q, 1, none⟩ u2).setCell ⟨p, 0, none⟩ u3 |>.setCell ⟨p, 1, none⟩ u4) := by
 have bl := h.bl
 have gp := h.vp.ge
 have gq := h.vq.ge
 exact (hs.two (by omega) (by omega) _ _).two (by omega) (by omega) _ _
end
end
section
variable {w w' W W' : World} {T b f : Nat} {caps : Array Value} {g : Int → Int} {Ev : World → Prop} {k k' zt zx zy za z : Int} {ta : Bool} {Aa : Option Addr} {na ca : Nat} {tt : Bool} {At : Option Addr} {nt ct : Nat} {t : Bool} {A : Option Addr} {n c : Nat} {t' : Bool} {A' : Option Addr} {n' c' : Nat} {e : Ending}
end
set_option maxHeartbeats 2000000 in
theorem Valid1_c {W : World} {g : Nat} {m : Int} {t : Bool} {A : Option Addr} {n c : Nat} (h : Iv W m t A n c) (c0 : W.cell? ⟨g, 0, none⟩ = some (.bool t)) (c1 : W.cell? ⟨g, 1, none⟩ = some (.slice A n c)) :
 Calls Tryz.prog 37 #[.slice (some ⟨g, 0, none⟩) 1 1] W (IsB true W) := by
 have HV := Lib.hid h
 clear h
 go_enter Tryz.func37, Tryz.ntmps37
 go_wp2_with fail
 refine wp_loop_rounds 2 ?_
 rw [rounds_succ]
 go_wp2_with fail
 refine (Valid_i (HV.out.below (below_alloc _ _))).mono ?_
 rintro e w1 ⟨rfl, hb⟩
 have HB := Lib.hid ((below_alloc W (.cells #[.bool t, .slice A n c] 58)).trans (hb.mono (by simp)))
 clear hb
 go_wp2_with fail
 rw [rounds_succ]
 go_wp2
 go_ret
 exact ⟨rfl, HB.out⟩
theorem oth1 {W : World} {g : Nat} {m : Int} {t : Bool} {A : Option Addr} {n c : Nat} (h : Iv W m t A n c) (hg : g < W.heap.size) (c0 : W.cell? ⟨g, 0, none⟩ = some (.bool t)) (c1 : W.cell? ⟨g, 1, none⟩ = some (.slice A n c)) : Oth W (.slice (some ⟨g, 0, none⟩) 1 1) true := fun _ hb =>
 Valid1_c (h.below hb) ((hb.cell (p := ⟨g, 0, none⟩) hg).trans c0) ((hb.cell (p := ⟨g, 1, none⟩) hg).trans c1)
section
attribute [local go_sem] Oper.semAt_some
structure Rki (w : World) (a m K : Int) (n : Nat) (W : World) : Prop where
 below : Below w.heap.size w W
 c2 : W.cell? ⟨w.heap.size + 2, 0, none⟩ = some (.int .i64 K)
 c3 : W.cell? ⟨w.heap.size + 3, 0, none⟩ = some (.int .i64 0)
 f3 : W.frozen? ⟨w.heap.size + 3, 0, none⟩ = false
 c4 : W.cell? ⟨w.heap.size + 4, 0, none⟩ = some (.int .i64 0)
 f4 : W.frozen? ⟨w.heap.size + 4, 0, none⟩ = false
 no : ∀ j, 1 ≤ j → j ≤ n → psi a j % m ≠ 0
structure Rkf (w : World) (a m : Int) (n : Nat) (W : World) : Prop where
 below : Below w.heap.size w W
 c3 : W.cell? ⟨w.heap.size + 3, 0, none⟩ = some (.int .i64 (n : Int))
 c4 : W.cell? ⟨w.heap.size + 4, 0, none⟩ = some (.int .i64 0)
 yes : psi a n % m = 0
 no : ∀ j, 1 ≤ j → j < n → psi a j % m ≠ 0
theorem Rki.kept {w W W' : World} {a m K : Int} {n : Nat} {row : Option Nat} {B : Nat} (h : Rki w a m K n W) (hB : w.heap.size ≤ B) (hg : W.grownBy W' row) (hr : ∀ r, row = some r → B ≤ r ∧ ∃ o : Obj, W.heap[r]? = some o ∧ o.isCells = false) : Rki w a m K n W' :=
 have hr' := fun r e => (hr r e).2
 ⟨ownFrom_below (β := Unit) (Nat.le_refl _) hB () W W' row h.below hg hr, cell_kept h.c2 hg hr', cell_kept h.c3 hg hr', (frozen_kept h.c3 hg hr').trans h.f3, cell_kept h.c4 hg hr', (frozen_kept h.c4 hg hr').trans h.f4, h.no⟩
theorem Rkf.kept {w W W' : World} {a m : Int} {n : Nat} {row : Option Nat} {B : Nat} (h : Rkf w a m n W) (hB : w.heap.size ≤ B) (hg : W.grownBy W' row) (hr : ∀ r, row = some r → B ≤ r ∧ ∃ o : Obj, W.heap[r]? = some o ∧ o.isCells = false) : Rkf w a m n W' :=
 have hr' := fun r e => (hr r e).2
 ⟨ownFrom_below (β := Unit) (Nat.le_refl _) hB () W W' row h.below hg hr, cell_kept h.c3 hg hr', cell_kept h.c4 hg hr', h.yes, h.no⟩
theorem Rki.sto {w W W' : World} {a m K : Int} {n D b : Nat} (h : Rki w a m K n W) (hs : Sto D b W W') (hD : w.heap.size + 5 ≤ D) (hb : w.heap.size + 5 ≤ b) : Rki w a m K n W' :=
 ⟨⟨hs.bel.os.trans h.below.os, hs.bel.tape.trans h.below.tape, hs.bel.output.trans h.below.output, Nat.le_trans h.below.size hs.size, fun k hk => (hs.block k (by omega) (by omega)).trans (h.below.block k hk)⟩,
  (hs.cell (p := ⟨_, 0, none⟩) (by simp; omega) (by simp; omega)).trans h.c2, (hs.cell (p := ⟨_, 0, none⟩) (by simp; omega) (by simp; omega)).trans h.c3, (hs.frozen (by omega) (by omega)).trans h.f3, (hs.cell (p := ⟨_, 0, none⟩) (by simp; omega) (by simp; omega)).trans h.c4, (hs.frozen (by omega) (by omega)).trans h.f4, h.no⟩
theorem cell_lt {W : World} {p : Addr} {v : Value} (h : W.cell? p = some v) : p.block < W.heap.size := by
 obtain ⟨o, h1, _⟩ := cells_of_cell h
 exact (Array.getElem?_eq_some_iff.1 h1).1
theorem Rki.next {w W W' : World} {a m K : Int} {n : Nat} (h : Rki w a m K n W) (hb : Below W.heap.size W W') : Rki w a m K n W' :=
 ⟨h.below.trans (hb.mono h.below.size), (hb.cell (p := ⟨_, 0, none⟩) (cell_lt h.c2)).trans h.c2, (hb.cell (p := ⟨_, 0, none⟩) (cell_lt h.c3)).trans h.c3, (hb.frozen (p := ⟨_, 0, none⟩) (cell_lt h.c3)).trans h.f3, (hb.cell (p := ⟨_, 0, none⟩) (cell_lt h.c4)).trans h.c4, (hb.frozen (p := ⟨_, 0, none⟩) (cell_lt h.c4)).trans h.f4, h.no⟩
theorem Rki.put {w W : World} {a m K : Int} {n : Nat} (h : Rki w a m K n W) (u v : Int) :
 Below w.heap.size w ((W.setCell ⟨w.heap.size + 3, 0, none⟩ (.int .i64 u)).setCell ⟨w.heap.size + 4, 0, none⟩ (.int .i64 v)) ∧
 ((W.setCell ⟨w.heap.size + 3, 0, none⟩ (.int .i64 u)).setCell ⟨w.heap.size + 4, 0, none⟩ (.int .i64 v)).cell? ⟨w.heap.size + 3, 0, none⟩ = some (.int .i64 u) ∧
 ((W.setCell ⟨w.heap.size + 3, 0, none⟩ (.int .i64 u)).setCell ⟨w.heap.size + 4, 0, none⟩ (.int .i64 v)).cell? ⟨w.heap.size + 4, 0, none⟩ = some (.int .i64 v) := by
 refine ⟨(h.below.setCell (p := ⟨w.heap.size + 3, 0, none⟩) (by simp) _).setCell (p := ⟨w.heap.size + 4, 0, none⟩) (by simp) _, ?_, ?_⟩
 · rw [World.cell?_setCell_other _ _ _ _ (by simp)]
   exact World.cell?_setCell_same' _ _ _ (by rw [h.c3]; rfl)
 · refine World.cell?_setCell_same' _ _ _ ?_
   rw [World.cell?_setCell_other _ _ _ _ (by simp), h.c4]
   rfl
end
theorem NumIs.iv {w : World} {z k : Int} {t : Bool} {B : Option Addr} {m d : Nat} (h : NumIs w z t B m d k) (hz : Sz z 4096) : k = 0 ∧ Iv w z t B m d := by
 obtain ⟨h0, h1, h2, h3, h4, h5⟩ := h.1 (words_len_le.2 hz)
 exact ⟨h0, ⟨h1, h2, h3, h4, h5⟩, hz⟩
theorem Iv.same {W : World} {z z' : Int} {t t' : Bool} {A A' : Option Addr} {n c n' c' : Nat} (h : Iv W z t A n c) (h' : Iv W z' t' A' n' c') (e : z = z') :
 Calls Tryz.prog 29 #[.agg #[.bool t, .slice A n c], .agg #[.bool t', .slice A' n' c']] W (IsB true W) := same_eq h.is h'.is h.sz (Nat.le_refl _) e
section
variable {w W W' : World} {g p : Nat} {z z' : Int} {t : Bool} {A : Option Addr} {n c : Nat} {t' : Bool} {A' : Option Addr} {n' c' : Nat}
theorem Box.far (h : Box W g z t A n c) (hne : p ≠ g) {x : Bool} {a : Option Addr} {i j : Nat} (h0 : W.cell? ⟨p, 0, none⟩ = some (.bool x)) (h1 : W.cell? ⟨p, 1, none⟩ = some (.slice a i j)) (u v : Value) : Box ((W.setCell ⟨p, 0, none⟩ u).setCell ⟨p, 1, none⟩ v) g z t A n c :=
 ⟨by rw [size_pair]; exact h.lt, cell_two hne h.c0, cell_two hne h.c1, h.is.store h0 h1 u v⟩
theorem Vb.box {x : Bool} {a : Option Addr} {i j : Nat} (h : Vb w W p x a i j) (hi : Is W z t A n c) : Box ((W.setCell ⟨p, 0, none⟩ (.bool t)).setCell ⟨p, 1, none⟩ (.slice A n c)) p z t A n c := by
 have h1 := h.put t A n c
 exact ⟨h1.lt, h1.c0, h1.c1, hi.store h.c0 h.c1 _ _⟩
end
end Go.Proofs.YteabokkofoomkaaGreat
