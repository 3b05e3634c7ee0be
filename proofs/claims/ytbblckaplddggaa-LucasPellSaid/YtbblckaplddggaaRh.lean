import Derived.Test.YtbblckaplddggaaRd
import Derived.Test.YtbblckaplddggaaRe
namespace Go.Proofs.Ytbblckaplddggaa
open Go.RowKit

/-- an integer, new -/
def NumI (w : World) (z : Int) (e : Ending) (w' : World) : Prop :=
  ∃ t B m d, e = .returned (.agg #[.bool t, .slice B m d]) ∧ Is w' z t B m d ∧ Below w.heap.size w w'
theorem One.numI {w w' : World} {z : Int} {e : Ending} (h : One w z e w') : NumI w z e w' := by
  obtain ⟨A, c, he, h1, h2, h3, h4⟩ := h
  exact ⟨_, _, _, _, he, ⟨rfl, rfl, h1, h2, h3⟩, h4⟩
theorem Make_i {w : World} {s : Bool} {A : Option Addr} {n c : Nat} {xs : List Nat} (h : Rd w A n xs) (hc : n ≤ c) (hc2 : c ≤ 9223372036854775807) (hn : n ≤ 35184372088832) :
    Calls Try.prog 65 #[.bool s, .slice A n c] w (NumI w (sgn s (val xs))) := (Make_c s A n c xs w h hc hc2 hn).mono fun _ _ h => h.numI
theorem Is.neg_sgn {w : World} {z : Int} {t : Bool} {A : Option Addr} {n c : Nat} (h : Is w z t A n c) : sgn (!t) (val (words z.natAbs)) = -z := by
  rw [sgn_not, h.1, val_words, sgn_self]
theorem Is.pos_sgn {w : World} {z : Int} {t : Bool} {A : Option Addr} {n c : Nat} (h : Is w z t A n c) : sgn t (val (words z.natAbs)) = z := by
  rw [h.1, val_words, sgn_self]

/-- a result's box, not yet written -/
structure Res (W : World) (g : Nat) : Prop where
  lt : g < W.heap.size
  r0 : W.cell? ⟨g, 0, none⟩ = some (.bool false)
  r1 : W.cell? ⟨g, 1, none⟩ = some (.slice none 0 0)
  f0 : W.frozen? ⟨g, 0, none⟩ = false
  f1 : W.frozen? ⟨g, 1, none⟩ = false
theorem Res.next {W w1 : World} {g : Nat} (h : Res W g) (hb : Below W.heap.size W w1) : Res w1 g :=
  ⟨Nat.lt_of_lt_of_le h.lt hb.size, (hb.cell (p := ⟨g, 0, none⟩) h.lt).trans h.r0, (hb.cell (p := ⟨g, 1, none⟩) h.lt).trans h.r1, (hb.frozen (p := ⟨g, 0, none⟩) h.lt).trans h.f0, (hb.frozen (p := ⟨g, 1, none⟩) h.lt).trans h.f1⟩
theorem Res.new (W : World) : Res (W.alloc (.cells #[.bool false, .slice none 0 0] 24)) W.heap.size := ⟨by simp, by go_simp, by go_simp, by go_simp, by go_simp⟩

set_option maxHeartbeats 400000 in
theorem refNeg_c {w : World} {z : Int} {t : Bool} {A : Option Addr} {n c : Nat} (h : Is w z t A n c) (hn : n ≤ 17592186044416) :
    Calls Try.prog 73 #[.agg #[.bool t, .slice A n c]] w (NumI w (-z)) := by
  have HI := Lib.hid h
  have HN := Lib.hid h.neg_sgn
  clear h
  have hb : Below w.heap.size w ((w.alloc (.cells #[.bool t, .slice A n c] 24)).alloc (.cells #[.bool false, .slice none 0 0] 24)) := ((Below.refl _ _).alloc (Nat.le_refl _) _).alloc (by simp) _
  have R := Lib.hid (Res.new (w.alloc (.cells #[.bool t, .slice A n c] 24)))
  have HB := Lib.hid hb
  clear hb
  go_enter Try.func73, Try.ntmps73
  go_wp2_with fail
  refine (Make_i (HI.out.below HB.out).2.2.1 (HI.out).2.2.2.1 (HI.out).2.2.2.2 (by omega)).mono ?_
  rw [HN.out]
  rintro e w1 ⟨t', B, m, d, rfl, hi, hb1⟩
  have H := Lib.hid (HB.out.trans (hb1.mono HB.out.size))
  have R1 := Lib.hid (R.out.next hb1)
  have HH := Lib.hid hi
  clear hi hb1
  rw [World.size_alloc] at R1
  have r0 := R1.out.r0
  have r1 := R1.out.r1
  have f0 := R1.out.f0
  have f1 := R1.out.f1
  go_wp2
  refine bodyPost_ret (v := .agg #[.bool t', .slice B m d]) (by simp [results, Try.results73, go_sem, r0, r1]) rfl ?_
  exact ⟨t', B, m, d, rfl, HH.out.store r0 r1 _ _, below_store H.out (by omega) _ _⟩

set_option maxHeartbeats 400000 in
theorem refCmp_c {w : World} {z z' : Int} {t t' : Bool} {A A' : Option Addr} {n c n' c' : Nat} (h : Is w z t A n c) (h' : Is w z' t' A' n' c') (hn : n ≤ 17592186044416) (hn' : n' ≤ 17592186044416) :
    Calls Try.prog 24 #[.agg #[.bool t, .slice A n c], .agg #[.bool t', .slice A' n' c']] w (fun e w' => e = .returned (.int .i64 (ord z z')) ∧ Below w.heap.size w w') := by
  have HI := Lib.hid h
  have HJ := Lib.hid h'
  have HO := Lib.hid (show ord z z' = if t && !t' then -1 else if t' && !t then 1 else if t then ord ((val (words z'.natAbs) : Nat) : Int) ((val (words z.natAbs) : Nat) : Int) else ord ((val (words z.natAbs) : Nat) : Int) ((val (words z'.natAbs) : Nat) : Int) by
    have := ord_sgn t t' (val (words z.natAbs)) (val (words z'.natAbs)) (fun e => by rw [val_words] at e; rw [h.1, decide_eq_false (by omega)]) (fun e => by rw [val_words] at e; rw [h'.1, decide_eq_false (by omega)])
    rw [h.pos_sgn, h'.pos_sgn] at this
    exact this)
  clear h h'
  have hb : Below w.heap.size w ((w.alloc (.cells #[.bool t, .slice A n c] 24)).alloc (.cells #[.bool t', .slice A' n' c'] 24)) := ((Below.refl _ _).alloc (Nat.le_refl _) _).alloc (by simp) _
  have HB := Lib.hid hb
  have c1 := words_canon z.natAbs
  have c2 := words_canon z'.natAbs
  have r1 := (HI.out.below hb).2.2.1
  have r2 := (HJ.out.below hb).2.2.1
  have O1 := Lib.hid (order_c A A' n c n' c' _ _ _ r1 r2 c1 c2 (by omega) (by omega))
  have O2 := Lib.hid (order_c A' A n' c' n c _ _ _ r2 r1 c2 c1 (by omega) (by omega))
  clear hb c1 c2 r1 r2
  go_enter Try.func24, Try.ntmps24
  rcases t with _ | _ <;> rcases t' with _ | _
  · go_wp2_with fail
    refine (O1.out).mono ?_
    rintro e w1 ⟨rfl, j, rfl⟩
    go_wp2
    go_ret
    exact ⟨by rw [HO.out]; rfl, below_drewN HB.out j⟩
  · go_wp2
    go_ret
    exact ⟨by rw [HO.out]; rfl, HB.out⟩
  · go_wp2
    go_ret
    exact ⟨by rw [HO.out]; rfl, HB.out⟩
  · go_wp2_with fail
    refine (O2.out).mono ?_
    rintro e w1 ⟨rfl, j, rfl⟩
    go_wp2
    go_ret
    exact ⟨by rw [HO.out]; rfl, below_drewN HB.out j⟩
end Go.Proofs.Ytbblckaplddggaa
