import Derived.Test.YteabokkofoomkaaGreatCaa
import Derived.ProofKit
import Derived.OpenShut
import Derived.Lib.SmallJoins
import Derived.ChangeSlices
import Derived.Carry
import Derived.WideKeyArgs
namespace Go.Proofs.YteabokkofoomkaaGreat
open Go.RowKit Go.ChangeShapes Go.WideShapes Go.ChangeAt
/-- the end of a row whose call leaves all that was there as it was, makes what it likes besides, and returns values that reach no memory -/
theorem post_below {H : Type} {enc : TypeId × Value → H} {P : Program} {f : Func} {s : ChangeSpec} {apart fresh handsOn again : Bool} {W W' : World} {args : Array Value} {v : Value} {ds gs : List (DataW H)} {before pa pv : List MemPlace}
    (whole : DataW.Whole enc P f.params.toList s.vars apart W args.toList ds gs before) (hb : Below W.heap.size W W')
    (hr : ∀ (b : Nat) (sp : Nat → Bool) (hd : Bool), DataW.TrodAll enc P W' b sp hd f.resultTypes.toList (v.resultList f.resultTypes.size) (s.fn H (ds ++ gs)).results [])
    (ha : ∀ sp : Nat → Bool, (∀ p ∈ before, sp p.block = true) → DataW.TrodAll enc P W' 0 sp true f.params.toList args.toList (s.fn H (ds ++ gs)).args pa)
    (hv : ∀ sp : Nat → Bool, (∀ p ∈ before, sp p.block = true) → DataW.TrodVars enc P W' sp s.vars (s.fn H (ds ++ gs)).vars pv)
    (hp : before = pa ++ pv)
    (ho : ∀ (j : Nat) (t : TypeId) (r : Value), f.resultTypes[j]? = some t → (v.resultList f.resultTypes.size)[j]? = some r → Value.okWide P W' .any 0 t r) :
    s.post enc P f apart fresh handsOn again W args v W' := by
  have old : ∀ p ∈ before, (fun b => decide (b < W.heap.size)) p.block = true := fun p hp => by simpa using whole.lt p hp
  have lt := whole.lt
  refine ⟨ds, gs, before, [], pa, pv, whole, hr _ _ _, ha _ old, hv _ old, World.keptBut_mono (fun p hq => ⟨hq, ?_⟩) (hb.frame (· ∈ before)), fun _ => ?_⟩
  · rw [hp, List.mem_append] at hq
    exact Or.inr hq
  obtain ⟨_, _, _, _, _, hz, hn⟩ := whole
  subst hp
  refine ⟨ho, _, _, ([] ++ pa) ++ pv, ⟨[] ++ pa, pv, trodAll_append (ha _ (fun _ _ => rfl)) (hr _ _ _), hv _ (fun _ _ => rfl), rfl, ?_, ?_⟩, ?_⟩
  · intro b off hq
    have hq2 : MemPlace.cell b off ∈ pa ++ pv := by simpa using hq
    rw [hb.frozen (p := ⟨b, off, none⟩) (lt _ hq2)]
    exact hz b off hq2
  · intro h1
    simpa using hn h1
  · intro p hq _
    simpa using hq
end Go.Proofs.YteabokkofoomkaaGreat
namespace Go.Proofs.YteabokkofoomkaaGreat
open Go.RowKit Go.ChangeShapes Go.WideShapes Go.ChangeAt
theorem cells_word : Tryz.prog.cellsOf 103 = 1 := by kernel_rfl
theorem cells_number : Tryz.prog.cellsOf 58 = 2 := by kernel_rfl
theorem laid_out : laidOutB Tryz.prog = true := by kernel_rfl
/-- an address at which something reads is a plain one -/
theorem plain_of_cell {w : World} {a : Addr} {v : Value} (h : w.cell? a = some v) : a = ⟨a.block, a.off, none⟩ ∧ a.block < w.heap.size := by
  obtain ⟨b, o, s⟩ := a
  unfold World.cell? at h
  have hb : b < w.heap.size := by
    rcases Nat.lt_or_ge b w.heap.size with h1 | h1
    · exact h1
    · simp [Array.getElem?_eq_none h1] at h
  refine ⟨?_, hb⟩
  cases s with
  | none => rfl
  | some k =>
    simp only at h
    split at h <;> simp_all
theorem wf_u32 {z : Int} (h : (Lit.int .u32 z).wf = true) : ∃ n : Nat, z = (n : Int) ∧ n < 4294967296 := by
  simp only [Lit.wf, Bool.and_eq_true, decide_eq_true_eq] at h
  have h1 : IntKind.min .u32 = 0 := rfl
  have h2 : IntKind.max .u32 = 4294967295 := rfl
  exact ⟨z.toNat, by omega, by omega⟩
/-- a slice of words that came in -/
theorem open_words {H : Type} {enc : TypeId × Value → H} {W : World} {base fuel : Nat} {spare : Nat → Bool} {held : Bool} {v : Value} {y : DataW H × List MemPlace}
    (h : DataW.trod enc Tryz.prog W base spare held fuel 56 [v] = some y) : ∃ A n c xs, v = .slice A n c ∧ Rd W A n xs ∧ n ≤ c ∧ c ≤ 9223372036854775807 := by
  rcases open_ints Tryz.underlying56 Tryz.underlying103 cells_word h with ⟨hcs, _⟩ | ⟨a, len, cap, zs, hcs, _, hl, hm, hz, _, hcell, hwz⟩
  · injection hcs with hv
    exact ⟨none, 0, 0, [], hv, Rd.nil _, Nat.le_refl _, by omega⟩
  · injection hcs with hv
    have hlen : len ≤ zs.length := by rw [hz]; split <;> omega
    refine ⟨some a, len, cap, (zs.take len).map Int.toNat, hv, ⟨by simp; omega, ?_, fun h0 => ?_⟩, hl, hm⟩
    · intro x hx
      obtain ⟨z, hz1, rfl⟩ := List.mem_map.1 hx
      obtain ⟨n, rfl, hn⟩ := wf_u32 (hwz z (List.mem_of_mem_take hz1))
      simpa using hn
    · have c0 := hcell 0 (by omega)
      obtain ⟨pa, hb⟩ := plain_of_cell c0
      rw [show a.add 0 = a from rfl] at pa hb
      refine ⟨a.block, a.off, by rw [← pa], hb, fun k hk => ?_⟩
      have ck := hcell k (by omega)
      have ea : a.add k = ⟨a.block, a.off + k, none⟩ := by
        unfold Addr.add
        split
        · rename_i h1; subst h1; exact pa
        · rfl
      rw [ea] at ck
      rw [ck]
      have hkz : k < zs.length := by omega
      obtain ⟨n, hn, _⟩ := wf_u32 (hwz (zs.getD k 0) (by rw [List.getD_eq_getElem?_getD, List.getElem?_eq_getElem hkz]; exact List.getElem_mem hkz))
      have e2 : ((zs.take len).map Int.toNat).getD k 0 = (zs.getD k 0).toNat := by
        simp [List.getD_eq_getElem?_getD, List.getElem?_map, hk, List.getElem?_eq_getElem hkz]
      rw [e2, hn]
      rfl
set_option maxRecDepth 100000 in
/-- a number that came in -/
theorem open_number {H : Type} {enc : TypeId × Value → H} {W : World} {r : Reach} {b0 base : Nat} {spare : Nat → Bool} {held : Bool} {v : Value} {d : DataW H} {p : List MemPlace}
    (hv : Value.okWide Tryz.prog W r b0 58 v) (h : DataW.Trod enc Tryz.prog W base spare held 58 v d p) :
    ∃ s A n c xs, v = .agg #[.bool s, .slice A n c] ∧ Rd W A n xs ∧ n ≤ c ∧ c ≤ 9223372036854775807 := by
  obtain ⟨c0, c1, y0, y1, m, rfl, rfl, rfl, hy0, hy1⟩ := Joins.open_agg2 Tryz.underlying58 (by kernel_rfl) cells_number hv h
  obtain ⟨s, e0, rfl⟩ := DataW.trod_bool Tryz.underlying4 hy0
  obtain ⟨A, n, c, xs, rfl, hr, hn, hc⟩ := open_words hy1
  injection e0 with e0
  subst e0
  exact ⟨s, A, n, c, xs, rfl, hr, hn, hc⟩
/-- and reads so behind the call -/
theorem keep_number {H : Type} {enc : TypeId × Value → H} {W W' : World} {sp : Nat → Bool} {v : Value} {d : DataW H} {p : List MemPlace} (h : DataW.Trod enc Tryz.prog W 0 (fun _ => true) true 58 v d p) (hb : Below W.heap.size W W') (hlt : ∀ x ∈ p, x.block < W.heap.size)
    (hs : ∀ x ∈ p, sp x.block = true) : DataW.Trod enc Tryz.prog W' 0 sp true 58 v d p :=
  WideElems.Trod_stays laid_out (by kernel_rfl) (of_decide_eq_true (by kernel_rfl)) h (fun x hx => hb.same (hlt x hx)) hs
end Go.Proofs.YteabokkofoomkaaGreat
