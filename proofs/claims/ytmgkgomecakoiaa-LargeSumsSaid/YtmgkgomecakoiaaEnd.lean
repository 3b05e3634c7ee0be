import Derived.Test.YtmgkgomecakoiaaMem
import Derived.ProofKit
import Derived.OpenShut
namespace Go.Proofs.Ytmgkgomecakoiaa
open Go.RowKit Go.ChangeShapes Go.WideShapes Go.ChangeAt

/-- the end of a row whose call leaves all that was there as it was, makes what it likes besides, and returns values that reach no memory -/
theorem post_below {H : Type} {enc : TypeId × Value → H} {P : Program} {f : Func} {s : ChangeSpec} {apart fresh handsOn again : Bool} {W W' : World} {args : Array Value} {v : Value} {ds gs : List (DataW H)} {before pa pv : List MemPlace}
    (whole : DataW.Whole enc P f.params.toList s.vars apart W args.toList ds gs before) (hb : Below W.heap.size W W')
    (hr : ∀ (b : Nat) (sp : Nat → Bool) (hd : Bool), DataW.TrodAll enc P W' b sp hd f.resultTypes.toList (v.resultList f.resultTypes.size) (s.fn H (ds ++ gs)).results [])
    (ha : ∀ sp : Nat → Bool, (∀ p ∈ before, sp p.block = true) → DataW.TrodAll enc P W' 0 sp true f.params.toList args.toList (s.fn H (ds ++ gs)).args pa)
    (hv : ∀ sp : Nat → Bool, (∀ p ∈ before, sp p.block = true) → DataW.TrodVars enc P W' sp s.vars (s.fn H (ds ++ gs)).vars pv)
    (hp : before = pa ++ pv)
    (ho : ∀ (j : Nat) (t : TypeId) (r : Value), f.resultTypes[j]? = some t → (v.resultList f.resultTypes.size)[j]? = some r → Value.okWide P W' .any 0 t r) :
    s.post enc P f apart fresh handsOn again W args v W' := by
  have old : ∀ p ∈ before, (fun b => decide (b < W.heap.size)) p.block = true := fun p hp => by simpa using whole.lt p hp
  have lt := whole.lt
  refine ⟨ds, gs, before, [], pa, pv, whole, hr _ _ _, ha _ old, hv _ old, World.keptBut_mono (fun p hq => ⟨hq, ?_⟩) (hb.frame (· ∈ before)), fun _ => ?_⟩
  · rw [hp, List.mem_append] at hq
    exact Or.inr hq
  obtain ⟨_, _, _, _, _, hz, hn⟩ := whole
  subst hp
  refine ⟨ho, _, _, ([] ++ pa) ++ pv, ⟨[] ++ pa, pv, trodAll_append (ha _ (fun _ _ => rfl)) (hr _ _ _), hv _ (fun _ _ => rfl), rfl, ?_, ?_⟩, ?_⟩
  · intro b off hq
    have hq2 : MemPlace.cell b off ∈ pa ++ pv := by simpa using hq
    rw [hb.frozen (p := ⟨b, off, none⟩) (lt _ hq2)]
    exact hz b off hq2
  · intro h1
    simpa using hn h1
  · intro p hq _
    simpa using hq
end Go.Proofs.Ytmgkgomecakoiaa
