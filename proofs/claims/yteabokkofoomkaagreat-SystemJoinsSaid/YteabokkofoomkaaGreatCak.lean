import Derived.Test.YteabokkofoomkaaGreatCai
set_option maxRecDepth 100000
namespace Go.Proofs.YteabokkofoomkaaGreat
open Go
theorem set0 {α : Type} (x : α) (l : List α) (a : α) : (x :: l).set 0 a = a :: l := rfl
theorem set1 {α : Type} (x : α) (l : List α) (n : Nat) (a : α) : (x :: l).set (n + 1) a = x :: l.set n a := rfl
section
variable {P : Program} {ops : Array Oper} {Q : Exit → Act → World → Prop} {md : Region.Mode} {S : World → Prop}
theorem tkk {oi : Oper} {v : Value} {fuel : Nat} {listed : Array Bool} {L : List Value} {ds} {w : World} (i d : Nat) (hi : ops[i]? = some oi) (hd : oi.dst = some d)
    (hc : (Region.noSelect ops && Region.free md ops listed i && (Region.ready md ops listed).contains i) = true)
    (hP : ∀ (c) (a : Act) (v : Value) (w : World), Q (.panic c) (a.put (some d) v) w → Q (.panic c) a w) (hw : Region.wanted oi (yielded ops L.toArray) = true) (hy : ∀ w, S w → (execOp (Act.eval ⟨L.toArray, ds⟩) oi).run P w = .ok (.value v) w) (hS : S w)
    (h : wpAnyH P md ops Q S fuel (listed.setIfInBounds i true) ⟨(L.set d v).toArray, ds⟩ w) : wpAnyH P md ops Q S (fuel + 1) listed ⟨L.toArray, ds⟩ w := by
  simp only [Bool.and_eq_true] at hc
  refine take_on (d := some d) hi hd hc.1.1 hc.1.2 hc.2 (fun c a w h => hP c a _ w h) hw hy hS ?_
  simp only [Act.put, List.setIfInBounds_toArray]
  exact h
theorem tff {oi : Oper} {fuel : Nat} {listed : Array Bool} {L : List Value} {ds} {w : World} (i d : Nat) (hi : ops[i]? = some oi) (hd : oi.dst = some d)
    (hc : (Region.noSelect ops && Region.free md ops listed i && (Region.ready md ops listed).contains i) = true)
    (hP : ∀ (c) (a : Act) (v : Value) (w : World), Q (.panic c) (a.put (some d) v) w → Q (.panic c) a w) (hw : Region.wanted oi (yielded ops L.toArray) = false) (hS : S w)
    (h : wpAnyH P md ops Q S fuel (listed.setIfInBounds i true) ⟨(L.set d undef).toArray, ds⟩ w) : wpAnyH P md ops Q S (fuel + 1) listed ⟨L.toArray, ds⟩ w := by
  simp only [Bool.and_eq_true] at hc
  refine take_off (d := some d) hi hd hc.1.1 hc.1.2 hc.2 (fun c a w h => hP c a _ w h) hw hS ?_
  simp only [Act.put, List.setIfInBounds_toArray]
  exact h
end
end Go.Proofs.YteabokkofoomkaaGreat
