import Derived.Deep.RegionHeld3
namespace Go.Proofs.YteabokkofoomkaaGreat
open Go
section
variable {P : Program} {ops : Array Oper} {Q : Exit → Act → World → Prop} {md : Region.Mode}
def pathTo (md : Region.Mode) (ops : Array Oper) : Nat → Nat → Nat → Bool
 | 0, _, _ => false
 | f + 1, j, i => match ops[j]? with
   | none => false
   | some o => o.after.any fun e => Region.binds md e && (e.on == i || pathTo md ops f e.on i)
def tailOk (md : Region.Mode) (ops : Array Oper) (n : Nat) : Bool :=
 decide (n ≤ ops.size) &&
 ((List.range ops.size).all fun j => match ops[j]? with
   | none => true
   | some o => (o.after.all fun e => !Region.binds md e || decide (e.on < j)) && (match Oper.guard o with | none => true | some (g, _) => decide (g < j)) &&
    (decide (j < n) || (List.range j).all fun i => pathTo md ops ops.size j i))
structure TailSpec (md : Region.Mode) (ops : Array Oper) (n : Nat) : Prop where
 le : n ≤ ops.size
 low : ∀ j o, ops[j]? = some o → ∀ e ∈ o.after, Region.binds md e = true → e.on < j
 guard : ∀ j o, ops[j]? = some o → ∀ g b, Oper.guard o = some (g, b) → g < j
 path : ∀ j, n ≤ j → j < ops.size → ∀ i, i < j → pathTo md ops ops.size j i = true
theorem tailOk_spec {n : Nat} (h : tailOk md ops n = true) : TailSpec md ops n := by
 simp only [tailOk, Bool.and_eq_true, decide_eq_true_eq, List.all_eq_true, List.mem_range] at h
 obtain ⟨h0, h1⟩ := h
 have key : ∀ j o, ops[j]? = some o → ((∀ e ∈ o.after, Region.binds md e = true → e.on < j) ∧ (∀ g b, Oper.guard o = some (g, b) → g < j) ∧ (n ≤ j → ∀ i, i < j → pathTo md ops ops.size j i = true)) := fun j o ho => by
  have h2 := h1 j (Array.getElem?_eq_some_iff.1 ho).1
  rw [ho] at h2
  simp only [Bool.and_eq_true, Bool.or_eq_true, decide_eq_true_eq, List.all_eq_true, List.mem_range] at h2
  obtain ⟨⟨h3, h4⟩, h5⟩ := h2
  refine ⟨fun e he hb => ?_, fun g b hg => ?_, fun hn i hi => ?_⟩
  · have := Array.all_eq_true'.1 h3 e he
    simpa [hb] using this
  · rw [hg] at h4
    simpa using h4
  · rcases h5 with h5 | h5
    · omega
    · exact h5 i hi
 refine ⟨h0, fun j o ho => (key j o ho).1, fun j o ho => (key j o ho).2.1, fun j hn hj => ?_⟩
 have ho : ops[j]? = some ops[j] := Array.getElem?_eq_getElem hj
 exact (key j _ ho).2.2 hn
def Down (md : Region.Mode) (ops : Array Oper) (listed : Array Bool) : Prop :=
 ∀ j o, ops[j]? = some o → listed.getD j false = true → ∀ e ∈ o.after, Region.binds md e = true → listed.getD e.on false = true
theorem path_listed {listed : Array Bool} (hd : Down md ops listed) : ∀ (f j i : Nat) (o : Oper), ops[j]? = some o → (∀ e ∈ o.after, Region.binds md e = true → listed.getD e.on false = true) → pathTo md ops f j i = true → listed.getD i false = true
 | 0, _, _, _, _, _, h => by simp [pathTo] at h
 | f + 1, j, i, o, ho, hall, h => by
   simp only [pathTo, ho] at h
   obtain ⟨e, he, hb⟩ := Array.any_eq_true'.1 h
   simp only [Bool.and_eq_true, Bool.or_eq_true, beq_iff_eq] at hb
   have hl := hall e he hb.1
   rcases hb.2 with rfl | hp
   · exact hl
   · cases hk : ops[e.on]? with
     | none =>
       cases f with
       | zero => simp [pathTo] at hp
       | succ f => simp [pathTo, hk] at hp
     | some o' => exact path_listed hd f e.on i o' hk (fun e' he' hb' => hd _ o' hk hl e' he' hb') hp
theorem un_listed {listed : Array Bool} {i : Nat} (h : i < listed.size) : listed.getD i true = false ↔ ¬ listed.getD i false = true := by
 simp [Array.getD, h]
theorem set_self {listed : Array Bool} {i : Nat} (h : i < listed.size) : (listed.setIfInBounds i true).getD i false = true := by
 simp [Array.getD, h]
theorem down_set {listed : Array Bool} {j : Nat} (hd : Down md ops listed) (hj : j ∈ Region.ready md ops listed) : Down md ops (listed.setIfInBounds j true) := by
 intro k o ho hk e he hb
 have hlt := (Array.getElem?_eq_some_iff.1 ho).1
 by_cases hkj : k = j
 · subst hkj
   obtain ⟨_, o', ho', hall⟩ := mem_ready.1 hj
   rw [ho] at ho'
   cases ho'
   exact getD_set_true (hall e he hb)
 · rw [getD_set_ne false (Ne.symm hkj)] at hk
   exact getD_set_true (hd k o ho hk e he hb)
theorem tail_run {n : Nat} (hs : TailSpec md ops n) : ∀ (f r k : Nat) (listed : Array Bool) (a : Act) (w : World), r ≤ f → n ≤ k → k + r = ops.size → listed.size = ops.size → Down md ops listed → (∀ i, i < k → listed.getD i false = true) → (∀ i, k ≤ i → i < ops.size → listed.getD i true = false) →
 wpOps P ops Q (List.range' k r) a w → wpAny P md ops Q f listed a w := by
 intro f
 induction f with
 | zero =>
   intro r k listed a w hf _ hr hsz _ hl _ h
   have : r = 0 := by omega
   subst this
   refine ⟨?_, h⟩
   cases hq : Region.ready md ops listed with
   | nil => rfl
   | cons x xs =>
     exfalso
     have hx : x ∈ Region.ready md ops listed := by rw [hq]; simp
     obtain ⟨h1, o, ho, _⟩ := mem_ready.1 hx
     have hlt := (Array.getElem?_eq_some_iff.1 ho).1
     exact (un_listed (by omega)).1 h1 (hl x (by omega))
 | succ f ih =>
   intro r k listed a w hf hn hr hsz hd hl hu h
   have hready : ∀ x, x ∈ Region.ready md ops listed ↔ (x = k ∧ 0 < r) := by
    intro x
    constructor
    · intro hx
      obtain ⟨h1, o, ho, hall⟩ := mem_ready.1 hx
      have hlt := (Array.getElem?_eq_some_iff.1 ho).1
      have hxk : k ≤ x := Nat.le_of_not_lt fun hc => (un_listed (by omega)).1 h1 (hl x hc)
      refine ⟨?_, by omega⟩
      refine Classical.byContradiction fun hne => ?_
      have h2 := path_listed hd _ x k o ho hall (hs.path x (by omega) hlt k (by omega))
      exact (un_listed (by omega)).1 (hu k (Nat.le_refl _) (by omega)) h2
    · rintro ⟨rfl, hr0⟩
      have ho : ops[x]? = some ops[x] := Array.getElem?_eq_getElem (by omega)
      exact mem_ready.2 ⟨hu x (Nat.le_refl _) (by omega), _, ho, fun e he hb => hl _ (hs.low x _ ho e he hb)⟩
   cases r with
   | zero =>
     refine ⟨fun _ => h, fun i hi => ?_⟩
     have := ((hready i).1 hi).2
     omega
   | succ r =>
     refine ⟨fun h0 => ?_, fun i hi => ?_⟩
     · have := (hready k).2 ⟨rfl, by omega⟩
       rw [h0] at this; cases this
     · have hik := ((hready i).1 hi).1
       subst hik
       rw [List.range'_succ, wpOps_cons] at h
       refine wpOp_mono (fun a' w' h' => ih r (i + 1) _ a' w' (by omega) (by omega) (by omega) (by simp [hsz]) (down_set hd hi) ?_ ?_ h') h
       · intro j hj
         by_cases hji : j = i
         · subst hji; exact set_self (by omega)
         · exact getD_set_true (hl j (by omega))
       · intro j hj hj2
         rw [getD_set_ne true (by omega)]
         exact hu j (by omega) hj2
def thenTail (P : Program) (ops : Array Oper) (Q : Exit → Act → World → Prop) (n : Nat) : Exit → Act → World → Prop
 | .normal, a, w => wpOps P ops Q (List.range' n (ops.size - n)) a w
 | e, a, w => Q e a w
theorem wp_thenTail {n : Nat} {o : Oper} {a : Act} {w : World} {K : Act → World → Prop} (h : o.wp P a w K (thenTail P ops Q n)) : o.wp P a w K Q := by
 unfold Oper.wp at *
 generalize (execOp a.eval o).run P w = r at *
 cases r with
 | ok m w' =>
   cases m <;> simp only [Oper.upon] at h ⊢ <;>
    first
     | exact h
     | exact Calls.mono h (fun e w'' he => by cases e <;> first | exact he)
 | halt x w' => cases x <;> simp only [Oper.upon] at h ⊢ <;> exact h
theorem head_op {n : Nat} (hs : TailSpec md ops n) {hd : Array Oper} (hh : ∀ i, i < n → hd[i]? = ops[i]?) {i : Nat} (hi : i < n) {a : Act} {w : World} {K : Act → World → Prop} (h : wpOp P hd (thenTail P ops Q n) i K a w) : wpOp P ops Q i K a w := by
 unfold wpOp at *
 rw [hh i hi] at h
 cases ho : ops[i]? with
 | none => rw [ho] at h; exact h
 | some o =>
   rw [ho] at h
   simp only at h ⊢
   have hw : Region.wanted o (yielded hd a.tmps) = Region.wanted o (yielded ops a.tmps) := by
    cases hg : Oper.guard o with
    | none => simp only [Region.wanted, hg]
    | some p =>
      obtain ⟨g, b⟩ := p
      have := hs.guard i o ho g b hg
      simp only [Region.wanted, hg, yielded, hh g (by omega)]
   rw [hw] at h
   split
   · rename_i hw1
     rw [if_pos hw1] at h
     exact h.imp wp_thenTail fun ⟨h1, a, w, h2⟩ => ⟨h1, a, w, h2⟩
   · rename_i hw1
     rw [if_neg hw1] at h
     exact h
theorem head_run {n : Nat} (hs : TailSpec md ops n) {hd : Array Oper} (hh : ∀ i, i < n → hd[i]? = ops[i]?) (hn : hd.size = n) : ∀ (f : Nat) (lh listed : Array Bool) (a : Act) (w : World), listed.size = ops.size → Down md ops listed →
 (∀ i b, i < n → lh.getD i b = listed.getD i b) → (∀ i, n ≤ i → i < ops.size → listed.getD i true = false) →
 wpAny P md hd (thenTail P ops Q n) f lh a w → wpAny P md ops Q (f + (ops.size - n)) listed a w := by
 have hle := hs.le
 have all : ∀ (lh listed : Array Bool), listed.size = ops.size → (∀ i b, i < n → lh.getD i b = listed.getD i b) → Region.ready md hd lh = [] → ∀ i, i < n → listed.getD i false = true := by
  intro lh listed hsz hl hr i
  induction i using Nat.strongRecOn with
  | ind i ih =>
    intro hi
    refine Classical.byContradiction fun hc => ?_
    have ho : ops[i]? = some ops[i] := Array.getElem?_eq_getElem (by omega)
    have : i ∈ Region.ready md hd lh := mem_ready.2 ⟨by rw [hl i true hi]; exact (un_listed (by omega)).2 hc, _, (hh i hi).trans ho, fun e he hb => by
     have hlow := hs.low i _ ho e he hb
     rw [hl e.on false (by omega)]
     exact ih e.on hlow (by omega)⟩
    rw [hr] at this
    cases this
 have out : ∀ (f : Nat) (lh listed : Array Bool) (a : Act) (w : World), listed.size = ops.size → Down md ops listed → (∀ i b, i < n → lh.getD i b = listed.getD i b) → (∀ i, n ≤ i → i < ops.size → listed.getD i true = false) →
  Region.ready md hd lh = [] → thenTail P ops Q n .normal a w → wpAny P md ops Q (f + (ops.size - n)) listed a w := fun f lh listed a w hsz hd2 hl hu hr h =>
  tail_run hs _ (ops.size - n) n listed a w (by omega) (Nat.le_refl _) (by omega) hsz hd2 (all lh listed hsz hl hr) hu h
 intro f
 induction f with
 | zero =>
   intro lh listed a w hsz hd2 hl hu h
   exact out 0 lh listed a w hsz hd2 hl hu h.1 h.2
 | succ f ih =>
   intro lh listed a w hsz hd2 hl hu h
   by_cases hr : Region.ready md hd lh = []
   · exact out _ lh listed a w hsz hd2 hl hu hr (h.1 hr)
   · obtain ⟨i0, hi0⟩ := List.exists_mem_of_ne_nil _ hr
     obtain ⟨u1, o1, ho1, hal1⟩ := mem_ready.1 hi0
     have hi0n : i0 < n := by have := (Array.getElem?_eq_some_iff.1 ho1).1; omega
     rw [hl i0 true hi0n] at u1
     rw [show f + 1 + (ops.size - n) = (f + (ops.size - n)) + 1 by omega]
     have sub : ∀ j, j ∈ Region.ready md ops listed → j < n ∧ j ∈ Region.ready md hd lh := by
      intro j hj
      obtain ⟨h1, o, ho, hall⟩ := mem_ready.1 hj
      have hlt := (Array.getElem?_eq_some_iff.1 ho).1
      have hjn : j < n := Nat.lt_of_not_le fun hc => by
       have h2 := path_listed hd2 _ j i0 o ho hall (hs.path j hc hlt i0 (by omega))
       exact (un_listed (by omega)).1 u1 h2
      refine ⟨hjn, mem_ready.2 ⟨by rw [hl j true hjn]; exact h1, o, (hh j hjn).trans ho, fun e he hb => ?_⟩⟩
      rw [hl e.on false (Nat.lt_trans (hs.low j o ho e he hb) hjn)]
      exact hall e he hb
     have sup : i0 ∈ Region.ready md ops listed := mem_ready.2 ⟨u1, o1, (hh i0 hi0n).symm.trans ho1, fun e he hb => by
      rw [← hl e.on false (Nat.lt_trans (hs.low i0 o1 ((hh i0 hi0n).symm.trans ho1) e he hb) hi0n)]
      exact hal1 e he hb⟩
     refine ⟨fun h0 => (by rw [h0] at sup; cases sup), fun j hj => ?_⟩
     obtain ⟨hjn, hjr⟩ := sub j hj
     refine wpOp_mono (fun a' w' h' => ih (lh.setIfInBounds j true) (listed.setIfInBounds j true) a' w' (by simp [hsz]) (down_set hd2 hj) ?_ ?_ h') (head_op hs hh hjn (h.2 j hjr))
     · intro i b hi
       by_cases hij : j = i
       · subst hij
         have h1 : j < lh.size := by
          obtain ⟨h2, _⟩ := mem_ready.1 hjr
          refine Nat.lt_of_not_le fun hc => ?_
          simp [Array.getD, Nat.not_lt.2 hc] at h2
         have h2 : j < listed.size := by omega
         simp [Array.getD, h1, h2]
       · rw [getD_set_ne b hij, getD_set_ne b hij]; exact hl i b hi
     · intro i hi hi2
       rw [getD_set_ne true (by omega)]
       exact hu i hi hi2
theorem wp_region_tail {id : Nat} {a : Act} {w : World} {S : World → Prop} (n : Nat) (hm : P.follows .mixedOrders = true) (ht : tailOk .any ops n = true) (hp : ∀ c (a : Act) d v w, Q (.panic c) (a.put d v) w → Q (.panic c) a w) (hS : S w.drew)
 (h : ∀ QT : Exit → Act → World → Prop, (∀ a w, wpList P ops Q (ops.toList.drop n) a w → QT .normal a w) → (∀ c (a : Act) d v w, QT (.panic c) (a.put d v) w → QT (.panic c) a w) → S w.drew → wpAnyH P .any (ops.extract 0 n) QT S n (Array.replicate n false) a w.drew) : (Code.region id ops true).wp P Q a w := by
 have hs := tailOk_spec ht
 have hle := hs.le
 refine wp_region_any hm ?_
 have h1 := head_run hs (hd := ops.extract 0 n) (fun i hi => by simp [Array.getElem?_extract]; omega) (by simp; omega) n (Array.replicate n false) (Array.replicate ops.size false) a w.drew (by simp) ?_ ?_ ?_ (wpAny_of_held _ _ _ _ (h (thenTail P ops Q n) (fun a w h => by
  have e := wpOps_eq_wpList (P := P) (Q := Q) (ops := ops) (ops.toList.drop n) n (fun j => by simp)
  rw [List.length_drop, Array.length_toList] at e
  show wpOps P ops Q (List.range' n (ops.size - n)) a w
  rw [e]; exact h) hp hS))
 · rw [show n + (ops.size - n) = ops.size by omega] at h1
   exact h1
 · intro j o ho hj
   have := (Array.getElem?_eq_some_iff.1 ho).1
   simp [Array.getD, this] at hj
 · intro i b hi
   have : i < ops.size := by omega
   simp [Array.getD, hi, this]
 · intro i hi hi2
   simp [Array.getD, hi2]
end
section
variable {P : Program} {ops : Array Oper} {Q : Exit → Act → World → Prop} {md : Region.Mode}
section
variable {S : World → Prop}
theorem take_on {i : Nat} {oi : Oper} {v : Value} {d : Option Tmp} {fuel : Nat} {listed : Array Bool} {a : Act} {w : World} (hi : ops[i]? = some oi) (hd : oi.dst = d)
 (hs : Region.noSelect ops = true) (hf : Region.free md ops listed i = true) (hr : (Region.ready md ops listed).contains i = true)
 (hQ : ∀ c a w, Q (.panic c) (a.put d v) w → Q (.panic c) a w) (hw : Region.wanted oi (yielded ops a.tmps) = true) (hy : ∀ w, S w → (execOp a.eval oi).run P w = .ok (.value v) w) (hS : S w)
 (h : wpAnyH P md ops Q S fuel (listed.setIfInBounds i true) (a.put d v) w) : wpAnyH P md ops Q S (fuel + 1) listed a w := by
 subst hd
 exact wpAnyH_take hi hs hf hr hQ (.inl ⟨hw, hy⟩) hS h
theorem take_off {i : Nat} {oi : Oper} {d : Option Tmp} {fuel : Nat} {listed : Array Bool} {a : Act} {w : World} (hi : ops[i]? = some oi) (hd : oi.dst = d)
 (hs : Region.noSelect ops = true) (hf : Region.free md ops listed i = true) (hr : (Region.ready md ops listed).contains i = true)
 (hQ : ∀ c a w, Q (.panic c) (a.put d undef) w → Q (.panic c) a w) (hw : Region.wanted oi (yielded ops a.tmps) = false) (hS : S w)
 (h : wpAnyH P md ops Q S fuel (listed.setIfInBounds i true) (a.put d undef) w) : wpAnyH P md ops Q S (fuel + 1) listed a w := by
 subst hd
 exact wpAnyH_take hi hs hf hr hQ (.inr ⟨hw, rfl⟩) hS h
end
end
end Go.Proofs.YteabokkofoomkaaGreat
