import Derived.Test.YteabokkofoomkaaGreatRows
import Derived.Test.YteabokkofoomkaaGreatCac
import Derived.Lib.Hide
import Derived.WalkKit
import Derived.WalkLawsBesides
import Derived.WalkSpells
import Derived.Deep.QuietTactic
import Derived.BigQuiet
import Derived.Below
import Derived.Deep.DeepCutAuto
import Derived.Deep.CutBlock
import Derived.Deep.RegionHeld3
import Derived.Deep.RegionWith
import Derived.BigRegion
import Derived.RegionTactic
import Derived.Laws.EntriesVeiled
import Derived.Laws.AppendOwn
import Derived.Deep.OwnRows
import Derived.Maps.AppendAt
import Derived.Calls
import Derived.Deep.LoopGhost
set_option maxRecDepth 100000
namespace Go.Proofs.YteabokkofoomkaaGreat
open Go.RowKit
structure RdI (w : World) (A : Option Addr) (n : Nat) (zs : List Int) : Prop where
 len : zs.length = n
 at_ : 0 < n → ∃ b o, A = some ⟨b, o, none⟩ ∧ b < w.heap.size ∧ ∀ k, k < n → w.cell? ⟨b, o + k, none⟩ = some (.int .i64 (zs.getD k 0))
theorem RdI.below {w w' : World} {A : Option Addr} {n : Nat} {zs : List Int} (h : RdI w A n zs) (hb : Below w.heap.size w w') : RdI w' A n zs := by
 refine ⟨h.len, fun h0 => ?_⟩
 obtain ⟨b, o, e, hlt, hc⟩ := h.at_ h0
 exact ⟨b, o, e, Nat.lt_of_lt_of_le hlt hb.size, fun k hk => (hb.cell (p := ⟨b, o + k, none⟩) hlt).trans (hc k hk)⟩
theorem RdI.nil (w : World) (A : Option Addr) : RdI w A 0 [] := ⟨rfl, fun h => absurd h (by omega)⟩
theorem bel_alloc (W : World) (o : Obj) : Below W.heap.size W (W.alloc o) := (Below.refl _ _).alloc (Nat.le_refl _) o
def RetB (b : Bool) (w : World) (e : Ending) (w' : World) : Prop := e = .returned (.bool b) ∧ Below w.heap.size w w'
structure Trm where
 s : Bool
 xs : List Nat
 es : List Int
def trmAt (ts : List Trm) (k : Nat) : Trm := ts.getD k ⟨false, [], []⟩
structure TrmIs (w : World) (b o : Nat) (t : Trm) (A : Option Addr) (n c : Nat) (B : Option Addr) (m d : Nat) : Prop where
 c0 : w.cell? ⟨b, o, none⟩ = some (.bool t.s)
 c1 : w.cell? ⟨b, o + 1, none⟩ = some (.slice A n c)
 c2 : w.cell? ⟨b, o + 2, none⟩ = some (.slice B m d)
 rd : Rd w A n t.xs
 nc : n ≤ c
 cm : c ≤ 9223372036854775807
 ri : RdI w B m t.es
 md : m ≤ d
 dm : d ≤ 9223372036854775807
theorem TrmIs.below {w w' : World} {b o : Nat} {t : Trm} {A : Option Addr} {n c : Nat} {B : Option Addr} {m d : Nat} (h : TrmIs w b o t A n c B m d) (hlt : b < w.heap.size) (hb : Below w.heap.size w w') : TrmIs w' b o t A n c B m d :=
 ⟨(hb.cell (p := ⟨b, o, none⟩) hlt).trans h.c0, (hb.cell (p := ⟨b, o + 1, none⟩) hlt).trans h.c1, (hb.cell (p := ⟨b, o + 2, none⟩) hlt).trans h.c2, h.rd.below hb, h.nc, h.cm, h.ri.below hb, h.md, h.dm⟩
structure RdT (w : World) (A : Option Addr) (n : Nat) (ts : List Trm) : Prop where
 len : ts.length = n
 at_ : 0 < n → ∃ b o, A = some ⟨b, o, none⟩ ∧ b < w.heap.size ∧ ∀ k, k < n → ∃ A1 n1 c1 B1 m1 d1, TrmIs w b (o + k * 3) (trmAt ts k) A1 n1 c1 B1 m1 d1
theorem RdT.below {w w' : World} {A : Option Addr} {n : Nat} {ts : List Trm} (h : RdT w A n ts) (hb : Below w.heap.size w w') : RdT w' A n ts := by
 refine ⟨h.len, fun h0 => ?_⟩
 obtain ⟨b, o, e, hlt, hc⟩ := h.at_ h0
 refine ⟨b, o, e, Nat.lt_of_lt_of_le hlt hb.size, fun k hk => ?_⟩
 obtain ⟨A1, n1, c1, B1, m1, d1, ht⟩ := hc k hk
 exact ⟨A1, n1, c1, B1, m1, d1, ht.below hlt hb⟩
theorem RdT.nil (w : World) (A : Option Addr) : RdT w A 0 [] := ⟨rfl, fun h => absurd h (by omega)⟩
def sumI (l : List Int) : Int := l.foldl (· + ·) 0
theorem sumI_snoc (l : List Int) (x : Int) : sumI (l ++ [x]) = sumI l + x := by
 unfold sumI
 rw [List.foldl_append]
 rfl
theorem sumI_take (l : List Int) (k : Nat) (hk : k < l.length) : sumI (l.take (k + 1)) = sumI (l.take k) + l.getD k 0 := by
 rw [List.take_add_one, List.getElem?_eq_getElem hk]
 show sumI (l.take k ++ [l[k]]) = _
 rw [sumI_snoc]
 simp [List.getD_eq_getElem?_getD, List.getElem?_eq_getElem hk]
def ExpsIn (l : List Int) : Prop := ∀ k, k < l.length → 0 ≤ l.getD k 0 ∧ l.getD k 0 ≤ 120
theorem sumI_bound (l : List Int) (h : ExpsIn l) : ∀ k, k ≤ l.length → 0 ≤ sumI (l.take k) ∧ sumI (l.take k) ≤ 120 * k := by
 intro k
 induction k with
 | zero => intro _; simp [sumI]
 | succ k ih =>
   intro hk
   have h1 := ih (by omega)
   have h2 := h k (by omega)
   rw [sumI_take l k (by omega)]
   omega
def sgnI (a b : Int) : Int := if a < b then -1 else if b < a then 1 else 0
def lexI : List Int → List Int → Int
 | [], [] => 0
 | [], _ :: _ => -1
 | _ :: _, [] => 1
 | a :: s, b :: t => if a < b then -1 else if b < a then 1 else lexI s t
def ordT (a b : List Int) : Int := if sumI a < sumI b then -1 else if sumI b < sumI a then 1 else lexI a b
def validExps (es : List Int) (vars : Int) : Bool := decide ((es.length : Int) = vars) && decide (∀ k, k < es.length → 0 ≤ es.getD k 0 ∧ es.getD k 0 ≤ 120) && decide (sumI es ≤ 120)
def validTrm (t : Trm) (vars : Int) : Bool := validB t.s t.xs && decide (t.xs ≠ []) && validExps t.es vars
def validPs (vars : Int) (ts : List Trm) : Bool := decide (∀ i, i < ts.length → validTrm (trmAt ts i) vars = true ∧ (0 < i → ordT (trmAt ts (i - 1)).es (trmAt ts i).es = 1))
def validP (vars : Int) (ts : List Trm) : Bool := decide (0 ≤ vars ∧ vars ≤ 32 ∧ ts.length ≤ 3000) && validPs vars ts
theorem lexI_drop : ∀ (a b : List Int) (k : Nat), k ≤ a.length → k ≤ b.length → (∀ i, i < k → a.getD i 0 = b.getD i 0) → lexI a b = lexI (a.drop k) (b.drop k)
 | a, b, 0, _, _, _ => by simp
 | [], b, k + 1, h, _, _ => by simp at h
 | a :: s, [], k + 1, _, h, _ => by simp at h
 | a :: s, b :: t, k + 1, h1, h2, h => by
   have h0 := h 0 (by omega)
   simp only [List.getD_cons_zero] at h0
   subst h0
   show (if a < a then -1 else if a < a then 1 else lexI s t) = lexI (s.drop k) (t.drop k)
   rw [if_neg (by omega), if_neg (by omega)]
   exact lexI_drop s t k (by simpa using h1) (by simpa using h2) fun i hi => by
    have := h (i + 1) (by omega)
    simpa using this
theorem lexI_at (a b : List Int) (k : Nat) (ha : k < a.length) (hb : k < b.length) (h : ∀ i, i < k → a.getD i 0 = b.getD i 0) :
 (a.getD k 0 < b.getD k 0 → lexI a b = -1) ∧ (b.getD k 0 < a.getD k 0 → lexI a b = 1) := by
 rw [lexI_drop a b k (by omega) (by omega) h, List.drop_eq_getElem_cons ha, List.drop_eq_getElem_cons hb]
 have e1 : a.getD k 0 = a[k] := by simp [List.getD_eq_getElem?_getD, List.getElem?_eq_getElem ha]
 have e2 : b.getD k 0 = b[k] := by simp [List.getD_eq_getElem?_getD, List.getElem?_eq_getElem hb]
 rw [e1, e2]
 constructor
 · intro hl; show (if a[k] < b[k] then (-1 : Int) else _) = -1; rw [if_pos hl]
 · intro hl; show (if a[k] < b[k] then (-1 : Int) else if b[k] < a[k] then 1 else _) = 1; rw [if_neg (by omega), if_pos hl]
theorem lexI_self : ∀ a b : List Int, a.length = b.length → (∀ i, i < a.length → a.getD i 0 = b.getD i 0) → lexI a b = 0
 | [], [], _, _ => rfl
 | [], _ :: _, h, _ => by simp at h
 | _ :: _, [], h, _ => by simp at h
 | a :: s, b :: t, h, hx => by
   have h0 := hx 0 (by simp)
   simp only [List.getD_cons_zero] at h0
   subst h0
   show (if a < a then -1 else if a < a then 1 else lexI s t) = 0
   rw [if_neg (by omega), if_neg (by omega)]
   exact lexI_self s t (by simpa using h) fun i hi => by
    have := hx (i + 1) (by simp; omega)
    simpa using this
theorem exps_at {l : List Int} (h : ExpsIn l) {k : Nat} (hk : k < l.length) : 0 ≤ l.getD k 0 ∧ l.getD k 0 ≤ 120 := h k hk
set_option maxHeartbeats 2000000 in
theorem degree_c (B : Option Addr) (m d : Nat) (es : List Int) (w : World) (h : RdI w B m es) (he : ExpsIn es) (hm : m ≤ 1000000) :
 Calls Tryz.prog 73 #[.slice B m d] w fun e w' => e = .returned (.int .i64 (sumI es)) ∧ w' = w := by
 have HR := Lib.hid h
 have HE := Lib.hid he
 have HL := Lib.hid h.len
 clear h he
 go_enter Tryz.func73, Tryz.ntmps73
 go_wp2
 go_loopw [3, 8] (fun vs vi wr => ∃ k : Nat, vs = .int .i64 (sumI (es.take k)) ∧ vi = .int .i64 (k : Int) ∧ k ≤ m ∧ wr = w) (fun _ vi _ => m - (intOf vi).toNat)
 case atStart => exact ⟨0, rfl, rfl, Nat.zero_le _, rfl⟩
 case round =>
  obtain ⟨k, rfl, rfl, hk, rfl⟩ := hrel
  have hb := sumI_bound es HE.out k (by rw [HL.out]; exact hk)
  rcases Nat.lt_or_ge k m with hkm | hkm
  · have t1 : decide ((k : Int) < (m : Int)) = true := decide_eq_true (by omega)
    have t1n : decide (k < m) = true := decide_eq_true hkm
    have hkI : (k : Int) < (m : Int) := by omega
    obtain ⟨b, o, hB, _, hc⟩ := HR.out.at_ (by omega)
    have c0 := hc k hkm
    have hz := exps_at HE.out (k := k) (by rw [HL.out]; exact hkm)
    have HT := Lib.hid (sumI_take es k (by rw [HL.out]; exact hkm))
    generalize sumI (es.take k) = sv at hb HT ⊢
    generalize es.getD k 0 = z at c0 hz HT
    subst hB
    clear hc
    go_wp2
    go_roundw
    case measure => simp [intOf]; omega
    case rel => exact ⟨k + 1, (by rw [HT.out] <;> (try go_num)), by go_num, by omega, (by first | rfl | trivial)⟩
  · have t1 : decide ((k : Int) < (m : Int)) = false := decide_eq_false (by omega)
    have t1n : decide (k < m) = false := decide_eq_false (by omega)
    have HT := Lib.hid (show es.take k = es from List.take_of_length_le (by rw [HL.out]; omega))
    rw [HT.out]
    go_wp2
    go_ret
    exact ⟨rfl, rfl⟩
set_option maxHeartbeats 2000000 in
theorem refDegree_c (B : Option Addr) (m d : Nat) (es : List Int) (w : World) (h : RdI w B m es) (he : ExpsIn es) (hm : m ≤ 1000000) :
 Calls Tryz.prog 61 #[.slice B m d] w fun e w' => e = .returned (.int .i64 (sumI es)) ∧ w' = w := by
 have HR := Lib.hid h
 have HE := Lib.hid he
 have HL := Lib.hid h.len
 clear h he
 go_enter Tryz.func61, Tryz.ntmps61
 go_wp2
 go_loopw [3, 4] (fun vs vi wr => ∃ k : Nat, vs = .int .i64 (sumI (es.take k)) ∧ vi = .int .i64 (k : Int) ∧ k ≤ m ∧ wr = w) (fun _ vi _ => m - (intOf vi).toNat)
 case atStart => exact ⟨0, rfl, rfl, Nat.zero_le _, rfl⟩
 case round =>
  obtain ⟨k, rfl, rfl, hk, rfl⟩ := hrel
  have hb := sumI_bound es HE.out k (by rw [HL.out]; exact hk)
  rcases Nat.lt_or_ge k m with hkm | hkm
  · have t1 : decide ((k : Int) < (m : Int)) = true := decide_eq_true (by omega)
    have t1n : decide (k < m) = true := decide_eq_true hkm
    have hkI : (k : Int) < (m : Int) := by omega
    obtain ⟨b, o, hB, _, hc⟩ := HR.out.at_ (by omega)
    have c0 := hc k hkm
    have hz := exps_at HE.out (k := k) (by rw [HL.out]; exact hkm)
    have HT := Lib.hid (sumI_take es k (by rw [HL.out]; exact hkm))
    generalize sumI (es.take k) = sv at hb HT ⊢
    generalize es.getD k 0 = z at c0 hz HT
    subst hB
    clear hc
    go_wp2
    go_roundw
    case measure => simp [intOf]; omega
    case rel => exact ⟨k + 1, (by rw [HT.out] <;> (try go_num)), by go_num, by omega, (by first | rfl | trivial)⟩
  · have t1 : decide ((k : Int) < (m : Int)) = false := decide_eq_false (by omega)
    have t1n : decide (k < m) = false := decide_eq_false (by omega)
    have HT := Lib.hid (show es.take k = es from List.take_of_length_le (by rw [HL.out]; omega))
    rw [HT.out]
    go_wp2
    go_ret
    exact ⟨rfl, rfl⟩
set_option maxHeartbeats 1000000 in
theorem isNaI_c (z : Int) (w : World) : Calls Tryz.prog 149 #[.int .i64 z] w fun e w' => e = .returned (.bool false) ∧ w' = w := by
 have t : (z != z) = false := by simp
 go_enter Tryz.func149, Tryz.ntmps149
 go_wp2
 go_ret
 exact ⟨rfl, rfl⟩
set_option maxHeartbeats 2000000 in
theorem cmpI_c (a b : Int) (w : World) : Calls Tryz.prog 132 #[.int .i64 a, .int .i64 b] w fun e w' => e = .returned (.int .i64 (sgnI a b)) ∧ w' = w := by
 have H1 := Lib.hid (isNaI_c a)
 have H2 := Lib.hid (isNaI_c b)
 have HS := Lib.hid (show sgnI a b = if a < b then -1 else if b < a then 1 else 0 from rfl)
 generalize sgnI a b = sg at HS ⊢
 go_enter Tryz.func132, Tryz.ntmps132
 go_wp2_with fail
 refine (H1.out _).mono ?_
 rintro e w1 ⟨rfl, hw⟩
 subst hw
 go_wp2_with fail
 refine (H2.out _).mono ?_
 rintro e w1 ⟨rfl, hw⟩
 subst hw
 by_cases h1 : a < b
 · have t1 : decide (a < b) = true := decide_eq_true h1
   have hs := HS.out
   rw [if_pos h1] at hs
   subst hs
   go_wp2
   go_ret
   exact ⟨rfl, rfl⟩
 · have t1 : decide (a < b) = false := decide_eq_false h1
   by_cases h2 : b < a
   · have t2 : decide (b < a) = true := decide_eq_true h2
     have hs := HS.out
     rw [if_neg h1, if_pos h2] at hs
     subst hs
     go_wp2
     go_ret
     exact ⟨rfl, rfl⟩
   · have t2 : decide (b < a) = false := decide_eq_false h2
     have hs := HS.out
     rw [if_neg h1, if_neg h2] at hs
     subst hs
     go_wp2
     go_ret
     exact ⟨rfl, rfl⟩
set_option maxHeartbeats 2000000 in
theorem cmpSlice_c (A B : Option Addr) (m c d : Nat) (ps qs : List Int) (w : World) (h : RdI w A m ps) (h' : RdI w B m qs) (hm : m ≤ 1000000) :
 Calls Tryz.prog 133 #[.slice A m c, .slice B m d] w fun e w' => e = .returned (.int .i64 (lexI ps qs)) ∧ w' = w := by
 have HA := Lib.hid h
 have HB := Lib.hid h'
 have HL := Lib.hid (And.intro h.len h'.len)
 clear h h'
 go_enter Tryz.func133, Tryz.ntmps133
 go_wp2
 go_loopw [11] (fun v wr => ∃ k : Nat, v = .int .i64 (k : Int) ∧ k ≤ m ∧ wr = w ∧ ∀ i, i < k → ps.getD i 0 = qs.getD i 0) (fun v _ => m - (intOf v).toNat)
 case atStart => exact ⟨0, rfl, Nat.zero_le _, rfl, fun i hi => by omega⟩
 case round =>
  obtain ⟨k, rfl, hk, rfl, hv⟩ := hrel
  have HV := Lib.hid hv
  clear hv
  rcases Nat.lt_or_ge k m with hkm | hkm
  · have t1 : decide ((k : Int) < (m : Int)) = true := decide_eq_true (by omega)
    have t1n : decide (k < m) = true := decide_eq_true hkm
    have t2 : decide ((m : Int) ≤ (k : Int)) = false := decide_eq_false (by omega)
    have t2n : decide (m ≤ k) = false := decide_eq_false (by omega)
    have hkI : (k : Int) < (m : Int) := by omega
    obtain ⟨b1, o1, hA, _, hc1⟩ := HA.out.at_ (by omega)
    obtain ⟨b2, o2, hB, _, hc2⟩ := HB.out.at_ (by omega)
    have c1 := hc1 k hkm
    have c2 := hc2 k hkm
    have HX := Lib.hid (lexI_at ps qs k (by rw [HL.out.1]; exact hkm) (by rw [HL.out.2]; exact hkm) HV.out)
    obtain ⟨x, hx⟩ : ∃ x, x = ps.getD k 0 := ⟨_, rfl⟩
    obtain ⟨y, hy⟩ : ∃ y, y = qs.getD k 0 := ⟨_, rfl⟩
    rw [← hx] at c1 HX
    rw [← hy] at c2 HX
    have HE := Lib.hid (And.intro hx hy)
    subst hA hB
    clear hc1 hc2 hx hy
    go_wp2_with fail
    refine (cmpI_c x y _).mono ?_
    rintro e w1 ⟨rfl, hw⟩
    subst hw
    by_cases h1 : x < y
    · have hs : sgnI x y = -1 := if_pos h1
      rw [hs]
      have HQ := Lib.hid (HX.out.1 h1)
      clear hs
      go_wp2
      go_ret
      exact ⟨by rw [HQ.out] <;> rfl, rfl⟩
    · by_cases h2 : y < x
      · have hs : sgnI x y = 1 := by unfold sgnI; rw [if_neg h1, if_pos h2]
        rw [hs]
        have HQ := Lib.hid (HX.out.2 h2)
        clear hs
        go_wp2
        go_ret
        exact ⟨by rw [HQ.out] <;> rfl, rfl⟩
      · have hs : sgnI x y = 0 := by unfold sgnI; rw [if_neg h1, if_neg h2]
        rw [hs]
        have HQ := Lib.hid (show ps.getD k 0 = qs.getD k 0 by rw [← HE.out.1, ← HE.out.2]; omega)
        clear hs
        go_wp2
        go_roundw
        case measure => simp [intOf]; omega
        case rel => exact ⟨k + 1, by go_num, by omega, (by first | rfl | trivial), fun i hi => by
         by_cases e : i = k
         · subst e; exact HQ.out
         · exact HV.out i (by omega)⟩
  · have t1 : decide ((k : Int) < (m : Int)) = false := decide_eq_false (by omega)
    have t1n : decide (k < m) = false := decide_eq_false (by omega)
    have HQ := Lib.hid (lexI_self ps qs (by rw [HL.out.1, HL.out.2]) (fun i hi => HV.out i (by rw [HL.out.1] at hi; omega)))
    have t3 : decide ((m : Int) < (m : Int)) = false := decide_eq_false (by omega)
    go_wp2
    go_ret
    exact ⟨by rw [HQ.out] <;> rfl, rfl⟩
set_option maxHeartbeats 400000 in
set_option maxRecDepth 100000 in
theorem refValid_c (s : Bool) (A : Option Addr) (n c : Nat) (xs : List Nat) (w : World) (h : Rd w A n xs) :
 Calls Tryz.prog 31 #[.agg #[.bool s, .slice A n c]] w fun e w' => e = .returned (.bool (validB s xs)) ∧ Below w.heap.size w w' := by
 have hl := h.len
 rcases Nat.eq_zero_or_pos n with h0 | h0
 · subst h0
   have H := Lib.hid (show validB s xs = !s by unfold validB; rw [if_pos hl])
   clear hl
   go_enter Tryz.func31, Tryz.ntmps31
   go_wp2
   go_ret
   exact ⟨by rw [H.out]; rfl, (Below.refl _ _).alloc (Nat.le_refl _) _⟩
 · obtain ⟨b, o, rfl, hb, hcell⟩ := h.of h0
   have t0 : ((n : Int) == 0) = false := by rw [beq_eq_false_iff_ne]; omega
   by_cases hn : n ≤ 4096
   · obtain ⟨j, rfl⟩ : ∃ j, n = j + 1 := ⟨n - 1, by omega⟩
     clear t0
     have t0 : ((j : Int) + 1 == 0) = false := by rw [beq_eq_false_iff_ne]; omega
     have hcj := hcell j (by omega)
     have hx1 := small_get h.sm j
     obtain ⟨x, hx⟩ : ∃ x, x = xs.getD j 0 := ⟨_, rfl⟩
     rw [← hx] at hcj hx1
     have hcj2 : ∀ o1, (w.alloc o1).cell? ⟨b, o + j, none⟩ = some (.int .u32 (x : Int)) := fun o1 => (World.cell?_alloc_lt w o1 ⟨b, o + j, none⟩ hb).trans hcj
     have HV := Lib.hid (show validB s xs = decide (x ≠ 0) by unfold validB; rw [if_neg (by omega), hl, Nat.add_sub_cancel, ← hx]; simp [hn])
     clear hx hl hcell hcj
     by_cases hx0 : x = 0
     · have t : ((x : Int) != 0) = false := by subst hx0; rfl
       have HV2 := Lib.hid (show decide (x ≠ 0) = false by simp [hx0])
       clear hx0
       go_enter Tryz.func31, Tryz.ntmps31
       go_wp2
       go_ret
       exact ⟨by rw [HV.out, HV2.out]; rfl, (Below.refl _ _).alloc (Nat.le_refl _) _⟩
     · have t : ((x : Int) != 0) = true := by rw [bne_iff_ne]; omega
       have HV2 := Lib.hid (show decide (x ≠ 0) = true by simp [hx0])
       clear hx0
       go_enter Tryz.func31, Tryz.ntmps31
       go_wp2
       go_ret
       exact ⟨by rw [HV.out, HV2.out]; rfl, (Below.refl _ _).alloc (Nat.le_refl _) _⟩
   · have HV := Lib.hid (show validB s xs = false by unfold validB; rw [if_neg (by omega), hl]; simp; omega)
     clear hl hcell
     go_enter Tryz.func31, Tryz.ntmps31
     go_wp2
     go_ret
     exact ⟨by rw [HV.out]; rfl, (Below.refl _ _).alloc (Nat.le_refl _) _⟩
end Go.Proofs.YteabokkofoomkaaGreat
