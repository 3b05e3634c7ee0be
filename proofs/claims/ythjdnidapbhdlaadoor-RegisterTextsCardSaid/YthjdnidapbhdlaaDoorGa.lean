/- decimal texts: the mathematics of Text and Parse -/
import Derived.Lib.ItoaNum
set_option maxRecDepth 100000
namespace Go.Proofs.YthjdnidapbhdlaaDoor
open Go.Lib
/-- the last k digits of r -/
def padded : Nat → Nat → List UInt8
  | 0, _ => []
  | k + 1, r => padded k (r / 10) ++ [UInt8.ofNat (48 + r % 10)]
theorem padded_len (k r : Nat) : (padded k r).length = k := by
  induction k generalizing r with
  | zero => rfl
  | succ k ih => simp [padded, ih]
theorem dd_big {u : Nat} (h : 10 ≤ u) : decDigits u = decDigits (u / 10) ++ [UInt8.ofNat (48 + u % 10)] := by
  rw [decDigits, dif_neg (by omega)]
theorem dd_split (k : Nat) {u : Nat} (hu : 0 < u) {r : Nat} (hr : r < 10 ^ k) : decDigits (u * 10 ^ k + r) = decDigits u ++ padded k r := by
  induction k generalizing r with
  | zero =>
    have : r = 0 := by simpa using hr
    subst this
    simp [padded]
  | succ k ih =>
    have hp : 1 ≤ 10 ^ k := Nat.one_le_pow _ _ (by decide)
    have e : u * 10 ^ (k + 1) + r = (u * 10 ^ k) * 10 + r := by rw [Nat.pow_succ, Nat.mul_assoc]
    have h1 : 1 ≤ u * 10 ^ k := Nat.mul_pos hu hp
    rw [Nat.pow_succ] at hr
    rw [e, dd_big (by omega), show ((u * 10 ^ k) * 10 + r) / 10 = u * 10 ^ k + r / 10 by omega, ih (by omega),
      show ((u * 10 ^ k) * 10 + r) % 10 = r % 10 by omega, padded, List.append_assoc]
theorem padded_zero (k : Nat) : padded k 0 = List.replicate k 48 := by
  induction k with
  | zero => rfl
  | succ k ih => rw [padded, show 0 / 10 = 0 from rfl, ih, List.replicate_succ']; rfl
theorem padded_dd (k : Nat) {r : Nat} (hr : r < 10 ^ k) (hk : 0 < k) : padded k r = List.replicate (k - (decDigits r).length) 48 ++ decDigits r := by
  induction k generalizing r with
  | zero => omega
  | succ k ih =>
    rw [Nat.pow_succ] at hr
    by_cases h : r < 10
    · rw [padded, show r / 10 = 0 by omega, padded_zero, decDigits, dif_pos h, Nat.mod_eq_of_lt h]
      simp
    · have hk' : 0 < k := by
        rcases k with _ | k
        · simp at hr; omega
        · omega
      rw [padded, ih (r := r / 10) (by omega) hk', dd_big (u := r) (by omega), List.length_append, List.length_singleton, List.append_assoc,
        show k + 1 - ((decDigits (r / 10)).length + 1) = k - (decDigits (r / 10)).length by omega]
theorem dd_len9 {r : Nat} (hr : r < 1000000000) : (decDigits r).length ≤ 9 := by
  have h := congrArg List.length (padded_dd 9 (r := r) hr (by omega))
  rw [padded_len, List.length_append, List.length_replicate] at h
  omega
theorem dd_pos (u : Nat) : 0 < (decDigits u).length := by
  rw [decDigits_length]
  exact nDigits_pos u
/-- a number's groups of nine digits, the highest first -/
def grp (v : Nat) : List Nat :=
  if _h : v < 1000000000 then [v] else grp (v / 1000000000) ++ [v % 1000000000]
termination_by v
decreasing_by omega
theorem grp_small {v : Nat} (h : v < 1000000000) : grp v = [v] := by rw [grp, dif_pos h]
theorem grp_big {v : Nat} (h : 1000000000 ≤ v) : grp v = grp (v / 1000000000) ++ [v % 1000000000] := by rw [grp, dif_neg (by omega)]
theorem grp_ne (v : Nat) : grp v ≠ [] := by
  by_cases h : v < 1000000000
  · rw [grp_small h]; simp
  · rw [grp_big (by omega)]; simp
theorem grp_lt (v : Nat) : ∀ g ∈ grp v, g < 1000000000 := by
  induction v using Nat.strongRecOn with
  | _ v ih =>
    intro g hg
    by_cases h : v < 1000000000
    · rw [grp_small h] at hg
      simp at hg
      omega
    · rw [grp_big (by omega)] at hg
      rcases List.mem_append.1 hg with hg | hg
      · exact ih _ (by omega) g hg
      · simp at hg
        omega
/-- what the groups are written as -/
def txt : List Nat → List UInt8
  | [] => []
  | g :: l => decDigits g ++ (l.map (padded 9)).flatten
theorem txt_snoc {l : List Nat} (h : l ≠ []) (g : Nat) : txt (l ++ [g]) = txt l ++ padded 9 g := by
  rcases l with _ | ⟨x, l⟩
  · exact absurd rfl h
  · simp [txt]
theorem txt_grp (v : Nat) : txt (grp v) = decDigits v := by
  induction v using Nat.strongRecOn with
  | _ v ih =>
    by_cases h : v < 1000000000
    · rw [grp_small h]
      simp [txt]
    · rw [grp_big (by omega), txt_snoc (grp_ne _), ih _ (by omega), ← dd_split 9 (by omega) (show v % 1000000000 < 10 ^ 9 by omega)]
      congr 1
      omega
/-- the value of digits -/
def val10 (l : List UInt8) : Nat := l.foldl (fun a c => 10 * a + (c.toNat - 48)) 0
theorem val10_snoc (l : List UInt8) (c : UInt8) : val10 (l ++ [c]) = 10 * val10 l + (c.toNat - 48) := by
  unfold val10
  rw [List.foldl_append]
  rfl
theorem digit_nat {d : Nat} (h : d < 10) : (UInt8.ofNat (48 + d)).toNat = 48 + d := by
  rw [UInt8.toNat_ofNat']
  omega
theorem val10_dd (u : Nat) : val10 (decDigits u) = u := by
  induction u using Nat.strongRecOn with
  | _ u ih =>
    by_cases h : u < 10
    · rw [decDigits, dif_pos h]
      have := digit_nat h
      simp only [val10, List.foldl_cons, List.foldl_nil, this]
      omega
    · rw [dd_big (by omega), val10_snoc, ih _ (by omega), digit_nat (by omega)]
      omega
/-- digits alone -/
def Digits (l : List UInt8) : Prop := ∀ c ∈ l, 48 ≤ c.toNat ∧ c.toNat ≤ 57
theorem dd_digits (u : Nat) : Digits (decDigits u) := by
  induction u using Nat.strongRecOn with
  | _ u ih =>
    intro c hc
    by_cases h : u < 10
    · rw [decDigits, dif_pos h] at hc
      simp only [List.mem_singleton] at hc
      rw [hc, digit_nat h]
      omega
    · rw [dd_big (by omega)] at hc
      rcases List.mem_append.1 hc with hc | hc
      · exact ih _ (by omega) c hc
      · simp only [List.mem_singleton] at hc
        rw [hc, digit_nat (by omega)]
        omega
/-- a numeral: digits, no zero ahead of others -/
def Numeral (l : List UInt8) : Prop := Digits l ∧ l ≠ [] ∧ (l.head? = some 48 → l.length = 1)
theorem dd_head (u : Nat) : (decDigits u).head? = some 48 ↔ u = 0 := by
  induction u using Nat.strongRecOn with
  | _ u ih =>
    by_cases h : u < 10
    · rw [decDigits, dif_pos h]
      simp only [List.head?_cons, Option.some.injEq]
      constructor
      · intro e
        have := congrArg UInt8.toNat e
        rw [digit_nat h] at this
        simp at this
        omega
      · rintro rfl
        rfl
    · have hp := dd_pos (u / 10)
      rw [dd_big (by omega)]
      have : (decDigits (u / 10) ++ [UInt8.ofNat (48 + u % 10)]).head? = (decDigits (u / 10)).head? := by
        rcases hd : decDigits (u / 10) with _ | ⟨x, l⟩
        · rw [hd] at hp
          simp at hp
        · rfl
      rw [this, ih _ (by omega)]
      omega
theorem dd_numeral (u : Nat) : Numeral (decDigits u) := by
  refine ⟨dd_digits u, fun e => ?_, fun h => ?_⟩
  · have := dd_pos u
    rw [e] at this
    simp at this
  · rw [dd_head] at h
    subst h
    rw [decDigits, dif_pos (by omega)]
    rfl
theorem val10_pos {l : List UInt8} (hd : Digits l) (c : UInt8) (h : l.head? = some c) (hc : c ≠ 48) : 0 < val10 l := by
  have key : ∀ (m : List UInt8) (a : Nat), 0 < a → 0 < m.foldl (fun a c => 10 * a + (c.toNat - 48)) a := by
    intro m
    induction m with
    | nil => intro a ha; exact ha
    | cons x m ih =>
      intro a ha
      show 0 < m.foldl (fun a c => 10 * a + (c.toNat - 48)) (10 * a + (x.toNat - 48))
      exact ih _ (by omega)
  rcases l with _ | ⟨x, m⟩
  · simp at h
  · simp only [List.head?_cons, Option.some.injEq] at h
    subst h
    have h1 := hd x (by simp)
    refine key m (10 * 0 + (x.toNat - 48)) ?_
    have : x.toNat ≠ 48 := fun e => hc (UInt8.toNat_inj.1 e)
    omega
theorem dd_val10 {l : List UInt8} (h : Numeral l) : decDigits (val10 l) = l := by
  obtain ⟨hd, hne, hz⟩ := h
  suffices key : ∀ n (l : List UInt8), l.length = n → Digits l → l ≠ [] → (l.head? = some 48 → l.length = 1) → decDigits (val10 l) = l from key _ l rfl hd hne hz
  intro n
  induction n with
  | zero =>
    intro l hl _ hne _
    exact absurd (List.length_eq_zero_iff.1 hl) hne
  | succ n ih =>
    intro l hl hd hne hz
    obtain ⟨m, c, rfl⟩ : ∃ m c, l = m ++ [c] := ⟨l.dropLast, l.getLast hne, (List.dropLast_concat_getLast hne).symm⟩
    have hc := hd c (by simp)
    have hdm : Digits m := fun x hx => hd x (by simp [hx])
    have ec : UInt8.ofNat (48 + (c.toNat - 48)) = c := by
      apply UInt8.toNat_inj.1
      rw [digit_nat (by omega)]
      omega
    rw [val10_snoc]
    rcases m with _ | ⟨x, m⟩
    · show decDigits (10 * 0 + (c.toNat - 48)) = [c]
      rw [decDigits, dif_pos (by omega)]
      simp only [Nat.mul_zero, Nat.zero_add]
      rw [ec]
    · have hx : x ≠ 48 := fun e => by
        have := hz (by simp [e])
        simp at this
      have hp := val10_pos hdm x rfl hx
      have hrec := ih (x :: m) (by simpa using hl) hdm (by simp) (fun h => absurd (Option.some.inj h) hx)
      rw [dd_big (by omega), show (10 * val10 (x :: m) + (c.toNat - 48)) / 10 = val10 (x :: m) by omega, hrec,
        show (10 * val10 (x :: m) + (c.toNat - 48)) % 10 = c.toNat - 48 by omega, ec]
theorem val10_from (m : List UInt8) (a : Nat) : m.foldl (fun a c => 10 * a + (c.toNat - 48)) a = a * 10 ^ m.length + val10 m := by
  induction m generalizing a with
  | nil => simp [val10]
  | cons x m ih =>
    have h1 := ih (10 * a + (x.toNat - 48))
    have h2 := ih (10 * 0 + (x.toNat - 48))
    show m.foldl (fun a c => 10 * a + (c.toNat - 48)) (10 * a + (x.toNat - 48)) = a * 10 ^ (m.length + 1) + m.foldl (fun a c => 10 * a + (c.toNat - 48)) (10 * 0 + (x.toNat - 48))
    rw [h1, h2, Nat.pow_succ]
    generalize 10 ^ m.length = z
    generalize val10 m = y
    generalize x.toNat - 48 = d
    grind
theorem val10_app (l m : List UInt8) : val10 (l ++ m) = val10 l * 10 ^ m.length + val10 m := by
  rw [← val10_from]
  unfold val10
  rw [List.foldl_append]
theorem val10_cons (x : UInt8) (m : List UInt8) : val10 (x :: m) = (x.toNat - 48) * 10 ^ m.length + val10 m := by
  have h := val10_app [x] m
  simpa [val10] using h
theorem val10_lt {l : List UInt8} (h : Digits l) : val10 l < 10 ^ l.length := by
  induction l with
  | nil => simp [val10]
  | cons x m ih =>
    have h1 := ih (fun y hy => h y (by simp [hy]))
    have h2 := h x (by simp)
    rw [val10_cons, List.length_cons, Nat.pow_succ]
    generalize 10 ^ m.length = z at h1 ⊢
    have h3 : (x.toNat - 48) * z ≤ 9 * z := Nat.mul_le_mul_right z (by omega)
    omega
end Go.Proofs.YthjdnidapbhdlaaDoor
