import Derived.Test.YteabokkofoomkaaGreatRows
import Derived.WalkKit
import Derived.WalkSpells
import Derived.WalkLawsBesides
import Derived.Lib.Hide
import Derived.Deep.Draws
import Derived.Laws.Rows
import Derived.Laws.CopyOwn
import Derived.Deep.OwnRows
import Derived.Deep.QuietTactic
import Derived.BigQuiet
import Derived.Maps.AppendAt
import Derived.Deep.AppendLies
import Derived.RegionTactic
import Derived.Deep.RegionLaw
import Derived.Lib.BitFns
namespace Go.Proofs.YteabokkofoomkaaGreat
def val : List Nat → Nat
 | [] => 0
 | x :: xs => x + 4294967296 * val xs
def small (xs : List Nat) : Prop := ∀ x ∈ xs, x < 4294967296
@[irreducible] def pw (n : Nat) : Nat := 4294967296 ^ n
theorem pw_zero : pw 0 = 1 := by unfold pw; rfl
theorem pw_succ (n : Nat) : pw (n + 1) = 4294967296 * pw n := by unfold pw; rw [Nat.pow_succ, Nat.mul_comm]
theorem pw_pos (n : Nat) : 0 < pw n := by unfold pw; exact Nat.pow_pos (by omega)
theorem pw_add (m n : Nat) : pw (m + n) = pw m * pw n := by unfold pw; exact Nat.pow_add ..
theorem pw_le {m n : Nat} (h : m ≤ n) : pw m ≤ pw n := by
 unfold pw; exact Nat.pow_le_pow_right (by omega) h
theorem pw_one : pw 1 = 4294967296 := by unfold pw; rfl
theorem small_nil : small [] := fun _ h => by cases h
theorem small_cons {x : Nat} {xs : List Nat} : small (x :: xs) ↔ x < 4294967296 ∧ small xs := by
 unfold small; simp
theorem small_append {xs ys : List Nat} : small (xs ++ ys) ↔ small xs ∧ small ys := by
 unfold small
 constructor
 · intro h; exact ⟨fun x hx => h x (by simp [hx]), fun x hx => h x (by simp [hx])⟩
 · intro h x hx
   rcases List.mem_append.1 hx with h1 | h1
   · exact h.1 x h1
   · exact h.2 x h1
theorem small_take {xs : List Nat} (h : small xs) (n : Nat) : small (xs.take n) := fun x hx => h x (List.mem_of_mem_take hx)
theorem small_drop {xs : List Nat} (h : small xs) (n : Nat) : small (xs.drop n) := fun x hx => h x (List.mem_of_mem_drop hx)
theorem small_get {xs : List Nat} (h : small xs) (i : Nat) : xs.getD i 0 < 4294967296 := by
 by_cases hi : i < xs.length
 · rw [List.getD_eq_getElem?_getD, List.getElem?_eq_getElem hi]; exact h _ (List.getElem_mem hi)
 · rw [List.getD_eq_getElem?_getD, List.getElem?_eq_none (by omega)]; simp
theorem small_set {xs : List Nat} (h : small xs) (i v : Nat) (hv : v < 4294967296) : small (xs.set i v) := by
 intro x hx
 rcases List.mem_or_eq_of_mem_set hx with h1 | h1
 · exact h x h1
 · omega
theorem val_nil : val [] = 0 := rfl
theorem val_cons (x : Nat) (xs : List Nat) : val (x :: xs) = x + 4294967296 * val xs := rfl
theorem val_append (xs ys : List Nat) : val (xs ++ ys) = val xs + pw xs.length * val ys := by
 induction xs with
 | nil => simp [val, pw_zero]
 | cons x xs ih => rw [List.cons_append, val_cons, val_cons, ih, List.length_cons, pw_succ, Nat.mul_add, Nat.mul_assoc]; omega
theorem val_lt {xs : List Nat} (h : small xs) : val xs < pw xs.length := by
 induction xs with
 | nil => simp [val, pw_zero]
 | cons x xs ih =>
   obtain ⟨h1, h2⟩ := small_cons.1 h
   have := ih h2
   rw [val_cons, List.length_cons, pw_succ]
   omega
theorem val_replicate (n : Nat) : val (List.replicate n 0) = 0 := by
 induction n with
 | zero => rfl
 | succ n ih => rw [List.replicate_succ, val_cons, ih]
theorem val_take_succ (xs : List Nat) (i : Nat) (h : i < xs.length) : val (xs.take (i + 1)) = val (xs.take i) + pw i * xs.getD i 0 := by
 rw [List.take_succ_eq_append_getElem h, val_append, List.length_take, Nat.min_eq_left (by omega)]
 simp [val, List.getD_eq_getElem?_getD, List.getElem?_eq_getElem h]
theorem val_take_drop (xs : List Nat) (i : Nat) (h : i ≤ xs.length) : val xs = val (xs.take i) + pw i * val (xs.drop i) := by
 conv => lhs; rw [← List.take_append_drop i xs]
 rw [val_append, List.length_take, Nat.min_eq_left h]
theorem val_set (xs : List Nat) (i v : Nat) (h : i < xs.length) : val (xs.set i v) + pw i * xs.getD i 0 = val xs + pw i * v := by
 induction xs generalizing i with
 | nil => simp at h
 | cons x xs ih =>
   cases i with
   | zero => simp [val_cons, pw_zero]; omega
   | succ i =>
     have := ih i (by simpa using h)
     simp only [List.set_cons_succ, val_cons, List.getD_cons_succ, pw_succ]
     rw [Nat.mul_assoc, Nat.mul_assoc]
     omega
def wordsF : Nat → Nat → List Nat
 | 0, _ => []
 | f + 1, n => if n = 0 then [] else (n % 4294967296) :: wordsF f (n / 4294967296)
@[irreducible] def words (n : Nat) : List Nat := wordsF n n
theorem wordsF_of (f n : Nat) (h : n ≤ f) (g : Nat) (hg : n ≤ g) : wordsF f n = wordsF g n := by
 induction f generalizing n g with
 | zero =>
   obtain rfl : n = 0 := by omega
   cases g <;> simp [wordsF]
 | succ f ih =>
   cases g with
   | zero =>
     obtain rfl : n = 0 := by omega
     simp [wordsF]
   | succ g =>
     simp only [wordsF]
     by_cases h0 : n = 0
     · simp [h0]
     · rw [if_neg h0, if_neg h0, ih (n / 4294967296) (by omega) g (by omega)]
theorem words_zero : words 0 = [] := by unfold words; rfl
theorem words_pos {n : Nat} (h : n ≠ 0) : words n = (n % 4294967296) :: words (n / 4294967296) := by
 obtain ⟨m, rfl⟩ : ∃ m, n = m + 1 := ⟨n - 1, by omega⟩
 unfold words
 conv => lhs; rw [wordsF, if_neg h]
 rw [wordsF_of m _ (by omega) _ (Nat.le_refl _)]
theorem words_small (n : Nat) : small (words n) := by
 induction n using Nat.strongRecOn with
 | _ n ih =>
   by_cases h : n = 0
   · subst h; rw [words_zero]; exact small_nil
   · rw [words_pos h]; exact small_cons.2 ⟨by omega, ih _ (by omega)⟩
theorem val_words (n : Nat) : val (words n) = n := by
 induction n using Nat.strongRecOn with
 | _ n ih =>
   by_cases h : n = 0
   · subst h; rw [words_zero]; rfl
   · rw [words_pos h, val_cons, ih _ (by omega)]; omega
def canon (xs : List Nat) : Prop := small xs ∧ xs.getLast? ≠ some 0
theorem words_val {xs : List Nat} (h : canon xs) : words (val xs) = xs := by
 induction xs with
 | nil => exact words_zero
 | cons x xs ih =>
   obtain ⟨hs, hl⟩ := h
   obtain ⟨h1, h2⟩ := small_cons.1 hs
   have hc : canon xs := by
    refine ⟨h2, ?_⟩
    cases xs with
    | nil => simp
    | cons y ys => rwa [List.getLast?_cons_cons] at hl
   have e := ih hc
   have hne : val (x :: xs) ≠ 0 := by
    rw [val_cons]
    intro h0
    have hx : x = 0 := by omega
    have hv : val xs = 0 := by omega
    rw [hv, words_zero] at e
    subst e; subst hx
    simp at hl
   rw [words_pos hne, val_cons]
   rw [show (x + 4294967296 * val xs) % 4294967296 = x by omega, show (x + 4294967296 * val xs) / 4294967296 = val xs by omega, e]
theorem words_canon (n : Nat) : canon (words n) := by
 refine ⟨words_small n, ?_⟩
 induction n using Nat.strongRecOn with
 | _ n ih =>
   by_cases h : n = 0
   · subst h; rw [words_zero]; simp
   · rw [words_pos h]
     by_cases hd : n / 4294967296 = 0
     · rw [hd, words_zero]; simp; omega
     · have := ih _ (by omega : n / 4294967296 < n)
       rw [words_pos hd] at this ⊢
       rwa [List.getLast?_cons_cons]
theorem words_inj {m n : Nat} (h : words m = words n) : m = n := by
 rw [← val_words m, h, val_words]
theorem words_nil {n : Nat} : words n = [] ↔ n = 0 := by
 constructor
 · intro h; rw [← val_words n, h]; rfl
 · rintro rfl; exact words_zero
theorem words_len_le {n k : Nat} : (words n).length ≤ k ↔ n < pw k := by
 induction k generalizing n with
 | zero =>
   rw [pw_zero, Nat.le_zero, List.length_eq_zero_iff, words_nil]; omega
 | succ k ih =>
   by_cases h : n = 0
   · subst h; rw [words_zero]; have := pw_pos (k + 1); simp; omega
   · rw [words_pos h, List.length_cons, Nat.succ_le_succ_iff, ih, pw_succ]; omega
theorem words_len_lt {n k : Nat} : k < (words n).length ↔ pw k ≤ n := by
 have := @words_len_le n k
 omega
theorem lt_pw_words (n : Nat) : n < pw (words n).length := words_len_le.1 (Nat.le_refl _)
theorem words_of_take {xs : List Nat} (hs : small xs) {n : Nat} (hn : n ≤ xs.length) (hz : val (xs.drop n) = 0) (hl : n = 0 ∨ xs.getD (n - 1) 0 ≠ 0) :
 xs.take n = words (val xs) := by
 have hc : canon (xs.take n) := by
  refine ⟨small_take hs n, ?_⟩
  rcases hl with h0 | h0
  · subst h0; simp
  · by_cases hn0 : n = 0
    · subst hn0; simp
    · intro h
      apply h0
      rw [List.getLast?_eq_getElem?, List.length_take, Nat.min_eq_left hn, List.getElem?_take] at h
      rw [if_pos (by omega)] at h
      rw [List.getD_eq_getElem?_getD, h]; rfl
 rw [← words_val hc, val_take_drop xs n hn, hz, Nat.mul_zero, Nat.add_zero]
theorem val_eq_zero {xs : List Nat} : val xs = 0 ↔ ∀ x ∈ xs, x = 0 := by
 induction xs with
 | nil => simp [val]
 | cons x xs ih => rw [val_cons]; simp only [List.mem_cons, forall_eq_or_imp]; rw [← ih]; omega
theorem cmp_top {xs ys : List Nat} (hx : small xs) (hl : xs.length = ys.length) (i : Nat) (hi : i < xs.length)
 (he : xs.drop (i + 1) = ys.drop (i + 1)) (h : xs.getD i 0 < ys.getD i 0) : val xs < val ys := by
 have a := val_take_drop xs (i + 1) (by omega)
 have b := val_take_drop ys (i + 1) (by omega)
 rw [val_take_succ xs i hi] at a
 rw [val_take_succ ys i (by omega)] at b
 rw [he] at a
 have c := val_lt (small_take hx i)
 rw [List.length_take, Nat.min_eq_left (by omega)] at c
 have d : pw i * (xs.getD i 0 + 1) ≤ pw i * ys.getD i 0 := Nat.mul_le_mul_left _ h
 rw [Nat.mul_add] at d
 omega
theorem cmp_len {xs ys : List Nat} (hx : small xs) (hy : canon ys) (h : xs.length < ys.length) : val xs < val ys := by
 have a := val_lt hx
 have b : pw xs.length ≤ val ys := by
  have := @words_len_lt (val ys) xs.length
  rw [words_val hy] at this
  exact this.1 h
 omega
theorem take_of_len {xs : List Nat} {i : Nat} (h : xs.length ≤ i) : xs.take i = xs := List.take_of_length_le h
theorem val_take_step (xs : List Nat) (i : Nat) : val (xs.take (i + 1)) = val (xs.take i) + pw i * xs.getD i 0 := by
 by_cases h : i < xs.length
 · exact val_take_succ xs i h
 · rw [take_of_len (by omega), take_of_len (by omega), List.getD_eq_getElem?_getD, List.getElem?_eq_none (by omega)]; simp
structure AddAt (c b : List Nat) (i : Nat) (cs : List Nat) (carry : Nat) : Prop where
 len : cs.length = c.length
 sm : small cs
 rest : cs.drop i = c.drop i
 eq : val cs + pw i * carry = val c + val (b.take i)
 le : carry ≤ 1
theorem getD_drop_eq {cs c : List Nat} {i : Nat} (h : cs.drop i = c.drop i) : cs.getD i 0 = c.getD i 0 := by
 have := congrArg (fun l : List Nat => l.getD 0 0) h
 simpa [List.getD_eq_getElem?_getD, List.getElem?_drop] using this
theorem drop_set_eq {cs c : List Nat} {i v : Nat} (h : cs.drop i = c.drop i) : (cs.set i v).drop (i + 1) = c.drop (i + 1) := by
 rw [List.drop_set_of_lt (by omega)]
 have := congrArg (fun l : List Nat => l.drop 1) h
 simpa [List.drop_drop, Nat.add_comm] using this
theorem AddAt.start {c : List Nat} (b : List Nat) (h : small c) : AddAt c b 0 c 0 := ⟨rfl, h, rfl, by simp [val], by omega⟩
theorem AddAt.next {c b cs : List Nat} {i carry : Nat} (h : AddAt c b i cs carry) (hc : small c) (hb : small b) (hi : i < c.length) :
 AddAt c b (i + 1) (cs.set i ((c.getD i 0 + carry + b.getD i 0) % 4294967296)) ((c.getD i 0 + carry + b.getD i 0) / 4294967296) := by
 have hx := small_get hc i
 have hy := small_get hb i
 have hle := h.le
 refine ⟨by rw [List.length_set]; exact h.len, small_set h.sm _ _ (by omega), drop_set_eq h.rest, ?_, by omega⟩
 have hg := getD_drop_eq h.rest
 have hv := val_set cs i ((c.getD i 0 + carry + b.getD i 0) % 4294967296) (by rw [h.len]; exact hi)
 rw [hg] at hv
 rw [pw_succ, val_take_step]
 have he := h.eq
 generalize c.getD i 0 = x at *
 generalize b.getD i 0 = y at *
 generalize pw i = p at *
 have hs := Nat.div_add_mod (x + carry + y) 4294967296
 generalize (x + carry + y) % 4294967296 = r at *
 generalize (x + carry + y) / 4294967296 = q at *
 have e : p * (4294967296 * q + r) = p * (x + carry + y) := by rw [hs]
 rw [Nat.mul_add, Nat.mul_add, Nat.mul_add] at e
 rw [show 4294967296 * p * q = p * (4294967296 * q) by rw [Nat.mul_comm 4294967296 p, Nat.mul_assoc]]
 omega
theorem AddAt.stop {c b cs : List Nat} {i carry : Nat} (h : AddAt c b i cs carry) (hf : val c + val b < pw c.length) (hi : c.length ≤ i) (_hb : b.length ≤ i) : carry = 0 := by
 have he := h.eq
 rw [take_of_len _hb] at he
 have : pw c.length ≤ pw i := pw_le hi
 rcases Nat.eq_zero_or_pos carry with h0 | h0
 · exact h0
 · have : pw i * 1 ≤ pw i * carry := Nat.mul_le_mul_left _ h0
   omega
theorem AddAt.done {c b cs : List Nat} {i : Nat} (h : AddAt c b i cs 0) (hi : b.length ≤ i) : val cs = val c + val b := by
 have := h.eq
 rw [take_of_len hi] at this
 simpa using this
structure SubAt (c b : List Nat) (i : Nat) (cs : List Nat) (borrow : Nat) : Prop where
 len : cs.length = c.length
 sm : small cs
 rest : cs.drop i = c.drop i
 eq : val cs + val (b.take i) = val c + pw i * borrow
 le : borrow ≤ 1
theorem SubAt.start {c : List Nat} (b : List Nat) (h : small c) : SubAt c b 0 c 0 := ⟨rfl, h, rfl, by simp [val], by omega⟩
theorem SubAt.next {c b cs : List Nat} {i borrow : Nat} (h : SubAt c b i cs borrow) (hc : small c) (hb : small b) (hi : i < c.length) :
 SubAt c b (i + 1) (cs.set i ((c.getD i 0 + 4294967296 - b.getD i 0 - borrow) % 4294967296)) (if c.getD i 0 < b.getD i 0 + borrow then 1 else 0) := by
 have hx := small_get hc i
 have hy := small_get hb i
 have hle := h.le
 refine ⟨by rw [List.length_set]; exact h.len, small_set h.sm _ _ (by omega), drop_set_eq h.rest, ?_, by split <;> omega⟩
 have hg := getD_drop_eq h.rest
 have hv := val_set cs i ((c.getD i 0 + 4294967296 - b.getD i 0 - borrow) % 4294967296) (by rw [h.len]; exact hi)
 rw [hg] at hv
 rw [pw_succ, val_take_step]
 have he := h.eq
 generalize c.getD i 0 = x at *
 generalize b.getD i 0 = y at *
 generalize pw i = p at *
 by_cases hlt : x < y + borrow
 · rw [if_pos hlt]
   have hr : (x + 4294967296 - y - borrow) % 4294967296 = x + 4294967296 - y - borrow := Nat.mod_eq_of_lt (by omega)
   rw [hr] at hv ⊢
   obtain ⟨r, hr⟩ : ∃ r, r = x + 4294967296 - y - borrow := ⟨_, rfl⟩
   rw [← hr] at hv ⊢
   have e : p * (r + y + borrow) = p * (x + 4294967296) := by rw [show r + y + borrow = x + 4294967296 by omega]
   rw [Nat.mul_add, Nat.mul_add, Nat.mul_add] at e
   rw [Nat.mul_one, Nat.mul_comm 4294967296 p]
   omega
 · rw [if_neg hlt]
   have hr : (x + 4294967296 - y - borrow) % 4294967296 = x - y - borrow := by omega
   rw [hr] at hv ⊢
   obtain ⟨r, hr⟩ : ∃ r, r = x - y - borrow := ⟨_, rfl⟩
   rw [← hr] at hv ⊢
   have e : p * (r + y + borrow) = p * x := by rw [show r + y + borrow = x by omega]
   rw [Nat.mul_add, Nat.mul_add] at e
   omega
theorem SubAt.stop {c b cs : List Nat} {i borrow : Nat} (h : SubAt c b i cs borrow) (hf : val b ≤ val c) (hi : c.length ≤ i) (_hb : b.length ≤ i) : borrow = 0 := by
 have he := h.eq
 rw [take_of_len _hb] at he
 have h2 := val_lt h.sm
 rw [h.len] at h2
 have : pw c.length ≤ pw i := pw_le hi
 rcases Nat.eq_zero_or_pos borrow with h0 | h0
 · exact h0
 · have : pw i * 1 ≤ pw i * borrow := Nat.mul_le_mul_left _ h0
   omega
theorem SubAt.done {c b cs : List Nat} {i : Nat} (h : SubAt c b i cs 0) (hi : b.length ≤ i) : val cs = val c - val b := by
 have := h.eq
 rw [take_of_len hi] at this
 omega
theorem trim_at {xs : List Nat} : ∃ n, n ≤ xs.length ∧ val (xs.drop n) = 0 ∧ (n = 0 ∨ xs.getD (n - 1) 0 ≠ 0) := by
 induction xs with
 | nil => exact ⟨0, by simp, rfl, .inl rfl⟩
 | cons x xs ih =>
   obtain ⟨n, h1, h2, h3⟩ := ih
   by_cases hn : n = 0
   · subst hn
     by_cases hx : x = 0
     · subst hx
       exact ⟨0, by simp, by rw [List.drop_zero] at h2 ⊢; rw [val_cons, h2], .inl rfl⟩
     · exact ⟨1, by simp, by simpa using h2, .inr (by simpa using hx)⟩
   · obtain ⟨k, rfl⟩ : ∃ k, n = k + 1 := ⟨n - 1, by omega⟩
     refine ⟨k + 2, by simp; omega, by simpa using h2, .inr ?_⟩
     rcases h3 with h3 | h3
     · omega
     · simpa using h3
theorem take_words {xs : List Nat} (h : small xs) : xs.take (words (val xs)).length = words (val xs) ∧ (words (val xs)).length ≤ xs.length := by
 obtain ⟨n, h1, h2, h3⟩ := @trim_at xs
 have e := words_of_take h h1 h2 h3
 have el : (words (val xs)).length = n := by rw [← e, List.length_take]; omega
 rw [el]
 exact ⟨e, h1⟩
theorem pw_two (p : Nat) : pw p = 2 ^ (32 * p) := by unfold pw; rw [Nat.pow_mul]
theorem two_pos (q : Nat) : 0 < 2 ^ q := Nat.pow_pos (by omega)
theorem two_le {q : Nat} (h : q < 32) : 2 ^ q ≤ 2147483648 := by
 have := Nat.pow_le_pow_right (n := 2) (by omega) (show q ≤ 31 by omega)
 simpa using this
theorem or_low (x q y : Nat) (h : y < 2 ^ q) : x * 2 ^ q ||| y = x * 2 ^ q + y := by
 rw [Nat.mul_comm]; exact (Nat.two_pow_add_eq_or_of_lt h x).symm
structure UpAt (xs : List Nat) (p q N i : Nat) (L : List Nat) (y : Nat) : Prop where
 len : L.length = N
 sm : small L
 rest : ∀ j, p + i ≤ j → L.getD j 0 = 0
 eq : val L + pw (p + i) * y = pw p * (val (xs.take i) * 2 ^ q)
 lt : y < 2 ^ q
theorem getD_replicate (N j : Nat) : (List.replicate N 0).getD j 0 = 0 := by
 rw [List.getD_eq_getElem?_getD, List.getElem?_replicate]; split <;> rfl
theorem UpAt.start (xs : List Nat) (p q N : Nat) : UpAt xs p q N 0 (List.replicate N 0) 0 :=
 ⟨by simp, fun x hx => by have := List.eq_of_mem_replicate hx; omega, fun j _ => getD_replicate N j, by rw [val_replicate]; simp [val], two_pos q⟩
theorem getD_set_ne {L : List Nat} {i j v : Nat} (h : i ≠ j) : (L.set i v).getD j 0 = L.getD j 0 := by
 simp only [List.getD_eq_getElem?_getD, List.getElem?_set_ne h]
theorem UpAt.next {xs L : List Nat} {p q N i y : Nat} (h : UpAt xs p q N i L y) (hs : small xs) (hi : p + i < N) :
 UpAt xs p q N (i + 1) (L.set (p + i) ((xs.getD i 0 * 2 ^ q + y) % 4294967296)) ((xs.getD i 0 * 2 ^ q + y) / 4294967296) := by
 have hx := small_get hs i
 have hlt := h.lt
 refine ⟨by rw [List.length_set]; exact h.len, small_set h.sm _ _ (by omega), fun j hj => ?_, ?_, ?_⟩
 · rw [getD_set_ne (by omega)]; exact h.rest j (by omega)
 · have hv := val_set L (p + i) ((xs.getD i 0 * 2 ^ q + y) % 4294967296) (by rw [h.len]; exact hi)
   rw [h.rest (p + i) (Nat.le_refl _)] at hv
   have he := h.eq
   rw [val_take_step, Nat.add_mul, Nat.mul_add, ← he, show p + (i + 1) = p + i + 1 from rfl, pw_succ]
   generalize xs.getD i 0 = x at *
   have e1 : pw p * (pw i * x * 2 ^ q) = pw (p + i) * (x * 2 ^ q) := by rw [pw_add]; simp only [Nat.mul_assoc]
   rw [e1]
   generalize x * 2 ^ q = z at *
   generalize pw (p + i) = P at *
   have hs := Nat.div_add_mod (z + y) 4294967296
   generalize (z + y) % 4294967296 = r at *
   generalize (z + y) / 4294967296 = d at *
   have e : P * (4294967296 * d + r) = P * (z + y) := by rw [hs]
   rw [Nat.mul_add, Nat.mul_add] at e
   rw [show 4294967296 * P * d = P * (4294967296 * d) by rw [Nat.mul_comm 4294967296 P, Nat.mul_assoc]]
   omega
 · apply Nat.div_lt_of_lt_mul
   have h1 : (xs.getD i 0 + 1) * 2 ^ q ≤ 4294967296 * 2 ^ q := Nat.mul_le_mul_right _ (by omega)
   rw [Nat.add_mul, Nat.one_mul] at h1
   omega
theorem UpAt.done {xs L : List Nat} {p q N i y : Nat} (h : UpAt xs p q N i L y) (hi : p + i < N) (hl : xs.length ≤ i) (k : Nat) (hk : k = 32 * p + q) : val (L.set (p + i) y) = val xs * 2 ^ k := by
 have hv := val_set L (p + i) y (by rw [h.len]; exact hi)
 rw [h.rest (p + i) (Nat.le_refl _)] at hv
 have he := h.eq
 rw [take_of_len hl] at he
 rw [hk, Nat.pow_add, ← pw_two, Nat.mul_left_comm]
 omega
end Go.Proofs.YteabokkofoomkaaGreat
namespace Go.Proofs.YteabokkofoomkaaGreat
open Go.RowKit Go.Deep
def wd (n : Nat) : Value := .int .u32 (n : Int)
structure Rd (w : World) (A : Option Addr) (n : Nat) (xs : List Nat) : Prop where
 len : xs.length = n
 sm : small xs
 at_ : 0 < n → ∃ b o, A = some ⟨b, o, none⟩ ∧ b < w.heap.size ∧ ∀ k, k < n → w.cell? ⟨b, o + k, none⟩ = some (.int .u32 ((xs.getD k 0 : Nat) : Int))
def Off (A : Option Addr) (g : Nat) : Prop := ∀ a, A = some a → a.block ≠ g
section
variable {w w' : World} {A : Option Addr} {n : Nat} {xs : List Nat}
theorem Rd.keep (h : Rd w A n xs) (hs : w.heap.size ≤ w'.heap.size) (hk : ∀ a, A = some a → 0 < n → w'.heap[a.block]? = w.heap[a.block]?) : Rd w' A n xs :=
 ⟨h.len, h.sm, fun hn => by
  obtain ⟨b, o, e, hb, hc⟩ := h.at_ hn
  exact ⟨b, o, e, by omega, fun k hk' => (World.cell?_of_block (w := w) (a := ⟨b, o + k, none⟩) (hk ⟨b, o, none⟩ e hn)).trans (hc k hk')⟩⟩
theorem Rd.blk (h : Rd w A n xs) (hn : 0 < n) : ∀ a, A = some a → a.block < w.heap.size := by
 intro a ha
 obtain ⟨b, o, e, hb, _⟩ := h.at_ hn
 rw [e] at ha
 injection ha with ha
 subst ha
 exact hb
theorem Rd.below (h : Rd w A n xs) (hb : Below w.heap.size w w') : Rd w' A n xs :=
 h.keep hb.size fun a ha hn => hb.block _ (h.blk hn a ha)
theorem Rd.drewN (h : Rd w A n xs) (k : Nat) : Rd (w.drewN k) A n xs := h.keep (Nat.le_refl _) fun _ _ _ => rfl
theorem Rd.drew (h : Rd w A n xs) : Rd w.drew A n xs := h.drewN 1
theorem Rd.alloc (h : Rd w A n xs) (o : Obj) : Rd (w.alloc o) A n xs := h.below ((Below.refl _ _).alloc (Nat.le_refl _) o)
theorem Rd.grown (h : Rd w A n xs) {g : Nat} (hg : w.grownBy w' (some g)) (ho : 0 < n → Off A g) : Rd w' A n xs :=
 h.keep hg.size fun a ha hn => hg.block _ (h.blk hn a ha) (fun e => ho hn a ha (by injection e))
theorem Rd.nil (A : Option Addr) : Rd w A 0 [] := ⟨rfl, small_nil, fun h => absurd h (by omega)⟩
theorem Rd.take (h : Rd w A n xs) {m : Nat} (hm : m ≤ n) : Rd w A m (xs.take m) := by
 refine ⟨by rw [List.length_take, h.len]; omega, small_take h.sm m, fun h0 => ?_⟩
 obtain ⟨b, o, e, hb, hc⟩ := h.at_ (by omega)
 refine ⟨b, o, e, hb, fun k hk => ?_⟩
 rw [hc k (by omega)]
 simp [List.getD_eq_getElem?_getD, hk]
theorem Rd.drop (h : Rd w A n xs) {m : Nat} (hm : m ≤ n) : Rd w (A.map (·.add m)) (n - m) (xs.drop m) := by
 refine ⟨by rw [List.length_drop, h.len], small_drop h.sm m, fun h0 => ?_⟩
 obtain ⟨b, o, e, hb, hc⟩ := h.at_ (by omega)
 refine ⟨b, o + m, by rw [e]; by_cases h0 : m = 0 <;> simp [Addr.add, h0], hb, fun k hk => ?_⟩
 rw [Nat.add_assoc, hc (m + k) (by omega)]
 simp [List.getD_eq_getElem?_getD, List.getElem?_drop]
theorem Rd.of (h : Rd w A n xs) (hn : 0 < n) : ∃ b o, A = some ⟨b, o, none⟩ ∧ b < w.heap.size ∧ ∀ k, k < n → w.cell? ⟨b, o + k, none⟩ = some (.int .u32 ((xs.getD k 0 : Nat) : Int)) := h.at_ hn
end
def row (xs : List Nat) : Obj := .cells (xs.map wd).toArray 103 (0, 0)
def Bk (w : World) (g : Nat) (xs : List Nat) : Prop := small xs ∧ w.heap[g]? = some (row xs)
section
variable {w w' : World} {g : Nat} {xs : List Nat}
theorem Bk.lt (h : Bk w g xs) : g < w.heap.size := by
 rcases Nat.lt_or_ge g w.heap.size with hlt | hge
 · exact hlt
 · have := h.2; rw [Array.getElem?_eq_none hge] at this; cases this
theorem Bk.cell (h : Bk w g xs) (i : Nat) (hi : i < xs.length) : w.cell? ⟨g, i, none⟩ = some (.int .u32 ((xs.getD i 0 : Nat) : Int)) := by
 rw [cell_of_row w g i _ _ _ h.2]
 simp [List.getD_eq_getElem?_getD, List.getElem?_eq_getElem hi, wd]
theorem Bk.frozen (h : Bk w g xs) (i : Nat) : w.frozen? ⟨g, i, none⟩ = false := by
 have := h.2
 simp [World.frozen?, this, row]
theorem Bk.set_ (h : Bk w g xs) (i v : Nat) (hv : v < 4294967296) : Bk (w.setCell ⟨g, i, none⟩ (.int .u32 (v : Int))) g (xs.set i v) := by
 refine ⟨small_set h.1 i v hv, ?_⟩
 have := h.2
 simp [World.setCell, Array.getElem?_modify, this, List.map_set, wd, row]
theorem Bk.keep (h : Bk w g xs) (hk : w'.heap[g]? = w.heap[g]?) : Bk w' g xs := ⟨h.1, hk.trans h.2⟩
theorem Bk.below {B : Nat} (h : Bk w g xs) (hb : Below B w w') (hg : g < B) : Bk w' g xs := h.keep (hb.block g hg)
theorem Bk.drewN (h : Bk w g xs) (n : Nat) : Bk (w.drewN n) g xs := h
theorem Bk.alloc (h : Bk w g xs) (o : Obj) : Bk (w.alloc o) g xs := h.keep (Below.heap_alloc w o g h.lt)
theorem Bk.far (h : Bk w g xs) {p : Addr} (hp : g ≠ p.block) (u : Value) : Bk (w.setCell p u) g xs := h.keep (Below.heap_setCell w p u g hp)
theorem Bk.grown {g' : Nat} (h : Bk w g xs) (hb : w.grownBy w' (some g')) (hg : g ≠ g') : Bk w' g xs := h.keep (hb.block g h.lt (fun e => hg (by injection e)))
theorem Bk.rd (h : Bk w g xs) : Rd w (some ⟨g, 0, none⟩) xs.length xs :=
 ⟨rfl, h.1, fun _ => ⟨g, 0, rfl, h.lt, fun k hk => by rw [Nat.zero_add]; exact h.cell k hk⟩⟩
theorem Bk.rdAt (h : Bk w g xs) {o n : Nat} (hn : o + n ≤ xs.length) : Rd w (some ⟨g, o, none⟩) n ((xs.drop o).take n) := by
 refine ⟨by simp; omega, small_take (small_drop h.1 _) _, fun _ => ⟨g, o, rfl, h.lt, fun k hk => ?_⟩⟩
 rw [h.cell _ (by omega)]
 simp [List.getD_eq_getElem?_getD, List.getElem?_drop, hk]
end
theorem Bk.new (w : World) {xs : List Nat} (h : small xs) : Bk (w.alloc (row xs)) w.heap.size xs := ⟨h, heap_alloc_new w _⟩
theorem Bk.new0 (w : World) (n : Nat) : Bk (w.alloc (row (List.replicate n 0))) w.heap.size (List.replicate n 0) :=
 Bk.new w (fun x hx => by have := List.eq_of_mem_replicate hx; omega)
def splice (L : List Nat) (o : Nat) (cs : List Nat) : List Nat := L.take o ++ cs ++ L.drop (o + cs.length)
theorem splice_len {L : List Nat} {o : Nat} {cs : List Nat} (h : o + cs.length ≤ L.length) : (splice L o cs).length = L.length := by
 simp [splice]; omega
theorem splice_self {L : List Nat} {o n : Nat} (h : o + n ≤ L.length) : splice L o ((L.drop o).take n) = L := by
 unfold splice
 have e : ((L.drop o).take n).length = n := by simp; omega
 rw [e, ← List.drop_drop, List.append_assoc, List.take_append_drop, List.take_append_drop]
theorem splice_small {L : List Nat} (h : small L) (o : Nat) {cs : List Nat} (hc : small cs) : small (splice L o cs) :=
 small_append.2 ⟨small_append.2 ⟨small_take h _, hc⟩, small_drop h _⟩
theorem splice_get {L : List Nat} {o : Nat} {cs : List Nat} (h : o ≤ L.length) {i : Nat} (hi : i < cs.length) : (splice L o cs).getD (o + i) 0 = cs.getD i 0 := by
 simp only [splice, List.getD_eq_getElem?_getD]
 rw [List.append_assoc, List.getElem?_append_right (by simp; omega)]
 rw [List.length_take, Nat.min_eq_left h, Nat.add_sub_cancel_left, List.getElem?_append_left hi]
theorem splice_set {L : List Nat} {o : Nat} {cs : List Nat} (h : o ≤ L.length) {i : Nat} (hi : i < cs.length) (v : Nat) : (splice L o cs).set (o + i) v = splice L o (cs.set i v) := by
 simp only [splice, List.length_set]
 rw [List.append_assoc, List.set_append_right _ _ (by simp; omega)]
 rw [List.length_take, Nat.min_eq_left h, Nat.add_sub_cancel_left, List.set_append_left _ _ hi, List.append_assoc]
theorem splice_zero {L cs : List Nat} : splice L 0 cs = cs ++ L.drop cs.length := by simp [splice]
theorem splice_all {L cs : List Nat} (h : cs.length = L.length) : splice L 0 cs = cs := by
 rw [splice_zero, h, List.drop_length, List.append_nil]
theorem splice_part {L : List Nat} {o : Nat} {cs : List Nat} (h : o ≤ L.length) : ((splice L o cs).drop o).take cs.length = cs := by
 simp only [splice]
 rw [List.append_assoc, List.drop_append, List.drop_of_length_le (by simp; omega), List.length_take, Nat.min_eq_left h, Nat.sub_self, List.drop_zero, List.nil_append, List.take_left]
theorem info32 : (Tryz.prog.info? 103).map (fun i => (i.zero, i.size, i.bytes)) = some (some (.int .u32 0), 1, 4) := by kernel_rfl
theorem size32 : (Tryz.prog.info? 103).map (·.size) = some 1 := by kernel_rfl
theorem mk_words (n : Nat) (hn : n ≤ 70368744177664) (w : World) :
 (Instr.makeSlice 56 (.int .i64 (n : Int)) (.int .i64 (n : Int))).run Tryz.prog w = .ok (.slice (some ⟨w.heap.size, 0, none⟩) n n) (w.alloc (row (List.replicate n 0))) := by
 have h := run_make_row' (P := Tryz.prog) 56 103 (.int .u32 0) 4 Tryz.underlying56 info32 rfl .i64 .i64 n (by omega) (by omega) w
 rw [h]
 have e : madeCells #[Value.int .u32 0] n = ((List.replicate n 0).map wd).toArray := by
  apply Array.ext'
  apply List.ext_getElem?
  intro i
  by_cases hi : i < n
  · simp [madeCells, hi, wd, Nat.mod_one]
  · simp [madeCells, hi]
 rw [e]
 rfl
theorem wpList_copy_words {w : World} {ops : Array Oper} {rest : List Oper} {o : Oper} {a : Act} {Q : Exit → Act → World → Prop} (hgd : o.guard = none) (d s : Operand)
 (ho : o.op = .call { callee := .builtin .copy, args := #[d, s], argTypes := #[56, 56] })
 (dp sp : Option Addr) (dLen dCap sLen sCap : Nat) (hd : a.eval d = .slice dp dLen dCap) (hs : a.eval s = .slice sp sLen sCap)
 (g off : Nat) (L xs : List Nat) (hg : Bk w g L) (hr : Rd w sp sLen xs) (hdp : dp = some ⟨g, off, none⟩) (hle : sLen ≤ dLen) (hfit : off + sLen ≤ L.length)
 (h : ∀ w', Bk w' g (splice L off xs) → w.grownBy w' (some g) → wpList Tryz.prog ops Q rest (a.put o.dst (.int .i64 (sLen : Int))) w') :
 wpList Tryz.prog ops Q (o :: rest) a w := by
 subst hdp
 have hlen := hr.len
 by_cases h0 : sLen = 0
 · subst h0
   have hx : xs = [] := List.eq_nil_of_length_eq_zero hlen
   subst hx
   refine wpList_copy_nothing hgd d s _ _ ho 103 Tryz.underlying56 size32 _ sp dLen dCap 0 sCap hd hs (by simp) ?_
   refine h w ?_ ⟨rfl, rfl, rfl, Nat.le_refl _, fun _ _ _ => rfl⟩
   have e : splice L off [] = L := by simp [splice]
   rw [e]
   exact hg
 · obtain ⟨b, q, rfl, hb, hc⟩ := hr.at_ (by omega)
   have hn : (xs.map wd).length = Nat.min sLen dLen := by
    rw [List.length_map, hlen]; exact (Nat.min_eq_left hle).symm
   refine wpList_copy_own hgd d s _ _ ho 103 Tryz.underlying56 size32 g off dLen dCap _ sLen sCap hd hs _ 103 hg.2 (xs.map wd) hn ?_ (by simp; omega) ?_ ?_
   · intro j v hv
     have hj : j < xs.length := by
      rcases Nat.lt_or_ge j xs.length with h1 | h1
      · exact h1
      · rw [List.getElem?_eq_none (by simpa using h1)] at hv; cases hv
     have ea : (⟨b, q, none⟩ : Addr).add j = ⟨b, q + j, none⟩ := by unfold Addr.add; split <;> simp_all
     rw [ea, hc j (by omega)]
     rw [← hv]
     simp [wd, List.getElem?_eq_getElem hj]
   · intro v hv
     obtain ⟨x, _, rfl⟩ := List.mem_map.1 hv
     rfl
   · have e : (((xs.map wd).length : Nat) : Int) = (sLen : Int) := by rw [List.length_map, hlen]
     have e2 : (goInt (xs.map wd).length) = .int .i64 (sLen : Int) := by unfold goInt; rw [e]
     rw [e2]
     refine h _ ⟨splice_small hg.1 _ hr.sm, ?_⟩ ?_
     · rw [setRow_heap w g _ _ _ _ hg.2]
       simp [row, splice, List.map_take, List.map_drop]
     · exact ⟨rfl, rfl, rfl, by simp [World.setRow], fun i _ hne => setRow_other w g i _ (fun e => hne (by rw [e]))⟩
theorem below_drewN {B : Nat} {a w : World} (h : Below B a w) (n : Nat) : Below B a (w.drewN n) := ⟨h.os, h.tape, h.output, h.size, h.block⟩
theorem grown_drewN {a w : World} {row : Option Nat} (h : a.grownBy w row) (n : Nat) : a.grownBy (w.drewN n) row := ⟨h.os, h.tape, h.output, h.size, h.block⟩
theorem grown_setCell {a w : World} {g : Nat} (h : a.grownBy w (some g)) {p : Addr} (hp : p.block = g ∨ a.heap.size ≤ p.block) (u : Value) : a.grownBy (w.setCell p u) (some g) :=
 ⟨h.os, h.tape, h.output, by simpa [World.setCell] using h.size, fun i hi hne => (Below.heap_setCell w p u i (by
  rintro rfl
  rcases hp with hp | hp
  · exact hne (by rw [hp])
  · omega)).trans (h.block i hi hne)⟩
theorem grown_of_below {a w : World} (h : Below a.heap.size a w) (row : Option Nat) : a.grownBy w row := ⟨h.os, h.tape, h.output, h.size, fun i hi _ => h.block i hi⟩
theorem grown_trans {a b c : World} {g : Nat} (h : a.grownBy b (some g)) (k : b.grownBy c (some g)) : a.grownBy c (some g) :=
 ⟨k.os.trans h.os, k.tape.trans h.tape, k.output.trans h.output, Nat.le_trans h.size k.size, fun i hi hne => (k.block i (Nat.lt_of_lt_of_le hi h.size) hne).trans (h.block i hi hne)⟩
theorem below_of_grown {a w : World} {B g : Nat} (h : a.grownBy w (some g)) (hB : B ≤ a.heap.size) (hg : B ≤ g) : Below B a w :=
 ⟨h.os, h.tape, h.output, h.size, fun i hi => h.block i (by omega) (fun e => by injection e; omega)⟩
theorem below_new {w w1 : World} {o : Obj} (h : (w.alloc o).grownBy w1 (some w.heap.size)) : Below w.heap.size w w1 :=
 ((Below.refl _ _).alloc (Nat.le_refl _) o).trans (below_of_grown h (by simp) (Nat.le_refl _))
theorem quiet_add_same {P : Program} {f : FuncId} {args : Array Value} {w : World} {a n : Nat} {v : Value}
 (h : Calls P f args (w.drewN (a + n)) fun e w' => e = .returned v ∧ w' = w.drewN (a + n)) :
 Calls P f args (w.drewN (a + n)) fun e w'' => e = .returned v ∧ ∃ m, w'' = w.drewN (a + m) :=
 h.mono fun _ _ ⟨he, hm⟩ => ⟨he, n, hm⟩
def Quietly (w : World) (v : Value) (e : Ending) (w' : World) : Prop := e = .returned v ∧ ∃ k, w' = w.drewN k
theorem quiet_add_q {P : Program} {f : FuncId} {args : Array Value} {w : World} {a n : Nat} {v : Value}
 (h : Calls P f args (w.drewN (a + n)) (Quietly (w.drewN (a + n)) v)) :
 Calls P f args (w.drewN (a + n)) fun e w'' => e = .returned v ∧ ∃ m, w'' = w.drewN (a + m) :=
 h.mono fun _ _ ⟨he, m, hm⟩ => ⟨he, n + m, by rw [hm, World.drewN_drewN, Nat.add_assoc]⟩
def Out (w : World) (v : Nat) (e : Ending) (w' : World) : Prop :=
 ∃ A c, e = .returned (.slice A (words v).length c) ∧ Rd w' A (words v).length (words v) ∧ (words v).length ≤ c ∧ c ≤ 9223372036854775807 ∧ Below w.heap.size w w' ∧
   (0 < (words v).length → ∃ g L, A = some ⟨g, 0, none⟩ ∧ w.heap.size ≤ g ∧ Bk w' g L ∧ L.take (words v).length = words v)
def New (w : World) (xs : List Nat) (e : Ending) (w' : World) : Prop :=
 ∃ g, e = .returned (.slice (some ⟨g, 0, none⟩) xs.length xs.length) ∧ w.heap.size ≤ g ∧ Bk w' g xs ∧ Below w.heap.size w w'
def trimA (A : Option Addr) (m : Nat) : Option Addr := if m = 0 then none else A
theorem trimA_pos (A : Option Addr) {m : Nat} (h : m ≠ 0) : trimA A m = A := if_neg h
def TrimPost (A : Option Addr) (m : Nat) (w : World) (e : Ending) (w' : World) : Prop :=
 ∃ A', e = .returned (.slice A' m m) ∧ (A' = A ∨ m = 0) ∧ ∃ k, w' = w.drewN k
theorem out_of_trim {w w1 w' : World} {g v : Nat} {cs : List Nat} {e : Ending} (hb : Bk w1 g cs) (hg : w.heap.size ≤ g) (hv : val cs = v) (hw : Below w.heap.size w w1) (hl : cs.length ≤ 9223372036854775807)
 (h : TrimPost (some ⟨g, 0, none⟩) (words (val cs)).length w1 e w') : Out w v e w' := by
 obtain ⟨A', rfl, hA, k, rfl⟩ := h
 subst hv
 obtain ⟨t1, t2⟩ := take_words hb.1
 refine ⟨A', _, rfl, ?_, Nat.le_refl _, by omega, below_drewN hw k, fun hp => ?_⟩
 · rcases hA with rfl | h0
   · have := (hb.drewN k).rd.take t2
     rwa [t1] at this
   · rw [h0]
     rw [List.eq_nil_of_length_eq_zero h0]
     exact Rd.nil _
 · rcases hA with rfl | h0
   · exact ⟨g, cs, rfl, hg, hb.drewN k, t1⟩
   · omega
theorem ret_int {k : IntKind} {a b : Int} (h : a = b) : Ending.returned (.int k a) = .returned (.int k b) := by rw [h]
theorem run_app_nil (w : World) (ty : TypeId) (A : Option Addr) (m c : Nat) (xs : List Nat) (hr : Rd w A m xs) (hm : m ≤ 35184372088832) :
 ∃ A' c' w', (Builtin.append_ #[56, 56] ty #[.slice none 0 0, .slice A m c]).run Tryz.prog w = .ok (.slice A' m c') w' ∧ Rd w' A' m xs ∧ m ≤ c' ∧ c' ≤ 9223372036854775807 ∧ Below w.heap.size w w' ∧ (∀ a, A' = some a → w.heap.size ≤ a.block) := by
 obtain ⟨i, hi, hz, hs, hb⟩ := info_parts info32
 have hz0 : w.ownsRow w.heap.size 103 1 (.slice none 0 0) 0 [] := ⟨rfl, .inl ⟨rfl, rfl⟩⟩
 rcases Nat.eq_zero_or_pos m with h0 | h0
 · subst h0
   have hx : xs = [] := List.eq_nil_of_length_eq_zero hr.len
   subst hx
   cases A with
   | none =>
     refine ⟨none, 0, w, ?_, Rd.nil _, Nat.le_refl _, by omega, Below.refl _ _, fun a h => by cases h⟩
     simp [Builtin.append_, run_underlying Tryz.underlying56, sizeOf, typeInfo, hi, Builtin.lenOf, Builtin.firstCells]
   | some a =>
     obtain ⟨v', w', hrun, hown, hg, hnil, _⟩ := run_append_own_at (P := Tryz.prog) w w.heap.size 56 ty 103 i (.int .u32 0) 1 4 Tryz.underlying56 hi hz hs hb rfl (by omega) (.slice none 0 0) 0 [] hz0 a 0 c [] rfl (by simp) (by simp) (by simp) (by omega) (Nat.le_refl _)
     have hv := hnil.2 ⟨rfl, rfl⟩
     subst hv
     exact ⟨none, 0, w', hrun, Rd.nil _, Nat.le_refl _, by omega, ⟨hg.os, hg.tape, hg.output, hg.size, fun k hk => hg.block k hk (by simp [Value.ownBlock])⟩, fun a h => by cases h⟩
 · obtain ⟨b, o, rfl, hlt, hc⟩ := hr.at_ h0
   have hlen := hr.len
   obtain ⟨v', w', hrun, hown, hg, hnil, hat⟩ := run_append_own_at (P := Tryz.prog) w w.heap.size 56 ty 103 i (.int .u32 0) 1 4 Tryz.underlying56 hi hz hs hb rfl (by omega) (.slice none 0 0) 0 [] hz0 ⟨b, o, none⟩ m c (xs.map wd) (by simp [hlen])
    (fun j u hu => by
     have hj : j < xs.length := by
      rcases Nat.lt_or_ge j xs.length with h1 | h1
      · exact h1
      · rw [List.getElem?_eq_none (by simpa using h1)] at hu; cases hu
     have ea : (⟨b, o, none⟩ : Addr).add j = ⟨b, o + j, none⟩ := by unfold Addr.add; split <;> simp_all
     rw [ea, hc j (by omega), ← hu]
     simp [wd, List.getElem?_eq_getElem hj])
    (fun u hu => by obtain ⟨x, _, rfl⟩ := List.mem_map.1 hu; rfl) (by simp only [maxLen]; omega) (by omega) (Nat.le_refl _)
   rcases hown.2 with ⟨rfl, h1⟩ | ⟨g, cap, cur, rfl, hg1, hh, hcap, hcap2, hcur, htake⟩
   · omega
   · have em : 0 + m = m := by omega
     rw [em] at hrun hcap htake
     simp only [List.nil_append, Nat.mul_one] at htake
     refine ⟨some ⟨g, 0, none⟩, cap, w', hrun, ⟨hlen, hr.sm, fun _ => ⟨g, 0, rfl, ?_, fun k hk => ?_⟩⟩, hcap, by simpa [maxLen] using hcap2, ⟨hg.os, hg.tape, hg.output, hg.size, fun k hk => hg.block k hk (by simp [Value.ownBlock])⟩, fun a h => by injection h with h; subst h; exact hg1⟩
     · rcases Nat.lt_or_ge g w'.heap.size with h2 | h2
       · exact h2
       · rw [Array.getElem?_eq_none h2] at hh; cases hh
     · rw [Nat.zero_add, cell_of_row w' g k _ _ _ hh]
       have h3 := congrArg (fun l : List Value => l[k]?) htake
       simp only [List.getElem?_take, hk, if_true] at h3
       rw [Array.getElem?_toList] at h3
       rw [h3]
       simp [wd, List.getD_eq_getElem?_getD, List.getElem?_eq_getElem (show k < xs.length by omega)]
theorem wp_app_nil {w : World} {o : Oper} {a : Act} {K : Act → World → Prop} {Q : Exit → Act → World → Prop} (s x : Operand)
 (ho : o.op = .call { callee := .builtin .append, args := #[s, x], argTypes := #[56, 56] })
 (A : Option Addr) (m c : Nat) (xs : List Nat) (hs : a.eval s = .slice none 0 0) (hx : a.eval x = .slice A m c) (hr : Rd w A m xs) (hm : m ≤ 35184372088832)
 (h : ∀ A' c' w', Rd w' A' m xs → m ≤ c' → c' ≤ 9223372036854775807 → Below w.heap.size w w' → (∀ a, A' = some a → w.heap.size ≤ a.block) → K (a.put o.dst (.slice A' m c')) w') : o.wp Tryz.prog a w K Q := by
 obtain ⟨A', c', w', hrun, h1, h2, h3, h4, h5⟩ := run_app_nil w o.type A m c xs hr hm
 unfold Oper.wp execOp
 simp only [ho, resolve, invoke, builtin, Sem.run_bind, Sem.run_pure, Result.andThen_ok, List.map_toArray, List.map_cons, List.map_nil, hs, hx, hrun]
 exact h A' c' w' h1 h2 h3 h4 h5
theorem step_app_nil {w : World} {ops : Array Oper} {o : Oper} {a : Act} {K : Act → World → Prop} {Q : Exit → Act → World → Prop} {E : Prop} (hgd : o.guard = none) (s x : Operand)
 (ho : o.op = .call { callee := .builtin .append, args := #[s, x], argTypes := #[56, 56] })
 (A : Option Addr) (m c : Nat) (xs : List Nat) (hs : a.eval s = .slice none 0 0) (hx : a.eval x = .slice A m c) (hr : Rd w A m xs) (hm : m ≤ 35184372088832)
 (h : ∀ A' c' w', Rd w' A' m xs → m ≤ c' → c' ≤ 9223372036854775807 → Below w.heap.size w w' → (∀ a, A' = some a → w.heap.size ≤ a.block) → K (a.put o.dst (.slice A' m c')) w') :
 if Region.wanted o (yielded ops a.tmps) = true then Oper.wp Tryz.prog o a w K Q else E := by
 have hw : Region.wanted o (yielded ops a.tmps) = true := by simp [Region.wanted, hgd]
 rw [if_pos hw]
 exact wp_app_nil s x ho A m c xs hs hx hr hm h
end Go.Proofs.YteabokkofoomkaaGreat
namespace Go.Proofs.YteabokkofoomkaaGreat
def blen (v : Nat) : Nat := if v = 0 then 0 else v.log2 + 1
theorem blen_zero : blen 0 = 0 := rfl
theorem blen_lt (v : Nat) : v < 2 ^ blen v := by
 unfold blen
 split
 · subst_vars; simp
 · exact Nat.lt_log2_self
theorem blen_ge {v : Nat} (h : v ≠ 0) : 2 ^ (blen v - 1) ≤ v := by
 unfold blen
 rw [if_neg h, Nat.add_sub_cancel]
 exact Nat.log2_self_le h
theorem blen_pos {v : Nat} (h : v ≠ 0) : 0 < blen v := by unfold blen; rw [if_neg h]; omega
theorem blen_le {v k : Nat} : blen v ≤ k ↔ v < 2 ^ k := by
 constructor
 · intro h
   exact Nat.lt_of_lt_of_le (blen_lt v) (Nat.pow_le_pow_right (by omega) h)
 · intro h
   by_cases h0 : v = 0
   · subst h0; simp [blen_zero]
   · have h1 := blen_ge h0
     have h2 := blen_pos h0
     rcases Nat.lt_or_ge k (blen v) with h3 | h3
     · have : 2 ^ k ≤ 2 ^ (blen v - 1) := Nat.pow_le_pow_right (by omega) (by omega)
       omega
     · exact h3
theorem blen_unique {v k : Nat} (h1 : v < 2 ^ (k + 1)) (h2 : 2 ^ k ≤ v) : blen v = k + 1 := by
 have a := blen_le.2 h1
 rcases Nat.lt_or_ge k (blen v) with h3 | h3
 · omega
 · have := blen_le.1 h3; omega
theorem blen_up {x y k : Nat} (hx : x ≠ 0) (hy : y < 2 ^ k) : blen (y + 2 ^ k * x) = k + blen x := by
 obtain ⟨j, hj⟩ : ∃ j, blen x = j + 1 := ⟨blen x - 1, by have := blen_pos hx; omega⟩
 have h1 := blen_lt x
 have h2 := blen_ge hx
 rw [hj] at h1 h2 ⊢
 rw [Nat.add_sub_cancel] at h2
 rw [← Nat.add_assoc]
 apply blen_unique
 · have : 2 ^ k * (x + 1) ≤ 2 ^ k * 2 ^ (j + 1) := Nat.mul_le_mul_left _ h1
   rw [Nat.add_assoc, Nat.pow_add]
   rw [Nat.mul_add, Nat.mul_one] at this
   omega
 · have : 2 ^ k * 2 ^ j ≤ 2 ^ k * x := Nat.mul_le_mul_left _ h2
   rw [Nat.pow_add]
   omega
theorem blen_half {x : Nat} (h : x ≠ 0) : blen x = 1 + blen (x / 2) := by
 by_cases h2 : x / 2 = 0
 · have : x = 1 := by omega
   subst this; decide
 · have := blen_up (x := x / 2) (y := x % 2) (k := 1) h2 (by omega)
   rw [show x % 2 + 2 ^ 1 * (x / 2) = x by omega] at this
   exact this
theorem bitLen_blen (x : Nat) (h : x < 18446744073709551616) : Lib.bitLen x = blen x := by
 induction x using Nat.strongRecOn with
 | _ x ih =>
   by_cases h0 : x = 0
   · subst h0; rfl
   · rw [Lib.bitLen_half x h0 h, ih (x / 2) (by omega) (by omega), blen_half h0]
theorem canon_last {xs : List Nat} (h : canon xs) (h0 : 0 < xs.length) : xs.getD (xs.length - 1) 0 ≠ 0 := by
 have := h.2
 rw [List.getLast?_eq_getElem?] at this
 intro he
 apply this
 rw [List.getD_eq_getElem?_getD, List.getElem?_eq_getElem (by omega)] at he
 rw [List.getElem?_eq_getElem (by omega)]
 simpa using he
theorem val_split_last {xs : List Nat} (h0 : 0 < xs.length) : val xs = val (xs.take (xs.length - 1)) + pw (xs.length - 1) * xs.getD (xs.length - 1) 0 := by
 have := val_take_succ xs (xs.length - 1) (by omega)
 rw [show xs.length - 1 + 1 = xs.length by omega, take_of_len (Nat.le_refl _)] at this
 exact this
theorem blen_words {xs : List Nat} (h : canon xs) (h0 : 0 < xs.length) : blen (val xs) = 32 * (xs.length - 1) + blen (xs.getD (xs.length - 1) 0) := by
 rw [val_split_last h0, pw_two]
 apply blen_up (canon_last h h0)
 have := val_lt (small_take h.1 (xs.length - 1))
 rw [pw_two, List.length_take] at this
 rwa [Nat.min_eq_left (by omega)] at this
theorem val_drop {xs : List Nat} (h : small xs) (p : Nat) : val (xs.drop p) = val xs / pw p := by
 by_cases hp : p ≤ xs.length
 · have h1 := val_take_drop xs p hp
   have h2 := val_lt (small_take h p)
   rw [List.length_take, Nat.min_eq_left hp] at h2
   rw [h1, Nat.add_mul_div_left _ _ (pw_pos p), Nat.div_eq_of_lt h2, Nat.zero_add]
 · rw [List.drop_of_length_le (by omega), val_nil, Nat.div_eq_of_lt]
   exact Nat.lt_of_lt_of_le (val_lt h) (pw_le (by omega))
theorem val_mod {xs : List Nat} (h : small xs) (p : Nat) : val (xs.take p) = val xs % pw p := by
 by_cases hp : p ≤ xs.length
 · have h1 := val_take_drop xs p hp
   have h2 := val_lt (small_take h p)
   rw [List.length_take, Nat.min_eq_left hp] at h2
   rw [h1, Nat.add_mul_mod_self_left, Nat.mod_eq_of_lt h2]
 · rw [take_of_len (by omega), Nat.mod_eq_of_lt]
   exact Nat.lt_of_lt_of_le (val_lt h) (pw_le (by omega))
end Go.Proofs.YteabokkofoomkaaGreat
namespace Go.Proofs.YteabokkofoomkaaGreat
structure RowAt (xs ys : List Nat) (i j : Nat) (cs : List Nat) (carry : Nat) : Prop where
 len : cs.length = xs.length + ys.length
 sm : small cs
 rest : ∀ k, xs.length + i ≤ k → cs.getD k 0 = 0
 eq : val cs + pw (i + j) * carry = val xs * val (ys.take i) + pw i * (ys.getD i 0 * val (xs.take j))
 lt : carry < 4294967296
theorem RowAt.start (xs ys : List Nat) : RowAt xs ys 0 0 (List.replicate (xs.length + ys.length) 0) 0 :=
 ⟨by simp, fun x hx => by have := List.eq_of_mem_replicate hx; omega, fun k _ => getD_replicate _ k, by rw [val_replicate]; simp [val], by omega⟩
theorem mul_word_le {x y : Nat} (hx : x < 4294967296) (hy : y < 4294967296) : x * y ≤ 18446744065119617025 := by
 have : x * y ≤ 4294967295 * 4294967295 := Nat.mul_le_mul (by omega) (by omega)
 omega
theorem RowAt.next {xs ys cs : List Nat} {i j carry : Nat} (h : RowAt xs ys i j cs carry) (hx : small xs) (hy : small ys) (hj : j < xs.length) (hi : i < ys.length) :
 RowAt xs ys i (j + 1) (cs.set (i + j) ((ys.getD i 0 * xs.getD j 0 + cs.getD (i + j) 0 + carry) % 4294967296)) ((ys.getD i 0 * xs.getD j 0 + cs.getD (i + j) 0 + carry) / 4294967296) := by
 have h1 := small_get hx j
 have h2 := small_get hy i
 have h3 := small_get h.sm (i + j)
 have h4 := mul_word_le h2 h1
 have hlt := h.lt
 refine ⟨by rw [List.length_set]; exact h.len, small_set h.sm _ _ (by omega), fun k hk => ?_, ?_, ?_⟩
 · rw [getD_set_ne (by omega)]; exact h.rest k hk
 · have hv := val_set cs (i + j) ((ys.getD i 0 * xs.getD j 0 + cs.getD (i + j) 0 + carry) % 4294967296) (by rw [h.len]; omega)
   have he := h.eq
   rw [val_take_step, Nat.mul_add, Nat.mul_add, show i + (j + 1) = i + j + 1 from rfl, pw_succ]
   rw [show pw i * (ys.getD i 0 * (pw j * xs.getD j 0)) = pw (i + j) * (ys.getD i 0 * xs.getD j 0) by rw [pw_add, Nat.mul_assoc, Nat.mul_left_comm (ys.getD i 0)]]
   generalize ys.getD i 0 * xs.getD j 0 = z at *
   generalize cs.getD (i + j) 0 = r0 at *
   generalize pw (i + j) = P at *
   have hs := Nat.div_add_mod (z + r0 + carry) 4294967296
   generalize (z + r0 + carry) % 4294967296 = r at *
   generalize (z + r0 + carry) / 4294967296 = d at *
   have e : P * (4294967296 * d + r) = P * (z + r0 + carry) := by rw [hs]
   rw [Nat.mul_add, Nat.mul_add, Nat.mul_add] at e
   rw [show 4294967296 * P * d = P * (4294967296 * d) by rw [Nat.mul_comm 4294967296 P, Nat.mul_assoc]]
   omega
 · omega
theorem row_eq {V V' X T P P' P'' Q c y : Nat} (hv : V' + Q * 0 = V + Q * c) (he : V + Q * c = X * T + P * (y * X)) : V' + P' * 0 = X * (T + P * y) + P'' * 0 := by
 rw [Nat.mul_zero, Nat.add_zero] at hv
 rw [Nat.mul_zero, Nat.mul_zero, Nat.add_zero, Nat.add_zero, Nat.mul_add, hv, he]
 rw [Nat.mul_comm y X, Nat.mul_left_comm P X y]
theorem RowAt.row {xs ys cs : List Nat} {i carry : Nat} (h : RowAt xs ys i xs.length cs carry) (hi : i < ys.length) : RowAt xs ys (i + 1) 0 (cs.set (i + xs.length) carry) 0 := by
 have hv := val_set cs (i + xs.length) carry (by rw [h.len]; omega)
 rw [h.rest (i + xs.length) (by omega)] at hv
 have he := h.eq
 rw [take_of_len (Nat.le_refl _)] at he
 refine ⟨by rw [List.length_set]; exact h.len, small_set h.sm _ _ h.lt, fun k hk => ?_, ?_, Nat.lt_of_le_of_lt (Nat.zero_le _) h.lt⟩
 · rw [getD_set_ne (by omega)]; exact h.rest k (by omega)
 · rw [val_take_step, List.take_zero, val_nil, Nat.mul_zero (ys.getD (i + 1) 0)]
   exact row_eq hv he
theorem RowAt.done {xs ys cs : List Nat} {i : Nat} (h : RowAt xs ys i 0 cs 0) (hi : ys.length ≤ i) : val cs = val xs * val ys := by
 have he := h.eq
 rw [take_of_len hi] at he
 simpa [val] using he
end Go.Proofs.YteabokkofoomkaaGreat
namespace Go.Proofs.YteabokkofoomkaaGreat
theorem val_splice {L cs : List Nat} {o : Nat} (h : o + cs.length ≤ L.length) : val (splice L o cs) + pw o * val ((L.drop o).take cs.length) = val L + pw o * val cs := by
 have e1 : val L = val (L.take o) + pw o * (val ((L.drop o).take cs.length) + pw cs.length * val (L.drop (o + cs.length))) := by
  rw [val_take_drop L o (by omega), val_take_drop (L.drop o) cs.length (by simp; omega), List.drop_drop]
 have e2 : val (splice L o cs) = val (L.take o) + pw o * (val cs + pw cs.length * val (L.drop (o + cs.length))) := by
  unfold splice
  rw [List.append_assoc, val_append, val_append, List.length_take, Nat.min_eq_left (by omega)]
 rw [e1, e2, Nat.mul_add, Nat.mul_add]
 omega
theorem val_zeros {N o n : Nat} : val (((List.replicate N 0).drop o).take n) = 0 := by
 rw [val_eq_zero]
 intro x hx
 exact List.eq_of_mem_replicate (List.mem_of_mem_drop (List.mem_of_mem_take hx))
theorem val_part_zero {L : List Nat} (hs : small L) {o n : Nat} (h : val L < pw o) : val ((L.drop o).take n) = 0 := by
 rw [val_mod (small_drop hs o), val_drop hs, Nat.div_eq_of_lt h, Nat.zero_mod]
theorem kara (X0 X1 Y0 Y1 P : Nat) : X0 * Y0 + P * P * (X1 * Y1) + P * ((X0 + X1) * (Y0 + Y1) - X0 * Y0 - X1 * Y1) = (X0 + P * X1) * (Y0 + P * Y1) := by
 have e : (X0 + X1) * (Y0 + Y1) - X0 * Y0 - X1 * Y1 = X0 * Y1 + X1 * Y0 := by
  rw [Nat.add_mul, Nat.mul_add, Nat.mul_add]; omega
 rw [e]
 grind
theorem kara_le (X0 X1 Y0 Y1 : Nat) : X0 * Y0 + X1 * Y1 ≤ (X0 + X1) * (Y0 + Y1) := by
 rw [Nat.add_mul, Nat.mul_add, Nat.mul_add]; omega
theorem fits_add {L : List Nat} (hs : small L) {o n mid : Nat} (hl : o + n = L.length) (h : val L + pw o * mid < pw L.length) : val ((L.drop o).take n) + mid < pw n := by
 rw [take_of_len (by simp; omega), val_drop hs]
 have e : pw L.length = pw o * pw n := by rw [← hl, pw_add]
 rw [e] at h
 have h2 : pw o * (val L / pw o) ≤ val L := Nat.mul_div_le _ _
 have h3 : pw o * (val L / pw o + mid) < pw o * pw n := by rw [Nat.mul_add]; omega
 exact Nat.lt_of_mul_lt_mul_left h3
theorem mul_lt_pw {X Y n m : Nat} (hx : X < pw n) (hy : Y < pw m) : X * Y < pw (n + m) := by
 rw [pw_add]
 exact Nat.mul_lt_mul'' hx hy
theorem canon_drop {xs : List Nat} (h : canon xs) {k : Nat} (hk : k < xs.length) : canon (xs.drop k) := by
 refine ⟨small_drop h.1 k, ?_⟩
 rw [List.getLast?_drop, if_neg (by omega)]
 exact h.2
theorem canon_pos {xs : List Nat} (h : canon xs) (h0 : 0 < xs.length) : 0 < val xs := by
 rcases Nat.eq_zero_or_pos (val xs) with h1 | h1
 · have := words_val h
   rw [h1, words_zero] at this
   rw [← this] at h0
   exact absurd h0 (by simp)
 · exact h1
theorem words_mono {a b : Nat} (h : a ≤ b) : (words a).length ≤ (words b).length := words_len_le.2 (Nat.lt_of_le_of_lt h (lt_pw_words b))
end Go.Proofs.YteabokkofoomkaaGreat
