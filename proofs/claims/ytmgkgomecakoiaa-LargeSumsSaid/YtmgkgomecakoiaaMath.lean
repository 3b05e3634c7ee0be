namespace Go.Proofs.Ytmgkgomecakoiaa

/-! numbers as lists of words, the lowest first -/
def val : List Nat → Nat
  | [] => 0
  | x :: xs => x + 4294967296 * val xs

def small (xs : List Nat) : Prop := ∀ x ∈ xs, x < 4294967296

@[irreducible] def pw (n : Nat) : Nat := 4294967296 ^ n

theorem pw_zero : pw 0 = 1 := by unfold pw; rfl
theorem pw_succ (n : Nat) : pw (n + 1) = 4294967296 * pw n := by unfold pw; rw [Nat.pow_succ, Nat.mul_comm]
theorem pw_pos (n : Nat) : 0 < pw n := by unfold pw; exact Nat.pow_pos (by omega)
theorem pw_add (m n : Nat) : pw (m + n) = pw m * pw n := by unfold pw; exact Nat.pow_add ..
theorem pw_le {m n : Nat} (h : m ≤ n) : pw m ≤ pw n := by
  unfold pw; exact Nat.pow_le_pow_right (by omega) h
theorem pw_lt {m n : Nat} (h : m < n) : pw m < pw n := by
  unfold pw; exact Nat.pow_lt_pow_right (by omega) h
theorem pw_one : pw 1 = 4294967296 := by unfold pw; rfl

theorem small_nil : small [] := fun _ h => by cases h
theorem small_cons {x : Nat} {xs : List Nat} : small (x :: xs) ↔ x < 4294967296 ∧ small xs := by
  unfold small; simp
theorem small_append {xs ys : List Nat} : small (xs ++ ys) ↔ small xs ∧ small ys := by
  unfold small
  constructor
  · intro h; exact ⟨fun x hx => h x (by simp [hx]), fun x hx => h x (by simp [hx])⟩
  · intro h x hx
    rcases List.mem_append.1 hx with h1 | h1
    · exact h.1 x h1
    · exact h.2 x h1
theorem small_take {xs : List Nat} (h : small xs) (n : Nat) : small (xs.take n) := fun x hx => h x (List.mem_of_mem_take hx)
theorem small_drop {xs : List Nat} (h : small xs) (n : Nat) : small (xs.drop n) := fun x hx => h x (List.mem_of_mem_drop hx)
theorem small_get {xs : List Nat} (h : small xs) (i : Nat) : xs.getD i 0 < 4294967296 := by
  by_cases hi : i < xs.length
  · rw [List.getD_eq_getElem?_getD, List.getElem?_eq_getElem hi]; exact h _ (List.getElem_mem hi)
  · rw [List.getD_eq_getElem?_getD, List.getElem?_eq_none (by omega)]; simp
theorem small_set {xs : List Nat} (h : small xs) (i v : Nat) (hv : v < 4294967296) : small (xs.set i v) := by
  intro x hx
  rcases List.mem_or_eq_of_mem_set hx with h1 | h1
  · exact h x h1
  · omega

theorem val_nil : val [] = 0 := rfl
theorem val_cons (x : Nat) (xs : List Nat) : val (x :: xs) = x + 4294967296 * val xs := rfl
theorem val_append (xs ys : List Nat) : val (xs ++ ys) = val xs + pw xs.length * val ys := by
  induction xs with
  | nil => simp [val, pw_zero]
  | cons x xs ih => rw [List.cons_append, val_cons, val_cons, ih, List.length_cons, pw_succ, Nat.mul_add, Nat.mul_assoc]; omega
theorem val_lt {xs : List Nat} (h : small xs) : val xs < pw xs.length := by
  induction xs with
  | nil => simp [val, pw_zero]
  | cons x xs ih =>
    obtain ⟨h1, h2⟩ := small_cons.1 h
    have := ih h2
    rw [val_cons, List.length_cons, pw_succ]
    omega
theorem val_replicate (n : Nat) : val (List.replicate n 0) = 0 := by
  induction n with
  | zero => rfl
  | succ n ih => rw [List.replicate_succ, val_cons, ih]
theorem val_take_succ (xs : List Nat) (i : Nat) (h : i < xs.length) : val (xs.take (i + 1)) = val (xs.take i) + pw i * xs.getD i 0 := by
  rw [List.take_succ_eq_append_getElem h, val_append, List.length_take, Nat.min_eq_left (by omega)]
  simp [val, List.getD_eq_getElem?_getD, List.getElem?_eq_getElem h]
theorem val_take_drop (xs : List Nat) (i : Nat) (h : i ≤ xs.length) : val xs = val (xs.take i) + pw i * val (xs.drop i) := by
  conv => lhs; rw [← List.take_append_drop i xs]
  rw [val_append, List.length_take, Nat.min_eq_left h]
theorem val_set (xs : List Nat) (i v : Nat) (h : i < xs.length) : val (xs.set i v) + pw i * xs.getD i 0 = val xs + pw i * v := by
  induction xs generalizing i with
  | nil => simp at h
  | cons x xs ih =>
    cases i with
    | zero => simp [val_cons, pw_zero]; omega
    | succ i =>
      have := ih i (by simpa using h)
      simp only [List.set_cons_succ, val_cons, List.getD_cons_succ, pw_succ]
      rw [Nat.mul_assoc, Nat.mul_assoc]
      omega

/-! the one list of words that a number has -/
def wordsF : Nat → Nat → List Nat
  | 0, _ => []
  | f + 1, n => if n = 0 then [] else (n % 4294967296) :: wordsF f (n / 4294967296)
@[irreducible] def words (n : Nat) : List Nat := wordsF n n

theorem wordsF_of (f n : Nat) (h : n ≤ f) (g : Nat) (hg : n ≤ g) : wordsF f n = wordsF g n := by
  induction f generalizing n g with
  | zero =>
    obtain rfl : n = 0 := by omega
    cases g <;> simp [wordsF]
  | succ f ih =>
    cases g with
    | zero =>
      obtain rfl : n = 0 := by omega
      simp [wordsF]
    | succ g =>
      simp only [wordsF]
      by_cases h0 : n = 0
      · simp [h0]
      · rw [if_neg h0, if_neg h0, ih (n / 4294967296) (by omega) g (by omega)]
theorem words_zero : words 0 = [] := by unfold words; rfl
theorem words_pos {n : Nat} (h : n ≠ 0) : words n = (n % 4294967296) :: words (n / 4294967296) := by
  obtain ⟨m, rfl⟩ : ∃ m, n = m + 1 := ⟨n - 1, by omega⟩
  unfold words
  conv => lhs; rw [wordsF, if_neg h]
  rw [wordsF_of m _ (by omega) _ (Nat.le_refl _)]
theorem words_small (n : Nat) : small (words n) := by
  induction n using Nat.strongRecOn with
  | _ n ih =>
    by_cases h : n = 0
    · subst h; rw [words_zero]; exact small_nil
    · rw [words_pos h]; exact small_cons.2 ⟨by omega, ih _ (by omega)⟩
theorem val_words (n : Nat) : val (words n) = n := by
  induction n using Nat.strongRecOn with
  | _ n ih =>
    by_cases h : n = 0
    · subst h; rw [words_zero]; rfl
    · rw [words_pos h, val_cons, ih _ (by omega)]; omega

/-- no zero at the end -/
def canon (xs : List Nat) : Prop := small xs ∧ xs.getLast? ≠ some 0
theorem words_val {xs : List Nat} (h : canon xs) : words (val xs) = xs := by
  induction xs with
  | nil => exact words_zero
  | cons x xs ih =>
    obtain ⟨hs, hl⟩ := h
    obtain ⟨h1, h2⟩ := small_cons.1 hs
    have hc : canon xs := by
      refine ⟨h2, ?_⟩
      cases xs with
      | nil => simp
      | cons y ys => rwa [List.getLast?_cons_cons] at hl
    have e := ih hc
    have hne : val (x :: xs) ≠ 0 := by
      rw [val_cons]
      intro h0
      have hx : x = 0 := by omega
      have hv : val xs = 0 := by omega
      rw [hv, words_zero] at e
      subst e; subst hx
      simp at hl
    rw [words_pos hne, val_cons]
    rw [show (x + 4294967296 * val xs) % 4294967296 = x by omega, show (x + 4294967296 * val xs) / 4294967296 = val xs by omega, e]
theorem words_canon (n : Nat) : canon (words n) := by
  refine ⟨words_small n, ?_⟩
  induction n using Nat.strongRecOn with
  | _ n ih =>
    by_cases h : n = 0
    · subst h; rw [words_zero]; simp
    · rw [words_pos h]
      by_cases hd : n / 4294967296 = 0
      · rw [hd, words_zero]; simp; omega
      · have := ih _ (by omega : n / 4294967296 < n)
        rw [words_pos hd] at this ⊢
        rwa [List.getLast?_cons_cons]
theorem words_inj {m n : Nat} (h : words m = words n) : m = n := by
  rw [← val_words m, h, val_words]
theorem canon_eq {xs ys : List Nat} (hx : canon xs) (hy : canon ys) (h : val xs = val ys) : xs = ys := by
  rw [← words_val hx, h, words_val hy]
theorem words_nil {n : Nat} : words n = [] ↔ n = 0 := by
  constructor
  · intro h; rw [← val_words n, h]; rfl
  · rintro rfl; exact words_zero
theorem words_len_le {n k : Nat} : (words n).length ≤ k ↔ n < pw k := by
  induction k generalizing n with
  | zero =>
    rw [pw_zero, Nat.le_zero, List.length_eq_zero_iff, words_nil]; omega
  | succ k ih =>
    by_cases h : n = 0
    · subst h; rw [words_zero]; have := pw_pos (k + 1); simp; omega
    · rw [words_pos h, List.length_cons, Nat.succ_le_succ_iff, ih, pw_succ]; omega
theorem words_len_lt {n k : Nat} : k < (words n).length ↔ pw k ≤ n := by
  have := @words_len_le n k
  omega
theorem lt_pw_words (n : Nat) : n < pw (words n).length := words_len_le.1 (Nat.le_refl _)
/-- what a trim leaves: the first n, where all behind are zeros and the last kept is none -/
theorem words_of_take {xs : List Nat} (hs : small xs) {n : Nat} (hn : n ≤ xs.length) (hz : val (xs.drop n) = 0) (hl : n = 0 ∨ xs.getD (n - 1) 0 ≠ 0) :
    xs.take n = words (val xs) := by
  have hc : canon (xs.take n) := by
    refine ⟨small_take hs n, ?_⟩
    rcases hl with h0 | h0
    · subst h0; simp
    · by_cases hn0 : n = 0
      · subst hn0; simp
      · intro h
        apply h0
        rw [List.getLast?_eq_getElem?, List.length_take, Nat.min_eq_left hn, List.getElem?_take] at h
        rw [if_pos (by omega)] at h
        rw [List.getD_eq_getElem?_getD, h]; rfl
  rw [← words_val hc, val_take_drop xs n hn, hz, Nat.mul_zero, Nat.add_zero]
theorem val_eq_zero {xs : List Nat} : val xs = 0 ↔ ∀ x ∈ xs, x = 0 := by
  induction xs with
  | nil => simp [val]
  | cons x xs ih => rw [val_cons]; simp only [List.mem_cons, forall_eq_or_imp]; rw [← ih]; omega

/-! comparing, from the highest word on -/
theorem cmp_top {xs ys : List Nat} (hx : small xs) (hl : xs.length = ys.length) (i : Nat) (hi : i < xs.length)
    (he : xs.drop (i + 1) = ys.drop (i + 1)) (h : xs.getD i 0 < ys.getD i 0) : val xs < val ys := by
  have a := val_take_drop xs (i + 1) (by omega)
  have b := val_take_drop ys (i + 1) (by omega)
  rw [val_take_succ xs i hi] at a
  rw [val_take_succ ys i (by omega)] at b
  rw [he] at a
  have c := val_lt (small_take hx i)
  rw [List.length_take, Nat.min_eq_left (by omega)] at c
  have d : pw i * (xs.getD i 0 + 1) ≤ pw i * ys.getD i 0 := Nat.mul_le_mul_left _ h
  rw [Nat.mul_add] at d
  omega
theorem cmp_len {xs ys : List Nat} (hx : small xs) (hy : canon ys) (h : xs.length < ys.length) : val xs < val ys := by
  have a := val_lt hx
  have b : pw xs.length ≤ val ys := by
    have := @words_len_lt (val ys) xs.length
    rw [words_val hy] at this
    exact this.1 h
  omega

theorem take_of_len {xs : List Nat} {i : Nat} (h : xs.length ≤ i) : xs.take i = xs := List.take_of_length_le h
/-- val of the first words, also behind the end -/
theorem val_take_step (xs : List Nat) (i : Nat) : val (xs.take (i + 1)) = val (xs.take i) + pw i * xs.getD i 0 := by
  by_cases h : i < xs.length
  · exact val_take_succ xs i h
  · rw [take_of_len (by omega), take_of_len (by omega), List.getD_eq_getElem?_getD, List.getElem?_eq_none (by omega)]; simp

/-! adding onto words: at i the first i words of b are in, and a carry is left -/
structure AddAt (c b : List Nat) (i : Nat) (cs : List Nat) (carry : Nat) : Prop where
  len : cs.length = c.length
  sm : small cs
  rest : cs.drop i = c.drop i
  eq : val cs + pw i * carry = val c + val (b.take i)
  le : carry ≤ 1

theorem getD_drop_eq {cs c : List Nat} {i : Nat} (h : cs.drop i = c.drop i) : cs.getD i 0 = c.getD i 0 := by
  have := congrArg (fun l : List Nat => l.getD 0 0) h
  simpa [List.getD_eq_getElem?_getD, List.getElem?_drop] using this
theorem drop_set_eq {cs c : List Nat} {i v : Nat} (h : cs.drop i = c.drop i) : (cs.set i v).drop (i + 1) = c.drop (i + 1) := by
  rw [List.drop_set_of_lt (by omega)]
  have := congrArg (fun l : List Nat => l.drop 1) h
  simpa [List.drop_drop, Nat.add_comm] using this

theorem AddAt.start {c : List Nat} (b : List Nat) (h : small c) : AddAt c b 0 c 0 := ⟨rfl, h, rfl, by simp [val], by omega⟩
theorem AddAt.next {c b cs : List Nat} {i carry : Nat} (h : AddAt c b i cs carry) (hc : small c) (hb : small b) (hi : i < c.length) :
    AddAt c b (i + 1) (cs.set i ((c.getD i 0 + carry + b.getD i 0) % 4294967296)) ((c.getD i 0 + carry + b.getD i 0) / 4294967296) := by
  have hx := small_get hc i
  have hy := small_get hb i
  have hle := h.le
  refine ⟨by rw [List.length_set]; exact h.len, small_set h.sm _ _ (by omega), drop_set_eq h.rest, ?_, by omega⟩
  have hg := getD_drop_eq h.rest
  have hv := val_set cs i ((c.getD i 0 + carry + b.getD i 0) % 4294967296) (by rw [h.len]; exact hi)
  rw [hg] at hv
  rw [pw_succ, val_take_step]
  have he := h.eq
  generalize c.getD i 0 = x at *
  generalize b.getD i 0 = y at *
  generalize pw i = p at *
  have hs := Nat.div_add_mod (x + carry + y) 4294967296
  generalize (x + carry + y) % 4294967296 = r at *
  generalize (x + carry + y) / 4294967296 = q at *
  have e : p * (4294967296 * q + r) = p * (x + carry + y) := by rw [hs]
  rw [Nat.mul_add, Nat.mul_add, Nat.mul_add] at e
  rw [show 4294967296 * p * q = p * (4294967296 * q) by rw [Nat.mul_comm 4294967296 p, Nat.mul_assoc]]
  omega
/-- at the end of c no carry is left -/
theorem AddAt.stop {c b cs : List Nat} {i carry : Nat} (h : AddAt c b i cs carry) (hf : val c + val b < pw c.length) (hi : c.length ≤ i) (_hb : b.length ≤ i) : carry = 0 := by
  have he := h.eq
  rw [take_of_len _hb] at he
  have : pw c.length ≤ pw i := pw_le hi
  rcases Nat.eq_zero_or_pos carry with h0 | h0
  · exact h0
  · have : pw i * 1 ≤ pw i * carry := Nat.mul_le_mul_left _ h0
    omega
theorem AddAt.done {c b cs : List Nat} {i : Nat} (h : AddAt c b i cs 0) (hi : b.length ≤ i) : val cs = val c + val b := by
  have := h.eq
  rw [take_of_len hi] at this
  simpa using this

/-! taking from words -/
structure SubAt (c b : List Nat) (i : Nat) (cs : List Nat) (borrow : Nat) : Prop where
  len : cs.length = c.length
  sm : small cs
  rest : cs.drop i = c.drop i
  eq : val cs + val (b.take i) = val c + pw i * borrow
  le : borrow ≤ 1
theorem SubAt.start {c : List Nat} (b : List Nat) (h : small c) : SubAt c b 0 c 0 := ⟨rfl, h, rfl, by simp [val], by omega⟩
theorem SubAt.next {c b cs : List Nat} {i borrow : Nat} (h : SubAt c b i cs borrow) (hc : small c) (hb : small b) (hi : i < c.length) :
    SubAt c b (i + 1) (cs.set i ((c.getD i 0 + 4294967296 - b.getD i 0 - borrow) % 4294967296)) (if c.getD i 0 < b.getD i 0 + borrow then 1 else 0) := by
  have hx := small_get hc i
  have hy := small_get hb i
  have hle := h.le
  refine ⟨by rw [List.length_set]; exact h.len, small_set h.sm _ _ (by omega), drop_set_eq h.rest, ?_, by split <;> omega⟩
  have hg := getD_drop_eq h.rest
  have hv := val_set cs i ((c.getD i 0 + 4294967296 - b.getD i 0 - borrow) % 4294967296) (by rw [h.len]; exact hi)
  rw [hg] at hv
  rw [pw_succ, val_take_step]
  have he := h.eq
  generalize c.getD i 0 = x at *
  generalize b.getD i 0 = y at *
  generalize pw i = p at *
  by_cases hlt : x < y + borrow
  · rw [if_pos hlt]
    have hr : (x + 4294967296 - y - borrow) % 4294967296 = x + 4294967296 - y - borrow := Nat.mod_eq_of_lt (by omega)
    rw [hr] at hv ⊢
    obtain ⟨r, hr⟩ : ∃ r, r = x + 4294967296 - y - borrow := ⟨_, rfl⟩
    rw [← hr] at hv ⊢
    have e : p * (r + y + borrow) = p * (x + 4294967296) := by rw [show r + y + borrow = x + 4294967296 by omega]
    rw [Nat.mul_add, Nat.mul_add, Nat.mul_add] at e
    rw [Nat.mul_one, Nat.mul_comm 4294967296 p]
    omega
  · rw [if_neg hlt]
    have hr : (x + 4294967296 - y - borrow) % 4294967296 = x - y - borrow := by omega
    rw [hr] at hv ⊢
    obtain ⟨r, hr⟩ : ∃ r, r = x - y - borrow := ⟨_, rfl⟩
    rw [← hr] at hv ⊢
    have e : p * (r + y + borrow) = p * x := by rw [show r + y + borrow = x by omega]
    rw [Nat.mul_add, Nat.mul_add] at e
    omega
theorem SubAt.stop {c b cs : List Nat} {i borrow : Nat} (h : SubAt c b i cs borrow) (hf : val b ≤ val c) (hi : c.length ≤ i) (_hb : b.length ≤ i) : borrow = 0 := by
  have he := h.eq
  rw [take_of_len _hb] at he
  have h2 := val_lt h.sm
  rw [h.len] at h2
  have : pw c.length ≤ pw i := pw_le hi
  rcases Nat.eq_zero_or_pos borrow with h0 | h0
  · exact h0
  · have : pw i * 1 ≤ pw i * borrow := Nat.mul_le_mul_left _ h0
    omega
theorem SubAt.done {c b cs : List Nat} {i : Nat} (h : SubAt c b i cs 0) (hi : b.length ≤ i) : val cs = val c - val b := by
  have := h.eq
  rw [take_of_len hi] at this
  omega

/-- what a trim leaves -/
theorem trim_at {xs : List Nat} : ∃ n, n ≤ xs.length ∧ val (xs.drop n) = 0 ∧ (n = 0 ∨ xs.getD (n - 1) 0 ≠ 0) := by
  induction xs with
  | nil => exact ⟨0, by simp, rfl, .inl rfl⟩
  | cons x xs ih =>
    obtain ⟨n, h1, h2, h3⟩ := ih
    by_cases hn : n = 0
    · subst hn
      by_cases hx : x = 0
      · subst hx
        exact ⟨0, by simp, by rw [List.drop_zero] at h2 ⊢; rw [val_cons, h2], .inl rfl⟩
      · exact ⟨1, by simp, by simpa using h2, .inr (by simpa using hx)⟩
    · obtain ⟨k, rfl⟩ : ∃ k, n = k + 1 := ⟨n - 1, by omega⟩
      refine ⟨k + 2, by simp; omega, by simpa using h2, .inr ?_⟩
      rcases h3 with h3 | h3
      · omega
      · simpa using h3
theorem take_words {xs : List Nat} (h : small xs) : xs.take (words (val xs)).length = words (val xs) ∧ (words (val xs)).length ≤ xs.length := by
  obtain ⟨n, h1, h2, h3⟩ := @trim_at xs
  have e := words_of_take h h1 h2 h3
  have el : (words (val xs)).length = n := by rw [← e, List.length_take]; omega
  rw [el]
  exact ⟨e, h1⟩

/-! shifting up -/
theorem pw_two (p : Nat) : pw p = 2 ^ (32 * p) := by unfold pw; rw [Nat.pow_mul]
theorem two_pos (q : Nat) : 0 < 2 ^ q := Nat.pow_pos (by omega)
theorem two_le {q : Nat} (h : q < 32) : 2 ^ q ≤ 2147483648 := by
  have := Nat.pow_le_pow_right (n := 2) (by omega) (show q ≤ 31 by omega)
  simpa using this
theorem or_low (x q y : Nat) (h : y < 2 ^ q) : x * 2 ^ q ||| y = x * 2 ^ q + y := by
  rw [Nat.mul_comm]; exact (Nat.two_pow_add_eq_or_of_lt h x).symm
theorem mul_two_lt {x q : Nat} (h : x < 4294967296) (hq : q < 32) : x * 2 ^ q < 9223372036854775808 := by
  have h1 := two_le hq
  have h2 : x * 2 ^ q ≤ x * 2147483648 := Nat.mul_le_mul_left _ h1
  omega
structure UpAt (xs : List Nat) (p q N i : Nat) (L : List Nat) (y : Nat) : Prop where
  len : L.length = N
  sm : small L
  rest : ∀ j, p + i ≤ j → L.getD j 0 = 0
  eq : val L + pw (p + i) * y = pw p * (val (xs.take i) * 2 ^ q)
  lt : y < 2 ^ q
theorem getD_replicate (N j : Nat) : (List.replicate N 0).getD j 0 = 0 := by
  rw [List.getD_eq_getElem?_getD, List.getElem?_replicate]; split <;> rfl
theorem UpAt.start (xs : List Nat) (p q N : Nat) : UpAt xs p q N 0 (List.replicate N 0) 0 :=
  ⟨by simp, fun x hx => by have := List.eq_of_mem_replicate hx; omega, fun j _ => getD_replicate N j, by rw [val_replicate]; simp [val], two_pos q⟩
theorem getD_set_ne {L : List Nat} {i j v : Nat} (h : i ≠ j) : (L.set i v).getD j 0 = L.getD j 0 := by
  simp only [List.getD_eq_getElem?_getD, List.getElem?_set_ne h]
theorem UpAt.next {xs L : List Nat} {p q N i y : Nat} (h : UpAt xs p q N i L y) (hs : small xs) (hi : p + i < N) :
    UpAt xs p q N (i + 1) (L.set (p + i) ((xs.getD i 0 * 2 ^ q + y) % 4294967296)) ((xs.getD i 0 * 2 ^ q + y) / 4294967296) := by
  have hx := small_get hs i
  have hlt := h.lt
  refine ⟨by rw [List.length_set]; exact h.len, small_set h.sm _ _ (by omega), fun j hj => ?_, ?_, ?_⟩
  · rw [getD_set_ne (by omega)]; exact h.rest j (by omega)
  · have hv := val_set L (p + i) ((xs.getD i 0 * 2 ^ q + y) % 4294967296) (by rw [h.len]; exact hi)
    rw [h.rest (p + i) (Nat.le_refl _)] at hv
    have he := h.eq
    rw [val_take_step, Nat.add_mul, Nat.mul_add, ← he, show p + (i + 1) = p + i + 1 from rfl, pw_succ]
    generalize xs.getD i 0 = x at *
    have e1 : pw p * (pw i * x * 2 ^ q) = pw (p + i) * (x * 2 ^ q) := by rw [pw_add]; simp only [Nat.mul_assoc]
    rw [e1]
    generalize x * 2 ^ q = z at *
    generalize pw (p + i) = P at *
    have hs := Nat.div_add_mod (z + y) 4294967296
    generalize (z + y) % 4294967296 = r at *
    generalize (z + y) / 4294967296 = d at *
    have e : P * (4294967296 * d + r) = P * (z + y) := by rw [hs]
    rw [Nat.mul_add, Nat.mul_add] at e
    rw [show 4294967296 * P * d = P * (4294967296 * d) by rw [Nat.mul_comm 4294967296 P, Nat.mul_assoc]]
    omega
  · apply Nat.div_lt_of_lt_mul
    have h1 : (xs.getD i 0 + 1) * 2 ^ q ≤ 4294967296 * 2 ^ q := Nat.mul_le_mul_right _ (by omega)
    rw [Nat.add_mul, Nat.one_mul] at h1
    omega
theorem UpAt.done {xs L : List Nat} {p q N i y : Nat} (h : UpAt xs p q N i L y) (hi : p + i < N) (hl : xs.length ≤ i) (k : Nat) (hk : k = 32 * p + q) : val (L.set (p + i) y) = val xs * 2 ^ k := by
  have hv := val_set L (p + i) y (by rw [h.len]; exact hi)
  rw [h.rest (p + i) (Nat.le_refl _)] at hv
  have he := h.eq
  rw [take_of_len hl] at he
  rw [hk, Nat.pow_add, ← pw_two, Nat.mul_left_comm]
  omega

end Go.Proofs.Ytmgkgomecakoiaa
