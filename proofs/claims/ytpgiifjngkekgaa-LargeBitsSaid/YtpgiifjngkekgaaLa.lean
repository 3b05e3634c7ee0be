import Derived.Test.YtpgiifjngkekgaaMa
namespace Go.Proofs.Ytpgiifjngkekgaa
open Go.RowKit Go.Deep

theorem and_two (k n b a : Nat) (hb : b < 2) (ha : a < 2) : (2 * k + b) &&& (2 * n + a) = 2 * (k &&& n) + (b &&& a) := by
  have h1 := @Nat.and_mod_two_pow (2 * k + b) (2 * n + a) 1
  have h2 := @Nat.shiftRight_and_distrib 1 (2 * k + b) (2 * n + a)
  simp only [Nat.shiftRight_eq_div_pow, Nat.pow_one] at h1 h2
  rw [show (2 * k + b) % 2 = b by omega, show (2 * n + a) % 2 = a by omega] at h1
  rw [show (2 * k + b) / 2 = k by omega, show (2 * n + a) / 2 = n by omega] at h2
  omega
theorem bit_cases {P : Nat → Prop} (n : Nat) (h0 : ∀ m, P (2 * m)) (h1 : ∀ m, P (2 * m + 1)) : P n := by
  rcases Nat.mod_two_eq_zero_or_one n with h | h
  · have := h0 (n / 2); rwa [show 2 * (n / 2) = n by omega] at this
  · have := h1 (n / 2); rwa [show 2 * (n / 2) + 1 = n by omega] at this
theorem and00 (k n : Nat) : (2 * k) &&& (2 * n) = 2 * (k &&& n) := by have := and_two k n 0 0 (by omega) (by omega); simpa using this
theorem and01 (k n : Nat) : (2 * k) &&& (2 * n + 1) = 2 * (k &&& n) := by have := and_two k n 0 1 (by omega) (by omega); simpa using this
theorem and10 (k n : Nat) : (2 * k + 1) &&& (2 * n) = 2 * (k &&& n) := by have := and_two k n 1 0 (by omega) (by omega); simpa using this
theorem and11 (k n : Nat) : (2 * k + 1) &&& (2 * n + 1) = 2 * (k &&& n) + 1 := and_two k n 1 1 (by omega) (by omega)

/-- the binomial coefficient of n over k is odd -/
def par (n k : Nat) : Bool := decide (k &&& n = k)
theorem par_zero (k : Nat) : par 0 k = decide (k = 0) := by unfold par; rw [Nat.and_zero, decide_eq_decide]; omega
theorem par_first (n : Nat) : par n 0 = true := by unfold par; rw [Nat.zero_and]; rfl
theorem par_le {n k : Nat} (h : n < k) : par n k = false := by
  unfold par
  rw [decide_eq_false_iff_not]
  intro e
  have : k &&& n ≤ n := Nat.and_le_right
  omega
theorem par_step (n : Nat) : ∀ k, 0 < k → (par (n + 1) k = (par n k != par n (k - 1))) := by
  induction n using Nat.strongRecOn with
  | _ n ih =>
    intro k hk
    rcases Nat.mod_two_eq_zero_or_one n with hn | hn
    · obtain ⟨m, rfl⟩ : ∃ m, n = 2 * m := ⟨n / 2, by omega⟩
      rcases Nat.mod_two_eq_zero_or_one k with hk2 | hk2
      · obtain ⟨j, rfl⟩ : ∃ j, k = 2 * (j + 1) := ⟨k / 2 - 1, by omega⟩
        have e : 2 * (j + 1) - 1 = 2 * j + 1 := by omega
        unfold par
        rw [e, and01, and00, and10, show decide (2 * (j &&& m) = 2 * j + 1) = false by rw [decide_eq_false_iff_not]; omega]
        simp
      · obtain ⟨j, rfl⟩ : ∃ j, k = 2 * j + 1 := ⟨k / 2, by omega⟩
        unfold par
        rw [Nat.add_sub_cancel, and11, and10, and00, show decide (2 * (j &&& m) = 2 * j + 1) = false by rw [decide_eq_false_iff_not]; omega]
        simp only [Bool.false_bne, decide_eq_decide]
        omega
    · obtain ⟨m, rfl⟩ : ∃ m, n = 2 * m + 1 := ⟨n / 2, by omega⟩
      have e1 : 2 * m + 1 + 1 = 2 * (m + 1) := by omega
      rcases Nat.mod_two_eq_zero_or_one k with hk2 | hk2
      · obtain ⟨j, rfl⟩ : ∃ j, k = 2 * (j + 1) := ⟨k / 2 - 1, by omega⟩
        have e : 2 * (j + 1) - 1 = 2 * j + 1 := by omega
        have h := ih m (by omega) (j + 1) (by omega)
        rw [Nat.add_sub_cancel] at h
        unfold par at h ⊢
        rw [e1, e, and00, and01, and11]
        have d1 : decide (2 * (j + 1 &&& (m + 1)) = 2 * (j + 1)) = decide (j + 1 &&& (m + 1) = j + 1) := by rw [decide_eq_decide]; omega
        have d2 : decide (2 * (j + 1 &&& m) = 2 * (j + 1)) = decide (j + 1 &&& m = j + 1) := by rw [decide_eq_decide]; omega
        have d3 : decide (2 * (j &&& m) + 1 = 2 * j + 1) = decide (j &&& m = j) := by rw [decide_eq_decide]; omega
        rw [d1, d2, d3, h]
      · obtain ⟨j, rfl⟩ : ∃ j, k = 2 * j + 1 := ⟨k / 2, by omega⟩
        unfold par
        rw [Nat.add_sub_cancel, e1, and10, and11, and01, show decide (2 * (j &&& (m + 1)) = 2 * j + 1) = false by rw [decide_eq_false_iff_not]; omega]
        have d3 : decide (2 * (j &&& m) + 1 = 2 * j + 1) = decide (2 * (j &&& m) = 2 * j) := by rw [decide_eq_decide]; omega
        rw [d3]
        simp
theorem under_sum (n : Nat) : ∀ d, (n &&& (n + d) = n ↔ n &&& d = 0) := by
  induction n using Nat.strongRecOn with
  | _ n ih =>
    intro d
    by_cases h0 : n = 0
    · subst h0; simp
    rcases Nat.mod_two_eq_zero_or_one n with hn | hn
    · obtain ⟨m, rfl⟩ : ∃ m, n = 2 * m := ⟨n / 2, by omega⟩
      rcases Nat.mod_two_eq_zero_or_one d with hd | hd
      · obtain ⟨e, rfl⟩ : ∃ e, d = 2 * e := ⟨d / 2, by omega⟩
        rw [show 2 * m + 2 * e = 2 * (m + e) by omega, and00, and00]
        have := ih m (by omega) e
        omega
      · obtain ⟨e, rfl⟩ : ∃ e, d = 2 * e + 1 := ⟨d / 2, by omega⟩
        rw [show 2 * m + (2 * e + 1) = 2 * (m + e) + 1 by omega, and01, and01]
        have := ih m (by omega) e
        omega
    · obtain ⟨m, rfl⟩ : ∃ m, n = 2 * m + 1 := ⟨n / 2, by omega⟩
      rcases Nat.mod_two_eq_zero_or_one d with hd | hd
      · obtain ⟨e, rfl⟩ : ∃ e, d = 2 * e := ⟨d / 2, by omega⟩
        rw [show 2 * m + 1 + 2 * e = 2 * (m + e) + 1 by omega, and11, and10]
        have := ih m (by omega) e
        omega
      · obtain ⟨e, rfl⟩ : ∃ e, d = 2 * e + 1 := ⟨d / 2, by omega⟩
        rw [show 2 * m + 1 + (2 * e + 1) = 2 * (m + e + 1) by omega, and10, and11]
        omega
theorem i64_and (a b : Nat) (ha : a < 1000) (hb : b < 1000) : bits .and .i64 (a : Int) (b : Int) = ((a &&& b : Nat) : Int) := by
  have hx : a &&& b < 2 ^ 10 := Nat.and_lt_two_pow _ (by omega)
  have e : ∀ c : Nat, c < 1000 → (BitVec.ofInt 64 (c : Int)).toNat = c := fun c hc => by
    rw [BitVec.ofInt_natCast, BitVec.toNat_ofNat]; exact Nat.mod_eq_of_lt (by omega)
  show IntKind.i64.wrap ((BitVec.ofInt 64 (a : Int) &&& BitVec.ofInt 64 (b : Int)).toNat : Int) = _
  rw [BitVec.toNat_and, e a ha, e b hb, IntKind.wrap_i64]
  omega
end Go.Proofs.Ytpgiifjngkekgaa
namespace Go.Proofs.Ytpgiifjngkekgaa
open Go.RowKit Go.Deep

/-- a block of N truth values -/
def brow (N : Nat) (f : Nat → Bool) : Obj := .cells ((List.range N).map fun i => Value.bool (f i)).toArray 4 (0, 0)
/-- block g is just these truth values, and may be written -/
def BB (w : World) (g N : Nat) (f : Nat → Bool) : Prop := w.heap[g]? = some (brow N f)
section
variable {w w' : World} {g N : Nat} {f f' : Nat → Bool}
theorem BB.cell (h : BB w g N f) (i : Nat) (hi : i < N) : w.cell? ⟨g, i, none⟩ = some (.bool (f i)) := by
  rw [cell_of_row w g i _ _ _ h]
  simp [hi]
theorem BB.frozen (h : BB w g N f) (i : Nat) : w.frozen? ⟨g, i, none⟩ = false := by
  simp [World.frozen?, show w.heap[g]? = _ from h, brow]
theorem BB.congr (h : BB w g N f) (hf : ∀ j, j < N → f j = f' j) : BB w g N f' := by
  have e : brow N f = brow N f' := by
    unfold brow
    congr 2
    apply List.map_congr_left
    intro j hj
    rw [hf j (List.mem_range.1 hj)]
  exact h.trans (congrArg some e)
theorem BB.set_ (h : BB w g N f) (i : Nat) (v : Bool) : BB (w.setCell ⟨g, i, none⟩ (.bool v)) g N (fun j => if j = i then v else f j) := by
  show (w.setCell ⟨g, i, none⟩ (.bool v)).heap[g]? = _
  have h' : w.heap[g]? = _ := h
  simp only [World.setCell, Array.getElem?_modify, h', brow, if_true, Option.map_some]
  congr 2
  apply Array.ext'
  apply List.ext_getElem?
  intro k
  by_cases hk : k < N
  · by_cases hki : i = k
    · subst hki; simp [hk]
    · have : ¬ k = i := fun e => hki e.symm
      simp [hk, hki, this]
  · simp [hk]
theorem BB.drew (h : BB w g N f) (n : Nat) : BB (w.drewN n) g N f := h
end
theorem info_bool : (Try.prog.info? 4).map (fun i => (i.zero, i.size, i.bytes)) = some (some (.bool false), 1, 1) := by kernel_rfl
/-- make of truth values -/
theorem mk_bools (n : Nat) (hn : n ≤ 70368744177664) (w : World) :
    (Instr.makeSlice 82 (.int .i64 (n : Int)) (.int .i64 (n : Int))).run Try.prog w = .ok (.slice (some ⟨w.heap.size, 0, none⟩) n n) (w.alloc (brow n fun _ => false)) := by
  have h := run_make_row' (P := Try.prog) 82 4 (.bool false) 1 Try.underlying82 info_bool rfl .i64 .i64 n (by omega) (by omega) w
  rw [h]
  have e : madeCells #[Value.bool false] n = ((List.range n).map fun _ => Value.bool false).toArray := by
    apply Array.ext'
    apply List.ext_getElem?
    intro i
    by_cases hi : i < n
    · simp [madeCells, hi, Nat.mod_one]
    · simp [madeCells, hi]
  rw [e]
  rfl

/-- a row of parities under way: the entries after k are of row n, the others of the row before -/
def mix (n k : Nat) (j : Nat) : Bool := if k < j then par n j else par (n - 1) j
theorem mix_start (n N : Nat) : ∀ j, j < N → par n j = mix (n + 1) (n + 1) j := by
  intro j _
  unfold mix
  split
  · rw [par_le (by omega), par_le (by omega)]
  · rfl
theorem mix_next (n k : Nat) : ∀ j, (if j = k + 1 then (mix (n + 1) (k + 1) (k + 1) != mix (n + 1) (k + 1) k) else mix (n + 1) (k + 1) j) = mix (n + 1) k j := by
  intro j
  unfold mix
  by_cases h : j = k + 1
  · subst h
    rw [if_pos rfl, if_neg (by omega), if_neg (by omega), if_pos (by omega), Nat.add_sub_cancel, par_step n (k + 1) (by omega), Nat.add_sub_cancel]
  · rw [if_neg h]
    by_cases h2 : k + 1 < j
    · rw [if_pos h2, if_pos (by omega)]
    · rw [if_neg h2, if_neg (by omega)]
theorem mix_done (n : Nat) (j : Nat) : mix (n + 1) 0 j = par (n + 1) j := by
  unfold mix
  split
  · rfl
  · rw [show j = 0 by omega, par_first, par_first]
theorem row0 (j : Nat) : (if j = 0 then true else false) = par 0 j := by
  rw [par_zero]
  by_cases h : j = 0 <;> simp [h]

set_option maxHeartbeats 1000000 in
set_option maxRecDepth 100000 in
theorem odd_c (b a : Nat) (hb : b < 1000) (ha : a < 1000) (w : World) :
    Calls Try.prog 45 #[.int .i64 (b : Int), .int .i64 (a : Int)] w fun e w' => e = .returned (.bool (decide (a ≤ b) && par b a)) ∧ Below w.heap.size w w' := by
  have hmk : ∀ w : World, (Instr.makeSlice 82 (.int .i64 ((b : Int) + 1)) (.int .i64 ((b : Int) + 1))).run Try.prog w = .ok (.slice (some ⟨w.heap.size, 0, none⟩) (b + 1) (b + 1)) (w.alloc (brow (b + 1) fun _ => false)) := mk_bools (b + 1) (by omega)
  have h0 : BB (w.alloc (brow (b + 1) fun _ => false)) w.heap.size (b + 1) (fun _ => false) := heap_alloc_new w _
  have c0 := h0.cell 0 (by omega)
  have f0 := h0.frozen 0
  have h1 := (h0.set_ 0 true).congr (f' := par 0) (fun j _ => row0 j)
  have g1 : Below w.heap.size w ((w.alloc (brow (b + 1) fun _ => false)).setCell ⟨w.heap.size, 0, none⟩ (.bool true)) := below_of_grown (grown_setCell (grown_of_below ((Below.refl _ _).alloc (Nat.le_refl _) _) (some w.heap.size)) (.inr (by simp)) _) (Nat.le_refl _) (Nat.le_refl _)
  have H1 := Lib.hid h1
  have G1 := Lib.hid g1
  clear h1 g1 h0
  go_enter Try.func45, Try.ntmps45
  go_wp2
  go_loopw [6] (fun v wr => ∃ i : Nat, v = .int .i64 ((i : Int) + 1) ∧ i ≤ b ∧ BB wr w.heap.size (b + 1) (par i) ∧ Below w.heap.size w wr) (fun v _ => b + 1 - (intOf v).toNat)
  case atStart => exact ⟨0, rfl, Nat.zero_le _, H1.out, G1.out⟩
  case round =>
    obtain ⟨i, rfl, hi, hR, hG⟩ := hrel
    have H2 := Lib.hid hR
    have G2 := Lib.hid hG
    clear hR hG
    by_cases hib : i < b
    · have i1 : (i : Int) + 1 ≤ (b : Int) := by omega
      go_wp2
      obtain ⟨wo, hwo⟩ : ∃ wo : World, wo = wr := ⟨_, rfl⟩
      rw [← hwo]
      rw [← hwo] at H2 G2
      clear hwo
      go_loopw [7] (fun v wr => ∃ k : Nat, v = .int .i64 k ∧ k ≤ i + 1 ∧ BB wr w.heap.size (b + 1) (mix (i + 1) k) ∧ Below w.heap.size w wr) (fun v _ => (intOf v).toNat)
      case atStart => exact ⟨i + 1, by go_num, Nat.le_refl _, H2.out.congr (mix_start i (b + 1)), G2.out⟩
      case round =>
        obtain ⟨k, rfl, hk, hR, hG⟩ := hrel
        rcases k with _ | k
        · have H3 := Lib.hid (hR.congr (fun j _ => mix_done i j))
          have G3 := Lib.hid hG
          clear hR hG
          go_wp2
          go_roundw
          case measure => simp [intOf]; omega
          case rel => exact ⟨i + 1, by go_num, by omega, H3.out, G3.out⟩
        · have ck := (hR.drew 1).cell (k + 1) (by omega)
          have ck2 := hR.cell (k + 1) (by omega)
          have ck1 := hR.cell k (by omega)
          have fk := hR.frozen (k + 1)
          have hn := hR.set_ (k + 1) (mix (i + 1) (k + 1) (k + 1) != mix (i + 1) (k + 1) k)
          have H3 := Lib.hid (hn.congr (fun j _ => mix_next i k j))
          have G3 := Lib.hid (hG.trans (below_of_grown (grown_setCell (w := wr) (a := wr) (g := w.heap.size) ⟨rfl, rfl, rfl, Nat.le_refl _, fun _ _ _ => rfl⟩ (p := ⟨w.heap.size, k + 1, none⟩) (.inl rfl) (.bool (mix (i + 1) (k + 1) (k + 1) != mix (i + 1) (k + 1) k))) hG.size (Nat.le_refl _)))
          clear hR hG hn
          obtain ⟨p, hp⟩ : ∃ p, p = mix (i + 1) (k + 1) (k + 1) := ⟨_, rfl⟩
          obtain ⟨q, hq⟩ : ∃ q, q = mix (i + 1) (k + 1) k := ⟨_, rfl⟩
          rw [← hp] at ck ck2 H3 G3
          rw [← hq] at ck1 H3 G3
          clear hp hq
          have epq : (p != q) = (!p == q) := by cases p <;> cases q <;> rfl
          rw [epq] at H3 G3
          have e1 : ((k + 1 : Nat) : Int) - 1 = (k : Int) := by omega
          go_wp2
          go_region
          go_wp2
          go_roundw
          case measure => simp [intOf]
          case rel => exact ⟨k, by go_num, by omega, H3.out.drew 1, G3.out.drew⟩
    · obtain rfl : i = b := by omega
      by_cases hab : a ≤ i
      · have ca := H2.out.cell a (by omega)
        have GE := Lib.hid G2.out
        clear H2
        go_wp2
        go_ret
        exact ⟨by simp [hab], GE.out⟩
      · go_wp2
        go_ret
        exact ⟨by simp [hab], G2.out⟩
end Go.Proofs.Ytpgiifjngkekgaa
