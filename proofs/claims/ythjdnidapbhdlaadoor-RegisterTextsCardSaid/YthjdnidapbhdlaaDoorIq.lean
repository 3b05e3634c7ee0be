/- texts of machines: mathematics; the texts of valid machines are read back: by the reference, word by word by the machine -/
import Derived.Test.YthjdnidapbhdlaaDoorIe
set_option maxRecDepth 100000
namespace Go.Proofs.YthjdnidapbhdlaaDoor
open Go.RowKit
theorem itoa_nat {n : Nat} (h : n < 100) : Lib.itoa (n : Int) = Lib.decDigits n := by
  unfold Lib.itoa
  rw [if_neg (by omega)]
  rfl
/-- what instructions of valid machines look like -/
def Canon (x : Ins) : Prop := x = ⟨3, 0, 0, 0⟩ ∨ ∃ r n : Nat, r < 100 ∧ n < 100 ∧ (x = ⟨0, r, n, 0⟩ ∨ x = ⟨1, r, n, 0⟩ ∨ ∃ z : Nat, z < 100 ∧ x = ⟨2, r, n, z⟩)
theorem canon_of {R : Int} {n : Nat} {i : Int} {x : Ins} (hR : R ≤ 4) (hn : n ≤ 15) (h : validI R n i x = true) : Canon x := by
  obtain ⟨op, reg, nx, zr⟩ := x
  unfold validI inB at h
  simp only at h
  by_cases h0 : op = 0 ∨ op = 1
  · simp only [if_pos h0, Bool.and_eq_true, decide_eq_true_eq] at h
    obtain ⟨⟨⟨a, b⟩, c, d⟩, e⟩ := h
    obtain ⟨r, rfl⟩ := Int.eq_ofNat_of_zero_le a
    obtain ⟨k, rfl⟩ := Int.eq_ofNat_of_zero_le c
    subst e
    refine .inr ⟨r, k, by omega, by omega, ?_⟩
    rcases h0 with rfl | rfl
    · exact .inl rfl
    · exact .inr (.inl rfl)
  · simp only [if_neg h0] at h
    by_cases h2 : op = 2
    · simp only [if_pos h2, Bool.and_eq_true, decide_eq_true_eq] at h
      obtain ⟨⟨⟨⟨a, b⟩, c, d⟩, e, f⟩, _⟩ := h
      obtain ⟨r, rfl⟩ := Int.eq_ofNat_of_zero_le a
      obtain ⟨k, rfl⟩ := Int.eq_ofNat_of_zero_le c
      obtain ⟨z, rfl⟩ := Int.eq_ofNat_of_zero_le e
      subst h2
      exact .inr ⟨r, k, by omega, by omega, .inr (.inr ⟨z, by omega, rfl⟩)⟩
    · simp only [if_neg h2] at h
      by_cases h3 : op = 3
      · simp only [if_pos h3, Bool.and_eq_true, decide_eq_true_eq] at h
        obtain ⟨⟨a, b⟩, c⟩ := h
        subst h3 a b c
        exact .inl rfl
      · simp only [if_neg h3] at h
        cases h
theorem vm_parts {R : Int} {cs : List Ins} (h : validM R cs = true) : 1 ≤ R ∧ R ≤ 4 ∧ 1 ≤ cs.length ∧ cs.length ≤ 15 ∧ ∀ x, x ∈ cs → Canon x := by
  unfold validM at h
  simp only [Bool.and_eq_true, decide_eq_true_eq] at h
  obtain ⟨⟨a, b, c, d⟩, e⟩ := h
  refine ⟨a, b, c, d, fun x hx => ?_⟩
  obtain ⟨k, hk, rfl⟩ := List.getElem_of_mem hx
  have := of_decide_eq_true e k hk
  have e2 : insAt cs k = cs[k] := by unfold insAt; simp [List.getD_eq_getElem?_getD, List.getElem?_eq_getElem hk]
  rw [e2] at this
  exact canon_of b d this
theorem dd_mem {n : Nat} (h : n < 100) {c : UInt8} (hc : c ∈ Lib.decDigits n) : 48 ≤ c.toNat ∧ c.toNat ≤ 57 := dd_sdigits n h c hc
theorem word_cases {x : Ins} (h : Canon x) : wordT x = [104] ∨ ∃ b r n : Nat, r < 100 ∧ n < 100 ∧ ((b < 2 ∧ x = ⟨b, r, n, 0⟩ ∧ wordT x = UInt8.ofNat ([105, 100, 106].getD b 0) :: (Lib.decDigits r ++ 62 :: Lib.decDigits n)) ∨ ∃ z : Nat, z < 100 ∧ x = ⟨2, r, n, z⟩ ∧ wordT x = 106 :: (Lib.decDigits r ++ 62 :: (Lib.decDigits n ++ 58 :: Lib.decDigits z))) := by
  rcases h with rfl | ⟨r, n, hr, hn, rfl | rfl | ⟨z, hz, rfl⟩⟩
  · exact .inl rfl
  · refine .inr ⟨0, r, n, hr, hn, .inl ⟨by omega, rfl, ?_⟩⟩
    show (105 :: (Lib.itoa (r : Int) ++ 62 :: Lib.itoa (n : Int)) : List UInt8) = _
    rw [itoa_nat hr, itoa_nat hn]; rfl
  · refine .inr ⟨1, r, n, hr, hn, .inl ⟨by omega, rfl, ?_⟩⟩
    show (100 :: (Lib.itoa (r : Int) ++ 62 :: Lib.itoa (n : Int)) : List UInt8) = _
    rw [itoa_nat hr, itoa_nat hn]; rfl
  · refine .inr ⟨2, r, n, hr, hn, .inr ⟨z, hz, rfl, ?_⟩⟩
    show (106 :: (Lib.itoa (r : Int) ++ 62 :: (Lib.itoa (n : Int) ++ 58 :: Lib.itoa (z : Int))) : List UInt8) = _
    rw [itoa_nat hr, itoa_nat hn, itoa_nat hz]
theorem word_space {x : Ins} (h : Canon x) : (32 : UInt8) ∉ wordT x := by
  have key : ∀ n, n < 100 → (32 : UInt8) ∉ Lib.decDigits n := fun n hn hc => by
    have := dd_mem hn hc
    have e : (32 : UInt8).toNat = 32 := rfl
    omega
  rcases word_cases h with e | ⟨b, r, n, hr, hn, ⟨hb, _, e⟩ | ⟨z, hz, _, e⟩⟩
  · rw [e]; decide
  · rw [e]
    intro hc
    simp only [List.mem_cons, List.mem_append] at hc
    rcases hc with hc | hc | hc | hc
    · match b, hb with
      | 0, _ => exact absurd hc (by decide)
      | 1, _ => exact absurd hc (by decide)
    · exact key r hr hc
    · exact absurd hc (by decide)
    · exact key n hn hc
  · rw [e]
    intro hc
    simp only [List.mem_cons, List.mem_append] at hc
    rcases hc with hc | hc | hc | hc | hc | hc
    · exact absurd hc (by decide)
    · exact key r hr hc
    · exact absurd hc (by decide)
    · exact key n hn hc
    · exact absurd hc (by decide)
    · exact key z hz hc
/-- words behind spaces -/
def joinF : List (List UInt8) → List UInt8
  | [] => []
  | w :: t => 32 :: (w ++ joinF t)
theorem wordsT_joinF : ∀ cs : List Ins, wordsT cs = joinF (cs.map wordT)
  | [] => rfl
  | x :: t => by simp only [wordsT, List.map_cons, joinF, wordsT_joinF t]
/-! the split of a text -/
theorem ib_none (c : UInt8) : ∀ l : List UInt8, c ∉ l → Lib.indexByte l c = -1
  | [], _ => rfl
  | b :: l, h => by
    have h1 : ¬ b = c := fun e => h (by simp [e])
    have h2 := ib_none c l (fun e => h (by simp [e]))
    show (if b == c then 0 else if Lib.indexByte l c == -1 then -1 else Lib.indexByte l c + 1) = _
    rw [if_neg (by simpa using h1), h2, if_pos (by simp)]
theorem ib_some (c : UInt8) : ∀ (l : List UInt8) (i : Nat), Lib.indexByte l c = (i : Int) → l = l.take i ++ c :: l.drop (i + 1) ∧ c ∉ l.take i
  | [], i, h => by
    have : (-1 : Int) = (i : Int) := h
    omega
  | b :: l, i, h => by
    have h' : (if b == c then 0 else if Lib.indexByte l c == -1 then -1 else Lib.indexByte l c + 1) = (i : Int) := h
    by_cases h1 : b = c
    · subst h1
      rw [if_pos (by simp)] at h'
      have : i = 0 := by omega
      subst this
      simp
    · rw [if_neg (by simpa using h1)] at h'
      split at h'
      · omega
      · cases i with
        | zero => have := Lib.indexByte_ge l c; rename_i h2; simp only [beq_iff_eq] at h2; omega
        | succ i =>
          obtain ⟨h3, h4⟩ := ib_some c l i (by omega)
          refine ⟨?_, ?_⟩
          · simp only [List.take_succ_cons, List.drop_succ_cons, List.cons_append]
            rw [← h3]
          · simp only [List.take_succ_cons, List.mem_cons, not_or]
            exact ⟨fun e => h1 e.symm, h4⟩
/-- what was split, joined again -/
theorem split_join : ∀ (k : Nat) (s : List UInt8), ∃ w ws, Lib.splitK [32] 0 k s = w :: ws ∧ s = w ++ joinF ws
  | 0, s => ⟨s, [], rfl, by simp [joinF]⟩
  | k + 1, s => by
    unfold Lib.splitK
    by_cases h : (Lib.index s [32] == -1) = true
    · rw [if_pos h]
      exact ⟨s, [], rfl, by simp [joinF]⟩
    · rw [if_neg h]
      have h1 := Lib.index_ge s [32]
      have h2 : Lib.index s [32] ≠ -1 := fun e => h (by simp [e])
      obtain ⟨i, hi⟩ := Int.eq_ofNat_of_zero_le (show 0 ≤ Lib.index s [32] by omega)
      rw [hi]
      obtain ⟨w, ws, e1, e2⟩ := split_join k (s.drop (i + 1))
      have hb := hi
      rw [Lib.index_one] at hb
      obtain ⟨h3, _⟩ := ib_some 32 s i hb
      refine ⟨s.take i, w :: ws, ?_, ?_⟩
      · show s.take ((i : Int).toNat + 0) :: Lib.splitK [32] 0 k (s.drop ((i : Int).toNat + 1)) = _
        rw [Int.toNat_natCast, Nat.add_zero, e1]
      · show s = s.take i ++ 32 :: (w ++ joinF ws)
        rw [← e2]
        exact h3
theorem split_words : ∀ (ws : List (List UInt8)) (w : List UInt8), (32 : UInt8) ∉ w → (∀ x, x ∈ ws → (32 : UInt8) ∉ x) → Lib.count (w ++ joinF ws) [32] = ws.length ∧ Lib.splitK [32] 0 ws.length (w ++ joinF ws) = w :: ws
  | [], w, h, _ => by
    have hi : Lib.index (w ++ joinF []) [32] = -1 := by rw [Lib.index_one]; simp only [joinF, List.append_nil]; exact ib_none 32 w h
    refine ⟨Lib.count_miss hi, ?_⟩
    simp [Lib.splitK, joinF]
  | x :: t, w, h, hws => by
    have hi : Lib.index (w ++ joinF (x :: t)) [32] = (w.length : Int) := by rw [Lib.index_one]; exact indexByte_app 32 _ w h
    have hd : (w ++ joinF (x :: t)).drop (w.length + 1) = x ++ joinF t := by simp [joinF]
    have htk : (w ++ joinF (x :: t)).take w.length = w := by simp
    obtain ⟨i1, i2⟩ := split_words t x (hws x (by simp)) (fun y hy => hws y (by simp [hy]))
    refine ⟨?_, ?_⟩
    · rw [Lib.count_hit (by simp) hi]
      show 1 + Lib.count ((w ++ joinF (x :: t)).drop (w.length + 1)) [32] = _
      rw [hd, i1, List.length_cons]; omega
    · show Lib.splitK [32] 0 (t.length + 1) _ = _
      unfold Lib.splitK
      rw [hi, if_neg (by simp only [beq_iff_eq]; omega), Int.toNat_natCast]
      show (w ++ joinF (x :: t)).take (w.length + 0) :: Lib.splitK [32] 0 t.length ((w ++ joinF (x :: t)).drop (w.length + 1)) = _
      rw [Nat.add_zero, htk, hd, i2]
end Go.Proofs.YthjdnidapbhdlaaDoor
namespace Go.Proofs.YthjdnidapbhdlaaDoor
open Go.RowKit
theorem bt_at (l : List UInt8) (k : Nat) : bt (txt8 l) k = (l.getD k 0).toNat := by
  unfold bt
  by_cases h : k < l.length
  · rw [dif_pos (show k < (txt8 l).size by show k < l.toArray.size; simpa using h)]
    have : (txt8 l)[k]'(show k < l.toArray.size by simpa using h) = l[k] := by
      show l.toArray[k]'_ = _
      simp
    rw [show (txt8 l)[k] = l[k] from this]
    simp [List.getD_eq_getElem?_getD, List.getElem?_eq_getElem h]
  · rw [dif_neg (show ¬ k < (txt8 l).size by show ¬ k < l.toArray.size; simpa using h)]
    have : l[k]? = none := List.getElem?_eq_none (by omega)
    simp [List.getD_eq_getElem?_getD, this]
theorem size_txt (l : List UInt8) : (txt8 l).size = l.length := by show l.toArray.size = _; simp
theorem isD_at (l : List UInt8) (k : Nat) : isD (txt8 l) k = (decide (k < l.length) && (decide (48 ≤ (l.getD k 0).toNat) && decide ((l.getD k 0).toNat ≤ 57))) := by
  unfold isD
  rw [bt_at, size_txt]
/-- the reference reads a number of at most two digits -/
theorem dig_at (A B : List UInt8) (r : Nat) (hr : r < 100) (hB : B = [] ∨ ∃ c t, B = c :: t ∧ (c.toNat < 48 ∨ 57 < c.toNat)) :
    digN (txt8 (A ++ (Lib.decDigits r ++ B))) A.length = r ∧ digE (txt8 (A ++ (Lib.decDigits r ++ B))) A.length = A.length + (Lib.decDigits r).length := by
  have nd : ∀ (D : List UInt8), isD (txt8 (A ++ (D ++ B))) (A.length + D.length) = false := fun D => by
    rw [isD_at]
    rcases hB with rfl | ⟨c, t, rfl, hc⟩
    · simp
    · have : (A ++ (D ++ c :: t)).getD (A.length + D.length) 0 = c := by simp [List.getD_eq_getElem?_getD]
      rw [this]
      rcases hc with h | h
      · rw [decide_eq_false (show ¬ 48 ≤ c.toNat by omega)]; simp
      · rw [decide_eq_false (show ¬ c.toNat ≤ 57 by omega)]; simp
  have dc : ∀ d, d < 10 → (UInt8.ofNat (48 + d)).toNat = 48 + d := by
    intro d hd
    have a : ∀ k : Fin 10, (UInt8.ofNat (48 + k.1)).toNat = 48 + k.1 := by decide
    exact a ⟨d, hd⟩
  by_cases h1 : r < 10
  · rw [dd_one r h1]
    have n1 := nd [UInt8.ofNat (48 + r)]
    have g0 : (A ++ ([UInt8.ofNat (48 + r)] ++ B)).getD A.length 0 = UInt8.ofNat (48 + r) := by simp [List.getD_eq_getElem?_getD]
    have d0 : isD (txt8 (A ++ ([UInt8.ofNat (48 + r)] ++ B))) A.length = true := by
      rw [isD_at, g0, dc r h1]
      simp; omega
    have b0 : bt (txt8 (A ++ ([UInt8.ofNat (48 + r)] ++ B))) A.length = 48 + r := by rw [bt_at, g0, dc r h1]
    unfold digN digE
    have n1' : isD (txt8 (A ++ ([UInt8.ofNat (48 + r)] ++ B))) (A.length + 1) = false := n1
    rw [d0, n1', b0]
    simp
  · rw [dd_two r h1 hr]
    have g0 : (A ++ ([UInt8.ofNat (48 + r / 10), UInt8.ofNat (48 + r % 10)] ++ B)).getD A.length 0 = UInt8.ofNat (48 + r / 10) := by simp [List.getD_eq_getElem?_getD]
    have g1 : (A ++ ([UInt8.ofNat (48 + r / 10), UInt8.ofNat (48 + r % 10)] ++ B)).getD (A.length + 1) 0 = UInt8.ofNat (48 + r % 10) := by simp [List.getD_eq_getElem?_getD]
    have e0 := dc (r / 10) (by omega)
    have e1 := dc (r % 10) (by omega)
    have d0 : isD (txt8 (A ++ ([UInt8.ofNat (48 + r / 10), UInt8.ofNat (48 + r % 10)] ++ B))) A.length = true := by
      rw [isD_at, g0, e0]
      simp; omega
    have d1 : isD (txt8 (A ++ ([UInt8.ofNat (48 + r / 10), UInt8.ofNat (48 + r % 10)] ++ B))) (A.length + 1) = true := by
      rw [isD_at, g1, e1]
      simp; omega
    have b0 : bt (txt8 (A ++ ([UInt8.ofNat (48 + r / 10), UInt8.ofNat (48 + r % 10)] ++ B))) A.length = 48 + r / 10 := by rw [bt_at, g0, e0]
    have b1 : bt (txt8 (A ++ ([UInt8.ofNat (48 + r / 10), UInt8.ofNat (48 + r % 10)] ++ B))) (A.length + 1) = 48 + r % 10 := by rw [bt_at, g1, e1]
    unfold digN digE
    rw [d0, d1, b0, b1]
    simp
    omega
theorem op_at (b : Nat) (hb : b < 3) : opT (UInt8.ofNat ([105, 100, 106].getD b 0)).toNat = (b : Int) := by
  have a : ∀ k : Fin 3, opT (UInt8.ofNat ([105, 100, 106].getD k.1 0)).toNat = (k.1 : Int) := by decide
  exact a ⟨b, hb⟩
/-- the reference reads a word -/
theorem insT_word {x : Ins} (h : Canon x) : insT (txt8 (wordT x)) = x := by
  rcases h with rfl | ⟨r, n, hr, hn, hx⟩
  · rfl
  · have two : ∀ b : Nat, b < 2 → insT (txt8 (UInt8.ofNat ([105, 100, 106].getD b 0) :: (Lib.decDigits r ++ 62 :: Lib.decDigits n))) = ⟨b, r, n, 0⟩ := by
      intro b hb
      have hop := op_at b (by omega)
      generalize UInt8.ofNat ([105, 100, 106].getD b 0) = c at hop
      obtain ⟨d1, d2⟩ := dig_at [c] (62 :: Lib.decDigits n) r hr (.inr ⟨62, _, rfl, by decide⟩)
      obtain ⟨d3, _⟩ := dig_at (c :: (Lib.decDigits r ++ [62])) [] n hn (.inl rfl)
      have e1 : c :: (Lib.decDigits r ++ [62]) ++ (Lib.decDigits n ++ []) = c :: (Lib.decDigits r ++ 62 :: Lib.decDigits n) := by simp
      have e2 : [c] ++ (Lib.decDigits r ++ 62 :: Lib.decDigits n) = c :: (Lib.decDigits r ++ 62 :: Lib.decDigits n) := rfl
      have l1 : (c :: (Lib.decDigits r ++ [62])).length = 1 + (Lib.decDigits r).length + 1 := by simp; omega
      rw [e1, l1] at d3
      rw [e2] at d1 d2
      have b0 : bt (txt8 (c :: (Lib.decDigits r ++ 62 :: Lib.decDigits n))) 0 = c.toNat := by rw [bt_at]; rfl
      unfold insT
      rw [if_neg (by rw [size_txt]; simp; omega), b0, hop, show digN (txt8 (c :: (Lib.decDigits r ++ 62 :: Lib.decDigits n))) 1 = r from d1, show digE (txt8 (c :: (Lib.decDigits r ++ 62 :: Lib.decDigits n))) 1 = 1 + (Lib.decDigits r).length from d2, d3]
      rw [if_neg (by omega)]
    rcases hx with rfl | rfl | ⟨z, hz, rfl⟩
    · have e := two 0 (by omega)
      show insT (txt8 (105 :: (Lib.itoa (r : Int) ++ 62 :: Lib.itoa (n : Int)))) = _
      rw [itoa_nat hr, itoa_nat hn]; exact e
    · have e := two 1 (by omega)
      show insT (txt8 (100 :: (Lib.itoa (r : Int) ++ 62 :: Lib.itoa (n : Int)))) = _
      rw [itoa_nat hr, itoa_nat hn]; exact e
    · show insT (txt8 (106 :: (Lib.itoa (r : Int) ++ 62 :: (Lib.itoa (n : Int) ++ 58 :: Lib.itoa (z : Int))))) = _
      rw [itoa_nat hr, itoa_nat hn, itoa_nat hz]
      have hop := op_at 2 (by omega)
      have hc : UInt8.ofNat ([105, 100, 106].getD 2 0) = (106 : UInt8) := rfl
      rw [hc] at hop
      generalize (106 : UInt8) = c at hop ⊢
      obtain ⟨d1, d2⟩ := dig_at [c] (62 :: (Lib.decDigits n ++ 58 :: Lib.decDigits z)) r hr (.inr ⟨62, _, rfl, by decide⟩)
      obtain ⟨d3, d4⟩ := dig_at (c :: (Lib.decDigits r ++ [62])) (58 :: Lib.decDigits z) n hn (.inr ⟨58, _, rfl, by decide⟩)
      obtain ⟨d5, _⟩ := dig_at (c :: (Lib.decDigits r ++ 62 :: (Lib.decDigits n ++ [58]))) [] z hz (.inl rfl)
      have e1 : c :: (Lib.decDigits r ++ [62]) ++ (Lib.decDigits n ++ 58 :: Lib.decDigits z) = c :: (Lib.decDigits r ++ 62 :: (Lib.decDigits n ++ 58 :: Lib.decDigits z)) := by simp
      have e3 : c :: (Lib.decDigits r ++ 62 :: (Lib.decDigits n ++ [58])) ++ (Lib.decDigits z ++ []) = c :: (Lib.decDigits r ++ 62 :: (Lib.decDigits n ++ 58 :: Lib.decDigits z)) := by simp
      have e2 : [c] ++ (Lib.decDigits r ++ 62 :: (Lib.decDigits n ++ 58 :: Lib.decDigits z)) = c :: (Lib.decDigits r ++ 62 :: (Lib.decDigits n ++ 58 :: Lib.decDigits z)) := rfl
      have l1 : (c :: (Lib.decDigits r ++ [62])).length = 1 + (Lib.decDigits r).length + 1 := by simp; omega
      have l3 : (c :: (Lib.decDigits r ++ 62 :: (Lib.decDigits n ++ [58]))).length = 1 + (Lib.decDigits r).length + 1 + (Lib.decDigits n).length + 1 := by simp; omega
      rw [e1, l1] at d3 d4
      rw [e3, l3] at d5
      rw [e2] at d1 d2
      generalize hw : c :: (Lib.decDigits r ++ 62 :: (Lib.decDigits n ++ 58 :: Lib.decDigits z)) = w at *
      have b0 : bt (txt8 w) 0 = c.toNat := by rw [bt_at, ← hw]; rfl
      have d1' : digN (txt8 w) 1 = r := d1
      have d2' : digE (txt8 w) 1 = 1 + (Lib.decDigits r).length := d2
      unfold insT
      rw [if_neg (by rw [size_txt, ← hw]; simp; omega), b0, hop, d1', d2', d3, d4, d5, if_pos (by rfl)]
      rfl
theorem scan_same (s : ByteArray) (i : Nat) : ∀ j, (∀ k, k < j → i + k < s.size ∧ bt s (i + k) ≠ 32) → scanT s (i + j) = scanT s i
  | 0, _ => rfl
  | j + 1, h => by
    rw [show i + (j + 1) = (i + j) + 1 from by omega]
    show (if i + j < s.size ∧ bt s (i + j) ≠ 32 then scanT s (i + j) else _) = _
    rw [if_pos (h j (by omega))]
    exact scan_same s i j (fun k hk => h k (by omega))
/-- a word is scanned -/
theorem scan_word (s : ByteArray) (i : Nat) (P w Q : List UInt8) (hs : s = txt8 (P ++ (w ++ Q))) (hP : P.length = i) (hw : (32 : UInt8) ∉ w) (hQ : Q = [] ∨ ∃ t, Q = 32 :: t) (hf : (scanT s i).from_ = i) :
    scanT s (i + w.length + 1) = ⟨i + w.length + 1, false, if (scanT s i).first = true then digN (txt8 w) 0 else (scanT s i).regs, if (scanT s i).first = true then (scanT s i).code else (scanT s i).code ++ [insT (txt8 w)]⟩ := by
  have hsz : s.size = P.length + (w.length + Q.length) := by rw [hs, size_txt]; simp
  have hb : ∀ k, bt s k = ((P ++ (w ++ Q)).getD k 0).toNat := fun k => by rw [hs, bt_at]
  have same := scan_same s i w.length (fun k hk => by
    refine ⟨by omega, fun e => ?_⟩
    rw [hb, ← hP] at e
    have g : (P ++ (w ++ Q)).getD (P.length + k) 0 = w[k] := by simp [List.getD_eq_getElem?_getD, List.getElem?_append_right, List.getElem?_append_left, hk]
    rw [g] at e
    have : w[k] = 32 := UInt8.toNat_inj.1 e
    exact hw (this ▸ List.getElem_mem hk))
  have hex : s.extract i (i + w.length) = txt8 w := by
    apply ByteArray.ext
    rw [ByteArray.data_extract, hs, ← hP]
    simp
  show (if i + w.length < s.size ∧ bt s (i + w.length) ≠ 32 then scanT s (i + w.length) else _) = _
  rw [if_neg]
  · rw [same, hf, hex]
  · rintro ⟨h1, h2⟩
    rcases hQ with rfl | ⟨t, rfl⟩
    · simp at hsz; omega
    · apply h2
      rw [hb, ← hP]
      simp [List.getD_eq_getElem?_getD]
theorem scan_words (s : ByteArray) : ∀ (ws : List (List UInt8)) (P : List UInt8) (r : Nat) (c : List Ins), s = txt8 (P ++ joinF ws) → (∀ w, w ∈ ws → (32 : UInt8) ∉ w) → scanT s (P.length + 1) = ⟨P.length + 1, false, r, c⟩ →
    scanT s (s.size + 1) = ⟨s.size + 1, false, r, c ++ ws.map (fun w => insT (txt8 w))⟩
  | [], P, r, c, hs, _, h => by
    have : s.size = P.length := by rw [hs, size_txt]; simp [joinF]
    rw [this, h]
    simp
  | w :: t, P, r, c, hs, hw, h => by
    have e : P ++ joinF (w :: t) = (P ++ [32]) ++ (w ++ joinF t) := by simp [joinF]
    have hQ : joinF t = [] ∨ ∃ u, joinF t = 32 :: u := by
      cases t with
      | nil => exact .inl rfl
      | cons a b => exact .inr ⟨_, rfl⟩
    have h1 := scan_word s (P.length + 1) (P ++ [32]) w (joinF t) (by rw [hs, e]) (by simp) (hw w (by simp)) hQ (by rw [h])
    rw [h] at h1
    have h2 := scan_words s t (P ++ 32 :: w) r (c ++ [insT (txt8 w)]) (by rw [hs]; simp [joinF]) (fun x hx => hw x (by simp [hx])) (by
      have el : (P ++ 32 :: w).length = P.length + 1 + w.length := by simp; omega
      rw [el, h1]
      simp)
    rw [h2]
    simp
/-- the reference reads the text of a valid machine back -/
theorem scan_text {R : Int} {cs : List Ins} (h : validM R cs = true) : ((scanT (txt8 (textM R cs)) ((txt8 (textM R cs)).size + 1)).regs : Int) = R ∧ (scanT (txt8 (textM R cs)) ((txt8 (textM R cs)).size + 1)).code = cs := by
  obtain ⟨r0, r1, _, _, hc⟩ := vm_parts h
  obtain ⟨r, rfl⟩ := Int.eq_ofNat_of_zero_le (show 0 ≤ R by omega)
  have hr : r < 100 := by omega
  have ht : textM (r : Int) cs = Lib.decDigits r ++ joinF (cs.map wordT) := by unfold textM; rw [itoa_nat hr, wordsT_joinF]
  obtain ⟨s, hs⟩ : ∃ s, s = txt8 (textM (r : Int) cs) := ⟨_, rfl⟩
  rw [← hs]
  rw [ht] at hs
  have hQ : joinF (cs.map wordT) = [] ∨ ∃ u, joinF (cs.map wordT) = 32 :: u := by
    cases cs with
    | nil => exact .inl rfl
    | cons a b => exact .inr ⟨_, rfl⟩
  have h0 : (32 : UInt8) ∉ Lib.decDigits r := fun hc => by
    have := dd_mem hr hc
    have e : (32 : UInt8).toNat = 32 := rfl
    omega
  have h1 := scan_word s 0 [] (Lib.decDigits r) (joinF (cs.map wordT)) (by rw [hs]; rfl) rfl h0 hQ rfl
  have h2 := scan_words s (cs.map wordT) (Lib.decDigits r) (digN (txt8 (Lib.decDigits r)) 0) [] hs (fun w hw => by
    obtain ⟨x, hx, rfl⟩ := List.mem_map.1 hw
    exact word_space (hc x hx)) (by
    rw [Nat.zero_add] at h1
    rw [h1]
    rfl)
  rw [h2]
  obtain ⟨d, _⟩ := dig_at [] [] r hr (.inl rfl)
  have d' : digN (txt8 (Lib.decDigits r)) 0 = r := by simpa using d
  refine ⟨by rw [d'], ?_⟩
  show [] ++ (cs.map wordT).map (fun w => insT (txt8 w)) = cs
  rw [List.nil_append, List.map_map]
  conv => rhs; rw [← List.map_id cs]
  refine List.map_congr_left fun x hx => ?_
  show insT (txt8 (wordT x)) = x
  exact insT_word (hc x hx)
end Go.Proofs.YthjdnidapbhdlaaDoor
