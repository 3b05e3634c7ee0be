import Derived.Test.YthjdnidapbhdlaaDoorWu
import Derived.Test.YthjdnidapbhdlaaDoorMb
import Derived.Test.YthjdnidapbhdlaaDoorRe

set_option maxRecDepth 100000
namespace Go.Proofs.YthjdnidapbhdlaaDoor
open Go.RowKit

/-- words divided by a word, from the highest one down to k -/
structure ShortAt (xs : List Nat) (v k : Nat) (L : List Nat) (r : Nat) : Prop where
  len : L.length = xs.length
  sm : small L
  eq : val (xs.drop k) = val (L.drop k) * v + r
  lt : r < v
theorem ShortAt.start (xs : List Nat) {v : Nat} (hv : 0 < v) : ShortAt xs v xs.length (List.replicate xs.length 0) 0 :=
  ⟨by simp, fun x hx => by have := List.eq_of_mem_replicate hx; omega, by rw [List.drop_length, List.drop_of_length_le (by simp)]; simp [val], hv⟩
theorem ShortAt.next {xs L : List Nat} {v k r : Nat} (h : ShortAt xs v (k + 1) L r) (hs : small xs) (hk : k < xs.length) :
    ShortAt xs v k (L.set k ((r * 4294967296 + xs.getD k 0) / v)) ((r * 4294967296 + xs.getD k 0) % v) := by
  have hx := small_get hs k
  have hlt := h.lt
  have hq := div_word_lt hlt hx
  refine ⟨by rw [List.length_set]; exact h.len, small_set h.sm _ _ hq, ?_, Nat.mod_lt _ (by omega)⟩
  have e1 := drop_get xs k hk
  have e2 := drop_get (L.set k ((r * 4294967296 + xs.getD k 0) / v)) k (by rw [List.length_set, h.len]; exact hk)
  have e4 : (L.set k ((r * 4294967296 + xs.getD k 0) / v)).drop (k + 1) = L.drop (k + 1) := List.drop_set_of_lt (by omega)
  rw [e4, getD_set_eq (by rw [h.len]; exact hk)] at e2
  rw [e1, e2, h.eq]
  have hd := Nat.div_add_mod (r * 4294967296 + xs.getD k 0) v
  generalize xs.getD k 0 = x at *
  generalize (r * 4294967296 + x) / v = q at *
  generalize (r * 4294967296 + x) % v = m at *
  generalize val (L.drop (k + 1)) = Q at *
  rw [Nat.add_mul, Nat.mul_comm q v, Nat.mul_assoc]
  omega
theorem ShortAt.done {xs L : List Nat} {v r : Nat} (h : ShortAt xs v 0 L r) : val L = val xs / v ∧ r = val xs % v := by
  have he := h.eq
  have hlt := h.lt
  simp only [List.drop_zero] at he
  rw [he]
  constructor
  · rw [Nat.mul_comm, Nat.mul_add_div (by omega), Nat.div_eq_of_lt hlt, Nat.add_zero]
  · rw [Nat.mul_comm, Nat.mul_add_mod, Nat.mod_eq_of_lt hlt]

set_option maxHeartbeats 1000000 in
set_option maxRecDepth 100000 in
/-- the reference's quotient and rest by a word -/
theorem refShort_c (A : Option Addr) (n c v : Nat) (xs : List Nat) (w : World) (ha : Rd w A n xs) (hn : n ≤ 17592186044416) (hv : 0 < v) (hv2 : v < 4294967296) :
    Calls Tryd.prog 55 #[.slice A n c, .int .u32 (v : Int)] w fun e w' => e = .returned (.tuple #[.slice (some ⟨w.heap.size, 0, none⟩) n n, .int .u32 ((val xs % v : Nat) : Int)]) ∧ Below w.heap.size w w' ∧ ∃ qs, qs.length = n ∧ val qs = val xs / v ∧ Bk w' w.heap.size qs := by
  have hmk := mk_words n (by omega)
  have HN := Lib.hid ha.len
  have HA := Lib.hid ha.at_
  have hs := ha.sm
  have S0 := Lib.hid (show ShortAt xs v n (List.replicate n 0) 0 by rw [← ha.len]; exact ShortAt.start xs hv)
  clear ha
  go_enter Tryd.func55, Tryd.ntmps55
  go_wp2
  clear hmk
  go_loopw [7, 8] (fun rv iv wr => ∃ k r : Nat, ∃ L, rv = .int .u64 r ∧ iv = .int .i64 ((k : Int) - 1) ∧ k ≤ n ∧ ShortAt xs v k L r ∧ Bk wr w.heap.size L ∧ Below w.heap.size w wr) (fun _ iv _ => (intOf iv + 1).toNat)
  case atStart => exact ⟨n, 0, _, rfl, rfl, Nat.le_refl _, S0.out, Bk.new0 _ _, (Below.refl _ _).alloc (Nat.le_refl _) _⟩
  case round =>
    obtain ⟨k, r, L, rfl, rfl, hk, hD, hB, hW⟩ := hrel
    clear S0
    have hlt := hD.lt
    rcases Nat.eq_zero_or_pos k with hk0 | hk0
    · subst hk0
      obtain ⟨d1, d2⟩ := hD.done
      have H := Lib.hid (show Below w.heap.size w wr ∧ ∃ qs, qs.length = n ∧ val qs = val xs / v ∧ Bk wr w.heap.size qs from ⟨hW, L, by rw [hD.len, HN.out], d1, hB⟩)
      have HR := Lib.hid d2
      clear d1 d2 hD hB hW
      go_wp2
      go_ret2
      exact ⟨by rw [← HR.out]; rfl, H.out⟩
    · obtain ⟨i, rfl⟩ : ∃ i, k = i + 1 := ⟨k - 1, by omega⟩
      have ei : (((i + 1 : Nat) : Int) - 1) = (i : Int) := by omega
      rw [ei]
      have hl : L.length = n := by rw [hD.len, HN.out]
      obtain ⟨b, o, rfl, hb, hcell⟩ := HA.out (by omega)
      have hcx := (hW.cell (p := ⟨b, o + i, none⟩) hb).trans (hcell i (by omega))
      have hco := hB.cell i (by omega)
      have hfx := hB.frozen i
      have hx1 := small_get hs i
      have hnx := hD.next hs (by rw [HN.out]; omega)
      obtain ⟨x, hx⟩ : ∃ x, x = xs.getD i 0 := ⟨_, rfl⟩
      rw [← hx] at hcx hx1 hnx
      have hq1 := div_word_lt hlt hx1
      have hr1 := Nat.mod_lt (r * 4294967296 + x) hv
      have hT1 : r * 4294967296 + x < 18446744073709551616 := by omega
      obtain ⟨T, hT⟩ : ∃ T, T = r * 4294967296 + x := ⟨_, rfl⟩
      have hT2 : (r : Int) * 4294967296 + (x : Int) = (T : Int) := by omega
      rw [← hT] at hnx hq1 hr1 hT1
      have ed : (T : Int) / (v : Int) = ((T / v : Nat) : Int) := by simp
      have em : (T : Int) % (v : Int) = ((T % v : Nat) : Int) := by simp
      obtain ⟨q, hq⟩ : ∃ q, q = T / v := ⟨_, rfl⟩
      obtain ⟨r', hr'⟩ : ∃ r', r' = T % v := ⟨_, rfl⟩
      rw [← hq] at ed hnx hq1
      rw [← hr'] at em hnx hr1
      have tv : ((v : Int) == 0) = false := by rw [beq_eq_false_iff_ne]; omega
      have tv2 : ¬ (v : Int) = 0 := by omega
      have hbn := hB.set_ i q hq1
      have hgn := hW.setCell (p := ⟨w.heap.size, i, none⟩) (Nat.le_refl _) (.int .u32 (q : Int))
      have H1 := Lib.hid hnx
      have H2 := Lib.hid hbn
      have H3 := Lib.hid hgn
      clear hq hr' hT hx hnx hbn hgn hD hB hW hl hs ei hcell
      go_wp2
      go_roundw
      case measure => simp [intOf]
      case rel => exact ⟨i, r', _, by first | rfl | rw [em], rfl, by omega, H1.out, H2.out, H3.out⟩
end Go.Proofs.YthjdnidapbhdlaaDoor
