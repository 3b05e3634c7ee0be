import Derived.Test.YtmgkgomecakoiaaWt
import Derived.Test.YtmgkgomecakoiaaWl
namespace Go.Proofs.Ytmgkgomecakoiaa
open Go.RowKit

/-- dividing by a word, from the highest word on: k words are left -/
structure DivAt (xs : List Nat) (v k : Nat) (L : List Nat) (r : Nat) : Prop where
  len : L.length = xs.length
  sm : small L
  low : L.take k = xs.take k
  eq : val (xs.drop k) = val (L.drop k) * v + r
  lt : r < v
theorem DivAt.start {xs : List Nat} (hs : small xs) {v : Nat} (hv : 0 < v) : DivAt xs v xs.length xs 0 :=
  ⟨rfl, hs, rfl, by rw [List.drop_length]; simp [val], hv⟩
theorem getD_take_eq {L xs : List Nat} {k : Nat} (h : L.take (k + 1) = xs.take (k + 1)) : L.getD k 0 = xs.getD k 0 := by
  have := congrArg (fun l : List Nat => l.getD k 0) h
  simpa [List.getD_eq_getElem?_getD, List.getElem?_take] using this
theorem drop_get (xs : List Nat) (k : Nat) (h : k < xs.length) : val (xs.drop k) = xs.getD k 0 + 4294967296 * val (xs.drop (k + 1)) := by
  rw [List.drop_eq_getElem_cons h, val_cons]
  simp [List.getD_eq_getElem?_getD, List.getElem?_eq_getElem h]
theorem div_word_lt {r v x : Nat} (hr : r < v) (hx : x < 4294967296) : (r * 4294967296 + x) / v < 4294967296 := by
  rw [Nat.div_lt_iff_lt_mul (by omega)]
  have : (r + 1) * 4294967296 ≤ v * 4294967296 := Nat.mul_le_mul_right _ hr
  rw [Nat.add_mul] at this
  rw [Nat.mul_comm 4294967296 v]
  omega
theorem DivAt.next {xs L : List Nat} {v k r : Nat} (h : DivAt xs v (k + 1) L r) (hs : small xs) (hk : k < xs.length) :
    DivAt xs v k (L.set k ((r * 4294967296 + xs.getD k 0) / v)) ((r * 4294967296 + xs.getD k 0) % v) := by
  have hx := small_get hs k
  have hlt := h.lt
  have hq := div_word_lt hlt hx
  refine ⟨by rw [List.length_set]; exact h.len, small_set h.sm _ _ hq, ?_, ?_, Nat.mod_lt _ (by omega)⟩
  · have h1 := congrArg (fun l : List Nat => l.take k) h.low
    simp only [List.take_take, Nat.min_eq_left (Nat.le_succ k)] at h1
    rw [List.take_set_of_le (Nat.le_refl k)]
    exact h1
  · have e1 := drop_get xs k hk
    have e2 := drop_get (L.set k ((r * 4294967296 + xs.getD k 0) / v)) k (by rw [List.length_set, h.len]; exact hk)
    have e4 : (L.set k ((r * 4294967296 + xs.getD k 0) / v)).drop (k + 1) = L.drop (k + 1) := List.drop_set_of_lt (by omega)
    rw [e4] at e2
    have e3 : (L.set k ((r * 4294967296 + xs.getD k 0) / v)).getD k 0 = (r * 4294967296 + xs.getD k 0) / v := by
      rw [List.getD_eq_getElem?_getD, List.getElem?_set_self (by rw [h.len]; exact hk)]; rfl
    rw [e3] at e2
    rw [e1, e2, h.eq]
    have hd := Nat.div_add_mod (r * 4294967296 + xs.getD k 0) v
    generalize xs.getD k 0 = x at *
    generalize (r * 4294967296 + x) / v = q at *
    generalize (r * 4294967296 + x) % v = m at *
    generalize val (L.drop (k + 1)) = Q at *
    rw [Nat.add_mul, Nat.mul_comm q v, Nat.mul_assoc]
    omega
theorem DivAt.done {xs L : List Nat} {v r : Nat} (h : DivAt xs v 0 L r) : val L = val xs / v ∧ r = val xs % v := by
  have he := h.eq
  have hlt := h.lt
  simp only [List.drop_zero] at he
  rw [he]
  constructor
  · rw [Nat.mul_comm, Nat.mul_add_div (by omega), Nat.div_eq_of_lt hlt, Nat.add_zero]
  · rw [Nat.mul_comm, Nat.mul_add_mod, Nat.mod_eq_of_lt hlt]

theorem shl_or2 (r x : Nat) (hr : r < 4294967296) (hx : x < 4294967296) : bits BinOp.or IntKind.u64 ((r : Int) * 4294967296) (x : Int) = ((r * 4294967296 + x : Nat) : Int) := by
  rw [show (r : Int) * 4294967296 = ((r * 2 ^ 32 : Nat) : Int) by omega, u64_or_nat _ _ (by omega) (by omega), or_low _ _ _ (by omega)]

set_option maxHeartbeats 800000 in
theorem divideByWord_c (g n c v : Nat) (xs : List Nat) (w : World) (hL : Bk w g xs) (hn : xs.length = n) (hn2 : n ≤ 9223372036854775800) (hv : 0 < v) (hv2 : v < 4294967296) :
    Calls Try.prog 79 #[.slice (some ⟨g, 0, none⟩) n c, .int .u32 (v : Int)] w fun e w' => e = .returned (.int .u32 ((val xs % v : Nat) : Int)) ∧ w.grownBy w' (some g) ∧ ∃ qs, qs.length = n ∧ val qs = val xs / v ∧ Bk w' g qs := by
  have hs := hL.1
  have HN := Lib.hid hn
  clear hn
  go_enter Try.func79, Try.ntmps79
  go_wp2
  go_loopw [5, 6] (fun rv iv wr => ∃ k r : Nat, ∃ L, rv = .int .u64 r ∧ iv = .int .i64 ((k : Int) - 1) ∧ k ≤ n ∧ DivAt xs v k L r ∧ Bk wr g L ∧ w.grownBy wr (some g)) (fun _ iv _ => (intOf iv + 1).toNat)
  case atStart => exact ⟨n, 0, xs, rfl, rfl, Nat.le_refl _, by rw [← HN.out]; exact DivAt.start hs hv, hL, ⟨rfl, rfl, rfl, Nat.le_refl _, fun _ _ _ => rfl⟩⟩
  case round =>
    obtain ⟨k, r, L, rfl, rfl, hk, hD, hB, hg⟩ := hrel
    have hlt := hD.lt
    rcases Nat.eq_zero_or_pos k with hk0 | hk0
    · subst hk0
      obtain ⟨d1, d2⟩ := hD.done
      have H := Lib.hid (show w.grownBy wr (some g) ∧ ∃ qs, qs.length = n ∧ val qs = val xs / v ∧ Bk wr g qs from ⟨hg, L, by rw [hD.len, HN.out], d1, hB⟩)
      have HR := Lib.hid d2
      clear d1 d2 hD hB hg
      go_wp2
      go_ret
      exact ⟨by rw [← HR.out]; rfl, H.out⟩
    · obtain ⟨i, rfl⟩ : ∃ i, k = i + 1 := ⟨k - 1, by omega⟩
      have ei : (((i + 1 : Nat) : Int) - 1) = (i : Int) := by omega
      rw [ei]
      have hl : L.length = n := by rw [hD.len, HN.out]
      have hcx := hB.cell i (by omega)
      rw [getD_take_eq hD.low] at hcx
      have hfx := hB.frozen i
      have hx1 := small_get hs i
      have hnx := hD.next hs (by rw [HN.out]; omega)
      obtain ⟨x, hx⟩ : ∃ x, x = xs.getD i 0 := ⟨_, rfl⟩
      rw [← hx] at hcx hx1 hnx
      have hor := shl_or2 r x (by omega) hx1
      have hq1 := div_word_lt hlt hx1
      have hr1 := Nat.mod_lt (r * 4294967296 + x) hv
      have hT1 : r * 4294967296 + x < 18446744073709551616 := by omega
      obtain ⟨T, hT⟩ : ∃ T, T = r * 4294967296 + x := ⟨_, rfl⟩
      rw [← hT] at hor hnx hq1 hr1 hT1
      have ed : (T : Int) / (v : Int) = ((T / v : Nat) : Int) := by simp
      have em : (T : Int) % (v : Int) = ((T % v : Nat) : Int) := by simp
      obtain ⟨q, hq⟩ : ∃ q, q = T / v := ⟨_, rfl⟩
      obtain ⟨r', hr'⟩ : ∃ r', r' = T % v := ⟨_, rfl⟩
      rw [← hq] at ed hnx hq1
      rw [← hr'] at em hnx hr1
      have hbn := hB.set_ i q hq1
      have hgn := grown_setCell hg (p := ⟨g, i, none⟩) (.inl rfl) (.int .u32 (q : Int))
      have H1 := Lib.hid hnx
      have H2 := Lib.hid hbn
      have H3 := Lib.hid hgn
      clear hq hr' hT hx hnx hbn hgn hD hB hg hl hs ei
      go_wp2
      go_roundw
      case measure => simp [intOf]
      case rel => exact ⟨i, r', _, by rw [em], rfl, by omega, H1.out, H2.out, H3.out⟩
end Go.Proofs.Ytmgkgomecakoiaa
