/- decimal texts: division by a word of a part of a block; groupsOf -/
import Derived.Test.YthjdnidapbhdlaaDoorGc
import Derived.Lib.OwnBridge
import Derived.Laws.AppendOwn
set_option maxRecDepth 100000
namespace Go.Proofs.YthjdnidapbhdlaaDoor
open Go.RowKit Go.Sort
theorem getD_app_left {L T : List Nat} {i : Nat} (h : i < L.length) : (L ++ T).getD i 0 = L.getD i 0 := by
  simp [List.getD_eq_getElem?_getD, List.getElem?_append_left h]
set_option maxHeartbeats 800000 in
theorem divideByWord2_c (g n c v : Nat) (xs T : List Nat) (w : World) (hL : Bk w g (xs ++ T)) (hn : xs.length = n) (hn2 : n ≤ 9223372036854775800) (hv : 0 < v) (hv2 : v < 4294967296) :
    Calls Tryd.prog 87 #[.slice (some ⟨g, 0, none⟩) n c, .int .u32 (v : Int)] w fun e w' => e = .returned (.int .u32 ((val xs % v : Nat) : Int)) ∧ w.grownBy w' (some g) ∧ ∃ qs, qs.length = n ∧ val qs = val xs / v ∧ Bk w' g (qs ++ T) := by
  have hs := (small_append.1 hL.1).1
  have HN := Lib.hid hn
  clear hn
  go_enter Tryd.func87, Tryd.ntmps87
  go_wp2
  go_loopw [5, 6] (fun rv iv wr => ∃ k r : Nat, ∃ L, rv = .int .u64 r ∧ iv = .int .i64 ((k : Int) - 1) ∧ k ≤ n ∧ DivAt xs v k L r ∧ Bk wr g (L ++ T) ∧ w.grownBy wr (some g)) (fun _ iv _ => (intOf iv + 1).toNat)
  case atStart => exact ⟨n, 0, xs, rfl, rfl, Nat.le_refl _, by rw [← HN.out]; exact DivAt.start hs hv, hL, ⟨rfl, rfl, rfl, Nat.le_refl _, fun _ _ _ => rfl⟩⟩
  case round =>
    obtain ⟨k, r, L, rfl, rfl, hk, hD, hB, hg⟩ := hrel
    have hlt := hD.lt
    rcases Nat.eq_zero_or_pos k with hk0 | hk0
    · subst hk0
      obtain ⟨d1, d2⟩ := hD.done
      have H := Lib.hid (show w.grownBy wr (some g) ∧ ∃ qs, qs.length = n ∧ val qs = val xs / v ∧ Bk wr g (qs ++ T) from ⟨hg, L, by rw [hD.len, HN.out], d1, hB⟩)
      have HR := Lib.hid d2
      clear d1 d2 hD hB hg
      go_wp2
      go_ret
      exact ⟨by rw [← HR.out]; rfl, H.out⟩
    · obtain ⟨i, rfl⟩ : ∃ i, k = i + 1 := ⟨k - 1, by omega⟩
      have ei : (((i + 1 : Nat) : Int) - 1) = (i : Int) := by omega
      rw [ei]
      have hl : L.length = n := by rw [hD.len, HN.out]
      have hcx := hB.cell i (by rw [List.length_append]; omega)
      rw [getD_app_left (show i < L.length by omega)] at hcx
      rw [getD_take_eq hD.low] at hcx
      have hfx := hB.frozen i
      have hx1 := small_get hs i
      have hnx := hD.next hs (by rw [HN.out]; omega)
      obtain ⟨x, hx⟩ : ∃ x, x = xs.getD i 0 := ⟨_, rfl⟩
      rw [← hx] at hcx hx1 hnx
      have hor := shl_or2 r x (by omega) hx1
      have hq1 := div_word_lt hlt hx1
      have hr1 := Nat.mod_lt (r * 4294967296 + x) hv
      have hT1 : r * 4294967296 + x < 18446744073709551616 := by omega
      obtain ⟨T, hT⟩ : ∃ T, T = r * 4294967296 + x := ⟨_, rfl⟩
      rw [← hT] at hor hnx hq1 hr1 hT1
      have ed : (T : Int) / (v : Int) = ((T / v : Nat) : Int) := by simp
      have em : (T : Int) % (v : Int) = ((T % v : Nat) : Int) := by simp
      obtain ⟨q, hq⟩ : ∃ q, q = T / v := ⟨_, rfl⟩
      obtain ⟨r', hr'⟩ : ∃ r', r' = T % v := ⟨_, rfl⟩
      rw [← hq] at ed hnx hq1
      rw [← hr'] at em hnx hr1
      have hbn := hB.set_ i q hq1
      rw [List.set_append_left _ _ (show i < L.length by omega)] at hbn
      have hgn := grown_setCell hg (p := ⟨g, i, none⟩) (.inl rfl) (.int .u32 (q : Int))
      have H1 := Lib.hid hnx
      have H2 := Lib.hid hbn
      have H3 := Lib.hid hgn
      clear hq hr' hT hx hnx hbn hgn hD hB hg hl hs ei
      go_wp2
      go_roundw
      case measure => simp [intOf]
      case rel => exact ⟨i, r', _, by rw [em], rfl, by omega, H1.out, H2.out, H3.out⟩
/-- how far the groups are -/
def GrpAt (V v : Nat) (gs : List Nat) : Prop := (gs = [] ∧ v = V) ∨ (gs ≠ [] ∧ grp V = (if v = 0 then [] else grp v) ++ gs.reverse)
theorem GrpAt.next {V v : Nat} {gs : List Nat} (h : GrpAt V v gs) (hv : v ≠ 0) : GrpAt V (v / 1000000000) (gs ++ [v % 1000000000]) := by
  refine .inr ⟨by simp, ?_⟩
  rw [List.reverse_append]
  have e : grp v = (if v / 1000000000 = 0 then [] else grp (v / 1000000000)) ++ [v % 1000000000] := by
    by_cases hb : v < 1000000000
    · rw [grp_small hb, if_pos (by omega), List.nil_append, Nat.mod_eq_of_lt hb]
    · rw [grp_big (by omega), if_neg (by omega)]
  rcases h with ⟨rfl, rfl⟩ | ⟨_, h⟩
  · simpa using e
  · rw [h, if_neg hv, e]
    simp
theorem GrpAt.done {V : Nat} {gs : List Nat} (h : GrpAt V 0 gs) (hg : gs ≠ []) : grp V = gs.reverse := by
  rcases h with ⟨h, _⟩ | ⟨_, h⟩
  · exact absurd h hg
  · simpa using h
end Go.Proofs.YthjdnidapbhdlaaDoor
