/- decimal texts: large's readGroups -/
import Derived.Laws.IdiomStrings
import Derived.OwnWalk
import Derived.Deep.LoopGhost
import Derived.Test.YthjdnidapbhdlaaDoorGd
set_option maxRecDepth 100000
namespace Go.Proofs.YthjdnidapbhdlaaDoor
open Go.RowKit Go.Sort
theorem eq_words {L : List Nat} (hs : small L) (h : L = [] ∨ pw (L.length - 1) ≤ val L) : L = words (val L) := by
  have h1 := take_words hs
  rcases h with h | h
  · subst h
    show [] = words (val [])
    rw [show val [] = 0 from rfl, words_zero]
  · rw [← words_len_lt] at h
    have h2 : (words (val L)).length = L.length := by
      have := h1.2
      omega
    rw [h2, List.take_of_length_le (Nat.le_refl _)] at h1
    exact h1.1
/-- words times M, plus c, as far as i -/
structure MulAt (W : List Nat) (M c i : Nat) (L : List Nat) (carry : Nat) : Prop where
  len : L.length = W.length
  sm : small L
  hi : L.drop i = W.drop i
  lt : carry < M
  eq : val (L.take i) + pw i * carry = val (W.take i) * M + c
theorem MulAt.start {W : List Nat} {M c : Nat} (hs : small W) (hc : c < M) : MulAt W M c 0 W c :=
  ⟨rfl, hs, rfl, hc, by simp [val, pw_zero]⟩
theorem MulAt.get {W : List Nat} {M c i : Nat} {L : List Nat} {carry : Nat} (h : MulAt W M c i L carry) : L.getD i 0 = W.getD i 0 := by
  have := congrArg (fun l : List Nat => l.getD 0 0) h.hi
  simpa [List.getD_eq_getElem?_getD, List.getElem?_drop] using this
theorem MulAt.next {W : List Nat} {M c i : Nat} {L : List Nat} {carry : Nat} (h : MulAt W M c i L carry) (hi : i < W.length) (hs : small W) {t : Nat} (ht : t = W.getD i 0 * M + carry) :
    MulAt W M c (i + 1) (L.set i (t % 4294967296)) (t / 4294967296) ∧ t < 4294967296 * M := by
  have hx := small_get hs i
  have hlt := h.lt
  have hl := h.len
  have htl : t < 4294967296 * M := by
    have : W.getD i 0 * M ≤ 4294967295 * M := Nat.mul_le_mul_right _ (by omega)
    omega
  refine ⟨⟨by rw [List.length_set]; exact hl, small_set h.sm _ _ (Nat.mod_lt _ (by omega)), ?_, by omega, ?_⟩, htl⟩
  · have := congrArg (List.drop 1) h.hi
    rw [List.drop_drop, List.drop_drop] at this
    rw [List.drop_set_of_lt (by omega)]
    exact this
  · have e1 : (L.set i (t % 4294967296)).take (i + 1) = L.take i ++ [t % 4294967296] := by
      rw [List.take_succ_eq_append_getElem (by rw [List.length_set]; omega), List.take_set_of_le (Nat.le_refl _)]
      simp
    have e2 : val (L.take i ++ [t % 4294967296]) = val (L.take i) + pw i * (t % 4294967296) := by
      rw [val_append, List.length_take, Nat.min_eq_left (by omega)]
      simp [val]
    rw [e1, e2, val_take_succ W i hi, pw_succ]
    have e := h.eq
    have hd := Nat.div_add_mod t 4294967296
    generalize val (L.take i) = a at *
    generalize val (W.take i) = b at *
    generalize pw i = p at *
    generalize W.getD i 0 = x at *
    generalize t / 4294967296 = q at *
    generalize t % 4294967296 = r at *
    subst ht
    have e3 : a + p * r + 4294967296 * p * q = a + p * (4294967296 * q + r) := by grind
    rw [e3, hd]
    grind
theorem MulAt.done {W : List Nat} {M c v : Nat} {L : List Nat} {carry : Nat} (h : MulAt W M c W.length L carry) (hW : W = words v) (hM : 0 < M) (hM2 : M ≤ 1000000000) :
    (carry = 0 → L = words (v * M + c)) ∧ (carry ≠ 0 → L ++ [carry] = words (v * M + c)) := by
  have hl := h.len
  have e := h.eq
  have hlt := h.lt
  rw [List.take_of_length_le (by omega), List.take_of_length_le (Nat.le_refl _)] at e
  have hv : val W = v := by rw [hW, val_words]
  rw [hv] at e
  constructor
  · intro h0
    rw [h0, Nat.mul_zero, Nat.add_zero] at e
    rw [← e]
    refine eq_words h.sm ?_
    rcases Nat.eq_zero_or_pos L.length with h1 | h1
    · exact .inl (List.eq_nil_of_length_eq_zero h1)
    · right
      have : L.length - 1 < (words v).length := by rw [← hW]; omega
      rw [words_len_lt] at this
      have h2 : v ≤ v * M := Nat.le_mul_of_pos_right _ hM
      omega
  · intro h0
    have ev : val (L ++ [carry]) = v * M + c := by
      rw [val_append, hl]
      simpa [val] using e
    rw [← ev]
    refine eq_words (small_append.2 ⟨h.sm, fun x hx => by simp only [List.mem_singleton] at hx; omega⟩) (.inr ?_)
    rw [List.length_append, List.length_singleton, Nat.add_sub_cancel, ev, ← e, hl]
    have := Nat.le_mul_of_pos_right (pw W.length) (show 0 < carry by omega)
    omega
theorem own_set {w : World} {B g n cap i : Nat} {zs : List Nat} (h : w.ownsRow B 86 1 (.slice (some ⟨g, 0, none⟩) n cap) n (zs.map enc32)) (v : Nat) :
    (w.setCell ⟨g, i, none⟩ (.int .u32 (v : Int))).ownsRow B 86 1 (.slice (some ⟨g, 0, none⟩) n cap) n ((zs.set i v).map enc32) := by
  refine ⟨by simpa using h.1, .inr ?_⟩
  rcases h.2 with ⟨e, _⟩ | ⟨g', cap', cur, e, hB, hh, hn, hm, hs, ht⟩
  · cases e
  · injection e with e1 e2 e3
    injection e1 with e1
    injection e1 with e1
    subst e1 e3
    refine ⟨g, cap, cur.setIfInBounds i (.int .u32 (v : Int)), rfl, hB, ?_, hn, hm, by simpa using hs, ?_⟩
    · simp [World.setCell, Array.getElem?_modify, hh]
    · rw [Nat.mul_one] at ht ⊢
      rw [Array.toList_setIfInBounds, List.take_set, ht, List.map_set]
theorem own_cell {w : World} {B g n cap i : Nat} {zs : List Nat} (h : w.ownsRow B 86 1 (.slice (some ⟨g, 0, none⟩) n cap) n (zs.map enc32)) (hi : i < n) :
    w.cell? ⟨g, i, none⟩ = some (.int .u32 ((zs.getD i 0 : Nat) : Int)) ∧ w.frozen? ⟨g, i, none⟩ = false ∧ B ≤ g ∧ g < w.heap.size := by
  obtain ⟨g', cap', e, hB, hlt, _, _, hl, hH⟩ := Lib.holds_of_ownsRow h (by simp)
  injection e with e1 e2 e3
  injection e1 with e1
  injection e1 with e1
  subst e1
  have hi' : i < zs.length := by omega
  obtain ⟨h1, h2⟩ := hH i (by simpa using hi')
  rw [Nat.zero_add] at h1 h2
  refine ⟨?_, h2, hB, hlt⟩
  rw [h1]
  simp only [enc32, List.getElem!_toArray]
  rw [getElem!_pos _ i hi', List.getD_eq_getElem?_getD, List.getElem?_eq_getElem hi']
  rfl
end Go.Proofs.YthjdnidapbhdlaaDoor
