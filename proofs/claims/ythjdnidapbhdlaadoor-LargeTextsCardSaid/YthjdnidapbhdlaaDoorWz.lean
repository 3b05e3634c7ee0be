import Derived.Test.YthjdnidapbhdlaaDoorWm
import Derived.Test.YthjdnidapbhdlaaDoorWu
import Derived.Deep.LoopGhost
namespace Go.Proofs.YthjdnidapbhdlaaDoor
open Go.RowKit

/-- r is the root of X, rounded down -/
def IsRoot (X r : Nat) : Prop := r * r ≤ X ∧ X < (r + 1) * (r + 1)
theorem IsRoot.unique {X r s : Nat} (h : IsRoot X r) (k : IsRoot X s) : r = s := by
  rcases Nat.lt_trichotomy r s with h1 | h1 | h1
  · have := Nat.mul_le_mul h1 h1
    have a := h.2
    have b := k.1
    simp only [Nat.succ_eq_add_one] at this
    omega
  · exact h1
  · have := Nat.mul_le_mul h1 h1
    have a := k.2
    have b := h.1
    simp only [Nat.succ_eq_add_one] at this
    omega
theorem newton {X S : Nat} (hS : 0 < S) (hX : 0 < X) : X < ((S + X / S) / 2 + 1) * ((S + X / S) / 2 + 1) ∧ 0 < (S + X / S) / 2 := by
  have h1 : X < S * (X / S + 1) := by
    have h1 := Nat.div_add_mod X S
    have h2 := Nat.mod_lt X hS
    rw [Nat.mul_add, Nat.mul_one]
    omega
  obtain ⟨q, hq⟩ : ∃ q, q = X / S := ⟨_, rfl⟩
  rw [← hq] at h1 ⊢
  obtain ⟨T, hT⟩ : ∃ T, T = (S + q) / 2 + 1 := ⟨_, rfl⟩
  have h2 : S + q + 1 ≤ 2 * T := by omega
  have h3 : (S + (q + 1)) * (S + (q + 1)) ≤ (2 * T) * (2 * T) := Nat.mul_le_mul (by omega) (by omega)
  have h4 : 4 * (S * (q + 1)) ≤ (S + (q + 1)) * (S + (q + 1)) := by
    generalize q + 1 = p
    rcases Nat.le_total S p with h | h
    · obtain ⟨d, rfl⟩ : ∃ d, p = S + d := ⟨p - S, by omega⟩
      grind
    · obtain ⟨d, rfl⟩ : ∃ d, S = p + d := ⟨S - p, by omega⟩
      grind
  have h5 : (2 * T) * (2 * T) = 4 * (T * T) := by grind
  refine ⟨by rw [← hT]; omega, ?_⟩
  by_cases hs1 : S = 1
  · subst hs1
    rw [Nat.div_one] at hq
    omega
  · omega
theorem newton_stop {X S : Nat} (h : S ≤ (S + X / S) / 2) : S * S ≤ X := by
  have h1 : S ≤ X / S := by omega
  exact Nat.le_trans (Nat.mul_le_mul_left S h1) (Nat.mul_div_le X S)
theorem root_start (X : Nat) : X < (2 ^ ((blen X + 1) / 2) + 1) * (2 ^ ((blen X + 1) / 2) + 1) := by
  have h := blen_lt X
  have h2 : 2 ^ blen X ≤ 2 ^ ((blen X + 1) / 2) * 2 ^ ((blen X + 1) / 2) := by
    rw [← Nat.pow_add]
    exact Nat.pow_le_pow_right (by omega) (by omega)
  have h3 : 2 ^ ((blen X + 1) / 2) * 2 ^ ((blen X + 1) / 2) ≤ (2 ^ ((blen X + 1) / 2) + 1) * (2 ^ ((blen X + 1) / 2) + 1) := Nat.mul_le_mul (by omega) (by omega)
  omega

def RootPost (w : World) (X : Nat) (e : Ending) (w' : World) : Prop := ∃ r, IsRoot X r ∧ Out w r e w'
def Start (wr : World) (w : World) (X K S : Nat) (B : Option Addr) (d : Nat) : Prop :=
  0 < S ∧ S ≤ K ∧ X < (S + 1) * (S + 1) ∧ Rd wr B (words S).length (words S) ∧ (words S).length ≤ d ∧ d ≤ 9223372036854775807 ∧ Below w.heap.size w wr ∧
    (0 < (words S).length → ∃ g L, B = some ⟨g, 0, none⟩ ∧ w.heap.size ≤ g ∧ Bk wr g L ∧ L.take (words S).length = words S)

set_option maxHeartbeats 1000000 in
set_option maxRecDepth 100000 in
theorem root_flat (A : Option Addr) (n c : Nat) (xs : List Nat) (w : World) (h : Rd w A n xs) (cx : canon xs) (hn : n ≤ 4096) (hb : blen (val xs) ≤ 127)
    (DV : Hid (∀ S B m d w', 0 < S → S ≤ 2 ^ ((blen (val xs) + 1) / 2) → Rd w' A n xs → Rd w' B m (words S) → Calls Tryd.prog 80 #[.slice A n c, .slice B m d] w' (Out2 w' (val xs / S) (val xs % S)))) :
    Calls Tryd.prog 83 #[.slice A n c] w (RootPost w (val xs)) := by
  have DG := Lib.hid (digits_c A n c xs w h cx (by omega))
  obtain ⟨X, hX⟩ : ∃ X, X = val xs := ⟨_, rfl⟩
  have hxl : (words X).length ≤ 4096 := by rw [hX, words_val cx, h.len]; exact hn
  rw [← hX] at hb DV DG ⊢
  clear hX cx
  by_cases h0 : X = 0
  · have hz : blen X = 0 := by rw [h0]; rfl
    obtain ⟨bl, hbl⟩ : ∃ bl, bl = blen X := ⟨_, rfl⟩
    have HZ := Lib.hid (show RootPost w X (.returned (.slice none 0 0)) w by
      rw [h0]; exact ⟨0, ⟨by omega, by omega⟩, out_zero w⟩)
    have t : ((bl : Int) == 0) = true := by rw [hbl, hz]; rfl
    rw [← hbl] at DG
    clear hbl hz h0
    go_enter Tryd.func83, Tryd.ntmps83
    go_wp2_with fail
    refine DG.out.mono ?_
    rintro e w1 ⟨rfl, rfl⟩
    go_wp2
    go_ret
    exact HZ.out
  · have hb1 := blen_pos h0
    have HS := Lib.hid (root_start X)
    obtain ⟨K, hK⟩ : ∃ K, K = 2 ^ ((blen X + 1) / 2) := ⟨_, rfl⟩
    rw [← hK] at DV HS
    obtain ⟨bl, hbl⟩ : ∃ bl, bl = blen X := ⟨_, rfl⟩
    rw [← hbl] at hK hb hb1 DG
    obtain ⟨hf, hhf⟩ : ∃ hf, hf = (bl + 1) / 2 := ⟨_, rfl⟩
    rw [← hhf] at hK
    have e1 : ((bl : Int) + 1) / 2 = (hf : Int) := by omega
    have hf1 : hf ≤ 64 := by omega
    have t : ((bl : Int) == 0) = false := by rw [beq_eq_false_iff_ne]; omega
    have KP : 0 < K := by rw [hK]; exact two_pos hf
    have HK := Lib.hid hK
    have HX0 := Lib.hid h0
    have KL : (words K).length ≤ 3 := by
      refine words_len_le.2 ?_
      rw [hK, pw_two]
      exact Nat.pow_lt_pow_right (by omega) (by omega)
    have HKL := Lib.hid KL
    clear hbl hhf hK h0 KL
    go_enter Tryd.func83, Tryd.ntmps83
    go_wp2_with fail
    refine DG.out.mono ?_
    rintro e w1 ⟨rfl, rfl⟩
    go_wp2_with fail
    rw [show Obj.cells #[.int .u32 1] 86 = row [1] from rfl]
    have k1 := Bk.new w1 (small_one (show 1 < 4294967296 by omega))
    rw [e1]
    refine (shiftUp_c _ 1 1 hf [1] _ k1.rd (by omega) (by omega)).mono ?_
    rw [val_one, Nat.one_mul, ← HK.out]
    rintro e w2 ⟨B, d, rfl, u1, u2, u3, u4, u5⟩
    have ST : Start w2 w1 X K K B d := ⟨KP, Nat.le_refl _, HS.out, u1, u2, u3, ((Below.refl _ _).alloc (Nat.le_refl _) _).trans (u4.mono (by simp)), fun hp => by
      obtain ⟨g, L, y1, y2, y3, y4⟩ := u5 hp
      exact ⟨g, L, y1, by simp at y2; omega, y3, y4⟩⟩
    clear u1 u2 u3 u4 u5 k1
    go_wp2_with fail
    go_loopg [4] K (fun gk v wr => ∃ S B d, v = .slice B (words S).length d ∧ Start wr w1 X K S B d ∧ S ≤ gk)
    case atStart => exact ⟨K, B, d, rfl, ST, Nat.le_refl _⟩
    case round =>
      obtain ⟨S, B, d, rfl, hST, hgk⟩ := hrel
      obtain ⟨s1, s2, s3, s4, s5, s6, s7, s8⟩ := hST
      have l1 : (words S).length ≤ 3 := Nat.le_trans (words_mono s2) HKL.out
      have l2 : (words (X / S)).length ≤ 4096 := Nat.le_trans (words_mono (Nat.div_le_self X S)) hxl
      have l3 : (words (S + X / S)).length ≤ 4097 := by
        have h1 := lt_pw_words S
        have h2 := lt_pw_words (X / S)
        have h3 := pw_le (show (words S).length ≤ 4096 by omega)
        have h4 := pw_le l2
        have h5 : pw 4097 = 4294967296 * pw 4096 := pw_succ 4096
        exact words_len_le.2 (by omega)
      have NW := Lib.hid (newton s1 (show 0 < X by have := HX0.out; omega))
      have NS := Lib.hid (@newton_stop X S)
      obtain ⟨N, hN⟩ : ∃ N, N = (S + X / S) / 2 := ⟨_, rfl⟩
      have HN := Lib.hid hN
      rw [← hN] at NW NS
      have l4 : (words N).length ≤ 4097 := Nat.le_trans (words_mono (by omega)) l3
      have s9 := Lib.hid s8
      clear s8 hN
      go_wp2_with fail
      refine (DV.out S B _ d wr s1 s2 (h.below s7) s4).mono ?_
      rintro e w2 ⟨Aq, cq, Ar, cr, rfl, q1, q2, q3, -, -, -, q4⟩
      go_wp2_with fail
      refine (add_c B Aq _ d _ cq (words S) (words (X / S)) w2 (s4.below q4) q1 (by omega) (by omega)).mono ?_
      rw [val_words, val_words]
      rintro e w3 ⟨As, cs, rfl, a1, a2, a3, a4, -⟩
      go_wp2_with fail
      refine (shiftDown_c As _ cs 1 (words (S + X / S)) w3 a1 (by omega) (by omega)).mono ?_
      rw [val_words, Nat.pow_one, ← HN.out]
      rintro e w4 ⟨An, cn, rfl, n1, n2, n3, n4, n5⟩
      have b24 := a4.trans (n4.mono a4.size)
      have br4 : Below wr.heap.size wr w4 := q4.trans (b24.mono q4.size)
      have bw4 : Below w1.heap.size w1 w4 := s7.trans (br4.mono s7.size)
      have s4' := s4.below br4
      go_wp2_with fail
      refine (compare_c An B _ cn _ d (words N) (words S) w4 n1 s4' (words_canon _) (words_canon _) (by omega) (by omega)).mono ?_
      rw [val_words, val_words]
      rintro e w5 ⟨rfl, k, rfl⟩
      by_cases hNS : N < S
      · have ho := ord_lt (show (N : Int) < (S : Int) by omega)
        rw [ho]
        have NX : Start (w4.drewN k) w1 X K N An cn := ⟨NW.out.2, by omega, NW.out.1, n1.drewN k, n2, n3, below_drewN bw4 k, fun hp => by
          obtain ⟨g, L, y1, y2, y3, y4⟩ := n5 hp
          exact ⟨g, L, y1, by have := b24.size; have := q4.size; have := s7.size; have := a4.size; omega, y3.drewN k, y4⟩⟩
        have HNX := Lib.hid NX
        clear NX n1 n2 n3 n4 n5 ho b24 br4 bw4 s4' a1 a4 q1 q4
        go_wp2_with fail
        go_roundg N
        case measure => omega
        case rel => exact ⟨N, An, cn, rfl, HNX.out, Nat.le_refl _⟩
      · have ho : 0 ≤ ord (N : Int) (S : Int) := by
          rcases Nat.lt_or_ge S N with h1 | h1
          · rw [ord_gt (by omega)]; omega
          · rw [ord_eq (by omega)]; exact Int.le_refl _
        obtain ⟨od, hod⟩ : ∃ od, od = ord (N : Int) (S : Int) := ⟨_, rfl⟩
        rw [← hod] at ho ⊢
        have HR := Lib.hid (show RootPost w1 X (.returned (.slice B (words S).length d)) (w4.drewN k) from ⟨S, ⟨NS.out (by omega), s3⟩, B, d, rfl, s4'.drewN k, s5, s6, below_drewN bw4 k, fun hp => by
          obtain ⟨g, L, y1, y2, y3, y4⟩ := s9.out hp
          exact ⟨g, L, y1, y2, (y3.below br4 y3.lt).drewN k, y4⟩⟩)
        clear hod n1 n2 n3 n4 n5 b24 br4 bw4 s4' a1 a4 q1 q4
        go_wp2_with fail
        go_ret
        exact HR.out
end Go.Proofs.YthjdnidapbhdlaaDoor
