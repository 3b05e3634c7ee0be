import Derived.Test.YtbblckaplddggaaWz
import Derived.Test.YtbblckaplddggaaFf
import Derived.Test.YtbblckaplddggaaRd
set_option maxRecDepth 100000
namespace Go.Proofs.Ytbblckaplddggaa
open Go.RowKit
theorem root_start2 {X r k : Nat} (h : IsRoot (X / 2 ^ (2 * k)) r) : X < ((r + 1) * 2 ^ k + 1) * ((r + 1) * 2 ^ k + 1) := by
  have h1 := h.2
  have hp : 0 < 2 ^ (2 * k) := Nat.pow_pos (by omega)
  rw [Nat.div_lt_iff_lt_mul hp] at h1
  have h2 : (r + 1) * (r + 1) * 2 ^ (2 * k) = ((r + 1) * 2 ^ k) * ((r + 1) * 2 ^ k) := by
    rw [Nat.two_mul, Nat.pow_add]
    generalize 2 ^ k = z
    grind
  rw [h2] at h1
  exact Nat.lt_of_lt_of_le h1 (Nat.mul_le_mul (by omega) (by omega))
theorem blen_len {X k : Nat} (h : (words X).length ≤ k) : blen X ≤ 32 * k := blen_le.2 (by have := words_len_le.1 h; rw [pw_two] at this; exact this)
theorem two_len {j k : Nat} (h : j < 32 * k) : (words (2 ^ j)).length ≤ k := words_len_le.2 (by rw [pw_two]; exact Nat.pow_lt_pow_right (by omega) h)
/-- root is right for numbers of fewer digits -/
def RootUpTo (N : Nat) : Prop := ∀ (A : Option Addr) (n c : Nat) (xs : List Nat) (w : World), Rd w A n xs → canon xs → n ≤ 4096 → blen (val xs) < N → Calls Try.prog 103 #[.slice A n c] w (RootPost w (val xs))
set_option maxHeartbeats 2000000 in
theorem root_big (A : Option Addr) (n c : Nat) (xs : List Nat) (w : World) (h : Rd w A n xs) (cx : canon xs) (hn : n ≤ 4096) (hb : 127 < blen (val xs)) (IH : RootUpTo (blen (val xs))) :
    Calls Try.prog 103 #[.slice A n c] w (RootPost w (val xs)) := by
  have DG := Lib.hid (digits_c A n c xs w h cx (by omega))
  have RAX := Lib.hid h
  have DV := Lib.hid (fun (S : Nat) (B : Option Addr) (m d : Nat) (w' : World) (hS : 0 < S) (hl : (words S).length ≤ 6000) (h1 : Rd w' A n xs) (h2 : Rd w' B m (words S)) => show Calls Try.prog 79 #[.slice A n c, .slice B m d] w' (Out2 w' (val xs / S) (val xs % S)) by
    have hm : m = (words S).length := h2.len.symm
    have := divide_c A B n c m d xs (words S) w' h1 h2 cx (words_canon _) (by omega) (by omega) (by rw [hm]; exact len_pos.2 (by omega))
    rwa [val_words] at this)
  obtain ⟨X, hX⟩ : ∃ X, X = val xs := ⟨_, rfl⟩
  have HX := Lib.hid hX
  have hxl : (words X).length ≤ 4096 := by rw [hX, words_val cx, h.len]; exact hn
  rw [← hX] at hb DV DG IH ⊢
  have HN := Lib.hid hn
  clear hX cx h hn
  have h0 : X ≠ 0 := by
    intro e
    rw [e] at hb
    have : blen 0 = 0 := rfl
    omega
  obtain ⟨bl, hbl⟩ : ∃ bl, bl = blen X := ⟨_, rfl⟩
  rw [← hbl] at hb DG IH
  have hblm : bl ≤ 131072 := by rw [hbl]; exact Nat.le_trans (blen_len hxl) (by omega)
  obtain ⟨hf, hhf⟩ : ∃ hf, hf = (bl + 1) / 2 := ⟨_, rfl⟩
  obtain ⟨by', hby⟩ : ∃ k, k = bl / 4 := ⟨_, rfl⟩
  obtain ⟨b2, hb2⟩ : ∃ k, k = 2 * by' := ⟨_, rfl⟩
  have e1 : ((bl : Int) + 1) / 2 = (hf : Int) := by omega
  have e2 : (bl : Int) / 4 = (by' : Int) := by omega
  have e3 : (2 : Int) * (by' : Int) = (b2 : Int) := by omega
  have hf1 : hf ≤ 65537 := by omega
  have by1 : 31 < by' := by omega
  have by2 : by' ≤ 32768 := by omega
  have by3 : (32 : Int) ≤ (by' : Int) := by omega
  have b21 : b2 ≤ 65536 := by omega
  have t : ((bl : Int) == 0) = false := by rw [beq_eq_false_iff_ne]; omega
  have HX0 := Lib.hid h0
  have HB2 := Lib.hid hb2
  have HIH := Lib.hid (fun (A1 : Option Addr) (c1 : Nat) (W : World) (hr : Rd W A1 (words (X / 2 ^ b2)).length (words (X / 2 ^ b2))) => show Calls Try.prog 103 #[.slice A1 (words (X / 2 ^ b2)).length c1] W (RootPost W (X / 2 ^ b2)) by
    have := IH A1 _ c1 (words (X / 2 ^ b2)) W hr (words_canon _) (Nat.le_trans (words_mono (Nat.div_le_self _ _)) hxl) (by
      rw [val_words]
      have h1 : blen (X / 2 ^ b2) ≤ bl - b2 := by
        refine blen_le.2 ?_
        have h2 := blen_le.1 (Nat.le_of_eq hbl.symm)
        refine Nat.div_lt_of_lt_mul ?_
        rw [← Nat.pow_add]
        rwa [show b2 + (bl - b2) = bl by omega]
      omega)
    rwa [val_words] at this)
  clear hbl hhf hby hb2 h0 IH
  go_enter Try.func103, Try.ntmps103
  go_wp2_with fail
  refine DG.out.mono ?_
  rintro e w1 ⟨rfl, rfl⟩
  go_wp2_with fail
  rw [show Obj.cells #[.int .u32 1] 60 = row [1] from rfl]
  have k1 := Bk.new w1 (small_one (show 1 < 4294967296 by omega))
  rw [e1]
  refine (shiftUp_c _ 1 1 hf [1] _ k1.rd (by omega) (by omega)).mono ?_
  rintro e w2 ⟨B0, d0, rfl, -, -, -, u4, -⟩
  have BW := Lib.hid (((Below.refl w1.heap.size w1).alloc (Nat.le_refl _) (row [1])).trans (u4.mono (by simp)))
  clear u4 k1
  go_wp2_with fail
  refine (shiftDown_c A n c b2 xs w2 (RAX.out.below BW.out) (by have := HN.out; omega) (by omega)).mono ?_
  rw [← HX.out]
  rintro e w3 ⟨A3, c3, rfl, a1, a2, a3, a4, -⟩
  replace BW := Lib.hid (BW.out.trans (a4.mono BW.out.size))
  clear a4
  go_wp2_with fail
  refine (HIH.out A3 c3 _ a1).mono ?_
  rintro e w4 ⟨r, hr, A4, c4, rfl, r1, r2, r3, r4, -⟩
  replace BW := Lib.hid (BW.out.trans (r4.mono BW.out.size))
  have HR := Lib.hid hr
  have lr : (words r).length ≤ 4096 := by
    have h1 := hr.1
    have h2 : r ≤ X / 2 ^ b2 := Nat.le_trans (by rcases Nat.eq_zero_or_pos r with h | h; · omega
                                                 · exact Nat.le_mul_of_pos_left r h) h1
    exact Nat.le_trans (words_mono (Nat.le_trans h2 (Nat.div_le_self _ _))) hxl
  clear a1 a2 a3 r4 hr
  go_wp2_with fail
  rw [show Obj.cells #[.int .u32 1] 60 = row [1] from rfl]
  have k1 := Bk.new w4 (small_one (show 1 < 4294967296 by omega))
  have kb := below_alloc w4 (row [1])
  refine (add_c A4 _ _ c4 1 1 (words r) [1] _ (r1.below kb) k1.rd (by omega) (by omega)).mono ?_
  rw [val_words, val_one]
  rintro e w5 ⟨A5, c5, rfl, p1, p2, p3, p4, -⟩
  replace BW := Lib.hid (BW.out.trans ((kb.trans (p4.mono kb.size)).mono BW.out.size))
  have lr1 : (words (r + 1)).length ≤ 4097 := sum_len (k := 4096) lr (by rw [words_one (by omega) (by omega)]; simp)
  clear p4 kb k1 r1 r2 r3
  go_wp2_with fail
  refine (shiftUp_c A5 _ c5 by' (words (r + 1)) _ p1 (by omega) (by omega)).mono ?_
  rw [val_words]
  rintro e w6 ⟨B, d, rfl, u1, u2, u3, u4, u5⟩
  have HS := Lib.hid (root_start2 (X := X) (r := r) (k := by') (by rw [← HB2.out]; exact HR.out))
  obtain ⟨K, hK⟩ : ∃ K, K = (r + 1) * 2 ^ by' := ⟨_, rfl⟩
  have KP : 0 < K := by rw [hK]; exact Nat.mul_pos (by omega) (Nat.pow_pos (by omega))
  have HKL := Lib.hid (show (words K).length ≤ 6000 by
    rw [hK]
    exact Nat.le_trans (mul_len (k := 4097) (l := 1030) lr1 (two_len (by omega))) (by omega))
  rw [← hK] at HS u1 u2 u5 ⊢
  have BWs := BW.out.size
  have ST : Start w6 w1 X K K B d := ⟨KP, Nat.le_refl _, HS.out, u1, u2, u3, BW.out.trans (u4.mono BW.out.size), fun hp => by
    obtain ⟨g, L, y1, y2, y3, y4⟩ := u5 hp
    exact ⟨g, L, y1, by omega, y3, y4⟩⟩
  have HW := Lib.hid (show (words (X / 1)).length ≤ 4096 by rw [Nat.div_one]; exact hxl)
  clear u1 u2 u3 u4 u5 p1 p2 p3 hK lr lr1 HIH HR BWs KP BW HS
  go_wp2_with fail
  go_loopg [4] K (fun gk v wr => ∃ S B d, v = .slice B (words S).length d ∧ Start wr w1 X K S B d ∧ S ≤ gk)
  case atStart => exact ⟨K, B, d, rfl, ST, Nat.le_refl _⟩
  case round =>
    obtain ⟨S, B, d, rfl, hST, hgk⟩ := hrel
    obtain ⟨s1, s2, s3, s4, s5, s6, s7, s8⟩ := hST
    have l1 : (words S).length ≤ 6000 := Nat.le_trans (words_mono s2) HKL.out
    have l2 : (words (X / S)).length ≤ 4096 := Nat.le_trans (words_mono (Nat.div_le_self X S)) hxl
    have l3 : (words (S + X / S)).length ≤ 6001 := sum_len (k := 6000) l1 (by omega)
    have NW := Lib.hid (newton s1 (show 0 < X by have := HX0.out; omega))
    have NS := Lib.hid (@newton_stop X S)
    obtain ⟨N, hN⟩ : ∃ N, N = (S + X / S) / 2 := ⟨_, rfl⟩
    have HN := Lib.hid hN
    rw [← hN] at NW NS
    have l4 : (words N).length ≤ 6001 := Nat.le_trans (words_mono (by omega)) l3
    have s9 := Lib.hid s8
    clear s8 hN
    go_wp2_with fail
    refine (DV.out S B _ d wr s1 l1 (RAX.out.below s7) s4).mono ?_
    rintro e w2 ⟨Aq, cq, Ar, cr, rfl, q1, q2, q3, -, -, -, q4⟩
    go_wp2_with fail
    refine (add_c B Aq _ d _ cq (words S) (words (X / S)) w2 (s4.below q4) q1 (by omega) (by omega)).mono ?_
    rw [val_words, val_words]
    rintro e w3 ⟨As, cs, rfl, a1, a2, a3, a4, -⟩
    go_wp2_with fail
    refine (shiftDown_c As _ cs 1 (words (S + X / S)) w3 a1 (by omega) (by omega)).mono ?_
    rw [val_words, Nat.pow_one, ← HN.out]
    rintro e w4 ⟨An, cn, rfl, n1, n2, n3, n4, n5⟩
    have b24 := a4.trans (n4.mono a4.size)
    have br4 : Below wr.heap.size wr w4 := q4.trans (b24.mono q4.size)
    have bw4 : Below w1.heap.size w1 w4 := s7.trans (br4.mono s7.size)
    have s4' := s4.below br4
    go_wp2_with fail
    refine (compare_c An B _ cn _ d (words N) (words S) w4 n1 s4' (words_canon _) (words_canon _) (by omega) (by omega)).mono ?_
    rw [val_words, val_words]
    rintro e w5 ⟨rfl, k, rfl⟩
    by_cases hNS : N < S
    · have ho := ord_lt (show (N : Int) < (S : Int) by omega)
      rw [ho]
      have NX : Start (w4.drewN k) w1 X K N An cn := ⟨NW.out.2, by omega, NW.out.1, n1.drewN k, n2, n3, below_drewN bw4 k, fun hp => by
        obtain ⟨g, L, y1, y2, y3, y4⟩ := n5 hp
        exact ⟨g, L, y1, by have := b24.size; have := q4.size; have := s7.size; have := a4.size; omega, y3.drewN k, y4⟩⟩
      have HNX := Lib.hid NX
      clear NX n1 n2 n3 n4 n5 ho b24 br4 bw4 s4' a1 a4 q1 q4
      go_wp2_with fail
      go_roundg N
      case measure => omega
      case rel => exact ⟨N, An, cn, rfl, HNX.out, Nat.le_refl _⟩
    · have ho : 0 ≤ ord (N : Int) (S : Int) := by
        rcases Nat.lt_or_ge S N with h1 | h1
        · rw [ord_gt (by omega)]; omega
        · rw [ord_eq (by omega)]; exact Int.le_refl _
      obtain ⟨od, hod⟩ : ∃ od, od = ord (N : Int) (S : Int) := ⟨_, rfl⟩
      rw [← hod] at ho ⊢
      have HR := Lib.hid (show RootPost w1 X (.returned (.slice B (words S).length d)) (w4.drewN k) from ⟨S, ⟨NS.out (by omega), s3⟩, B, d, rfl, s4'.drewN k, s5, s6, below_drewN bw4 k, fun hp => by
        obtain ⟨g, L, y1, y2, y3, y4⟩ := s9.out hp
        exact ⟨g, L, y1, y2, (y3.below br4 y3.lt).drewN k, y4⟩⟩)
      clear hod n1 n2 n3 n4 n5 b24 br4 bw4 s4' a1 a4 q1 q4
      go_wp2_with fail
      go_ret
      exact HR.out
theorem root_all (N : Nat) : RootUpTo N := by
  induction N with
  | zero => intro A n c xs w _ _ _ h; omega
  | succ N ih =>
    intro A n c xs w h cx hn hb
    by_cases h1 : blen (val xs) ≤ 127
    · refine root_flat A n c xs w h cx hn h1 (Lib.hid fun S B m d w' hS hS2 h2 h3 => ?_)
      have hl : (words S).length ≤ 3 := by
        exact Nat.le_trans (words_mono hS2) (two_len (by omega))
      have hm : m = (words S).length := h3.len.symm
      have := divide_c A B n c m d xs (words S) w' h2 h3 cx (words_canon _) (by omega) (by omega) (by rw [hm]; exact len_pos.2 (by omega))
      rwa [val_words] at this
    · exact root_big A n c xs w h cx hn (by omega) (fun A n c xs' w h cx hn hb' => ih A n c xs' w h cx hn (by omega))
theorem root_c (A : Option Addr) (n c : Nat) (xs : List Nat) (w : World) (h : Rd w A n xs) (cx : canon xs) (hn : n ≤ 4096) : Calls Try.prog 103 #[.slice A n c] w (RootPost w (val xs)) :=
  root_all _ A n c xs w h cx hn (Nat.lt_succ_self _)
end Go.Proofs.Ytbblckaplddggaa
