import Derived.Test.YtbblckaplddggaaWr
namespace Go.Proofs.Ytbblckaplddggaa
open Go.RowKit

set_option maxHeartbeats 1000000 in
set_option maxRecDepth 100000 in
theorem mul_midS (A B : Option Addr) (n c m d : Nat) (xs ys : List Nat) (w : World) (ih : MulUpTo (n + m)) (ha : Rd w A n xs) (hb : Rd w B m ys) (cx : canon xs) (cy : canon ys) (hn : n < 17592186044416) (hmn : m < n) (hc1 : n ≤ c) (hc2 : m ≤ d) (hc3 : c ≤ 9223372036854775807) (hc4 : d ≤ 9223372036854775807) (h40 : ¬ m < 40) (kk : Nat) (hkk : kk = (n + 1) / 2) (hmk2 : m ≤ kk) :
    Calls Try.prog 105 #[.slice B m d, .slice A n c] w (Out w (val xs * val ys)) := by
  have HX := Lib.hid ha.len
  have HY := Lib.hid hb.len
  have IH := Lib.hid ih
  clear ih
  have hm0 : 0 < m := by omega
  have tm : ((m : Int) == 0) = false := by rw [beq_eq_false_iff_ne]; omega
  have hmk : ∀ w : World, (Instr.makeSlice 22 (.int .i64 ((n : Int) + m)) (.int .i64 ((n : Int) + m))).run Try.prog w = .ok (.slice (some ⟨w.heap.size, 0, none⟩) (n + m) (n + m)) (w.alloc (row (List.replicate (n + m) 0))) := mk_words (n + m) (by omega)
  obtain ⟨b, o, hA, hb1, _⟩ := ha.of (by omega)
  obtain ⟨b', o', hB, hb2, _⟩ := hb.of hm0
  subst hA hB
  have hbw : Below w.heap.size w (w.alloc (row (List.replicate (n + m) 0))) := (Below.refl _ _).alloc (Nat.le_refl _) _
  have hx := ha.alloc (row (List.replicate (n + m) 0))
  have hy := hb.alloc (row (List.replicate (n + m) 0))
  have hbk := Bk.new0 w (n + m)
  have HL := Lib.hid (show (List.replicate (n + m) 0).length = n + m by simp)
  have fin : ∀ (w1 w' : World) (cs : List Nat) (e : Ending), w.grownBy w1 none ∨ True → (w.alloc (row (List.replicate (n + m) 0))).grownBy w1 (some w.heap.size) → cs.length = n + m → val cs = val xs * val ys → Bk w1 w.heap.size cs → TrimPost (some ⟨w.heap.size, 0, none⟩) (words (val cs)).length w1 e w' → Out w (val xs * val ys) e w' :=
    fun w1 w' cs e _ hg hl hv hk ht => out_of_trim hk (Nat.le_refl _) hv (below_new hg) (by omega) ht
  have FIN := Lib.hid fin
  clear fin
  have ek : ((n : Int) + 1) / 2 = (kk : Int) := by omega
  have k1 : n ≤ 2 * kk := by omega
  have k2 : 2 * kk ≤ n + 1 := by omega
  clear hkk
  have r0 := ha.take (m := kk) (by omega)
  have r1 := ha.drop (m := kk) (by omega)
  have cx1 := canon_drop cx (k := kk) (by rw [ha.len]; omega)
  have ex := val_take_drop xs kk (by rw [ha.len]; omega)
  have lx0 := val_lt r0.sm
  rw [r0.len] at lx0
  have lx1 := val_lt r1.sm
  rw [r1.len] at lx1
  have ly := val_lt cy.1
  rw [hb.len] at ly
  have lx := val_lt cx.1
  rw [ha.len] at lx
  have rt0 := r0.trim
  have e1 : (some (⟨b, o, none⟩ : Addr)).map (·.add kk) = some ⟨b, o + kk, none⟩ := by simp [Addr.add]; intro h0; omega
  rw [e1] at r1
  clear e1
  obtain ⟨l1, hl1⟩ : ∃ l1, l1 = xs.drop kk := ⟨_, rfl⟩
  rw [← hl1] at ex lx1 r1 cx1
  obtain ⟨X0, hX0⟩ : ∃ X0, X0 = val (xs.take kk) := ⟨_, rfl⟩
  rw [← hX0] at ex lx0 rt0
  have wx0 : (words X0).length ≤ kk := words_len_le.2 lx0
  have EX := Lib.hid ex
  have HX0 := Lib.hid hX0
  clear hl1 ex hX0
  have i1 : (kk : Int) ≤ (c : Int) := by omega
  have i3 : (kk : Int) ≤ (n : Int) := by omega
  have i7 : (kk : Int) ≤ (n : Int) + m := by omega
  have i8 : (0 : Int) ≤ (kk : Int) := by omega
  have i9 : ¬ n + m = kk := by omega
  have i10 : ¬ c = kk := by omega
  go_enter Try.func105, Try.ntmps105
  go_wp2_with fail
  refine (trim_q (some ⟨b, o, none⟩) kk c (xs.take kk) _ (hx.take (by omega)) (by omega) (by omega)).mono ?_
  rintro e w1 ⟨rfl, q, rfl⟩
  rw [← HX0.out]
  go_wp2_with fail
  refine (IH.out (trimA (some ⟨b, o, none⟩) (words X0).length) (some ⟨b', o', none⟩) (words X0).length (words X0).length m d (words X0) ys _ (by omega) ((rt0.below hbw).drewN q) (hy.drewN q) (words_canon _) cy (by omega) (by omega) (Nat.le_refl _) hc2 (by omega) hc4).mono ?_
  rw [val_words]
  rintro e w2 ⟨Al, cl, rfl, lo1, lo2, lo3, lo4, lo5⟩
  have hbk2 := (hbk.drewN q).below lo4 (hbk.drewN q).lt
  have B2 : Below w.heap.size w w2 := (below_drewN hbw q).trans (lo4.mono (by simp))
  have lof : 0 < (words (X0 * val ys)).length → Off Al w.heap.size := fun hp a ha0 => by
    obtain ⟨g', _, hA, hg', _⟩ := lo5 hp
    rw [hA] at ha0
    injection ha0 with ha0
    subst ha0
    simp at hg' ⊢
    omega
  have lol : (words (X0 * val ys)).length ≤ n + m := words_len_le.2 (Nat.lt_of_lt_of_le (mul_lt_pw lx0 ly) (pw_le (by omega)))
  go_wp2_with fail
  refine (addTo_c w.heap.size 0 (n + m) (n + m) (List.replicate (n + m) 0) Al (words (X0 * val ys)).length cl (words (X0 * val ys)) w2 hbk2 (by rw [HL.out]; omega) lo1 lof lol (by omega) (by omega) (by rw [val_zeros, val_words, Nat.zero_add]; exact words_len_le.1 lol)).mono ?_
  rw [val_zeros, val_words, Nat.zero_add]
  rintro e w3 ⟨rfl, tg3, cs3, c3l, c3s, c3v, c3B⟩
  rw [splice_all (by rw [c3l, HL.out])] at c3B
  have B3 := B2.trans (below_of_grown tg3 B2.size (Nat.le_refl _))
  have C3V := Lib.hid c3v
  have C3L := Lib.hid c3l
  clear c3v c3l tg3
  go_wp2_with fail
  have hEX := EX.out
  have TOT : val cs3 + pw kk * (val l1 * val ys) = val xs * val ys := by
    rw [C3V.out, hEX, Nat.add_mul, Nat.mul_assoc]
  have hxy := mul_lt_pw lx ly
  have hf := fits_add c3B.1 (o := kk) (n := n + m - kk) (mid := val l1 * val ys) (by rw [C3L.out]; omega) (by rw [C3L.out, TOT]; exact hxy)
  have hil : (words (val l1 * val ys)).length ≤ n + m - kk := words_len_le.2 (by omega)
  have HF := Lib.hid hf
  have TOT2 := Lib.hid TOT
  have GF := Lib.hid B3
  have hsz3 := B3.size
  have q1 := (r1.below B3).drew
  have q2 := (hb.below B3).drew
  have q3 : Bk w3.drew w.heap.size cs3 := c3B
  have q4 : w.heap.size < w3.drew.heap.size := q3.lt
  have hil2 : (words (val l1 * val ys)).length ≤ 9223372036854775800 := by omega
  clear hEX TOT hf lx0 lx1 lx hxy B2 lo1 lo4 lo5 hbk2 c3B
  go_region_held3 (fun _ => True) (trivial)
    (first
      | (go_at_call 105
         refine (IH.out (some ⟨b, o + kk, none⟩) (some ⟨b', o', none⟩) (n - kk) (c - kk) m d l1 ys _ (by omega) q1 q2 cx1 cy (by omega) (by omega) (by omega) hc2 (by omega) hc4).mono ?_
         rintro e w4 ⟨Ah, ch, rfl, hi1, hi2, hi3, hi4, hi5⟩
         have hof : 0 < (words (val l1 * val ys)).length → Off Ah w.heap.size := fun hp a ha0 => by
           obtain ⟨g', _, hA, hg', _⟩ := hi5 hp
           rw [hA] at ha0
           injection ha0 with ha0
           subst ha0
           have q5 := q4
           rw [World.size_drew] at hg' q5
           intro e
           have e2 : g' = w.heap.size := e
           omega
         clear hi5)
      | (go_at_call 112
         refine (addTo_c w.heap.size kk (n + m - kk) (n + m - kk) cs3 Ah (words (val l1 * val ys)).length ch (words (val l1 * val ys)) _ (q3.below hi4 q4) (by rw [C3L.out]; omega) hi1 hof hil (by omega) hil2 (by rw [val_words]; exact HF.out)).mono ?_
         rintro e w5 ⟨rfl, tg5, cs4, c4l, c4s, c4v, c4B⟩))
  rw [val_words] at c4v
  have V4 := val_splice (L := cs3) (o := kk) (cs := cs4) (by rw [C3L.out]; omega)
  rw [c4l, c4v, Nat.mul_add] at V4
  have T2 := TOT2.out
  have V5 : val (splice cs3 kk cs4) = val xs * val ys := by omega
  have L5 : (splice cs3 kk cs4).length = n + m := by rw [splice_len (by rw [C3L.out]; omega)]; exact C3L.out
  have B5 : Below w.heap.size w w5 := ((GF.out.drew).trans (hi4.mono (by omega))).trans (below_of_grown tg5 (by have := hi4.size; omega) (Nat.le_refl _))
  have hrd := c4B.rd
  rw [L5] at hrd
  have HB5 := Lib.hid B5
  have HV5 := Lib.hid V5
  have HL5 := Lib.hid L5
  clear V4 c4v T2 V5 L5 B5 tg5 hi4 hi1 q1 q2 q3 q4 hof c4l
  go_wp2_with fail
  refine (trim_c _ _ _ (splice cs3 kk cs4) w5 hrd (Nat.le_refl _) (by omega)).mono ?_
  intro e w6 h6
  obtain ⟨A', c', rfl, r1', r2', r3', r4', r5'⟩ := out_of_trim (v := val xs * val ys) c4B (Nat.le_refl _) HV5.out HB5.out (by have := HL5.out; omega) h6
  have R := Lib.hid r5'
  clear r5' h6
  go_wp2
  go_ret
  exact ⟨A', c', rfl, r1', r2', r3', r4', R.out⟩

set_option maxHeartbeats 1000000 in
set_option maxRecDepth 100000 in
theorem mul_geS (A B : Option Addr) (n c m d : Nat) (xs ys : List Nat) (w : World) (ih : MulUpTo (n + m)) (ha : Rd w A n xs) (hb : Rd w B m ys) (cx : canon xs) (cy : canon ys) (hn : n < 17592186044416) (hmn : m < n) (hc1 : n ≤ c) (hc2 : m ≤ d) (hc3 : c ≤ 9223372036854775807) (hc4 : d ≤ 9223372036854775807) :
    Calls Try.prog 105 #[.slice B m d, .slice A n c] w (Out w (val xs * val ys)) := by
  have HX := Lib.hid ha.len
  have HY := Lib.hid hb.len
  have IH := Lib.hid ih
  clear ih
  rcases Nat.eq_zero_or_pos m with hm0 | hm0
  · subst hm0
    have hy0 : ys = [] := List.eq_nil_of_length_eq_zero HY.out
    have H := Lib.hid (show Out w (val xs * val ys) (.returned (.slice none 0 0)) w by rw [hy0, val_nil, Nat.mul_zero]; exact out_zero w)
    clear hy0
    go_enter Try.func105, Try.ntmps105
    go_wp2
    go_ret
    exact H.out
  · have tm : ((m : Int) == 0) = false := by rw [beq_eq_false_iff_ne]; omega
    have hmk : ∀ w : World, (Instr.makeSlice 22 (.int .i64 ((n : Int) + m)) (.int .i64 ((n : Int) + m))).run Try.prog w = .ok (.slice (some ⟨w.heap.size, 0, none⟩) (n + m) (n + m)) (w.alloc (row (List.replicate (n + m) 0))) := mk_words (n + m) (by omega)
    obtain ⟨b, o, hA, hb1, _⟩ := ha.of (by omega)
    obtain ⟨b', o', hB, hb2, _⟩ := hb.of hm0
    subst hA hB
    have hbw : Below w.heap.size w (w.alloc (row (List.replicate (n + m) 0))) := (Below.refl _ _).alloc (Nat.le_refl _) _
    have hx := ha.alloc (row (List.replicate (n + m) 0))
    have hy := hb.alloc (row (List.replicate (n + m) 0))
    have hbk := Bk.new0 w (n + m)
    have HL := Lib.hid (show (List.replicate (n + m) 0).length = n + m by simp)
    have fin : ∀ (w1 w' : World) (cs : List Nat) (e : Ending), w.grownBy w1 none ∨ True → (w.alloc (row (List.replicate (n + m) 0))).grownBy w1 (some w.heap.size) → cs.length = n + m → val cs = val xs * val ys → Bk w1 w.heap.size cs → TrimPost (some ⟨w.heap.size, 0, none⟩) (words (val cs)).length w1 e w' → Out w (val xs * val ys) e w' :=
      fun w1 w' cs e _ hg hl hv hk ht => out_of_trim hk (Nat.le_refl _) hv (below_new hg) (by omega) ht
    have FIN := Lib.hid fin
    clear fin
    by_cases h40 : m < 40
    · go_enter Try.func105, Try.ntmps105
      go_wp2_with fail
      refine (rowByRow_c w.heap.size (n + m) (some ⟨b, o, none⟩) (some ⟨b', o', none⟩) n c m d xs ys _ hbk hx hy (fun _ a h => by injection h with h; subst h; simp; omega) (fun _ a h => by injection h with h; subst h; simp; omega) (Nat.le_refl _) (by omega) (Nat.le_of_lt hmn) (by omega)).mono ?_
      rintro e w1 ⟨rfl, hg, cs, hl, hv, hk⟩
      have HV := Lib.hid hv
      have HG := Lib.hid hg
      have HC := Lib.hid hl
      have hrd := hk.rd
      rw [hl] at hrd
      clear hv hg hl
      go_wp2_with fail
      refine (trim_c _ _ _ cs w1 hrd (Nat.le_refl _) (by omega)).mono ?_
      intro e w3 h3
      obtain ⟨A', c', rfl, r1, r2, r3, r4, r5⟩ := FIN.out w1 w3 cs e (.inr trivial) HG.out HC.out HV.out hk h3
      have R := Lib.hid r5
      clear r5 h3
      go_wp2
      go_ret
      exact ⟨A', c', rfl, r1, r2, r3, r4, R.out⟩
    · obtain ⟨kk, hkk⟩ : ∃ kk, kk = (n + 1) / 2 := ⟨_, rfl⟩
      have ek : ((n : Int) + 1) / 2 = (kk : Int) := by omega
      have k1 : n ≤ 2 * kk := by omega
      have k2 : 2 * kk ≤ n + 1 := by omega
      by_cases hmk2 : m ≤ kk
      · exact mul_midS (some ⟨b, o, none⟩) (some ⟨b', o', none⟩) n c m d xs ys w IH.out ha hb cx cy hn hmn hc1 hc2 hc3 hc4 h40 kk hkk hmk2
      · clear hkk
        go_enter Try.func105, Try.ntmps105
        go_wp2_with fail
        refine (threeProducts_c w.heap.size b b' o o' n c m d kk IH.out xs ys _ hbk hx hy cx cy hn (Nat.le_of_lt hmn) (by omega) k1 k2 (by omega) hc1 hc2 hc3 hc4).mono ?_
        rintro e w1 ⟨rfl, hg, cs, hl, hv, hk⟩
        have HV := Lib.hid hv
        have HG := Lib.hid hg
        have HC := Lib.hid hl
        have hrd := hk.rd
        rw [hl] at hrd
        clear hv hg hl
        go_wp2_with fail
        refine (trim_c _ _ _ cs w1 hrd (Nat.le_refl _) (by omega)).mono ?_
        intro e w3 h3
        obtain ⟨A', c', rfl, r1, r2, r3, r4, r5⟩ := FIN.out w1 w3 cs e (.inr trivial) HG.out HC.out HV.out hk h3
        have R := Lib.hid r5
        clear r5 h3
        go_wp2
        go_ret
        exact ⟨A', c', rfl, r1, r2, r3, r4, R.out⟩

theorem mul_upTo (N : Nat) : MulUpTo N := by
  induction N with
  | zero => intro A B n c m d xs ys w h; omega
  | succ N ih =>
    intro A B n c m d xs ys w h ha hb cx cy hn hm hc1 hc2 hc3 hc4
    have ih' : ∀ k, k ≤ N → MulUpTo k := fun k hk A B n c m d xs ys w h => ih A B n c m d xs ys w (by omega)
    rcases Nat.lt_or_ge n m with h1 | h1
    · rw [Nat.mul_comm]
      exact mul_geS B A m d n c ys xs w (ih' _ (by omega)) hb ha cy cx hm h1 hc2 hc1 hc4 hc3
    · exact mul_ge A B n c m d xs ys w (ih' _ (by omega)) ha hb cx cy hn h1 hc1 hc2 hc3 hc4
theorem multiply_c (A B : Option Addr) (n c m d : Nat) (xs ys : List Nat) (w : World) (ha : Rd w A n xs) (hb : Rd w B m ys) (cx : canon xs) (cy : canon ys) (hn : n < 17592186044416) (hm : m < 17592186044416) (hc1 : n ≤ c) (hc2 : m ≤ d) (hc3 : c ≤ 9223372036854775807) (hc4 : d ≤ 9223372036854775807) :
    Calls Try.prog 105 #[.slice A n c, .slice B m d] w (Out w (val xs * val ys)) :=
  mul_upTo (n + m + 1) A B n c m d xs ys w (by omega) ha hb cx cy hn hm hc1 hc2 hc3 hc4
end Go.Proofs.Ytbblckaplddggaa
