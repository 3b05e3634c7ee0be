import Derived.Test.YtbblckaplddggaaNa
import Derived.Test.YtbblckaplddggaaNz
import Derived.BigRegion
set_option maxRecDepth 100000
namespace Go.Proofs.Ytbblckaplddggaa
open Go.RowKit Go.Shelf
/-- the index of a number in psi, or none -/
def IdxPost (a y : Int) (w : World) (e : Ending) (w' : World) : Prop :=
  ∃ r k : Int, e = .returned (.tuple #[.int .i64 r, .int .i64 k]) ∧ Below w.heap.size w w' ∧ ((k = 0 ∧ ∃ n : Nat, r = (n : Int) ∧ psi a n = y) ∨ (k = 6 ∧ r = 0 ∧ ∀ n, psi a n ≠ y))
/-- two boxes -/
structure B2 (w W : World) (z : Int) (t : Bool) (A : Option Addr) (n c : Nat) (z' : Int) (t' : Bool) (A' : Option Addr) (n' c' : Nat) : Prop where
  below : Below w.heap.size w W
  ba : Box W w.heap.size z t A n c
  by_ : Box W (w.heap.size + 1) z' t' A' n' c'
theorem B2.next {w W W' : World} {z : Int} {t : Bool} {A : Option Addr} {n c : Nat} {z' : Int} {t' : Bool} {A' : Option Addr} {n' c' : Nat} (h : B2 w W z t A n c z' t' A' n' c') (hb : Below W.heap.size W W') : B2 w W' z t A n c z' t' A' n' c' :=
  ⟨h.below.trans (hb.mono h.below.size), h.ba.next hb, h.by_.next hb⟩
theorem B2.start {w : World} {z : Int} {t : Bool} {A : Option Addr} {n c : Nat} {z' : Int} {t' : Bool} {A' : Option Addr} {n' c' : Nat} (h : Is w z t A n c) (h' : Is w z' t' A' n' c') : B2 w ((w.alloc (.cells #[.bool t, .slice A n c] 24)).alloc (.cells #[.bool t', .slice A' n' c'] 24)) z t A n c z' t' A' n' c' := by
  refine ⟨((Below.refl _ _).alloc (Nat.le_refl _) _).alloc (by simp) _, (Box.new h).alloc _, ?_⟩
  have := Box.new (h'.below (below_alloc w (.cells #[.bool t, .slice A n c] 24)))
  rwa [World.size_alloc] at this
theorem sz_blen {z : Int} {k : Nat} (h : Sz z k) : blen z.natAbs ≤ 32 * k := blen_le.2 (by
  have h1 : z.natAbs < pw k := h
  rwa [pw_two] at h1)
theorem blen_two {a : Int} (ha : 2 ≤ a) : 2 ≤ blen a.natAbs := by
  rcases Nat.lt_or_ge 1 (blen a.natAbs) with h1 | h1
  · exact h1
  · have := blen_le.1 h1
    omega
theorem lowv {S Q : Int} {s q : Nat} (hS : S = (s : Int)) (hQ : Q = (q : Int)) (h : 1 ≤ S) : (S - 1) / (Q + 1) = (((s - 1) / (q + 1) : Nat) : Int) := by
  rw [Int.natCast_ediv, show ((s - 1 : Nat) : Int) = S - 1 by omega, show ((q + 1 : Nat) : Int) = Q + 1 by omega]
theorem highv {S Q : Int} {s q : Nat} (hS : S = (s : Int)) (hQ : Q = (q : Int)) (h : 2 ≤ Q) : S / (Q - 1) = ((s / (q - 1) : Nat) : Int) := by
  rw [Int.natCast_ediv, show ((q - 1 : Nat) : Int) = Q - 1 by omega, hS]
set_option maxHeartbeats 8000000 in
theorem Index_pos {w : World} {a : Int} {t : Bool} {A : Option Addr} {n c : Nat} {y : Int} {t' : Bool} {A' : Option Addr} {n' c' : Nat} (h : Iv w a t A n c) (h' : Iv w y t' A' n' c') (ha : 2 ≤ a) (hy : 0 ≤ y) :
    Calls Try.prog 30 #[.agg #[.bool t, .slice A n c], .agg #[.bool t', .slice A' n' c']] w (IdxPost a y w) := by
  have ht' : t' = false := by rw [h'.is.1]; exact decide_eq_false (by omega)
  subst ht'
  have E := Lib.hid (B2.start h.is h'.is)
  have HS := Lib.hid (And.intro h.sz h'.sz)
  have HA := Lib.hid (And.intro ha hy)
  have HL := Lib.hid (And.intro (by rw [h.is.2.1]; exact words_len_le.2 h.sz : n ≤ 4096) (by rw [h'.is.2.1]; exact words_len_le.2 h'.sz : n' ≤ 4096))
  clear h h' ha hy
  go_enter Try.func30, Try.ntmps30
  go_upto_region 1 with (fail)
  generalize (w.alloc (.cells #[.bool t, .slice A n c] 24)).alloc (.cells #[.bool false, .slice A' n' c'] 24) = W0 at E ⊢
  have a0 := E.out.ba.c0
  have a1 := E.out.ba.c1
  have b0 := E.out.by_.c0
  have b1 := E.out.by_.c1
  go_wp2_with fail
  have hb := below_alloc W0 (.cells #[.bool false, .slice A' n' c'] 24)
  have O1 := Lib.hid (oth1 (W := W0.alloc (.cells #[.bool false, .slice A' n' c'] 24)) (g := W0.heap.size) ((Is.iv_of E.out.by_.is HS.out.2).below hb) (by simp) (by go_simp) (by go_simp))
  replace E := Lib.hid (E.out.next hb)
  clear hb a0 a1 b0 b1
  generalize W0.alloc (.cells #[.bool false, .slice A' n' c'] 24) = W1 at E O1 ⊢
  refine (check_ok (Is.iv_of E.out.ba.is HS.out.1) _ O1.out 0 (.inl ⟨HA.out.1, rfl⟩)).mono ?_
  rintro e w1 ⟨rfl, hb⟩
  replace E := Lib.hid (E.out.next hb)
  clear hb O1
  have a0 := E.out.ba.c0
  have a1 := E.out.ba.c1
  have b0 := E.out.by_.c0
  have b1 := E.out.by_.c1
  go_upto_region 6 with (fail)
  go_region_held3 (fun w' => w'.cell? ⟨w.heap.size, 0, none⟩ = some (.bool t) ∧ w'.cell? ⟨w.heap.size, 1, none⟩ = some (.slice A n c) ∧ w'.cell? ⟨w.heap.size + 1, 0, none⟩ = some (.bool false) ∧ w'.cell? ⟨w.heap.size + 1, 1, none⟩ = some (.slice A' n' c'))
    (first | (with_reducible exact ⟨a0, a1, b0, b1⟩) | (with_reducible exact ⟨cell_dr a0, cell_dr a1, cell_dr b0, cell_dr b1⟩) | fail)
    (first
      | (go_at_call 68; (with_reducible refine (Bits_c (E.out.by_.is.below (Below.refl _ _).drew) HL.out.2).mono ?_); rintro e w2 ⟨rfl, b2⟩; have b9 := (Below.refl w1.heap.size w1).drew.trans b2; replace E := Lib.hid (E.out.next b9); clear a0 a1 b0 b1 b2 b9; have a0 := E.out.ba.c0; have a1 := E.out.ba.c1; have b0 := E.out.by_.c0; have b1 := E.out.by_.c1)
      | (go_at_call 68; (with_reducible refine (Bits_c E.out.ba.is HL.out.1).mono ?_); rintro e w3 ⟨rfl, b9⟩; replace E := Lib.hid (E.out.next b9); clear a0 a1 b0 b1 b9; have a0 := E.out.ba.c0; have a1 := E.out.ba.c1; have b0 := E.out.by_.c0; have b1 := E.out.by_.c1)
      | fail "no arm")
  have hs : blen y.natAbs ≤ 131072 := Nat.le_trans (sz_blen HS.out.2) (by omega)
  have hb2 : 2 ≤ blen a.natAbs := blen_two HA.out.1
  have hb3 : blen a.natAbs ≤ 131072 := Nat.le_trans (sz_blen HS.out.1) (by omega)
  have HI := Lib.hid (And.intro (fun j => idx_low (j := j) HA.out.1 HA.out.2) (fun n => idx_high (y := y) (n := n) HA.out.1))
  obtain ⟨s, hs0⟩ : ∃ s, s = blen y.natAbs := ⟨_, rfl⟩
  obtain ⟨q, hq0⟩ : ∃ q, q = blen a.natAbs := ⟨_, rfl⟩
  rw [← hs0] at hs HI ⊢
  rw [← hq0] at hb2 hb3 HI ⊢
  obtain ⟨S, hS⟩ : ∃ S : Int, S = (s : Int) := ⟨_, rfl⟩
  obtain ⟨Q, hQ⟩ : ∃ Q : Int, Q = (q : Int) := ⟨_, rfl⟩
  rw [← hS, ← hQ]
  have k1 : 0 ≤ S := by omega
  have k2 : S ≤ 131072 := by omega
  have k3 : 2 ≤ Q := by omega
  have k4 : Q ≤ 131072 := by omega
  have HSQ := Lib.hid (And.intro hS hQ)
  clear hs hb2 hb3 hs0 hq0 hS hQ
  go_upto_region 7 with (fail)
  go_cut [9, 10] (fun v9 v10 W => v9 = .int .i64 (((s - 1) / (q + 1) : Nat) : Int) ∧ v10 = .int .i64 ((s / (q - 1) + 1 : Nat) : Int) ∧ B2 w W a t A n c y false A' n' c')
  case first =>
    have z1 : ¬ Q + 1 = 0 := by omega
    have z2 : ¬ Q - 1 = 0 := by omega
    have z3 : S / (Q - 1) = ((s / (q - 1) : Nat) : Int) := highv HSQ.out.1 HSQ.out.2 k3
    have z4 : s / (q - 1) ≤ 131072 := Nat.le_trans (Nat.div_le_self _ _) (by have := HSQ.out.1; omega)
    have z5 : 0 ≤ S / (Q - 1) := by rw [z3]; exact Int.natCast_nonneg _
    have z6 : S / (Q - 1) ≤ 131072 := by rw [z3]; exact Int.ofNat_le.2 z4
    have HZ3 := Lib.hid z3
    clear z3 z4
    go_region
    all_goals go_wp2
    all_goals go_meet
    all_goals
      refine ⟨?_, by rw [HZ3.out, Int.natCast_add]; rfl, E.out.next (Below.refl _ _).drew⟩
    all_goals
      first
        | rw [lowv HSQ.out.1 HSQ.out.2 (by omega)]
        | (rw [show s - 1 = 0 by have := HSQ.out.1; omega, Nat.zero_div]; rfl)
  case rest =>
    obtain ⟨rfl, rfl, hE⟩ := hcut
    replace E := Lib.hid hE
    have HIN := Lib.hid (show (s - 1) / (q + 1) ≤ s / (q - 1) + 1 ∧ s / (q - 1) + 1 ≤ 131073 by
      have h1 : (s - 1) / (q + 1) ≤ s / (q - 1) := Nat.le_trans (Nat.div_le_div_right (Nat.sub_le s 1)) (Nat.div_le_div_left (by omega) (by have := HSQ.out.2; omega))
      have h2 : s / (q - 1) ≤ s := Nat.div_le_self _ _
      have h3 := HSQ.out.1
      omega)
    clear hE a0 a1 b0 b1
    go_wp2_with fail
    go_loopw [9, 10] (fun v9 v10 wr => ∃ lo hi : Nat, v9 = .int .i64 (lo : Int) ∧ v10 = .int .i64 (hi : Int) ∧ lo ≤ hi ∧ hi ≤ 131073 ∧ (∀ j, j < lo → psi a j < y) ∧ (∀ n, psi a n = y → n ≤ hi) ∧ B2 w wr a t A n c y false A' n' c') (fun v9 v10 _ => (intOf v10 - intOf v9).toNat)
    case atStart => exact ⟨_, _, rfl, rfl, HIN.out.1, HIN.out.2, HI.out.1, HI.out.2, E.out⟩
    case round =>
      clear E HI HIN HSQ k1 k2 k3 k4 HL
      obtain ⟨lo, hi, rfl, rfl, h1, h2, h3, h4, hE⟩ := hrel
      have E := Lib.hid hE
      have HLO := Lib.hid h3
      have HHI := Lib.hid h4
      obtain ⟨Lo, hLo⟩ : ∃ x : Int, x = (lo : Int) := ⟨_, rfl⟩
      obtain ⟨Hi, hHi⟩ : ∃ x : Int, x = (hi : Int) := ⟨_, rfl⟩
      rw [← hLo, ← hHi]
      have j1 : 0 ≤ Lo := by omega
      have j2 : Hi ≤ 131073 := by omega
      have j3 : Lo ≤ Hi := by omega
      have j4 : 0 ≤ Hi := by omega
      have j5 : Lo ≤ 131073 := by omega
      have a0 := hE.ba.c0
      have a1 := hE.ba.c1
      by_cases hlt : lo < hi
      · have hlt' : Lo < Hi := by omega
        obtain ⟨M, hM⟩ : ∃ x : Int, (Lo + Hi) / 2 = x := ⟨_, rfl⟩
        have hMm : M = (((lo + hi) / 2 : Nat) : Int) := by omega
        have hm1 : lo ≤ (lo + hi) / 2 := by omega
        have hm2 : (lo + hi) / 2 < hi := by omega
        have j6 : 0 ≤ M := by omega
        have j7 : M ≤ 131073 := by omega
        generalize (lo + hi) / 2 = md at hMm hm1 hm2
        have HP := Lib.hid (fun (W : World) (hi : Iv W a t A n c) => Psi_ok hi HA.out.1 md (by omega))
        rw [← hMm] at HP
        have HJ := Lib.hid (And.intro (And.intro hLo hHi) (And.intro hMm (And.intro hm1 hm2)))
        clear hLo hHi hMm hm1 hm2 h1 h2 h3 h4 hlt hE
        go_wp2_with fail
        refine (HP.out _ (Is.iv_of E.out.ba.is HS.out.1)).mono ?_
        rintro e w4 ⟨t4, B4, m4, d4, k4, rfl, hn, b4⟩
        by_cases hf : (words (psi a md).natAbs).length ≤ 4096
        · obtain ⟨k0, q1, q2, q3, q4, q5⟩ := hn.1 hf
          subst k0
          have X := Lib.hid (Box.new (show Is w4 (psi a md) t4 B4 m4 d4 from ⟨q1, q2, q3, q4, q5⟩))
          have HF := Lib.hid (words_len_le.1 hf)
          replace E := Lib.hid ((E.out.next b4).next (below_alloc w4 (.cells #[.bool t4, .slice B4 m4 d4] 24)))
          clear hn q1 q2 q3 q4 q5 hf b4 a0 a1
          have p0 := X.out.c0
          have p1 := X.out.c1
          have b0 := E.out.by_.c0
          have b1 := E.out.by_.c1
          by_cases hl : psi a md < y
          · have HD := Lib.hid hl
            clear hl
            go_wp2_with fail
            refine (Less_c (Is.iv_of X.out.is HF.out) (Is.iv_of E.out.by_.is HS.out.2)).mono ?_
            rw [decide_eq_true HD.out]
            rintro e w5 ⟨rfl, b5⟩
            replace E := Lib.hid (E.out.next b5)
            clear b5 p0 p1 b0 b1
            go_wp2
            go_roundw
            case measure => simp [intOf]; have := HJ.out; omega
            case rel => exact ⟨md + 1, hi, by rw [HJ.out.2.1]; rfl, by rw [HJ.out.1.2], by have := HJ.out; omega, by have := HJ.out; omega, fun j hj => Int.lt_of_le_of_lt (psi_le HA.out.1 (by omega)) HD.out, HHI.out, E.out⟩
          · have HD := Lib.hid hl
            clear hl
            go_wp2_with fail
            refine (Less_c (Is.iv_of X.out.is HF.out) (Is.iv_of E.out.by_.is HS.out.2)).mono ?_
            rw [decide_eq_false (show ¬ psi a md < y by have := HD.out; omega)]
            rintro e w5 ⟨rfl, b5⟩
            replace E := Lib.hid (E.out.next b5)
            clear b5 p0 p1 b0 b1
            go_wp2
            go_roundw
            case measure => simp [intOf]; have := HJ.out; omega
            case rel => exact ⟨lo, md, by rw [HJ.out.1.1], by rw [HJ.out.2.1], by have := HJ.out; omega, by have := HJ.out; omega, HLO.out, fun n hn => by
                rcases Nat.lt_or_ge md n with h5 | h5
                · have := psi_lt HA.out.1 h5
                  have := HD.out
                  omega
                · exact h5, E.out⟩
        · obtain ⟨rfl, rfl, rfl, rfl, rfl⟩ := hn.2 hf
          have HF := Lib.hid (show y < psi a md by
            have h5 : ¬ (psi a md).natAbs < pw 4096 := fun h6 => hf (words_len_le.2 h6)
            have h6 : y.natAbs < pw 4096 := HS.out.2
            have h7 := psi_nn HA.out.1 md
            omega)
          replace E := Lib.hid ((E.out.next b4).next (below_alloc w4 (.cells #[.bool false, .slice none 0 0] 24)))
          clear hn hf b4 a0 a1
          go_wp2
          go_roundw
          case measure => simp [intOf]; have := HJ.out; omega
          case rel => exact ⟨lo, md, by rw [HJ.out.1.1], by rw [HJ.out.2.1], by have := HJ.out; omega, by have := HJ.out; omega, HLO.out, fun n hn => by
                rcases Nat.lt_or_ge md n with h5 | h5
                · have := psi_lt HA.out.1 h5
                  have := HF.out
                  omega
                · exact h5, E.out⟩
      · have hlt' : ¬ Lo < Hi := by omega
        have HP := Lib.hid (fun (W : World) (hi : Iv W a t A n c) => Psi_ok hi HA.out.1 lo (by omega))
        rw [← hLo] at HP
        have HJ := Lib.hid (And.intro hLo (show lo = hi by omega))
        have HNO := Lib.hid (show psi a lo ≠ y → ∀ n, psi a n ≠ y from fun hne n hn => by
          have h5 := h4 n hn
          rcases Nat.lt_or_ge n lo with h6 | h6
          · have := h3 n h6
            omega
          · exact hne (by rw [show lo = n by omega]; exact hn))
        clear hLo hHi h1 h2 h3 h4 hlt hE HLO HHI
        go_wp2_with fail
        refine (HP.out _ (Is.iv_of E.out.ba.is HS.out.1)).mono ?_
        rintro e w4 ⟨t4, B4, m4, d4, k4, rfl, hn, b4⟩
        by_cases hf : (words (psi a lo).natAbs).length ≤ 4096
        · obtain ⟨k0, q1, q2, q3, q4, q5⟩ := hn.1 hf
          subst k0
          have X := Lib.hid (Box.new (show Is w4 (psi a lo) t4 B4 m4 d4 from ⟨q1, q2, q3, q4, q5⟩))
          have HF := Lib.hid (words_len_le.1 hf)
          replace E := Lib.hid ((E.out.next b4).next (below_alloc w4 (.cells #[.bool t4, .slice B4 m4 d4] 24)))
          clear hn q1 q2 q3 q4 q5 hf b4 a0 a1
          have p0 := X.out.c0
          have p1 := X.out.c1
          have b0 := E.out.by_.c0
          have b1 := E.out.by_.c1
          by_cases hl : psi a lo = y
          · have HD := Lib.hid hl
            clear hl
            go_wp2_with fail
            refine (Equal_c (Is.iv_of X.out.is HF.out) (Is.iv_of E.out.by_.is HS.out.2)).mono ?_
            rw [decide_eq_true HD.out]
            rintro e w5 ⟨rfl, b5⟩
            replace E := Lib.hid (E.out.next b5)
            clear b5 p0 p1 b0 b1
            go_wp2
            go_ret2
            exact ⟨_, _, rfl, E.out.below, .inl ⟨rfl, lo, HJ.out.1, HD.out⟩⟩
          · have HD := Lib.hid hl
            clear hl
            go_wp2_with fail
            refine (Equal_c (Is.iv_of X.out.is HF.out) (Is.iv_of E.out.by_.is HS.out.2)).mono ?_
            rw [decide_eq_false HD.out]
            rintro e w5 ⟨rfl, b5⟩
            replace E := Lib.hid (E.out.next b5)
            clear b5 p0 p1 b0 b1
            go_wp2
            go_ret2
            exact ⟨_, _, rfl, E.out.below, .inr ⟨rfl, rfl, HNO.out HD.out⟩⟩
        · obtain ⟨rfl, rfl, rfl, rfl, rfl⟩ := hn.2 hf
          have HF := Lib.hid (show psi a lo ≠ y by
            have h5 : ¬ (psi a lo).natAbs < pw 4096 := fun h6 => hf (words_len_le.2 h6)
            have h6 : y.natAbs < pw 4096 := HS.out.2
            omega)
          replace E := Lib.hid ((E.out.next b4).next (below_alloc w4 (.cells #[.bool false, .slice none 0 0] 24)))
          clear hn hf b4 a0 a1
          go_wp2
          go_ret2
          exact ⟨_, _, rfl, E.out.below, .inr ⟨rfl, rfl, HNO.out HF.out⟩⟩
end Go.Proofs.Ytbblckaplddggaa
