/- the reference's Make: its result lies in memory of its own (out of XRa, gen/mkmake2.py) -/
import Derived.Test.YthjdnidapbhdlaaDoorRa
namespace Go.Proofs.YthjdnidapbhdlaaDoor
open Go.RowKit
def One2 (w : World) (z : Int) (e : Ending) (w' : World) : Prop :=
  ∃ A c, e = .returned (.agg #[.bool (decide (z < 0)), .slice A (words z.natAbs).length c]) ∧ Rd w' A (words z.natAbs).length (words z.natAbs) ∧ (words z.natAbs).length ≤ c ∧ c ≤ 9223372036854775807 ∧ Below w.heap.size w w' ∧ ∀ a, A = some a → w.heap.size ≤ a.block
theorem make_done2 {w w2 : World} {s t t2 : Bool} {v k c2 : Nat} {A2 : Option Addr} (hm : (words v).length = k) (g1 : Rd w2 A2 k (words v)) (g2 : k ≤ c2) (g3 : c2 ≤ 9223372036854775807) (hf : ∀ a, A2 = some a → w.heap.size ≤ a.block) (ht : decide (sgn s v < 0) = t) (kb : Below w.heap.size w w2)
    (k0 : w2.cell? ⟨w.heap.size, 0, none⟩ = some (.bool t2)) (k1 : w2.cell? ⟨w.heap.size, 1, none⟩ = some (.slice none 0 0)) (k3 : w2.cell? ⟨w.heap.size + 1, 1, none⟩ = some (.slice none 0 0)) (u x y : Value) :
    One2 w (sgn s v) (.returned (.agg #[.bool t, .slice A2 k c2])) (((w2.setCell ⟨w.heap.size + 1, 1, none⟩ u).setCell ⟨w.heap.size, 0, none⟩ x).setCell ⟨w.heap.size, 1, none⟩ y) := by
  subst hm ht
  refine ⟨A2, c2, by rw [sgn_abs], by rw [sgn_abs]; exact (g1.set_other k3 (fun _ e => by cases e) u).store (x := t2) (a := none) (i := 0) (j := 0) ((World.cell?_setCell_other _ _ _ _ (fun e => by injection e with e1; omega)).trans k0) ((World.cell?_setCell_other _ _ _ _ (fun e => by injection e with e1; omega)).trans k1) _ _, by rw [sgn_abs]; exact g2, g3, below_store (kb.setCell (p := ⟨w.heap.size + 1, 1, none⟩) (Nat.le_succ _) u) (Nat.le_refl _) _ _, hf⟩


set_option maxHeartbeats 400000 in
theorem Make2_c (s : Bool) (A : Option Addr) (n c : Nat) (xs : List Nat) (w : World) (h : Rd w A n xs) (hc : n ≤ c) (hc2 : c ≤ 9223372036854775807) (hn : n ≤ 35184372088832) :
    Calls Tryd.prog 53 #[.bool s, .slice A n c] w (One2 w (sgn s (val xs))) := by
  have hlen := h.len
  have hs := h.sm
  have HL := Lib.hid hlen
  have hcell : 0 < n → ∃ b o, A = some ⟨b, o, none⟩ ∧ b < w.heap.size ∧ ∀ k, k < n → w.cell? ⟨b, o + k, none⟩ = some (.int .u32 ((xs.getD k 0 : Nat) : Int)) := h.at_
  have HC := Lib.hid hcell
  have HR := Lib.hid h
  clear hlen hcell h
  go_enter Tryd.func53, Tryd.ntmps53
  go_wp2
  go_loop [5] (fun v => ∃ k : Nat, k ≤ n ∧ v = .int .i64 k ∧ val (xs.drop k) = 0) (fun v => (intOf v).toNat)
  case atStart => exact ⟨n, Nat.le_refl _, rfl, by rw [← HL.out, List.drop_length]; rfl⟩
  case round =>
    obtain ⟨k, hk, rfl, hz⟩ := hrel
    have HZ := Lib.hid hz
    clear hz
    rcases Nat.eq_zero_or_pos k with hk0 | hk0
    · subst hk0
      have HM := Lib.hid (trim_len hs (Nat.zero_le _) HZ.out (.inl rfl))
      have HRD := Lib.hid (show Rd w A 0 (words (val xs)) by rw [List.eq_nil_of_length_eq_zero HM.out]; exact Rd.nil _)
      have i2 : (0 : Int) ≤ (c : Int) := by omega
      cases s
      · go_wp2_with fail
        have r1 := (HRD.out.alloc (.cells #[.bool false, .slice none 0 0] 24)).alloc (.cells #[.bool false, .slice none 0 0] 24)
        go_region_law (first | (refine step_app_nil rfl (.tmp 28) (.tmp 31) rfl A 0 c (words (val xs)) rfl rfl (by first | exact r1 | exact r1.drew | exact r1.drewN _ | exact (r1.drewN _).drew) (by omega) ?_; intro A2 c2 w2 g1 g2 g3 g4 g5; obtain ⟨⟨k0, k1, k2, k3⟩, ⟨y0, y1, y2⟩, kb⟩ := make_env w false w2 g4))
        go_wp2
        refine bodyPost_ret (v := .agg #[.bool false, .slice A2 0 c2]) (by simp [results, Tryd.results53, go_sem, k0, k1]) rfl ?_
        exact make_done2 HM.out g1 g2 g3 (fun a e => Nat.le_trans (by simp; omega) (g5 a e)) (by rw [len_zero_eq HM.out.symm]; rfl) kb k0 k1 k3 _ _ _
      · go_wp2_with fail
        have r1 := (HRD.out.alloc (.cells #[.bool false, .slice none 0 0] 24)).alloc (.cells #[.bool false, .slice none 0 0] 24)
        go_region_law (first | (refine step_app_nil rfl (.tmp 28) (.tmp 31) rfl A 0 c (words (val xs)) rfl rfl (by first | exact r1 | exact r1.drew | exact r1.drewN _ | exact (r1.drewN _).drew) (by omega) ?_; intro A2 c2 w2 g1 g2 g3 g4 g5; obtain ⟨⟨k0, k1, k2, k3⟩, ⟨y0, y1, y2⟩, kb⟩ := make_env w false w2 g4))
        go_wp2
        refine bodyPost_ret (v := .agg #[.bool false, .slice A2 0 c2]) (by simp [results, Tryd.results53, go_sem, k0, k1]) rfl ?_
        exact make_done2 HM.out g1 g2 g3 (fun a e => Nat.le_trans (by simp; omega) (g5 a e)) (by rw [len_zero_eq HM.out.symm]; rfl) kb k0 k1 k3 _ _ _
    · obtain ⟨b, o, rfl, hb, hcell⟩ := HC.out (by omega)
      obtain ⟨j, rfl⟩ : ∃ j, k = j + 1 := ⟨k - 1, by omega⟩
      have hcj := (World.cell?_alloc_lt w (.cells #[.bool false, .slice none 0 0] 24) ⟨b, o + j, none⟩ hb).trans (hcell j (by omega))
      clear hcell
      obtain ⟨x, hx⟩ : ∃ x, x = xs.getD j 0 := ⟨_, rfl⟩
      rw [← hx] at hcj
      have HX := Lib.hid hx
      clear hx
      by_cases h0 : x = 0
      · have t : ((x : Int) == 0) = true := by subst h0; rfl
        have hz2 := trim_last (by have := HL.out; omega) HZ.out (by rw [← HX.out]; exact h0)
        have HZ2 := Lib.hid hz2
        clear hz2 h0
        go_wp2
        go_round
        case rel => exact ⟨j, by omega, by go_num, HZ2.out⟩
        case measure => simp [intOf]
      · have t : ((x : Int) == 0) = false := by simpa using h0
        have HM := Lib.hid (trim_len hs (by have := HL.out; omega) HZ.out (.inr (by rw [Nat.add_sub_cancel, ← HX.out]; exact h0)))
        clear h0
        have hrd : Rd w (some ⟨b, o, none⟩) (j + 1) (words (val xs)) := by
          have := HR.out.take (m := j + 1) (by omega)
          rwa [← HM.out, (take_words hs).1, HM.out] at this
        have HRD := Lib.hid hrd
        clear hrd
        have i1 : (0 : Int) ≤ (j : Int) + 1 := by omega
        have i2 : (j : Int) + 1 ≤ (c : Int) := by omega
        cases s
        · go_wp2_with fail
          have r1 := (HRD.out.alloc (.cells #[.bool false, .slice none 0 0] 24)).alloc (.cells #[.bool false, .slice none 0 0] 24)
          go_region_law (first | (refine step_app_nil rfl (.tmp 28) (.tmp 31) rfl (some ⟨b, o, none⟩) (j + 1) c (words (val xs)) rfl rfl (by first | exact r1 | exact r1.drew | exact r1.drewN _ | exact (r1.drewN _).drew) (by omega) ?_; intro A2 c2 w2 g1 g2 g3 g4 g5; obtain ⟨⟨k0, k1, k2, k3⟩, ⟨y0, y1, y2⟩, kb⟩ := make_env w false w2 g4))
          go_wp2
          refine bodyPost_ret (v := .agg #[.bool false, .slice A2 (j + 1) c2]) (by simp [results, Tryd.results53, go_sem, k0, k1]) rfl ?_
          exact make_done2 HM.out g1 g2 g3 (fun a e => Nat.le_trans (by simp; omega) (g5 a e)) (sgn_lt _ _ (len_pos_ne HM.out.symm (by omega))) kb k0 k1 k3 _ _ _
        · go_wp2_with fail
          have r1 := (HRD.out.alloc (.cells #[.bool false, .slice none 0 0] 24)).alloc (.cells #[.bool true, .slice none 0 0] 24)
          go_region_law (first | (refine step_app_nil rfl (.tmp 28) (.tmp 31) rfl (some ⟨b, o, none⟩) (j + 1) c (words (val xs)) rfl rfl (by first | exact r1 | exact r1.drew | exact r1.drewN _ | exact (r1.drewN _).drew) (by omega) ?_; intro A2 c2 w2 g1 g2 g3 g4 g5; obtain ⟨⟨k0, k1, k2, k3⟩, ⟨y0, y1, y2⟩, kb⟩ := make_env w true w2 g4))
          go_wp2
          refine bodyPost_ret (v := .agg #[.bool true, .slice A2 (j + 1) c2]) (by simp [results, Tryd.results53, go_sem, k0, k1]) rfl ?_
          exact make_done2 HM.out g1 g2 g3 (fun a e => Nat.le_trans (by simp; omega) (g5 a e)) (sgn_lt _ _ (len_pos_ne HM.out.symm (by omega))) kb k0 k1 k3 _ _ _
end Go.Proofs.YthjdnidapbhdlaaDoor
namespace Go.Proofs.YthjdnidapbhdlaaDoor
open Go.RowKit

end Go.Proofs.YthjdnidapbhdlaaDoor
