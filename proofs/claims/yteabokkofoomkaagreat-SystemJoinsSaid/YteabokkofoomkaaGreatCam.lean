import Derived.Test.YteabokkofoomkaaGreatCak
import Derived.Test.YteabokkofoomkaaGreatCal
set_option maxRecDepth 100000
namespace Go.Proofs.YteabokkofoomkaaGreat
open Go.RowKit Go.Deep
abbrev aggP (V : Int) (A : Option Addr) (n c : Nat) : Value := .agg #[.int .i64 V, .slice A n c]
abbrev boxP (V : Int) (A : Option Addr) (n c : Nat) : Obj := .cells #[.int .i64 V, .slice A n c] 45
structure BxP (W : World) (g : Nat) (V : Int) (A : Option Addr) (n c : Nat) : Prop where
 lt : g < W.heap.size
 c0 : W.cell? ⟨g, 0, none⟩ = some (.int .i64 V)
 c1 : W.cell? ⟨g, 1, none⟩ = some (.slice A n c)
theorem BxP.next {W W' : World} {g : Nat} {V : Int} {A : Option Addr} {n c : Nat} (h : BxP W g V A n c) (hb : Below W.heap.size W W') : BxP W' g V A n c :=
 ⟨Nat.lt_of_lt_of_le h.lt hb.size, (hb.cell (p := ⟨g, 0, none⟩) h.lt).trans h.c0, (hb.cell (p := ⟨g, 1, none⟩) h.lt).trans h.c1⟩
theorem BxP.new (W : World) (V : Int) (A : Option Addr) (n c : Nat) : BxP (W.alloc (boxP V A n c)) W.heap.size V A n c :=
 ⟨by simp, by go_simp, by go_simp⟩
structure TrA (W : World) (b o : Nat) (t : Trm) (A : Option Addr) (n c : Nat) (B : Option Addr) (m d : Nat) : Prop where
 lt : b < W.heap.size
 is : TrmIs W b o t A n c B m d
theorem TrA.next {W W' : World} {b o : Nat} {t : Trm} {A : Option Addr} {n c : Nat} {B : Option Addr} {m d : Nat} (h : TrA W b o t A n c B m d) (hb : Below W.heap.size W W') : TrA W' b o t A n c B m d :=
 ⟨Nat.lt_of_lt_of_le h.lt hb.size, h.is.below h.lt hb⟩
theorem ordT_le {a b : List Int} : ordT a b = 1 ∨ ordT a b ≤ 0 := by
 unfold ordT
 by_cases h1 : sumI a < sumI b
 · rw [if_pos h1]; exact .inr (by omega)
 · rw [if_neg h1]
   by_cases h2 : sumI b < sumI a
   · rw [if_pos h2]; exact .inl rfl
   · rw [if_neg h2]
     have hl : ∀ l l' : List Int, lexI l l' = 1 ∨ lexI l l' ≤ 0 := by
      intro l
      induction l with
      | nil => intro l'; cases l' with
        | nil => exact .inr (by decide)
        | cons y t => exact .inr (by show (-1 : Int) ≤ 0; decide)
      | cons x s ih => intro l'; cases l' with
        | nil => exact .inl rfl
        | cons y t =>
          show (if x < y then (-1 : Int) else if y < x then 1 else lexI s t) = 1 ∨ (if x < y then (-1 : Int) else if y < x then 1 else lexI s t) ≤ 0
          by_cases q1 : x < y
          · rw [if_pos q1]; exact .inr (by omega)
          · rw [if_neg q1]
            by_cases q2 : y < x
            · rw [if_pos q2]; exact .inl rfl
            · rw [if_neg q2]; exact ih t
     exact hl a b
theorem vp_false1 {V : Int} {ts : List Trm} (h : ¬ (0 ≤ V ∧ V ≤ 32 ∧ ts.length ≤ 3000)) : validP V ts = false := by simp only [validP, decide_eq_false h, Bool.false_and]
theorem vp_false2 {V : Int} {ts : List Trm} {k : Nat} (hk : k < ts.length) (h : validTrm (trmAt ts k) V = false) : validP V ts = false := by
 have : validPs V ts = false := decide_eq_false fun q => by have := (q k hk).1; rw [h] at this; cases this
 simp only [validP, this, Bool.and_false]
theorem vp_false3 {V : Int} {ts : List Trm} {j k : Nat} (hk : k < ts.length) (hj : k = j + 1) (h : ordT (trmAt ts j).es (trmAt ts k).es ≤ 0) : validP V ts = false := by
 have : validPs V ts = false := decide_eq_false fun q => by have := (q k hk).2 (by omega); rw [hj, Nat.add_sub_cancel] at this; rw [hj] at h; omega
 simp only [validP, this, Bool.and_false]
theorem vp_true {V : Int} {ts : List Trm} (h : 0 ≤ V ∧ V ≤ 32 ∧ ts.length ≤ 3000) (h2 : ∀ i, i < ts.length → validTrm (trmAt ts i) V = true ∧ (0 < i → ordT (trmAt ts (i - 1)).es (trmAt ts i).es = 1)) : validP V ts = true := by
 simp only [validP, validPs, decide_eq_true h, decide_eq_true h2, Bool.and_self]
set_option maxHeartbeats 8000000 in
theorem polyValid_c (V : Int) (A : Option Addr) (n c : Nat) (ts : List Trm) (w : World) (h : RdT w A n ts) :
 Calls Tryz.prog 72 #[aggP V A n c] w (RetB (validP V ts) w) := by
 have k0 := bel_alloc w (boxP V A n c)
 have P := Lib.hid k0
 have RT := Lib.hid (h.below k0)
 have X := Lib.hid (BxP.new w V A n c)
 have HL := Lib.hid h.len
 clear h k0
 go_enter Tryz.func72, Tryz.ntmps72
 go_upto_region 1 with (fail)
 generalize w.alloc (boxP V A n c) = W0 at P RT X ⊢
 obtain ⟨g, hg⟩ : ∃ g, g = w.heap.size := ⟨_, rfl⟩
 rw [← hg] at X ⊢
 clear hg
 have a0 := X.out.c0
 have a1 := X.out.c1
 by_cases q1 : V < 0
 · have t1 : decide (V < 0) = true := decide_eq_true q1
   have HF := Lib.hid (vp_false1 (V := V) (ts := ts) (by omega))
   go_wp2
   go_ret
   exact ⟨by rw [HF.out] <;> rfl, P.out⟩
 have t1 : decide (V < 0) = false := decide_eq_false q1
 by_cases q2 : 32 < V
 · have t2 : decide (32 < V) = true := decide_eq_true q2
   have HF := Lib.hid (vp_false1 (V := V) (ts := ts) (by omega))
   go_wp2
   go_ret
   exact ⟨by rw [HF.out] <;> rfl, P.out⟩
 have t2 : decide (32 < V) = false := decide_eq_false q2
 by_cases q3 : 3000 < n
 · have t3 : decide ((3000 : Int) < (n : Int)) = true := decide_eq_true (by omega)
   have t3n : decide (3000 < n) = true := decide_eq_true q3
   have HF := Lib.hid (vp_false1 (V := V) (ts := ts) (by have := HL.out; omega))
   go_wp2
   go_ret
   exact ⟨by rw [HF.out] <;> rfl, P.out⟩
 have t3 : decide ((3000 : Int) < (n : Int)) = false := decide_eq_false (by omega)
 have t3n : decide (3000 < n) = false := decide_eq_false q3
 have HB := Lib.hid (show 0 ≤ V ∧ V ≤ 32 ∧ n ≤ 3000 by omega)
 clear q1 q2 q3
 go_wp2
 go_loopw [22] (fun v wr => ∃ k : Nat, v = .int .i64 (k : Int) ∧ k ≤ n ∧ Below w.heap.size w wr ∧ BxP wr g V A n c ∧ RdT wr A n ts ∧ ∀ i, i < k → validTrm (trmAt ts i) V = true ∧ (0 < i → ordT (trmAt ts (i - 1)).es (trmAt ts i).es = 1)) (fun v _ => n - (intOf v).toNat)
 case atStart => exact ⟨0, rfl, Nat.zero_le _, P.out, X.out, RT.out, fun i hi => absurd hi (by omega)⟩
 case round =>
  obtain ⟨k, rfl, hk, hp, hx, hr, hall⟩ := hrel
  clear P X RT a0 a1 t1 t2 t3 t3n
  have hn3 := HB.out.2.2
  have P := Lib.hid hp
  have X := Lib.hid hx
  have RT := Lib.hid hr
  have HA := Lib.hid hall
  clear hp hx hr hall
  by_cases hkn : k < n
  · have t1 : decide ((k : Int) < (n : Int)) = true := decide_eq_true (by omega)
    have t1n : decide (k < n) = true := decide_eq_true hkn
    have hkI : (k : Int) < (n : Int) := by omega
    obtain ⟨b, o, rfl, hblt, hcell⟩ := RT.out.at_ (by omega)
    obtain ⟨A1, n1, c1, B1, m1, d1, hT⟩ := hcell k hkn
    have TK := Lib.hid (TrA.mk hblt hT)
    have HC := Lib.hid hcell
    obtain ⟨t, ht⟩ : ∃ t, t = trmAt ts k := ⟨_, rfl⟩
    rw [← ht] at TK
    have HT := Lib.hid ht
    clear hcell hT ht
    obtain ⟨s, xs, es⟩ := t
    obtain ⟨v, hvv⟩ : ∃ v, v = validTrm ⟨s, xs, es⟩ V := ⟨_, rfl⟩
    have HVB := Lib.hid hvv
    clear hvv
    have a1 := X.out.c1
    have c0 := TK.out.is.c0
    have c1' := TK.out.is.c1
    have c2 := TK.out.is.c2
    dsimp only at c0
    have hg4 := bel_alloc wr (boxT s A1 n1 c1 B1 m1 d1)
    have X4 := Lib.hid (BxT.new wr s A1 n1 c1 B1 m1 d1)
    have HB4 := Lib.hid hblt
    go_upto_region 6 with (fail)
    replace P := Lib.hid (P.out.trans (hg4.mono P.out.size))
    replace X := Lib.hid (X.out.next hg4)
    replace RT := Lib.hid (RT.out.below hg4)
    replace TK := Lib.hid (TK.out.next hg4)
    clear a1 c0 c1' c2
    obtain ⟨g4, hg4e⟩ : ∃ g, g = wr.heap.size := ⟨_, rfl⟩
    rw [← hg4e] at X4 ⊢
    clear hg4e hg4
    generalize wr.alloc (boxT s A1 n1 c1 B1 m1 d1) = W1 at P X RT TK X4 ⊢
    have HVT := Lib.hid (fun W h1 h2 => validTerm_c s A1 n1 c1 xs B1 m1 d1 es V W h1 h2 (by have := HB.out; omega))
    rw [← HVB.out] at HVT
    cases v with
    | false =>
      have HF := Lib.hid (vp_false2 (V := V) (ts := ts) (k := k) (by rw [HL.out]; exact hkn) (by rw [← HT.out]; exact HVB.out.symm))
      refine wp_region_held_drew (S := (fun w' => w'.cell? ⟨g, 0, none⟩ = some (.int .i64 V) ∧ w'.cell? ⟨g, 1, none⟩ = some (.slice (some ⟨b, o, none⟩) n c) ∧ w'.cell? ⟨g4, 0, none⟩ = some (.bool s) ∧ w'.cell? ⟨g4, 1, none⟩ = some (.slice A1 n1 c1) ∧ w'.cell? ⟨g4, 2, none⟩ = some (.slice B1 m1 d1))) (by kernel_rfl) (⟨cell_drq X.out.c0, cell_drq X.out.c1, cell_drq X4.out.c0, cell_drq X4.out.c1, cell_drq X4.out.c2⟩) (fun hHeld => ?_)
      replace P := Lib.hid (P.out.trans ((Below.refl W1.heap.size W1).drew.mono P.out.size))
      replace X := Lib.hid (X.out.next (Below.refl W1.heap.size W1).drew)
      replace RT := Lib.hid (RT.out.below (Below.refl W1.heap.size W1).drew)
      replace TK := Lib.hid (TK.out.next (Below.refl W1.heap.size W1).drew)
      replace X4 := Lib.hid (X4.out.next (Below.refl W1.heap.size W1).drew)
      generalize W1.drew = D1 at P X RT TK X4 hHeld ⊢
      refine tkk 0 27 rfl rfl (by kernel_rfl) (fun _ _ _ _ h => h) (by rfl) (fun w h => by obtain ⟨h0, h1, h2, h3, h4⟩ := h; go_simp; rfl) (by assumption) ?_
      simp only [set0, set1]
      refine tkk 1 28 rfl rfl (by kernel_rfl) (fun _ _ _ _ h => h) (by rfl) (fun w h => by obtain ⟨h0, h1, h2, h3, h4⟩ := h; go_simp; rfl) (by assumption) ?_
      simp only [set0, set1]
      refine tkk 2 29 rfl rfl (by kernel_rfl) (fun _ _ _ _ h => h) (by rfl) (fun w h => by obtain ⟨h0, h1, h2, h3, h4⟩ := h; go_simp; rfl) (by assumption) ?_
      simp only [set0, set1]
      refine wpAnyH_ready (rs := [3]) (by kernel_rfl) (by simp) ?_
      refine AllReadyH.cons rfl (fun K hK => ?_) AllReadyH.nil
      go_simp
      refine (HVT.out D1 TK.out.is.rd TK.out.is.ri).mono ?_
      rintro e v2 ⟨rfl, hb⟩
      replace P := Lib.hid (P.out.trans (hb.mono P.out.size))
      replace X := Lib.hid (X.out.next hb)
      replace RT := Lib.hid (RT.out.below hb)
      replace TK := Lib.hid (TK.out.next hb)
      replace X4 := Lib.hid (X4.out.next hb)
      clear hb hHeld
      refine hK.out _ _ (⟨X.out.c0, X.out.c1, X4.out.c0, X4.out.c1, X4.out.c2⟩) (fun hHeld => ?_)
      clear hK K
      refine tkk 4 31 rfl rfl (by kernel_rfl) (fun _ _ _ _ h => h) (by rfl) (fun w h => by obtain ⟨h0, h1, h2, h3, h4⟩ := h; go_simp; rfl) (by assumption) ?_
      simp only [set0, set1]
      refine tkk 5 32 rfl rfl (by kernel_rfl) (fun _ _ _ _ h => h) (by rfl) (fun w h => by obtain ⟨h0, h1, h2, h3, h4⟩ := h; go_simp; rfl) (by assumption) ?_
      simp only [set0, set1]
      refine tff 6 33 rfl rfl (by kernel_rfl) (fun _ _ _ _ h => h) (by rfl) (by assumption) ?_
      simp only [set0, set1]
      refine tff 7 34 rfl rfl (by kernel_rfl) (fun _ _ _ _ h => h) (by rfl) (by assumption) ?_
      simp only [set0, set1]
      refine tff 8 35 rfl rfl (by kernel_rfl) (fun _ _ _ _ h => h) (by rfl) (by assumption) ?_
      simp only [set0, set1]
      refine tff 9 36 rfl rfl (by kernel_rfl) (fun _ _ _ _ h => h) (by rfl) (by assumption) ?_
      simp only [set0, set1]
      refine tff 10 37 rfl rfl (by kernel_rfl) (fun _ _ _ _ h => h) (by rfl) (by assumption) ?_
      simp only [set0, set1]
      refine tff 11 38 rfl rfl (by kernel_rfl) (fun _ _ _ _ h => h) (by rfl) (by assumption) ?_
      simp only [set0, set1]
      refine tff 12 39 rfl rfl (by kernel_rfl) (fun _ _ _ _ h => h) (by rfl) (by assumption) ?_
      simp only [set0, set1]
      refine tff 13 40 rfl rfl (by kernel_rfl) (fun _ _ _ _ h => h) (by rfl) (by assumption) ?_
      simp only [set0, set1]
      refine tff 14 41 rfl rfl (by kernel_rfl) (fun _ _ _ _ h => h) (by rfl) (by assumption) ?_
      simp only [set0, set1]
      refine tff 15 42 rfl rfl (by kernel_rfl) (fun _ _ _ _ h => h) (by rfl) (by assumption) ?_
      simp only [set0, set1]
      refine tff 16 43 rfl rfl (by kernel_rfl) (fun _ _ _ _ h => h) (by rfl) (by assumption) ?_
      simp only [set0, set1]
      refine tff 17 44 rfl rfl (by kernel_rfl) (fun _ _ _ _ h => h) (by rfl) (by assumption) ?_
      simp only [set0, set1]
      refine tff 18 45 rfl rfl (by kernel_rfl) (fun _ _ _ _ h => h) (by rfl) (by assumption) ?_
      simp only [set0, set1]
      refine tkk 19 46 rfl rfl (by kernel_rfl) (fun _ _ _ _ h => h) (by rfl) (fun w h => by obtain ⟨h0, h1, h2, h3, h4⟩ := h; go_simp; rfl) (by assumption) ?_
      clear hHeld
      refine wpAnyH_done (by kernel_rfl) ?_ _
      go_wp2
      go_ret
      exact ⟨by rw [HF.out] <;> rfl, P.out⟩
    | true =>
      rcases Nat.eq_zero_or_pos k with k0 | k0
      · have tk : decide (0 < (k : Int)) = false := decide_eq_false (by omega)
        have tkn : decide (0 < k) = false := decide_eq_false (by omega)
        have K0 := Lib.hid k0
        clear k0
        refine wp_region_held_drew (S := (fun w' => w'.cell? ⟨g, 0, none⟩ = some (.int .i64 V) ∧ w'.cell? ⟨g, 1, none⟩ = some (.slice (some ⟨b, o, none⟩) n c) ∧ w'.cell? ⟨g4, 0, none⟩ = some (.bool s) ∧ w'.cell? ⟨g4, 1, none⟩ = some (.slice A1 n1 c1) ∧ w'.cell? ⟨g4, 2, none⟩ = some (.slice B1 m1 d1))) (by kernel_rfl) (⟨cell_drq X.out.c0, cell_drq X.out.c1, cell_drq X4.out.c0, cell_drq X4.out.c1, cell_drq X4.out.c2⟩) (fun hHeld => ?_)
        replace P := Lib.hid (P.out.trans ((Below.refl W1.heap.size W1).drew.mono P.out.size))
        replace X := Lib.hid (X.out.next (Below.refl W1.heap.size W1).drew)
        replace RT := Lib.hid (RT.out.below (Below.refl W1.heap.size W1).drew)
        replace TK := Lib.hid (TK.out.next (Below.refl W1.heap.size W1).drew)
        replace X4 := Lib.hid (X4.out.next (Below.refl W1.heap.size W1).drew)
        generalize W1.drew = D3 at P X RT TK X4 hHeld ⊢
        refine tkk 0 27 rfl rfl (by kernel_rfl) (fun _ _ _ _ h => h) (by rfl) (fun w h => by obtain ⟨h0, h1, h2, h3, h4⟩ := h; go_simp; rfl) (by assumption) ?_
        simp only [set0, set1]
        refine tkk 1 28 rfl rfl (by kernel_rfl) (fun _ _ _ _ h => h) (by rfl) (fun w h => by obtain ⟨h0, h1, h2, h3, h4⟩ := h; go_simp; rfl) (by assumption) ?_
        simp only [set0, set1]
        refine tkk 2 29 rfl rfl (by kernel_rfl) (fun _ _ _ _ h => h) (by rfl) (fun w h => by obtain ⟨h0, h1, h2, h3, h4⟩ := h; go_simp; rfl) (by assumption) ?_
        simp only [set0, set1]
        refine wpAnyH_ready (rs := [3]) (by kernel_rfl) (by simp) ?_
        refine AllReadyH.cons rfl (fun K hK => ?_) AllReadyH.nil
        go_simp
        refine (HVT.out D3 TK.out.is.rd TK.out.is.ri).mono ?_
        rintro e v4 ⟨rfl, hb⟩
        replace P := Lib.hid (P.out.trans (hb.mono P.out.size))
        replace X := Lib.hid (X.out.next hb)
        replace RT := Lib.hid (RT.out.below hb)
        replace TK := Lib.hid (TK.out.next hb)
        replace X4 := Lib.hid (X4.out.next hb)
        clear hb hHeld
        refine hK.out _ _ (⟨X.out.c0, X.out.c1, X4.out.c0, X4.out.c1, X4.out.c2⟩) (fun hHeld => ?_)
        clear hK K
        refine tkk 4 31 rfl rfl (by kernel_rfl) (fun _ _ _ _ h => h) (by rfl) (fun w h => by obtain ⟨h0, h1, h2, h3, h4⟩ := h; go_simp; rfl) (by assumption) ?_
        simp only [set0, set1]
        refine tkk 5 32 rfl rfl (by kernel_rfl) (fun _ _ _ _ h => h) (by rfl) (fun w h => by obtain ⟨h0, h1, h2, h3, h4⟩ := h; go_simp; rfl) (by assumption) ?_
        simp only [set0, set1]
        refine tkk 6 33 rfl rfl (by kernel_rfl) (fun _ _ _ _ h => h) (by rfl) (fun w h => by obtain ⟨h0, h1, h2, h3, h4⟩ := h; go_simp; rfl) (by assumption) ?_
        simp only [set0, set1]
        refine tkk 7 34 rfl rfl (by kernel_rfl) (fun _ _ _ _ h => h) (by rfl) (fun w h => by obtain ⟨h0, h1, h2, h3, h4⟩ := h; go_simp; rfl) (by assumption) ?_
        simp only [set0, set1]
        refine tkk 8 35 rfl rfl (by kernel_rfl) (fun _ _ _ _ h => h) (by rfl) (fun w h => by obtain ⟨h0, h1, h2, h3, h4⟩ := h; go_simp; rfl) (by assumption) ?_
        simp only [set0, set1]
        refine tff 9 36 rfl rfl (by kernel_rfl) (fun _ _ _ _ h => h) (by rfl) (by assumption) ?_
        simp only [set0, set1]
        refine tff 10 37 rfl rfl (by kernel_rfl) (fun _ _ _ _ h => h) (by rfl) (by assumption) ?_
        simp only [set0, set1]
        refine tff 11 38 rfl rfl (by kernel_rfl) (fun _ _ _ _ h => h) (by rfl) (by assumption) ?_
        simp only [set0, set1]
        refine tff 12 39 rfl rfl (by kernel_rfl) (fun _ _ _ _ h => h) (by rfl) (by assumption) ?_
        simp only [set0, set1]
        refine tff 13 40 rfl rfl (by kernel_rfl) (fun _ _ _ _ h => h) (by rfl) (by assumption) ?_
        simp only [set0, set1]
        refine tff 14 41 rfl rfl (by kernel_rfl) (fun _ _ _ _ h => h) (by rfl) (by assumption) ?_
        simp only [set0, set1]
        refine tff 15 42 rfl rfl (by kernel_rfl) (fun _ _ _ _ h => h) (by rfl) (by assumption) ?_
        simp only [set0, set1]
        refine tff 16 43 rfl rfl (by kernel_rfl) (fun _ _ _ _ h => h) (by rfl) (by assumption) ?_
        simp only [set0, set1]
        refine tff 17 44 rfl rfl (by kernel_rfl) (fun _ _ _ _ h => h) (by rfl) (by assumption) ?_
        simp only [set0, set1]
        refine tkk 18 45 rfl rfl (by kernel_rfl) (fun _ _ _ _ h => h) (by rfl) (fun w h => by obtain ⟨h0, h1, h2, h3, h4⟩ := h; go_simp; rfl) (by assumption) ?_
        simp only [set0, set1]
        refine tkk 19 46 rfl rfl (by kernel_rfl) (fun _ _ _ _ h => h) (by rfl) (fun w h => by obtain ⟨h0, h1, h2, h3, h4⟩ := h; go_simp; rfl) (by assumption) ?_
        clear hHeld
        refine wpAnyH_done (by kernel_rfl) ?_ _
        go_wp2
        go_roundw
        case measure => simp [intOf]; omega
        case rel => exact ⟨k + 1, by go_num, by omega, P.out, X.out, RT.out, fun i hi => by
         by_cases e : i = k
         · subst e
           exact ⟨by rw [← HT.out]; exact HVB.out.symm, fun h0 => by (have := K0.out; omega)⟩
         · exact HA.out i (by omega)⟩
      · have tk : decide (0 < (k : Int)) = true := decide_eq_true (by omega)
        have tkn : decide (0 < k) = true := decide_eq_true (by omega)
        obtain ⟨j, hj⟩ : ∃ j, k = j + 1 := ⟨k - 1, by omega⟩
        have ekj : (k : Int) - 1 = (j : Int) := by omega
        have hjn : j < n := by omega
        have hjI : (j : Int) < (n : Int) := by omega
        have hj0 : (0 : Int) ≤ (j : Int) := by omega
        have wj : IntKind.i64.wrap (j : Int) = (j : Int) := IntWalk.i64_in _ (by omega)
        obtain ⟨b', o', eb, hblt', hcell⟩ := RT.out.at_ (by omega)
        obtain ⟨rfl, rfl⟩ : b = b' ∧ o = o' := by injection eb with eb; injection eb with e1 e2; exact ⟨e1, e2⟩
        obtain ⟨A2, n2, c2, B2, m2, d2, hT2⟩ := hcell j hjn
        have TJ := Lib.hid (TrA.mk hblt' hT2)
        have HJ := Lib.hid (HA.out j (by omega)).1
        obtain ⟨t2, ht2⟩ : ∃ t, t = trmAt ts j := ⟨_, rfl⟩
        rw [← ht2] at TJ HJ
        have HT2 := Lib.hid ht2
        have HKJ := Lib.hid hj
        clear hcell hT2 ht2 eb hj hblt'
        obtain ⟨s2, xs2, es2⟩ := t2
        obtain ⟨he2, hl2⟩ := vt_exps HJ.out
        obtain ⟨he1, hl1⟩ := vt_exps (t := ⟨s, xs, es⟩) HVB.out.symm
        obtain rfl : m1 = m2 := by
         have e1 := TK.out.is.ri.len
         have e2 := TJ.out.is.ri.len
         dsimp only at e1 e2 hl1 hl2
         omega
        have HEX := Lib.hid (And.intro he2 he1)
        have HMM := Lib.hid (show m1 ≤ 1000000 by
         have e1 := TK.out.is.ri.len
         have := HB.out
         dsimp only at e1 hl1
         omega)
        clear he1 he2 hl1 hl2
        obtain ⟨ov, hov⟩ : ∃ v, v = ordT es2 es := ⟨_, rfl⟩
        have HOC := Lib.hid (fun W h1 h2 => compareTerms_c s2 A2 n2 c2 B2 m1 d2 s A1 n1 c1 B1 d1 es2 es W h1 h2 HEX.out.1 HEX.out.2 HMM.out)
        rw [← hov] at HOC
        have HOV := Lib.hid hov
        clear hov
        rcases (show ov = 1 ∨ ov ≤ 0 by rw [HOV.out]; exact ordT_le) with ho | ho
        · have HO1 := Lib.hid (show ordT (trmAt ts j).es (trmAt ts k).es = 1 by rw [← HT.out, ← HT2.out]; show ordT es2 es = 1; rw [← HOV.out, ho])
          subst ho
          refine wp_region_held_drew (S := (fun w' => w'.cell? ⟨g, 0, none⟩ = some (.int .i64 V) ∧ w'.cell? ⟨g, 1, none⟩ = some (.slice (some ⟨b, o, none⟩) n c) ∧ w'.cell? ⟨g4, 0, none⟩ = some (.bool s) ∧ w'.cell? ⟨g4, 1, none⟩ = some (.slice A1 n1 c1) ∧ w'.cell? ⟨g4, 2, none⟩ = some (.slice B1 m1 d1) ∧ w'.cell? ⟨b, o + j * 3, none⟩ = some (.bool s2) ∧ w'.cell? ⟨b, o + j * 3 + 1, none⟩ = some (.slice A2 n2 c2) ∧ w'.cell? ⟨b, o + j * 3 + 2, none⟩ = some (.slice B2 m1 d2))) (by kernel_rfl) (⟨cell_drq X.out.c0, cell_drq X.out.c1, cell_drq X4.out.c0, cell_drq X4.out.c1, cell_drq X4.out.c2, cell_drq TJ.out.is.c0, cell_drq TJ.out.is.c1, cell_drq TJ.out.is.c2⟩) (fun hHeld => ?_)
          replace P := Lib.hid (P.out.trans ((Below.refl W1.heap.size W1).drew.mono P.out.size))
          replace X := Lib.hid (X.out.next (Below.refl W1.heap.size W1).drew)
          replace RT := Lib.hid (RT.out.below (Below.refl W1.heap.size W1).drew)
          replace TK := Lib.hid (TK.out.next (Below.refl W1.heap.size W1).drew)
          replace X4 := Lib.hid (X4.out.next (Below.refl W1.heap.size W1).drew)
          replace TJ := Lib.hid (TJ.out.next (Below.refl W1.heap.size W1).drew)
          generalize W1.drew = D5 at P X RT TK X4 TJ hHeld ⊢
          refine tkk 0 27 rfl rfl (by kernel_rfl) (fun _ _ _ _ h => h) (by rfl) (fun w h => by obtain ⟨h0, h1, h2, h3, h4, h5, h6, h7⟩ := h; go_simp; rfl) (by assumption) ?_
          simp only [set0, set1]
          refine tkk 1 28 rfl rfl (by kernel_rfl) (fun _ _ _ _ h => h) (by rfl) (fun w h => by obtain ⟨h0, h1, h2, h3, h4, h5, h6, h7⟩ := h; go_simp; rfl) (by assumption) ?_
          simp only [set0, set1]
          refine tkk 2 29 rfl rfl (by kernel_rfl) (fun _ _ _ _ h => h) (by rfl) (fun w h => by obtain ⟨h0, h1, h2, h3, h4, h5, h6, h7⟩ := h; go_simp; rfl) (by assumption) ?_
          simp only [set0, set1]
          refine wpAnyH_ready (rs := [3]) (by kernel_rfl) (by simp) ?_
          refine AllReadyH.cons rfl (fun K hK => ?_) AllReadyH.nil
          go_simp
          refine (HVT.out D5 TK.out.is.rd TK.out.is.ri).mono ?_
          rintro e v6 ⟨rfl, hb⟩
          replace P := Lib.hid (P.out.trans (hb.mono P.out.size))
          replace X := Lib.hid (X.out.next hb)
          replace RT := Lib.hid (RT.out.below hb)
          replace TK := Lib.hid (TK.out.next hb)
          replace X4 := Lib.hid (X4.out.next hb)
          replace TJ := Lib.hid (TJ.out.next hb)
          clear hb hHeld
          refine hK.out _ _ (⟨X.out.c0, X.out.c1, X4.out.c0, X4.out.c1, X4.out.c2, TJ.out.is.c0, TJ.out.is.c1, TJ.out.is.c2⟩) (fun hHeld => ?_)
          clear hK K
          refine tkk 4 31 rfl rfl (by kernel_rfl) (fun _ _ _ _ h => h) (by rfl) (fun w h => by obtain ⟨h0, h1, h2, h3, h4, h5, h6, h7⟩ := h; go_simp; rfl) (by assumption) ?_
          simp only [set0, set1]
          refine tkk 5 32 rfl rfl (by kernel_rfl) (fun _ _ _ _ h => h) (by rfl) (fun w h => by obtain ⟨h0, h1, h2, h3, h4, h5, h6, h7⟩ := h; go_simp; rfl) (by assumption) ?_
          simp only [set0, set1]
          refine tkk 6 33 rfl rfl (by kernel_rfl) (fun _ _ _ _ h => h) (by rfl) (fun w h => by obtain ⟨h0, h1, h2, h3, h4, h5, h6, h7⟩ := h; go_simp; rfl) (by assumption) ?_
          simp only [set0, set1]
          refine tkk 7 34 rfl rfl (by kernel_rfl) (fun _ _ _ _ h => h) (by rfl) (fun w h => by obtain ⟨h0, h1, h2, h3, h4, h5, h6, h7⟩ := h; go_simp; rfl) (by assumption) ?_
          simp only [set0, set1]
          refine tkk 8 35 rfl rfl (by kernel_rfl) (fun _ _ _ _ h => h) (by rfl) (fun w h => by obtain ⟨h0, h1, h2, h3, h4, h5, h6, h7⟩ := h; go_simp; rfl) (by assumption) ?_
          simp only [set0, set1]
          refine tkk 9 36 rfl rfl (by kernel_rfl) (fun _ _ _ _ h => h) (by rfl) (fun w h => by obtain ⟨h0, h1, h2, h3, h4, h5, h6, h7⟩ := h; go_simp; rfl) (by assumption) ?_
          simp only [set0, set1]
          refine tkk 10 37 rfl rfl (by kernel_rfl) (fun _ _ _ _ h => h) (by rfl) (fun w h => by obtain ⟨h0, h1, h2, h3, h4, h5, h6, h7⟩ := h; go_simp; rfl) (by assumption) ?_
          simp only [set0, set1]
          refine tkk 11 38 rfl rfl (by kernel_rfl) (fun _ _ _ _ h => h) (by rfl) (fun w h => by obtain ⟨h0, h1, h2, h3, h4, h5, h6, h7⟩ := h; go_simp; rfl) (by assumption) ?_
          simp only [set0, set1]
          refine tkk 12 39 rfl rfl (by kernel_rfl) (fun _ _ _ _ h => h) (by rfl) (fun w h => by obtain ⟨h0, h1, h2, h3, h4, h5, h6, h7⟩ := h; go_simp; rfl) (by assumption) ?_
          simp only [set0, set1]
          refine tkk 13 40 rfl rfl (by kernel_rfl) (fun _ _ _ _ h => h) (by rfl) (fun w h => by obtain ⟨h0, h1, h2, h3, h4, h5, h6, h7⟩ := h; go_simp; rfl) (by assumption) ?_
          simp only [set0, set1]
          refine tkk 14 41 rfl rfl (by kernel_rfl) (fun _ _ _ _ h => h) (by rfl) (fun w h => by obtain ⟨h0, h1, h2, h3, h4, h5, h6, h7⟩ := h; go_simp; rfl) (by assumption) ?_
          simp only [set0, set1]
          refine tkk 15 42 rfl rfl (by kernel_rfl) (fun _ _ _ _ h => h) (by rfl) (fun w h => by obtain ⟨h0, h1, h2, h3, h4, h5, h6, h7⟩ := h; go_simp; rfl) (by assumption) ?_
          simp only [set0, set1]
          refine wpAnyH_ready (rs := [16]) (by kernel_rfl) (by simp) ?_
          refine AllReadyH.cons rfl (fun K hK => ?_) AllReadyH.nil
          go_simp
          refine (HOC.out v6 TJ.out.is.ri TK.out.is.ri).mono ?_
          rintro e v7 ⟨rfl, hb⟩
          replace P := Lib.hid (P.out.trans (hb.mono P.out.size))
          replace X := Lib.hid (X.out.next hb)
          replace RT := Lib.hid (RT.out.below hb)
          replace TK := Lib.hid (TK.out.next hb)
          replace X4 := Lib.hid (X4.out.next hb)
          replace TJ := Lib.hid (TJ.out.next hb)
          clear hb hHeld
          refine hK.out _ _ (⟨X.out.c0, X.out.c1, X4.out.c0, X4.out.c1, X4.out.c2, TJ.out.is.c0, TJ.out.is.c1, TJ.out.is.c2⟩) (fun hHeld => ?_)
          clear hK K
          refine tkk 17 44 rfl rfl (by kernel_rfl) (fun _ _ _ _ h => h) (by rfl) (fun w h => by obtain ⟨h0, h1, h2, h3, h4, h5, h6, h7⟩ := h; go_simp; rfl) (by assumption) ?_
          simp only [set0, set1]
          refine tkk 18 45 rfl rfl (by kernel_rfl) (fun _ _ _ _ h => h) (by rfl) (fun w h => by obtain ⟨h0, h1, h2, h3, h4, h5, h6, h7⟩ := h; go_simp; rfl) (by assumption) ?_
          simp only [set0, set1]
          refine tkk 19 46 rfl rfl (by kernel_rfl) (fun _ _ _ _ h => h) (by rfl) (fun w h => by obtain ⟨h0, h1, h2, h3, h4, h5, h6, h7⟩ := h; go_simp; rfl) (by assumption) ?_
          clear hHeld
          refine wpAnyH_done (by kernel_rfl) ?_ _
          clear ekj wj
          go_wp2
          go_roundw
          case measure => simp [intOf]; omega
          case rel => exact ⟨k + 1, by go_num, by omega, P.out, X.out, RT.out, fun i hi => by
           by_cases e : i = k
           · subst e
             exact ⟨by rw [← HT.out]; exact HVB.out.symm, fun h0 => by have e : i - 1 = j := by (have := HKJ.out; omega)
                                                                       rw [e]; exact HO1.out⟩
           · exact HA.out i (by omega)⟩
        · have HF := Lib.hid (vp_false3 (V := V) (ts := ts) (k := k) (j := j) (by rw [HL.out]; exact hkn) HKJ.out (by rw [← HT.out, ← HT2.out]; show ordT es2 es ≤ 0; rw [← HOV.out]; exact ho))
          have tov : decide (ov ≤ 0) = true := decide_eq_true ho
          have tov2 : (ov != 1) = true := by rw [bne_iff_ne]; omega
          refine wp_region_held_drew (S := (fun w' => w'.cell? ⟨g, 0, none⟩ = some (.int .i64 V) ∧ w'.cell? ⟨g, 1, none⟩ = some (.slice (some ⟨b, o, none⟩) n c) ∧ w'.cell? ⟨g4, 0, none⟩ = some (.bool s) ∧ w'.cell? ⟨g4, 1, none⟩ = some (.slice A1 n1 c1) ∧ w'.cell? ⟨g4, 2, none⟩ = some (.slice B1 m1 d1) ∧ w'.cell? ⟨b, o + j * 3, none⟩ = some (.bool s2) ∧ w'.cell? ⟨b, o + j * 3 + 1, none⟩ = some (.slice A2 n2 c2) ∧ w'.cell? ⟨b, o + j * 3 + 2, none⟩ = some (.slice B2 m1 d2))) (by kernel_rfl) (⟨cell_drq X.out.c0, cell_drq X.out.c1, cell_drq X4.out.c0, cell_drq X4.out.c1, cell_drq X4.out.c2, cell_drq TJ.out.is.c0, cell_drq TJ.out.is.c1, cell_drq TJ.out.is.c2⟩) (fun hHeld => ?_)
          replace P := Lib.hid (P.out.trans ((Below.refl W1.heap.size W1).drew.mono P.out.size))
          replace X := Lib.hid (X.out.next (Below.refl W1.heap.size W1).drew)
          replace RT := Lib.hid (RT.out.below (Below.refl W1.heap.size W1).drew)
          replace TK := Lib.hid (TK.out.next (Below.refl W1.heap.size W1).drew)
          replace X4 := Lib.hid (X4.out.next (Below.refl W1.heap.size W1).drew)
          replace TJ := Lib.hid (TJ.out.next (Below.refl W1.heap.size W1).drew)
          generalize W1.drew = D8 at P X RT TK X4 TJ hHeld ⊢
          refine tkk 0 27 rfl rfl (by kernel_rfl) (fun _ _ _ _ h => h) (by rfl) (fun w h => by obtain ⟨h0, h1, h2, h3, h4, h5, h6, h7⟩ := h; go_simp; rfl) (by assumption) ?_
          simp only [set0, set1]
          refine tkk 1 28 rfl rfl (by kernel_rfl) (fun _ _ _ _ h => h) (by rfl) (fun w h => by obtain ⟨h0, h1, h2, h3, h4, h5, h6, h7⟩ := h; go_simp; rfl) (by assumption) ?_
          simp only [set0, set1]
          refine tkk 2 29 rfl rfl (by kernel_rfl) (fun _ _ _ _ h => h) (by rfl) (fun w h => by obtain ⟨h0, h1, h2, h3, h4, h5, h6, h7⟩ := h; go_simp; rfl) (by assumption) ?_
          simp only [set0, set1]
          refine wpAnyH_ready (rs := [3]) (by kernel_rfl) (by simp) ?_
          refine AllReadyH.cons rfl (fun K hK => ?_) AllReadyH.nil
          go_simp
          refine (HVT.out D8 TK.out.is.rd TK.out.is.ri).mono ?_
          rintro e v9 ⟨rfl, hb⟩
          replace P := Lib.hid (P.out.trans (hb.mono P.out.size))
          replace X := Lib.hid (X.out.next hb)
          replace RT := Lib.hid (RT.out.below hb)
          replace TK := Lib.hid (TK.out.next hb)
          replace X4 := Lib.hid (X4.out.next hb)
          replace TJ := Lib.hid (TJ.out.next hb)
          clear hb hHeld
          refine hK.out _ _ (⟨X.out.c0, X.out.c1, X4.out.c0, X4.out.c1, X4.out.c2, TJ.out.is.c0, TJ.out.is.c1, TJ.out.is.c2⟩) (fun hHeld => ?_)
          clear hK K
          refine tkk 4 31 rfl rfl (by kernel_rfl) (fun _ _ _ _ h => h) (by rfl) (fun w h => by obtain ⟨h0, h1, h2, h3, h4, h5, h6, h7⟩ := h; go_simp; rfl) (by assumption) ?_
          simp only [set0, set1]
          refine tkk 5 32 rfl rfl (by kernel_rfl) (fun _ _ _ _ h => h) (by rfl) (fun w h => by obtain ⟨h0, h1, h2, h3, h4, h5, h6, h7⟩ := h; go_simp; rfl) (by assumption) ?_
          simp only [set0, set1]
          refine tkk 6 33 rfl rfl (by kernel_rfl) (fun _ _ _ _ h => h) (by rfl) (fun w h => by obtain ⟨h0, h1, h2, h3, h4, h5, h6, h7⟩ := h; go_simp; rfl) (by assumption) ?_
          simp only [set0, set1]
          refine tkk 7 34 rfl rfl (by kernel_rfl) (fun _ _ _ _ h => h) (by rfl) (fun w h => by obtain ⟨h0, h1, h2, h3, h4, h5, h6, h7⟩ := h; go_simp; rfl) (by assumption) ?_
          simp only [set0, set1]
          refine tkk 8 35 rfl rfl (by kernel_rfl) (fun _ _ _ _ h => h) (by rfl) (fun w h => by obtain ⟨h0, h1, h2, h3, h4, h5, h6, h7⟩ := h; go_simp; rfl) (by assumption) ?_
          simp only [set0, set1]
          refine tkk 9 36 rfl rfl (by kernel_rfl) (fun _ _ _ _ h => h) (by rfl) (fun w h => by obtain ⟨h0, h1, h2, h3, h4, h5, h6, h7⟩ := h; go_simp; rfl) (by assumption) ?_
          simp only [set0, set1]
          refine tkk 10 37 rfl rfl (by kernel_rfl) (fun _ _ _ _ h => h) (by rfl) (fun w h => by obtain ⟨h0, h1, h2, h3, h4, h5, h6, h7⟩ := h; go_simp; rfl) (by assumption) ?_
          simp only [set0, set1]
          refine tkk 11 38 rfl rfl (by kernel_rfl) (fun _ _ _ _ h => h) (by rfl) (fun w h => by obtain ⟨h0, h1, h2, h3, h4, h5, h6, h7⟩ := h; go_simp; rfl) (by assumption) ?_
          simp only [set0, set1]
          refine tkk 12 39 rfl rfl (by kernel_rfl) (fun _ _ _ _ h => h) (by rfl) (fun w h => by obtain ⟨h0, h1, h2, h3, h4, h5, h6, h7⟩ := h; go_simp; rfl) (by assumption) ?_
          simp only [set0, set1]
          refine tkk 13 40 rfl rfl (by kernel_rfl) (fun _ _ _ _ h => h) (by rfl) (fun w h => by obtain ⟨h0, h1, h2, h3, h4, h5, h6, h7⟩ := h; go_simp; rfl) (by assumption) ?_
          simp only [set0, set1]
          refine tkk 14 41 rfl rfl (by kernel_rfl) (fun _ _ _ _ h => h) (by rfl) (fun w h => by obtain ⟨h0, h1, h2, h3, h4, h5, h6, h7⟩ := h; go_simp; rfl) (by assumption) ?_
          simp only [set0, set1]
          refine tkk 15 42 rfl rfl (by kernel_rfl) (fun _ _ _ _ h => h) (by rfl) (fun w h => by obtain ⟨h0, h1, h2, h3, h4, h5, h6, h7⟩ := h; go_simp; rfl) (by assumption) ?_
          simp only [set0, set1]
          refine wpAnyH_ready (rs := [16]) (by kernel_rfl) (by simp) ?_
          refine AllReadyH.cons rfl (fun K hK => ?_) AllReadyH.nil
          go_simp
          refine (HOC.out v9 TJ.out.is.ri TK.out.is.ri).mono ?_
          rintro e v10 ⟨rfl, hb⟩
          replace P := Lib.hid (P.out.trans (hb.mono P.out.size))
          replace X := Lib.hid (X.out.next hb)
          replace RT := Lib.hid (RT.out.below hb)
          replace TK := Lib.hid (TK.out.next hb)
          replace X4 := Lib.hid (X4.out.next hb)
          replace TJ := Lib.hid (TJ.out.next hb)
          clear hb hHeld
          refine hK.out _ _ (⟨X.out.c0, X.out.c1, X4.out.c0, X4.out.c1, X4.out.c2, TJ.out.is.c0, TJ.out.is.c1, TJ.out.is.c2⟩) (fun hHeld => ?_)
          clear hK K
          refine tkk 17 44 rfl rfl (by kernel_rfl) (fun _ _ _ _ h => h) (by rfl) (fun w h => by obtain ⟨h0, h1, h2, h3, h4, h5, h6, h7⟩ := h; go_simp; rfl) (by assumption) ?_
          simp only [set0, set1]
          refine tkk 18 45 rfl rfl (by kernel_rfl) (fun _ _ _ _ h => h) (by rfl) (fun w h => by obtain ⟨h0, h1, h2, h3, h4, h5, h6, h7⟩ := h; go_simp; rfl) (by assumption) ?_
          simp only [set0, set1]
          refine tkk 19 46 rfl rfl (by kernel_rfl) (fun _ _ _ _ h => h) (by rfl) (fun w h => by obtain ⟨h0, h1, h2, h3, h4, h5, h6, h7⟩ := h; go_simp; rfl) (by assumption) ?_
          clear hHeld
          refine wpAnyH_done (by kernel_rfl) ?_ _
          go_wp2
          go_ret
          exact ⟨by rw [HF.out] <;> rfl, P.out⟩
  · have t1 : decide ((k : Int) < (n : Int)) = false := decide_eq_false (by omega)
    have t1n : decide (k < n) = false := decide_eq_false hkn
    have HF := Lib.hid (vp_true (V := V) (ts := ts) (by rw [HL.out]; exact HB.out) (fun i hi => HA.out i (by rw [HL.out] at hi; omega)))
    have a1 := X.out.c1
    go_wp2
    go_ret
    exact ⟨by rw [HF.out] <;> rfl, P.out⟩
set_option maxHeartbeats 8000000 in
theorem refPolyValid_c (V : Int) (A : Option Addr) (n c : Nat) (ts : List Trm) (w : World) (h : RdT w A n ts) :
 Calls Tryz.prog 59 #[aggP V A n c] w (RetB (validP V ts) w) := by
 have k0 := bel_alloc w (boxP V A n c)
 have P := Lib.hid k0
 have RT := Lib.hid (h.below k0)
 have X := Lib.hid (BxP.new w V A n c)
 have HL := Lib.hid h.len
 clear h k0
 go_enter Tryz.func59, Tryz.ntmps59
 go_upto_region 1 with (fail)
 generalize w.alloc (boxP V A n c) = W0 at P RT X ⊢
 obtain ⟨g, hg⟩ : ∃ g, g = w.heap.size := ⟨_, rfl⟩
 rw [← hg] at X ⊢
 clear hg
 have a0 := X.out.c0
 have a1 := X.out.c1
 by_cases q1 : V < 0
 · have t1 : decide (V < 0) = true := decide_eq_true q1
   have HF := Lib.hid (vp_false1 (V := V) (ts := ts) (by omega))
   go_wp2
   go_ret
   exact ⟨by rw [HF.out] <;> rfl, P.out⟩
 have t1 : decide (V < 0) = false := decide_eq_false q1
 by_cases q2 : 32 < V
 · have t2 : decide (32 < V) = true := decide_eq_true q2
   have HF := Lib.hid (vp_false1 (V := V) (ts := ts) (by omega))
   go_wp2
   go_ret
   exact ⟨by rw [HF.out] <;> rfl, P.out⟩
 have t2 : decide (32 < V) = false := decide_eq_false q2
 by_cases q3 : 3000 < n
 · have t3 : decide ((3000 : Int) < (n : Int)) = true := decide_eq_true (by omega)
   have t3n : decide (3000 < n) = true := decide_eq_true q3
   have HF := Lib.hid (vp_false1 (V := V) (ts := ts) (by have := HL.out; omega))
   go_wp2
   go_ret
   exact ⟨by rw [HF.out] <;> rfl, P.out⟩
 have t3 : decide ((3000 : Int) < (n : Int)) = false := decide_eq_false (by omega)
 have t3n : decide (3000 < n) = false := decide_eq_false q3
 have HB := Lib.hid (show 0 ≤ V ∧ V ≤ 32 ∧ n ≤ 3000 by omega)
 clear q1 q2 q3
 go_wp2
 go_loopw [3] (fun v wr => ∃ k : Nat, v = .int .i64 (k : Int) ∧ k ≤ n ∧ Below w.heap.size w wr ∧ BxP wr g V A n c ∧ RdT wr A n ts ∧ ∀ i, i < k → validTrm (trmAt ts i) V = true ∧ (0 < i → ordT (trmAt ts (i - 1)).es (trmAt ts i).es = 1)) (fun v _ => n - (intOf v).toNat)
 case atStart => exact ⟨0, rfl, Nat.zero_le _, P.out, X.out, RT.out, fun i hi => absurd hi (by omega)⟩
 case round =>
  obtain ⟨k, rfl, hk, hp, hx, hr, hall⟩ := hrel
  clear P X RT a0 a1 t1 t2 t3 t3n
  have hn3 := HB.out.2.2
  have P := Lib.hid hp
  have X := Lib.hid hx
  have RT := Lib.hid hr
  have HA := Lib.hid hall
  clear hp hx hr hall
  by_cases hkn : k < n
  · have t1 : decide ((k : Int) < (n : Int)) = true := decide_eq_true (by omega)
    have t1n : decide (k < n) = true := decide_eq_true hkn
    have hkI : (k : Int) < (n : Int) := by omega
    obtain ⟨b, o, rfl, hblt, hcell⟩ := RT.out.at_ (by omega)
    obtain ⟨A1, n1, c1, B1, m1, d1, hT⟩ := hcell k hkn
    have TK := Lib.hid (TrA.mk hblt hT)
    have HC := Lib.hid hcell
    obtain ⟨t, ht⟩ : ∃ t, t = trmAt ts k := ⟨_, rfl⟩
    rw [← ht] at TK
    have HT := Lib.hid ht
    clear hcell hT ht
    obtain ⟨s, xs, es⟩ := t
    obtain ⟨v, hvv⟩ : ∃ v, v = validTrm ⟨s, xs, es⟩ V := ⟨_, rfl⟩
    have HVB := Lib.hid hvv
    clear hvv
    have a1 := X.out.c1
    go_upto_region 6 with (fail)
    clear a1
    have HVT := Lib.hid (fun W h1 h2 => refTerm_c s A1 n1 c1 xs B1 m1 d1 es V W h1 h2 (by have := HB.out; omega))
    rw [← HVB.out] at HVT
    cases v with
    | false =>
      have HF := Lib.hid (vp_false2 (V := V) (ts := ts) (k := k) (by rw [HL.out]; exact hkn) (by rw [← HT.out]; exact HVB.out.symm))
      refine wp_region_held_drew (S := (fun w' => w'.cell? ⟨g, 0, none⟩ = some (.int .i64 V) ∧ w'.cell? ⟨g, 1, none⟩ = some (.slice (some ⟨b, o, none⟩) n c) ∧ w'.cell? ⟨b, o + k * 3, none⟩ = some (.bool s) ∧ w'.cell? ⟨b, o + k * 3 + 1, none⟩ = some (.slice A1 n1 c1) ∧ w'.cell? ⟨b, o + k * 3 + 2, none⟩ = some (.slice B1 m1 d1))) (by kernel_rfl) (⟨cell_drq X.out.c0, cell_drq X.out.c1, cell_drq TK.out.is.c0, cell_drq TK.out.is.c1, cell_drq TK.out.is.c2⟩) (fun hHeld => ?_)
      replace P := Lib.hid (P.out.trans ((Below.refl wr.heap.size wr).drew.mono P.out.size))
      replace X := Lib.hid (X.out.next (Below.refl wr.heap.size wr).drew)
      replace RT := Lib.hid (RT.out.below (Below.refl wr.heap.size wr).drew)
      replace TK := Lib.hid (TK.out.next (Below.refl wr.heap.size wr).drew)
      generalize wr.drew = D11 at P X RT TK hHeld ⊢
      refine tkk 0 25 rfl rfl (by kernel_rfl) (fun _ _ _ _ h => h) (by rfl) (fun w h => by obtain ⟨h0, h1, h2, h3, h4⟩ := h; go_simp; rfl) (by assumption) ?_
      simp only [set0, set1]
      refine tkk 1 26 rfl rfl (by kernel_rfl) (fun _ _ _ _ h => h) (by rfl) (fun w h => by obtain ⟨h0, h1, h2, h3, h4⟩ := h; go_simp; rfl) (by assumption) ?_
      simp only [set0, set1]
      refine tkk 2 27 rfl rfl (by kernel_rfl) (fun _ _ _ _ h => h) (by rfl) (fun w h => by obtain ⟨h0, h1, h2, h3, h4⟩ := h; go_simp; rfl) (by assumption) ?_
      simp only [set0, set1]
      refine tkk 3 28 rfl rfl (by kernel_rfl) (fun _ _ _ _ h => h) (by rfl) (fun w h => by obtain ⟨h0, h1, h2, h3, h4⟩ := h; go_simp; rfl) (by assumption) ?_
      simp only [set0, set1]
      refine tkk 4 29 rfl rfl (by kernel_rfl) (fun _ _ _ _ h => h) (by rfl) (fun w h => by obtain ⟨h0, h1, h2, h3, h4⟩ := h; go_simp; rfl) (by assumption) ?_
      simp only [set0, set1]
      refine tkk 5 30 rfl rfl (by kernel_rfl) (fun _ _ _ _ h => h) (by rfl) (fun w h => by obtain ⟨h0, h1, h2, h3, h4⟩ := h; go_simp; rfl) (by assumption) ?_
      simp only [set0, set1]
      refine tkk 6 31 rfl rfl (by kernel_rfl) (fun _ _ _ _ h => h) (by rfl) (fun w h => by obtain ⟨h0, h1, h2, h3, h4⟩ := h; go_simp; rfl) (by assumption) ?_
      simp only [set0, set1]
      refine wpAnyH_ready (rs := [7]) (by kernel_rfl) (by simp) ?_
      refine AllReadyH.cons rfl (fun K hK => ?_) AllReadyH.nil
      go_simp
      refine (HVT.out D11 TK.out.is.rd TK.out.is.ri).mono ?_
      rintro e v12 ⟨rfl, hb⟩
      replace P := Lib.hid (P.out.trans (hb.mono P.out.size))
      replace X := Lib.hid (X.out.next hb)
      replace RT := Lib.hid (RT.out.below hb)
      replace TK := Lib.hid (TK.out.next hb)
      clear hb hHeld
      refine hK.out _ _ (⟨X.out.c0, X.out.c1, TK.out.is.c0, TK.out.is.c1, TK.out.is.c2⟩) (fun hHeld => ?_)
      clear hK K
      refine tkk 8 33 rfl rfl (by kernel_rfl) (fun _ _ _ _ h => h) (by rfl) (fun w h => by obtain ⟨h0, h1, h2, h3, h4⟩ := h; go_simp; rfl) (by assumption) ?_
      simp only [set0, set1]
      refine tkk 9 34 rfl rfl (by kernel_rfl) (fun _ _ _ _ h => h) (by rfl) (fun w h => by obtain ⟨h0, h1, h2, h3, h4⟩ := h; go_simp; rfl) (by assumption) ?_
      simp only [set0, set1]
      refine tff 10 35 rfl rfl (by kernel_rfl) (fun _ _ _ _ h => h) (by rfl) (by assumption) ?_
      simp only [set0, set1]
      refine tff 11 36 rfl rfl (by kernel_rfl) (fun _ _ _ _ h => h) (by rfl) (by assumption) ?_
      simp only [set0, set1]
      refine tff 12 37 rfl rfl (by kernel_rfl) (fun _ _ _ _ h => h) (by rfl) (by assumption) ?_
      simp only [set0, set1]
      refine tff 13 38 rfl rfl (by kernel_rfl) (fun _ _ _ _ h => h) (by rfl) (by assumption) ?_
      simp only [set0, set1]
      refine tff 14 39 rfl rfl (by kernel_rfl) (fun _ _ _ _ h => h) (by rfl) (by assumption) ?_
      simp only [set0, set1]
      refine tff 15 40 rfl rfl (by kernel_rfl) (fun _ _ _ _ h => h) (by rfl) (by assumption) ?_
      simp only [set0, set1]
      refine tff 16 41 rfl rfl (by kernel_rfl) (fun _ _ _ _ h => h) (by rfl) (by assumption) ?_
      simp only [set0, set1]
      refine tff 17 42 rfl rfl (by kernel_rfl) (fun _ _ _ _ h => h) (by rfl) (by assumption) ?_
      simp only [set0, set1]
      refine tff 18 43 rfl rfl (by kernel_rfl) (fun _ _ _ _ h => h) (by rfl) (by assumption) ?_
      simp only [set0, set1]
      refine tff 19 44 rfl rfl (by kernel_rfl) (fun _ _ _ _ h => h) (by rfl) (by assumption) ?_
      simp only [set0, set1]
      refine tff 20 45 rfl rfl (by kernel_rfl) (fun _ _ _ _ h => h) (by rfl) (by assumption) ?_
      simp only [set0, set1]
      refine tff 21 46 rfl rfl (by kernel_rfl) (fun _ _ _ _ h => h) (by rfl) (by assumption) ?_
      simp only [set0, set1]
      refine tff 22 47 rfl rfl (by kernel_rfl) (fun _ _ _ _ h => h) (by rfl) (by assumption) ?_
      simp only [set0, set1]
      refine tff 23 48 rfl rfl (by kernel_rfl) (fun _ _ _ _ h => h) (by rfl) (by assumption) ?_
      simp only [set0, set1]
      refine tff 24 49 rfl rfl (by kernel_rfl) (fun _ _ _ _ h => h) (by rfl) (by assumption) ?_
      simp only [set0, set1]
      refine tff 25 50 rfl rfl (by kernel_rfl) (fun _ _ _ _ h => h) (by rfl) (by assumption) ?_
      simp only [set0, set1]
      refine tff 26 51 rfl rfl (by kernel_rfl) (fun _ _ _ _ h => h) (by rfl) (by assumption) ?_
      simp only [set0, set1]
      refine tff 27 52 rfl rfl (by kernel_rfl) (fun _ _ _ _ h => h) (by rfl) (by assumption) ?_
      simp only [set0, set1]
      refine tff 28 53 rfl rfl (by kernel_rfl) (fun _ _ _ _ h => h) (by rfl) (by assumption) ?_
      simp only [set0, set1]
      refine tkk 29 54 rfl rfl (by kernel_rfl) (fun _ _ _ _ h => h) (by rfl) (fun w h => by obtain ⟨h0, h1, h2, h3, h4⟩ := h; go_simp; rfl) (by assumption) ?_
      clear hHeld
      refine wpAnyH_done (by kernel_rfl) ?_ _
      go_wp2
      go_ret
      exact ⟨by rw [HF.out] <;> rfl, P.out⟩
    | true =>
      rcases Nat.eq_zero_or_pos k with k0 | k0
      · have tk : decide (0 < (k : Int)) = false := decide_eq_false (by omega)
        have tkn : decide (0 < k) = false := decide_eq_false (by omega)
        have K0 := Lib.hid k0
        clear k0
        refine wp_region_held_drew (S := (fun w' => w'.cell? ⟨g, 0, none⟩ = some (.int .i64 V) ∧ w'.cell? ⟨g, 1, none⟩ = some (.slice (some ⟨b, o, none⟩) n c) ∧ w'.cell? ⟨b, o + k * 3, none⟩ = some (.bool s) ∧ w'.cell? ⟨b, o + k * 3 + 1, none⟩ = some (.slice A1 n1 c1) ∧ w'.cell? ⟨b, o + k * 3 + 2, none⟩ = some (.slice B1 m1 d1))) (by kernel_rfl) (⟨cell_drq X.out.c0, cell_drq X.out.c1, cell_drq TK.out.is.c0, cell_drq TK.out.is.c1, cell_drq TK.out.is.c2⟩) (fun hHeld => ?_)
        replace P := Lib.hid (P.out.trans ((Below.refl wr.heap.size wr).drew.mono P.out.size))
        replace X := Lib.hid (X.out.next (Below.refl wr.heap.size wr).drew)
        replace RT := Lib.hid (RT.out.below (Below.refl wr.heap.size wr).drew)
        replace TK := Lib.hid (TK.out.next (Below.refl wr.heap.size wr).drew)
        generalize wr.drew = D13 at P X RT TK hHeld ⊢
        refine tkk 0 25 rfl rfl (by kernel_rfl) (fun _ _ _ _ h => h) (by rfl) (fun w h => by obtain ⟨h0, h1, h2, h3, h4⟩ := h; go_simp; rfl) (by assumption) ?_
        simp only [set0, set1]
        refine tkk 1 26 rfl rfl (by kernel_rfl) (fun _ _ _ _ h => h) (by rfl) (fun w h => by obtain ⟨h0, h1, h2, h3, h4⟩ := h; go_simp; rfl) (by assumption) ?_
        simp only [set0, set1]
        refine tkk 2 27 rfl rfl (by kernel_rfl) (fun _ _ _ _ h => h) (by rfl) (fun w h => by obtain ⟨h0, h1, h2, h3, h4⟩ := h; go_simp; rfl) (by assumption) ?_
        simp only [set0, set1]
        refine tkk 3 28 rfl rfl (by kernel_rfl) (fun _ _ _ _ h => h) (by rfl) (fun w h => by obtain ⟨h0, h1, h2, h3, h4⟩ := h; go_simp; rfl) (by assumption) ?_
        simp only [set0, set1]
        refine tkk 4 29 rfl rfl (by kernel_rfl) (fun _ _ _ _ h => h) (by rfl) (fun w h => by obtain ⟨h0, h1, h2, h3, h4⟩ := h; go_simp; rfl) (by assumption) ?_
        simp only [set0, set1]
        refine tkk 5 30 rfl rfl (by kernel_rfl) (fun _ _ _ _ h => h) (by rfl) (fun w h => by obtain ⟨h0, h1, h2, h3, h4⟩ := h; go_simp; rfl) (by assumption) ?_
        simp only [set0, set1]
        refine tkk 6 31 rfl rfl (by kernel_rfl) (fun _ _ _ _ h => h) (by rfl) (fun w h => by obtain ⟨h0, h1, h2, h3, h4⟩ := h; go_simp; rfl) (by assumption) ?_
        simp only [set0, set1]
        refine wpAnyH_ready (rs := [7]) (by kernel_rfl) (by simp) ?_
        refine AllReadyH.cons rfl (fun K hK => ?_) AllReadyH.nil
        go_simp
        refine (HVT.out D13 TK.out.is.rd TK.out.is.ri).mono ?_
        rintro e v14 ⟨rfl, hb⟩
        replace P := Lib.hid (P.out.trans (hb.mono P.out.size))
        replace X := Lib.hid (X.out.next hb)
        replace RT := Lib.hid (RT.out.below hb)
        replace TK := Lib.hid (TK.out.next hb)
        clear hb hHeld
        refine hK.out _ _ (⟨X.out.c0, X.out.c1, TK.out.is.c0, TK.out.is.c1, TK.out.is.c2⟩) (fun hHeld => ?_)
        clear hK K
        refine tkk 8 33 rfl rfl (by kernel_rfl) (fun _ _ _ _ h => h) (by rfl) (fun w h => by obtain ⟨h0, h1, h2, h3, h4⟩ := h; go_simp; rfl) (by assumption) ?_
        simp only [set0, set1]
        refine tkk 9 34 rfl rfl (by kernel_rfl) (fun _ _ _ _ h => h) (by rfl) (fun w h => by obtain ⟨h0, h1, h2, h3, h4⟩ := h; go_simp; rfl) (by assumption) ?_
        simp only [set0, set1]
        refine tkk 10 35 rfl rfl (by kernel_rfl) (fun _ _ _ _ h => h) (by rfl) (fun w h => by obtain ⟨h0, h1, h2, h3, h4⟩ := h; go_simp; rfl) (by assumption) ?_
        simp only [set0, set1]
        refine tkk 11 36 rfl rfl (by kernel_rfl) (fun _ _ _ _ h => h) (by rfl) (fun w h => by obtain ⟨h0, h1, h2, h3, h4⟩ := h; go_simp; rfl) (by assumption) ?_
        simp only [set0, set1]
        refine tkk 12 37 rfl rfl (by kernel_rfl) (fun _ _ _ _ h => h) (by rfl) (fun w h => by obtain ⟨h0, h1, h2, h3, h4⟩ := h; go_simp; rfl) (by assumption) ?_
        simp only [set0, set1]
        refine tff 13 38 rfl rfl (by kernel_rfl) (fun _ _ _ _ h => h) (by rfl) (by assumption) ?_
        simp only [set0, set1]
        refine tff 14 39 rfl rfl (by kernel_rfl) (fun _ _ _ _ h => h) (by rfl) (by assumption) ?_
        simp only [set0, set1]
        refine tff 15 40 rfl rfl (by kernel_rfl) (fun _ _ _ _ h => h) (by rfl) (by assumption) ?_
        simp only [set0, set1]
        refine tff 16 41 rfl rfl (by kernel_rfl) (fun _ _ _ _ h => h) (by rfl) (by assumption) ?_
        simp only [set0, set1]
        refine tff 17 42 rfl rfl (by kernel_rfl) (fun _ _ _ _ h => h) (by rfl) (by assumption) ?_
        simp only [set0, set1]
        refine tff 18 43 rfl rfl (by kernel_rfl) (fun _ _ _ _ h => h) (by rfl) (by assumption) ?_
        simp only [set0, set1]
        refine tff 19 44 rfl rfl (by kernel_rfl) (fun _ _ _ _ h => h) (by rfl) (by assumption) ?_
        simp only [set0, set1]
        refine tff 20 45 rfl rfl (by kernel_rfl) (fun _ _ _ _ h => h) (by rfl) (by assumption) ?_
        simp only [set0, set1]
        refine tff 21 46 rfl rfl (by kernel_rfl) (fun _ _ _ _ h => h) (by rfl) (by assumption) ?_
        simp only [set0, set1]
        refine tff 22 47 rfl rfl (by kernel_rfl) (fun _ _ _ _ h => h) (by rfl) (by assumption) ?_
        simp only [set0, set1]
        refine tff 23 48 rfl rfl (by kernel_rfl) (fun _ _ _ _ h => h) (by rfl) (by assumption) ?_
        simp only [set0, set1]
        refine tff 24 49 rfl rfl (by kernel_rfl) (fun _ _ _ _ h => h) (by rfl) (by assumption) ?_
        simp only [set0, set1]
        refine tff 25 50 rfl rfl (by kernel_rfl) (fun _ _ _ _ h => h) (by rfl) (by assumption) ?_
        simp only [set0, set1]
        refine tff 26 51 rfl rfl (by kernel_rfl) (fun _ _ _ _ h => h) (by rfl) (by assumption) ?_
        simp only [set0, set1]
        refine tff 27 52 rfl rfl (by kernel_rfl) (fun _ _ _ _ h => h) (by rfl) (by assumption) ?_
        simp only [set0, set1]
        refine tkk 28 53 rfl rfl (by kernel_rfl) (fun _ _ _ _ h => h) (by rfl) (fun w h => by obtain ⟨h0, h1, h2, h3, h4⟩ := h; go_simp; rfl) (by assumption) ?_
        simp only [set0, set1]
        refine tkk 29 54 rfl rfl (by kernel_rfl) (fun _ _ _ _ h => h) (by rfl) (fun w h => by obtain ⟨h0, h1, h2, h3, h4⟩ := h; go_simp; rfl) (by assumption) ?_
        clear hHeld
        refine wpAnyH_done (by kernel_rfl) ?_ _
        go_wp2
        go_roundw
        case measure => simp [intOf]; omega
        case rel => exact ⟨k + 1, by go_num, by omega, P.out, X.out, RT.out, fun i hi => by
         by_cases e : i = k
         · subst e
           exact ⟨by rw [← HT.out]; exact HVB.out.symm, fun h0 => by (have := K0.out; omega)⟩
         · exact HA.out i (by omega)⟩
      · have tk : decide (0 < (k : Int)) = true := decide_eq_true (by omega)
        have tkn : decide (0 < k) = true := decide_eq_true (by omega)
        obtain ⟨j, hj⟩ : ∃ j, k = j + 1 := ⟨k - 1, by omega⟩
        have ekj : (k : Int) - 1 = (j : Int) := by omega
        have hjn : j < n := by omega
        have hjI : (j : Int) < (n : Int) := by omega
        have hj0 : (0 : Int) ≤ (j : Int) := by omega
        have wj : IntKind.i64.wrap (j : Int) = (j : Int) := IntWalk.i64_in _ (by omega)
        obtain ⟨b', o', eb, hblt', hcell⟩ := RT.out.at_ (by omega)
        obtain ⟨rfl, rfl⟩ : b = b' ∧ o = o' := by injection eb with eb; injection eb with e1 e2; exact ⟨e1, e2⟩
        obtain ⟨A2, n2, c2, B2, m2, d2, hT2⟩ := hcell j hjn
        have TJ := Lib.hid (TrA.mk hblt' hT2)
        have HJ := Lib.hid (HA.out j (by omega)).1
        obtain ⟨t2, ht2⟩ : ∃ t, t = trmAt ts j := ⟨_, rfl⟩
        rw [← ht2] at TJ HJ
        have HT2 := Lib.hid ht2
        have HKJ := Lib.hid hj
        clear hcell hT2 ht2 eb hj hblt'
        obtain ⟨s2, xs2, es2⟩ := t2
        obtain ⟨he2, hl2⟩ := vt_exps HJ.out
        obtain ⟨he1, hl1⟩ := vt_exps (t := ⟨s, xs, es⟩) HVB.out.symm
        obtain rfl : m1 = m2 := by
         have e1 := TK.out.is.ri.len
         have e2 := TJ.out.is.ri.len
         dsimp only at e1 e2 hl1 hl2
         omega
        have HEX := Lib.hid (And.intro he2 he1)
        have HMM := Lib.hid (show m1 ≤ 1000000 by
         have e1 := TK.out.is.ri.len
         have := HB.out
         dsimp only at e1 hl1
         omega)
        clear he1 he2 hl1 hl2
        obtain ⟨ov, hov⟩ : ∃ v, v = ordT es2 es := ⟨_, rfl⟩
        have HOC := Lib.hid (fun W h1 h2 => refOrder_c B2 m1 d2 B1 d1 es2 es W h1 h2 HEX.out.1 HEX.out.2 HMM.out)
        rw [← hov] at HOC
        have HOV := Lib.hid hov
        clear hov
        rcases (show ov = 1 ∨ ov ≤ 0 by rw [HOV.out]; exact ordT_le) with ho | ho
        · have HO1 := Lib.hid (show ordT (trmAt ts j).es (trmAt ts k).es = 1 by rw [← HT.out, ← HT2.out]; show ordT es2 es = 1; rw [← HOV.out, ho])
          subst ho
          refine wp_region_held_drew (S := (fun w' => w'.cell? ⟨g, 0, none⟩ = some (.int .i64 V) ∧ w'.cell? ⟨g, 1, none⟩ = some (.slice (some ⟨b, o, none⟩) n c) ∧ w'.cell? ⟨b, o + k * 3, none⟩ = some (.bool s) ∧ w'.cell? ⟨b, o + k * 3 + 1, none⟩ = some (.slice A1 n1 c1) ∧ w'.cell? ⟨b, o + k * 3 + 2, none⟩ = some (.slice B1 m1 d1) ∧ w'.cell? ⟨b, o + j * 3 + 2, none⟩ = some (.slice B2 m1 d2))) (by kernel_rfl) (⟨cell_drq X.out.c0, cell_drq X.out.c1, cell_drq TK.out.is.c0, cell_drq TK.out.is.c1, cell_drq TK.out.is.c2, cell_drq TJ.out.is.c2⟩) (fun hHeld => ?_)
          replace P := Lib.hid (P.out.trans ((Below.refl wr.heap.size wr).drew.mono P.out.size))
          replace X := Lib.hid (X.out.next (Below.refl wr.heap.size wr).drew)
          replace RT := Lib.hid (RT.out.below (Below.refl wr.heap.size wr).drew)
          replace TK := Lib.hid (TK.out.next (Below.refl wr.heap.size wr).drew)
          replace TJ := Lib.hid (TJ.out.next (Below.refl wr.heap.size wr).drew)
          generalize wr.drew = D15 at P X RT TK TJ hHeld ⊢
          refine tkk 0 25 rfl rfl (by kernel_rfl) (fun _ _ _ _ h => h) (by rfl) (fun w h => by obtain ⟨h0, h1, h2, h3, h4, h5⟩ := h; go_simp; rfl) (by assumption) ?_
          simp only [set0, set1]
          refine tkk 1 26 rfl rfl (by kernel_rfl) (fun _ _ _ _ h => h) (by rfl) (fun w h => by obtain ⟨h0, h1, h2, h3, h4, h5⟩ := h; go_simp; rfl) (by assumption) ?_
          simp only [set0, set1]
          refine tkk 2 27 rfl rfl (by kernel_rfl) (fun _ _ _ _ h => h) (by rfl) (fun w h => by obtain ⟨h0, h1, h2, h3, h4, h5⟩ := h; go_simp; rfl) (by assumption) ?_
          simp only [set0, set1]
          refine tkk 3 28 rfl rfl (by kernel_rfl) (fun _ _ _ _ h => h) (by rfl) (fun w h => by obtain ⟨h0, h1, h2, h3, h4, h5⟩ := h; go_simp; rfl) (by assumption) ?_
          simp only [set0, set1]
          refine tkk 4 29 rfl rfl (by kernel_rfl) (fun _ _ _ _ h => h) (by rfl) (fun w h => by obtain ⟨h0, h1, h2, h3, h4, h5⟩ := h; go_simp; rfl) (by assumption) ?_
          simp only [set0, set1]
          refine tkk 5 30 rfl rfl (by kernel_rfl) (fun _ _ _ _ h => h) (by rfl) (fun w h => by obtain ⟨h0, h1, h2, h3, h4, h5⟩ := h; go_simp; rfl) (by assumption) ?_
          simp only [set0, set1]
          refine tkk 6 31 rfl rfl (by kernel_rfl) (fun _ _ _ _ h => h) (by rfl) (fun w h => by obtain ⟨h0, h1, h2, h3, h4, h5⟩ := h; go_simp; rfl) (by assumption) ?_
          simp only [set0, set1]
          refine wpAnyH_ready (rs := [7]) (by kernel_rfl) (by simp) ?_
          refine AllReadyH.cons rfl (fun K hK => ?_) AllReadyH.nil
          go_simp
          refine (HVT.out D15 TK.out.is.rd TK.out.is.ri).mono ?_
          rintro e v16 ⟨rfl, hb⟩
          replace P := Lib.hid (P.out.trans (hb.mono P.out.size))
          replace X := Lib.hid (X.out.next hb)
          replace RT := Lib.hid (RT.out.below hb)
          replace TK := Lib.hid (TK.out.next hb)
          replace TJ := Lib.hid (TJ.out.next hb)
          clear hb hHeld
          refine hK.out _ _ (⟨X.out.c0, X.out.c1, TK.out.is.c0, TK.out.is.c1, TK.out.is.c2, TJ.out.is.c2⟩) (fun hHeld => ?_)
          clear hK K
          refine tkk 8 33 rfl rfl (by kernel_rfl) (fun _ _ _ _ h => h) (by rfl) (fun w h => by obtain ⟨h0, h1, h2, h3, h4, h5⟩ := h; go_simp; rfl) (by assumption) ?_
          simp only [set0, set1]
          refine tkk 9 34 rfl rfl (by kernel_rfl) (fun _ _ _ _ h => h) (by rfl) (fun w h => by obtain ⟨h0, h1, h2, h3, h4, h5⟩ := h; go_simp; rfl) (by assumption) ?_
          simp only [set0, set1]
          refine tkk 10 35 rfl rfl (by kernel_rfl) (fun _ _ _ _ h => h) (by rfl) (fun w h => by obtain ⟨h0, h1, h2, h3, h4, h5⟩ := h; go_simp; rfl) (by assumption) ?_
          simp only [set0, set1]
          refine tkk 11 36 rfl rfl (by kernel_rfl) (fun _ _ _ _ h => h) (by rfl) (fun w h => by obtain ⟨h0, h1, h2, h3, h4, h5⟩ := h; go_simp; rfl) (by assumption) ?_
          simp only [set0, set1]
          refine tkk 12 37 rfl rfl (by kernel_rfl) (fun _ _ _ _ h => h) (by rfl) (fun w h => by obtain ⟨h0, h1, h2, h3, h4, h5⟩ := h; go_simp; rfl) (by assumption) ?_
          simp only [set0, set1]
          refine tkk 13 38 rfl rfl (by kernel_rfl) (fun _ _ _ _ h => h) (by rfl) (fun w h => by obtain ⟨h0, h1, h2, h3, h4, h5⟩ := h; go_simp; rfl) (by assumption) ?_
          simp only [set0, set1]
          refine tkk 14 39 rfl rfl (by kernel_rfl) (fun _ _ _ _ h => h) (by rfl) (fun w h => by obtain ⟨h0, h1, h2, h3, h4, h5⟩ := h; go_simp; rfl) (by assumption) ?_
          simp only [set0, set1]
          refine tkk 15 40 rfl rfl (by kernel_rfl) (fun _ _ _ _ h => h) (by rfl) (fun w h => by obtain ⟨h0, h1, h2, h3, h4, h5⟩ := h; go_simp; rfl) (by assumption) ?_
          simp only [set0, set1]
          refine tkk 16 41 rfl rfl (by kernel_rfl) (fun _ _ _ _ h => h) (by rfl) (fun w h => by obtain ⟨h0, h1, h2, h3, h4, h5⟩ := h; go_simp; rfl) (by assumption) ?_
          simp only [set0, set1]
          refine tkk 17 42 rfl rfl (by kernel_rfl) (fun _ _ _ _ h => h) (by rfl) (fun w h => by obtain ⟨h0, h1, h2, h3, h4, h5⟩ := h; go_simp; rfl) (by assumption) ?_
          simp only [set0, set1]
          refine tkk 18 43 rfl rfl (by kernel_rfl) (fun _ _ _ _ h => h) (by rfl) (fun w h => by obtain ⟨h0, h1, h2, h3, h4, h5⟩ := h; go_simp; rfl) (by assumption) ?_
          simp only [set0, set1]
          refine tkk 19 44 rfl rfl (by kernel_rfl) (fun _ _ _ _ h => h) (by rfl) (fun w h => by obtain ⟨h0, h1, h2, h3, h4, h5⟩ := h; go_simp; rfl) (by assumption) ?_
          simp only [set0, set1]
          refine tkk 20 45 rfl rfl (by kernel_rfl) (fun _ _ _ _ h => h) (by rfl) (fun w h => by obtain ⟨h0, h1, h2, h3, h4, h5⟩ := h; go_simp; rfl) (by assumption) ?_
          simp only [set0, set1]
          refine tkk 21 46 rfl rfl (by kernel_rfl) (fun _ _ _ _ h => h) (by rfl) (fun w h => by obtain ⟨h0, h1, h2, h3, h4, h5⟩ := h; go_simp; rfl) (by assumption) ?_
          simp only [set0, set1]
          refine tkk 22 47 rfl rfl (by kernel_rfl) (fun _ _ _ _ h => h) (by rfl) (fun w h => by obtain ⟨h0, h1, h2, h3, h4, h5⟩ := h; go_simp; rfl) (by assumption) ?_
          simp only [set0, set1]
          refine tkk 23 48 rfl rfl (by kernel_rfl) (fun _ _ _ _ h => h) (by rfl) (fun w h => by obtain ⟨h0, h1, h2, h3, h4, h5⟩ := h; go_simp; rfl) (by assumption) ?_
          simp only [set0, set1]
          refine tkk 24 49 rfl rfl (by kernel_rfl) (fun _ _ _ _ h => h) (by rfl) (fun w h => by obtain ⟨h0, h1, h2, h3, h4, h5⟩ := h; go_simp; rfl) (by assumption) ?_
          simp only [set0, set1]
          refine tkk 25 50 rfl rfl (by kernel_rfl) (fun _ _ _ _ h => h) (by rfl) (fun w h => by obtain ⟨h0, h1, h2, h3, h4, h5⟩ := h; go_simp; rfl) (by assumption) ?_
          simp only [set0, set1]
          refine wpAnyH_ready (rs := [26]) (by kernel_rfl) (by simp) ?_
          refine AllReadyH.cons rfl (fun K hK => ?_) AllReadyH.nil
          go_simp
          refine (HOC.out v16 TJ.out.is.ri TK.out.is.ri).mono ?_
          rintro e v17 ⟨rfl, hb⟩
          replace P := Lib.hid (P.out.trans (hb.mono P.out.size))
          replace X := Lib.hid (X.out.next hb)
          replace RT := Lib.hid (RT.out.below hb)
          replace TK := Lib.hid (TK.out.next hb)
          replace TJ := Lib.hid (TJ.out.next hb)
          clear hb hHeld
          refine hK.out _ _ (⟨X.out.c0, X.out.c1, TK.out.is.c0, TK.out.is.c1, TK.out.is.c2, TJ.out.is.c2⟩) (fun hHeld => ?_)
          clear hK K
          refine tkk 27 52 rfl rfl (by kernel_rfl) (fun _ _ _ _ h => h) (by rfl) (fun w h => by obtain ⟨h0, h1, h2, h3, h4, h5⟩ := h; go_simp; rfl) (by assumption) ?_
          simp only [set0, set1]
          refine tkk 28 53 rfl rfl (by kernel_rfl) (fun _ _ _ _ h => h) (by rfl) (fun w h => by obtain ⟨h0, h1, h2, h3, h4, h5⟩ := h; go_simp; rfl) (by assumption) ?_
          simp only [set0, set1]
          refine tkk 29 54 rfl rfl (by kernel_rfl) (fun _ _ _ _ h => h) (by rfl) (fun w h => by obtain ⟨h0, h1, h2, h3, h4, h5⟩ := h; go_simp; rfl) (by assumption) ?_
          clear hHeld
          refine wpAnyH_done (by kernel_rfl) ?_ _
          clear ekj wj
          go_wp2
          go_roundw
          case measure => simp [intOf]; omega
          case rel => exact ⟨k + 1, by go_num, by omega, P.out, X.out, RT.out, fun i hi => by
           by_cases e : i = k
           · subst e
             exact ⟨by rw [← HT.out]; exact HVB.out.symm, fun h0 => by have e : i - 1 = j := by (have := HKJ.out; omega)
                                                                       rw [e]; exact HO1.out⟩
           · exact HA.out i (by omega)⟩
        · have HF := Lib.hid (vp_false3 (V := V) (ts := ts) (k := k) (j := j) (by rw [HL.out]; exact hkn) HKJ.out (by rw [← HT.out, ← HT2.out]; show ordT es2 es ≤ 0; rw [← HOV.out]; exact ho))
          have tov : decide (ov ≤ 0) = true := decide_eq_true ho
          have tov2 : (ov != 1) = true := by rw [bne_iff_ne]; omega
          refine wp_region_held_drew (S := (fun w' => w'.cell? ⟨g, 0, none⟩ = some (.int .i64 V) ∧ w'.cell? ⟨g, 1, none⟩ = some (.slice (some ⟨b, o, none⟩) n c) ∧ w'.cell? ⟨b, o + k * 3, none⟩ = some (.bool s) ∧ w'.cell? ⟨b, o + k * 3 + 1, none⟩ = some (.slice A1 n1 c1) ∧ w'.cell? ⟨b, o + k * 3 + 2, none⟩ = some (.slice B1 m1 d1) ∧ w'.cell? ⟨b, o + j * 3 + 2, none⟩ = some (.slice B2 m1 d2))) (by kernel_rfl) (⟨cell_drq X.out.c0, cell_drq X.out.c1, cell_drq TK.out.is.c0, cell_drq TK.out.is.c1, cell_drq TK.out.is.c2, cell_drq TJ.out.is.c2⟩) (fun hHeld => ?_)
          replace P := Lib.hid (P.out.trans ((Below.refl wr.heap.size wr).drew.mono P.out.size))
          replace X := Lib.hid (X.out.next (Below.refl wr.heap.size wr).drew)
          replace RT := Lib.hid (RT.out.below (Below.refl wr.heap.size wr).drew)
          replace TK := Lib.hid (TK.out.next (Below.refl wr.heap.size wr).drew)
          replace TJ := Lib.hid (TJ.out.next (Below.refl wr.heap.size wr).drew)
          generalize wr.drew = D18 at P X RT TK TJ hHeld ⊢
          refine tkk 0 25 rfl rfl (by kernel_rfl) (fun _ _ _ _ h => h) (by rfl) (fun w h => by obtain ⟨h0, h1, h2, h3, h4, h5⟩ := h; go_simp; rfl) (by assumption) ?_
          simp only [set0, set1]
          refine tkk 1 26 rfl rfl (by kernel_rfl) (fun _ _ _ _ h => h) (by rfl) (fun w h => by obtain ⟨h0, h1, h2, h3, h4, h5⟩ := h; go_simp; rfl) (by assumption) ?_
          simp only [set0, set1]
          refine tkk 2 27 rfl rfl (by kernel_rfl) (fun _ _ _ _ h => h) (by rfl) (fun w h => by obtain ⟨h0, h1, h2, h3, h4, h5⟩ := h; go_simp; rfl) (by assumption) ?_
          simp only [set0, set1]
          refine tkk 3 28 rfl rfl (by kernel_rfl) (fun _ _ _ _ h => h) (by rfl) (fun w h => by obtain ⟨h0, h1, h2, h3, h4, h5⟩ := h; go_simp; rfl) (by assumption) ?_
          simp only [set0, set1]
          refine tkk 4 29 rfl rfl (by kernel_rfl) (fun _ _ _ _ h => h) (by rfl) (fun w h => by obtain ⟨h0, h1, h2, h3, h4, h5⟩ := h; go_simp; rfl) (by assumption) ?_
          simp only [set0, set1]
          refine tkk 5 30 rfl rfl (by kernel_rfl) (fun _ _ _ _ h => h) (by rfl) (fun w h => by obtain ⟨h0, h1, h2, h3, h4, h5⟩ := h; go_simp; rfl) (by assumption) ?_
          simp only [set0, set1]
          refine tkk 6 31 rfl rfl (by kernel_rfl) (fun _ _ _ _ h => h) (by rfl) (fun w h => by obtain ⟨h0, h1, h2, h3, h4, h5⟩ := h; go_simp; rfl) (by assumption) ?_
          simp only [set0, set1]
          refine wpAnyH_ready (rs := [7]) (by kernel_rfl) (by simp) ?_
          refine AllReadyH.cons rfl (fun K hK => ?_) AllReadyH.nil
          go_simp
          refine (HVT.out D18 TK.out.is.rd TK.out.is.ri).mono ?_
          rintro e v19 ⟨rfl, hb⟩
          replace P := Lib.hid (P.out.trans (hb.mono P.out.size))
          replace X := Lib.hid (X.out.next hb)
          replace RT := Lib.hid (RT.out.below hb)
          replace TK := Lib.hid (TK.out.next hb)
          replace TJ := Lib.hid (TJ.out.next hb)
          clear hb hHeld
          refine hK.out _ _ (⟨X.out.c0, X.out.c1, TK.out.is.c0, TK.out.is.c1, TK.out.is.c2, TJ.out.is.c2⟩) (fun hHeld => ?_)
          clear hK K
          refine tkk 8 33 rfl rfl (by kernel_rfl) (fun _ _ _ _ h => h) (by rfl) (fun w h => by obtain ⟨h0, h1, h2, h3, h4, h5⟩ := h; go_simp; rfl) (by assumption) ?_
          simp only [set0, set1]
          refine tkk 9 34 rfl rfl (by kernel_rfl) (fun _ _ _ _ h => h) (by rfl) (fun w h => by obtain ⟨h0, h1, h2, h3, h4, h5⟩ := h; go_simp; rfl) (by assumption) ?_
          simp only [set0, set1]
          refine tkk 10 35 rfl rfl (by kernel_rfl) (fun _ _ _ _ h => h) (by rfl) (fun w h => by obtain ⟨h0, h1, h2, h3, h4, h5⟩ := h; go_simp; rfl) (by assumption) ?_
          simp only [set0, set1]
          refine tkk 11 36 rfl rfl (by kernel_rfl) (fun _ _ _ _ h => h) (by rfl) (fun w h => by obtain ⟨h0, h1, h2, h3, h4, h5⟩ := h; go_simp; rfl) (by assumption) ?_
          simp only [set0, set1]
          refine tkk 12 37 rfl rfl (by kernel_rfl) (fun _ _ _ _ h => h) (by rfl) (fun w h => by obtain ⟨h0, h1, h2, h3, h4, h5⟩ := h; go_simp; rfl) (by assumption) ?_
          simp only [set0, set1]
          refine tkk 13 38 rfl rfl (by kernel_rfl) (fun _ _ _ _ h => h) (by rfl) (fun w h => by obtain ⟨h0, h1, h2, h3, h4, h5⟩ := h; go_simp; rfl) (by assumption) ?_
          simp only [set0, set1]
          refine tkk 14 39 rfl rfl (by kernel_rfl) (fun _ _ _ _ h => h) (by rfl) (fun w h => by obtain ⟨h0, h1, h2, h3, h4, h5⟩ := h; go_simp; rfl) (by assumption) ?_
          simp only [set0, set1]
          refine tkk 15 40 rfl rfl (by kernel_rfl) (fun _ _ _ _ h => h) (by rfl) (fun w h => by obtain ⟨h0, h1, h2, h3, h4, h5⟩ := h; go_simp; rfl) (by assumption) ?_
          simp only [set0, set1]
          refine tkk 16 41 rfl rfl (by kernel_rfl) (fun _ _ _ _ h => h) (by rfl) (fun w h => by obtain ⟨h0, h1, h2, h3, h4, h5⟩ := h; go_simp; rfl) (by assumption) ?_
          simp only [set0, set1]
          refine tkk 17 42 rfl rfl (by kernel_rfl) (fun _ _ _ _ h => h) (by rfl) (fun w h => by obtain ⟨h0, h1, h2, h3, h4, h5⟩ := h; go_simp; rfl) (by assumption) ?_
          simp only [set0, set1]
          refine tkk 18 43 rfl rfl (by kernel_rfl) (fun _ _ _ _ h => h) (by rfl) (fun w h => by obtain ⟨h0, h1, h2, h3, h4, h5⟩ := h; go_simp; rfl) (by assumption) ?_
          simp only [set0, set1]
          refine tkk 19 44 rfl rfl (by kernel_rfl) (fun _ _ _ _ h => h) (by rfl) (fun w h => by obtain ⟨h0, h1, h2, h3, h4, h5⟩ := h; go_simp; rfl) (by assumption) ?_
          simp only [set0, set1]
          refine tkk 20 45 rfl rfl (by kernel_rfl) (fun _ _ _ _ h => h) (by rfl) (fun w h => by obtain ⟨h0, h1, h2, h3, h4, h5⟩ := h; go_simp; rfl) (by assumption) ?_
          simp only [set0, set1]
          refine tkk 21 46 rfl rfl (by kernel_rfl) (fun _ _ _ _ h => h) (by rfl) (fun w h => by obtain ⟨h0, h1, h2, h3, h4, h5⟩ := h; go_simp; rfl) (by assumption) ?_
          simp only [set0, set1]
          refine tkk 22 47 rfl rfl (by kernel_rfl) (fun _ _ _ _ h => h) (by rfl) (fun w h => by obtain ⟨h0, h1, h2, h3, h4, h5⟩ := h; go_simp; rfl) (by assumption) ?_
          simp only [set0, set1]
          refine tkk 23 48 rfl rfl (by kernel_rfl) (fun _ _ _ _ h => h) (by rfl) (fun w h => by obtain ⟨h0, h1, h2, h3, h4, h5⟩ := h; go_simp; rfl) (by assumption) ?_
          simp only [set0, set1]
          refine tkk 24 49 rfl rfl (by kernel_rfl) (fun _ _ _ _ h => h) (by rfl) (fun w h => by obtain ⟨h0, h1, h2, h3, h4, h5⟩ := h; go_simp; rfl) (by assumption) ?_
          simp only [set0, set1]
          refine tkk 25 50 rfl rfl (by kernel_rfl) (fun _ _ _ _ h => h) (by rfl) (fun w h => by obtain ⟨h0, h1, h2, h3, h4, h5⟩ := h; go_simp; rfl) (by assumption) ?_
          simp only [set0, set1]
          refine wpAnyH_ready (rs := [26]) (by kernel_rfl) (by simp) ?_
          refine AllReadyH.cons rfl (fun K hK => ?_) AllReadyH.nil
          go_simp
          refine (HOC.out v19 TJ.out.is.ri TK.out.is.ri).mono ?_
          rintro e v20 ⟨rfl, hb⟩
          replace P := Lib.hid (P.out.trans (hb.mono P.out.size))
          replace X := Lib.hid (X.out.next hb)
          replace RT := Lib.hid (RT.out.below hb)
          replace TK := Lib.hid (TK.out.next hb)
          replace TJ := Lib.hid (TJ.out.next hb)
          clear hb hHeld
          refine hK.out _ _ (⟨X.out.c0, X.out.c1, TK.out.is.c0, TK.out.is.c1, TK.out.is.c2, TJ.out.is.c2⟩) (fun hHeld => ?_)
          clear hK K
          refine tkk 27 52 rfl rfl (by kernel_rfl) (fun _ _ _ _ h => h) (by rfl) (fun w h => by obtain ⟨h0, h1, h2, h3, h4, h5⟩ := h; go_simp; rfl) (by assumption) ?_
          simp only [set0, set1]
          refine tkk 28 53 rfl rfl (by kernel_rfl) (fun _ _ _ _ h => h) (by rfl) (fun w h => by obtain ⟨h0, h1, h2, h3, h4, h5⟩ := h; go_simp; rfl) (by assumption) ?_
          simp only [set0, set1]
          refine tkk 29 54 rfl rfl (by kernel_rfl) (fun _ _ _ _ h => h) (by rfl) (fun w h => by obtain ⟨h0, h1, h2, h3, h4, h5⟩ := h; go_simp; rfl) (by assumption) ?_
          clear hHeld
          refine wpAnyH_done (by kernel_rfl) ?_ _
          go_wp2
          go_ret
          exact ⟨by rw [HF.out] <;> rfl, P.out⟩
  · have t1 : decide ((k : Int) < (n : Int)) = false := decide_eq_false (by omega)
    have t1n : decide (k < n) = false := decide_eq_false hkn
    have HF := Lib.hid (vp_true (V := V) (ts := ts) (by rw [HL.out]; exact HB.out) (fun i hi => HA.out i (by rw [HL.out] at hi; omega)))
    have a1 := X.out.c1
    go_wp2
    go_ret
    exact ⟨by rw [HF.out] <;> rfl, P.out⟩
end Go.Proofs.YteabokkofoomkaaGreat
