import Derived.Test.YteabokkofoomkaaGreatCab
import Derived.Lib.Tables
import Derived.Deep.Light
namespace Go.Proofs.YteabokkofoomkaaGreat
open Go.RowKit
theorem tab_size : (Lib.len8tab.size : Int) = 256 := by rw [Lib.len8tab_size]; rfl
theorem tab_at (y : Int) (h : y.toNat < Lib.len8tab.size) (h0 : 0 ≤ y) (h1 : y ≤ 255) : ((Lib.len8tab[y.toNat]'h).toNat : Int) = (Lib.bitLen y.toNat : Int) ∧ Lib.bitLen y.toNat ≤ 8 := by
 refine ⟨?_, Lib.bitLen_le8' y h0 h1⟩
 rw [← Lib.len8_of y h0 h1]
 unfold Lib.len8
 rw [getElem?_pos Lib.len8tab y.toNat h]
 rfl
theorem tab_sum (c : Int) (y : Int) (h : y.toNat < Lib.len8tab.size) (h0 : 0 ≤ y) (h1 : y ≤ 255) (c0 : 0 ≤ c) (c1 : c ≤ 56) : wrap64 (c + wrap64 ((Lib.len8tab[y.toNat]'h).toNat : Int)) = c + (Lib.bitLen y.toNat : Int) := by
 obtain ⟨e, l⟩ := tab_at y h h0 h1
 rw [e, IntWalk.wrap64_in ((Lib.bitLen y.toNat : Nat) : Int) (by omega), IntWalk.wrap64_in _ (by omega)]
theorem tab_one (y : Int) (h : y.toNat < Lib.len8tab.size) (h0 : 0 ≤ y) (h1 : y ≤ 255) : wrap64 (wrap64 ((Lib.len8tab[y.toNat]'h).toNat : Int)) = (Lib.bitLen y.toNat : Int) := by
 obtain ⟨e, l⟩ := tab_at y h h0 h1
 rw [e, IntWalk.wrap64_in ((Lib.bitLen y.toNat : Nat) : Int) (by omega), IntWalk.wrap64_in _ (by omega)]
set_option maxHeartbeats 4000000 in
set_option maxRecDepth 100000 in
theorem len32_i (x : Int) (w : World) (h0 : 0 ≤ x) (h1 : x ≤ 4294967295) : Calls Tryz.prog 150 #[.int .u32 x] w fun e w' => e = .returned (.int .i64 (Lib.bitLen x.toNat)) ∧ w' = w := by
 have hs := tab_size
 go_enter Tryz.func150, Tryz.ntmps150
 go_wp2
 all_goals first
  | (go_ret; refine ⟨congrArg Ending.returned (congrArg (Value.int IntKind.i64) ?_), rfl⟩; go_light)
  | (exfalso; go_light; omega)
 all_goals first
  | (rw [tab_sum 24 (x / 65536 / 256) _ (by omega) (by omega) (by omega) (by omega)]
     have s := Lib.bitLen_shift24 x.toNat (by omega) (by omega)
     rw [show (x / 65536 / 256).toNat = x.toNat / 16777216 by omega]; omega)
  | (rw [tab_sum 16 (x / 65536) _ (by omega) (by omega) (by omega) (by omega)]
     have s := Lib.bitLen_shift16 x.toNat (by omega) (by omega)
     rw [show (x / 65536).toNat = x.toNat / 65536 by omega]; omega)
  | (rw [tab_sum 8 (x / 256) _ (by omega) (by omega) (by omega) (by omega)]
     have s := Lib.bitLen_shift8 x.toNat (by omega) (by omega)
     rw [show (x / 256).toNat = x.toNat / 256 by omega]; omega)
  | exact tab_one x _ (by omega) (by omega)
set_option maxHeartbeats 8000000 in
set_option maxRecDepth 100000 in
theorem len64_i (x : Int) (w : World) (h0 : 0 ≤ x) (h1 : x ≤ 18446744073709551615) : Calls Tryz.prog 155 #[.int .u64 x] w fun e w' => e = .returned (.int .i64 (Lib.bitLen x.toNat)) ∧ w' = w := by
 have hs := tab_size
 go_enter Tryz.func155, Tryz.ntmps155
 go_wp2
 all_goals first
  | (go_ret; refine ⟨congrArg Ending.returned (congrArg (Value.int IntKind.i64) ?_), rfl⟩; go_light)
  | (exfalso; go_light; omega)
 all_goals first
  | (rw [tab_sum 56 (x / 4294967296 / 65536 / 256) _ (by omega) (by omega) (by omega) (by omega)]
     have s := Lib.bitLen_shift56 x.toNat (by omega) (by omega)
     rw [show (x / 4294967296 / 65536 / 256).toNat = x.toNat / 72057594037927936 by omega]; omega)
  | (rw [tab_sum 48 (x / 4294967296 / 65536) _ (by omega) (by omega) (by omega) (by omega)]
     have s := Lib.bitLen_shift48 x.toNat (by omega) (by omega)
     rw [show (x / 4294967296 / 65536).toNat = x.toNat / 281474976710656 by omega]; omega)
  | (rw [tab_sum 40 (x / 4294967296 / 256) _ (by omega) (by omega) (by omega) (by omega)]
     have s := Lib.bitLen_shift40 x.toNat (by omega) (by omega)
     rw [show (x / 4294967296 / 256).toNat = x.toNat / 1099511627776 by omega]; omega)
  | (rw [tab_sum 32 (x / 4294967296) _ (by omega) (by omega) (by omega) (by omega)]
     have s := Lib.bitLen_shift32 x.toNat (by omega) (by omega)
     rw [show (x / 4294967296).toNat = x.toNat / 4294967296 by omega]; omega)
  | (rw [tab_sum 24 (x / 65536 / 256) _ (by omega) (by omega) (by omega) (by omega)]
     have s := Lib.bitLen_shift24 x.toNat (by omega) (by omega)
     rw [show (x / 65536 / 256).toNat = x.toNat / 16777216 by omega]; omega)
  | (rw [tab_sum 16 (x / 65536) _ (by omega) (by omega) (by omega) (by omega)]
     have s := Lib.bitLen_shift16 x.toNat (by omega) (by omega)
     rw [show (x / 65536).toNat = x.toNat / 65536 by omega]; omega)
  | (rw [tab_sum 8 (x / 256) _ (by omega) (by omega) (by omega) (by omega)]
     have s := Lib.bitLen_shift8 x.toNat (by omega) (by omega)
     rw [show (x / 256).toNat = x.toNat / 256 by omega]; omega)
  | exact tab_one x _ (by omega) (by omega)
set_option maxHeartbeats 400000 in
theorem digits_c (A : Option Addr) (n c : Nat) (xs : List Nat) (w : World) (h : Rd w A n xs) (hx : canon xs) (hn : n ≤ 70368744177664) :
 Calls Tryz.prog 135 #[.slice A n c] w fun e w' => e = .returned (.int .i64 (blen (val xs))) ∧ w' = w := by
 rcases Nat.eq_zero_or_pos n with h0 | h0
 · subst h0
   have hx0 : xs = [] := List.eq_nil_of_length_eq_zero h.len
   have H := Lib.hid (show blen (val xs) = 0 by rw [hx0]; rfl)
   clear hx0
   go_enter Tryz.func135, Tryz.ntmps135
   go_wp2
   go_ret
   exact ⟨by rw [H.out]; rfl, rfl⟩
 · have hl := h.len
   have hb := blen_words hx (by omega)
   obtain ⟨b, o, rfl, _, hcell⟩ := h.of h0
   obtain ⟨j, rfl⟩ : ∃ j, n = j + 1 := ⟨n - 1, by omega⟩
   rw [hl, Nat.add_sub_cancel] at hb
   have hc := hcell j (by omega)
   have hx1 := small_get hx.1 j
   obtain ⟨x, hx2⟩ : ∃ x, x = xs.getD j 0 := ⟨_, rfl⟩
   rw [← hx2] at hc hx1 hb
   have hbl := bitLen_blen x (by omega)
   have hle := blen_le (v := x) (k := 32)
   have hle2 := hle.2 (by omega)
   have hlen := fun w => len32_i (x : Int) w (by omega) (by omega)
   rw [Int.toNat_natCast, hbl] at hlen
   obtain ⟨y, hy⟩ : ∃ y, y = blen x := ⟨_, rfl⟩
   rw [← hy] at hle2 hb hlen
   have HB := Lib.hid hb
   have HC := Lib.hid hlen
   have t : ((j : Int) + 1 == 0) = false := by rw [beq_eq_false_iff_ne]; omega
   clear hlen hle hb hbl hcell hl hx2 hy h
   go_enter Tryz.func135, Tryz.ntmps135
   go_wp2_with (go_at_call 150; refine (HC.out _).mono ?_; rintro e w' ⟨rfl, rfl⟩)
   go_ret
   exact ⟨ret_int (by rw [HB.out]; simp), rfl⟩
def Ri (w : World) (v : Value) (z : Int) : Prop :=
 ∃ A c, v = .agg #[.bool (decide (z < 0)), .slice A (words z.natAbs).length c] ∧ Rd w A (words z.natAbs).length (words z.natAbs) ∧ (words z.natAbs).length ≤ c ∧ c ≤ 9223372036854775807
theorem Ri.below {w w' : World} {v : Value} {z : Int} (h : Ri w v z) (hb : Below w.heap.size w w') : Ri w' v z := by
 obtain ⟨A, c, e, r, x, y⟩ := h
 exact ⟨A, c, e, r.below hb, x, y⟩
def zero : Value := .agg #[.bool false, .slice none 0 0]
def NumIs (w : World) (z : Int) (t : Bool) (B : Option Addr) (m d : Nat) (k : Int) : Prop :=
 ((words z.natAbs).length ≤ 4096 → k = 0 ∧ t = decide (z < 0) ∧ m = (words z.natAbs).length ∧ Rd w B m (words z.natAbs) ∧ m ≤ d ∧ d ≤ 9223372036854775807) ∧
 (¬ (words z.natAbs).length ≤ 4096 → k = 4 ∧ t = false ∧ B = none ∧ m = 0 ∧ d = 0)
theorem NumIs.below {w w' : World} {z k : Int} {t : Bool} {B : Option Addr} {m d : Nat} (h : NumIs w z t B m d k) (hb : Below w.heap.size w w') : NumIs w' z t B m d k :=
 ⟨fun hl => by obtain ⟨a, b, c, r, x, y⟩ := h.1 hl; exact ⟨a, b, c, r.below hb, x, y⟩, h.2⟩
def Num (w : World) (z : Int) (e : Ending) (w' : World) : Prop :=
 ∃ t B m d k, e = .returned (.tuple #[.agg #[.bool t, .slice B m d], .int .i64 k]) ∧ NumIs w' z t B m d k ∧ Below w.heap.size w w'
def sgn (b : Bool) (v : Nat) : Int := if b then -(v : Int) else v
theorem sgn_abs (b : Bool) (v : Nat) : (sgn b v).natAbs = v := by cases b <;> simp [sgn]
theorem sgn_lt (b : Bool) (v : Nat) (h : v ≠ 0) : decide (sgn b v < 0) = b := by cases b <;> simp [sgn] <;> omega
theorem sgn_zero (b : Bool) : sgn b 0 = 0 := by cases b <;> rfl
theorem num_ok {w w' : World} {s b : Bool} {v m : Nat} {A' : Option Addr} (hm : m = (words v).length) (h4 : m ≤ 4096) (hb : Below w.heap.size w w') (hr : Rd w' A' m (words v)) (hs : decide (sgn s v < 0) = b) :
 Num w (sgn s v) (.returned (.tuple #[.agg #[.bool b, .slice A' m m], .int .i64 0])) w' := by
 subst hm hs
 refine ⟨_, _, _, _, _, rfl, ⟨fun _ => ?_, fun h => absurd ?_ h⟩, hb⟩
 · rw [sgn_abs]; exact ⟨rfl, rfl, rfl, hr, Nat.le_refl _, by omega⟩
 · rw [sgn_abs]; exact h4
theorem len_pos_ne {v m : Nat} (hm : m = (words v).length) (h : 0 < m) : v ≠ 0 := by
 rintro rfl; rw [words_zero] at hm; subst hm; exact absurd h (by simp)
theorem len_zero_eq {v : Nat} (hm : 0 = (words v).length) : v = 0 := words_nil.1 (List.eq_nil_of_length_eq_zero hm.symm)
set_option maxHeartbeats 400000 in
theorem number_c (s : Bool) (A : Option Addr) (n c : Nat) (xs : List Nat) (w : World) (h : Rd w A n xs) (hc : n ≤ c) (hc2 : c ≤ 9223372036854775807) :
 Calls Tryz.prog 130 #[.bool s, .slice A n c] w (Num w (sgn s (val xs))) := by
 have hL := sgn_abs s (val xs)
 obtain ⟨m, hm⟩ : ∃ m, m = (words (val xs)).length := ⟨_, rfl⟩
 have HM := Lib.hid hm
 obtain ⟨t1, t2⟩ := take_words h.sm
 have htl := h.len
 have hrd : ∀ w' : World, Below w.heap.size w w' → ∀ A', (A' = A ∨ m = 0) → Rd w' A' m (words (val xs)) := by
  intro w' hb A' hA
  rcases hA with rfl | h0
  · have := (h.below hb).take (m := m) (by omega)
    rwa [hm, t1, ← hm] at this
  · subst h0
    rw [List.eq_nil_of_length_eq_zero hm.symm]
    exact Rd.nil _
 have hmc : m ≤ c := by omega
 clear t1 t2 htl hm
 have HR := Lib.hid hrd
 have HL := Lib.hid hL
 clear hrd hL
 have HT := Lib.hid (fun w' hw => trim_c A n c xs w' hw hc hc2)
 go_enter Tryz.func130, Tryz.ntmps130
 go_wp2_with fail
 refine (HT.out _ (h.alloc _)).mono ?_
 rintro e w1 ⟨A', rfl, hA, k, rfl⟩
 rw [← HM.out] at hA ⊢
 have HB : Below w.heap.size w ((w.alloc (.cells #[.bool false, .slice none 0 0] 58)).drewN k) := below_drewN ((Below.refl _ _).alloc (Nat.le_refl _) _) k
 have HB2 := Lib.hid HB
 clear HB
 by_cases hm : m ≤ 4096
 · by_cases h0 : 0 < m
   · cases s
     · go_wp2
       refine bodyPost_ret (v := .tuple #[.agg #[.bool false, .slice A' m m], .int .i64 0]) (by simp [results, Tryz.results130, go_sem]) rfl ?_
       exact num_ok HM.out (by omega) ((HB2.out.setCell (p := ⟨w.heap.size, 0, none⟩) (Nat.le_refl _) _).setCell (p := ⟨w.heap.size, 1, none⟩) (Nat.le_refl _) _) (HR.out _ ((HB2.out.setCell (p := ⟨w.heap.size, 0, none⟩) (Nat.le_refl _) _).setCell (p := ⟨w.heap.size, 1, none⟩) (Nat.le_refl _) _) A' hA) (sgn_lt _ _ (len_pos_ne HM.out h0))
     · go_wp2
       refine bodyPost_ret (v := .tuple #[.agg #[.bool true, .slice A' m m], .int .i64 0]) (by simp [results, Tryz.results130, go_sem]) rfl ?_
       exact num_ok HM.out (by omega) ((HB2.out.setCell (p := ⟨w.heap.size, 0, none⟩) (Nat.le_refl _) _).setCell (p := ⟨w.heap.size, 1, none⟩) (Nat.le_refl _) _) (HR.out _ ((HB2.out.setCell (p := ⟨w.heap.size, 0, none⟩) (Nat.le_refl _) _).setCell (p := ⟨w.heap.size, 1, none⟩) (Nat.le_refl _) _) A' hA) (sgn_lt _ _ (len_pos_ne HM.out h0))
   · have hm0 : m = 0 := by omega
     subst hm0
     cases s
     · go_wp2
       refine bodyPost_ret (v := .tuple #[.agg #[.bool false, .slice A' 0 0], .int .i64 0]) (by simp [results, Tryz.results130, go_sem]) rfl ?_
       exact num_ok HM.out (by omega) ((HB2.out.setCell (p := ⟨w.heap.size, 0, none⟩) (Nat.le_refl _) _).setCell (p := ⟨w.heap.size, 1, none⟩) (Nat.le_refl _) _) (HR.out _ ((HB2.out.setCell (p := ⟨w.heap.size, 0, none⟩) (Nat.le_refl _) _).setCell (p := ⟨w.heap.size, 1, none⟩) (Nat.le_refl _) _) A' hA) (by rw [len_zero_eq HM.out]; rfl)
     · go_wp2
       refine bodyPost_ret (v := .tuple #[.agg #[.bool false, .slice A' 0 0], .int .i64 0]) (by simp [results, Tryz.results130, go_sem]) rfl ?_
       exact num_ok HM.out (by omega) ((HB2.out.setCell (p := ⟨w.heap.size, 0, none⟩) (Nat.le_refl _) _).setCell (p := ⟨w.heap.size, 1, none⟩) (Nat.le_refl _) _) (HR.out _ ((HB2.out.setCell (p := ⟨w.heap.size, 0, none⟩) (Nat.le_refl _) _).setCell (p := ⟨w.heap.size, 1, none⟩) (Nat.le_refl _) _) A' hA) (by rw [len_zero_eq HM.out]; rfl)
 · go_wp2
   refine bodyPost_ret (v := .tuple #[.agg #[.bool false, .slice none 0 0], .int .i64 4]) (by simp [results, Tryz.results130, go_sem]) rfl ?_
   exact ⟨_, _, _, _, _, rfl, ⟨fun h => absurd h (by rw [HL.out, ← HM.out]; exact hm), fun _ => ⟨rfl, rfl, rfl, rfl, rfl⟩⟩, (HB2.out.setCell (p := ⟨w.heap.size, 0, none⟩) (Nat.le_refl _) _).setCell (p := ⟨w.heap.size, 1, none⟩) (Nat.le_refl _) _⟩
theorem Rd.set_other {w : World} {A : Option Addr} {n : Nat} {xs : List Nat} (h : Rd w A n xs) {p : Addr} {v : Value} (hp : w.cell? p = some v) (hv : ∀ z, v ≠ .int .u32 z) (u : Value) : Rd (w.setCell p u) A n xs :=
 ⟨h.len, h.sm, fun hn => by
  obtain ⟨b, o, e, hb, hc⟩ := h.at_ hn
  refine ⟨b, o, e, by simpa [World.setCell] using hb, fun k hk => ?_⟩
  rw [World.cell?_setCell_other]
  · exact hc k hk
  · intro he
    rw [he, hc k hk] at hp
    injection hp with hp
    exact hv _ hp.symm⟩
theorem NumIs.set_other {w : World} {z k : Int} {t : Bool} {B : Option Addr} {m d : Nat} (h : NumIs w z t B m d k) {p : Addr} {v : Value} (hp : w.cell? p = some v) (hv : ∀ z, v ≠ .int .u32 z) (u : Value) : NumIs (w.setCell p u) z t B m d k :=
 ⟨fun hl => by obtain ⟨a, b, c, r, x, y⟩ := h.1 hl; exact ⟨a, b, c, r.set_other hp hv u, x, y⟩, h.2⟩
theorem Rd.store {w : World} {A : Option Addr} {n : Nat} {xs : List Nat} (h : Rd w A n xs) {g : Nat} {x : Bool} {a : Option Addr} {i j : Nat} (h0 : w.cell? ⟨g, 0, none⟩ = some (.bool x)) (h1 : w.cell? ⟨g, 1, none⟩ = some (.slice a i j)) (u v : Value) :
 Rd ((w.setCell ⟨g, 0, none⟩ u).setCell ⟨g, 1, none⟩ v) A n xs :=
 (h.set_other h0 (fun _ e => by cases e) u).set_other (v := .slice a i j) (by rw [World.cell?_setCell_other _ _ _ _ (by simp)]; exact h1) (fun _ e => by cases e) v
theorem NumIs.store {w : World} {z k : Int} {t : Bool} {B : Option Addr} {m d : Nat} (h : NumIs w z t B m d k) {g : Nat} {x : Bool} {a : Option Addr} {i j : Nat} (h0 : w.cell? ⟨g, 0, none⟩ = some (.bool x)) (h1 : w.cell? ⟨g, 1, none⟩ = some (.slice a i j)) (u v : Value) :
 NumIs ((w.setCell ⟨g, 0, none⟩ u).setCell ⟨g, 1, none⟩ v) z t B m d k :=
 (h.set_other h0 (fun _ e => by cases e) u).set_other (v := .slice a i j) (by rw [World.cell?_setCell_other _ _ _ _ (by simp)]; exact h1) (fun _ e => by cases e) v
theorem below_store {w w' : World} {B : Nat} (h : Below B w w') {g : Nat} (hg : B ≤ g) (u v : Value) : Below B w ((w'.setCell ⟨g, 0, none⟩ u).setCell ⟨g, 1, none⟩ v) :=
 (h.setCell (p := ⟨g, 0, none⟩) hg u).setCell (p := ⟨g, 1, none⟩) hg v
theorem cell_two {w : World} {g b o : Nat} {u v x : Value} (hne : g ≠ b) (h : w.cell? ⟨b, o, none⟩ = some x) : ((w.setCell ⟨g, 0, none⟩ u).setCell ⟨g, 1, none⟩ v).cell? ⟨b, o, none⟩ = some x := by
 rw [World.cell?_setCell_other _ _ _ _ (fun e => hne (by injection e)), World.cell?_setCell_other _ _ _ _ (fun e => hne (by injection e))]
 exact h
def validB (s : Bool) (xs : List Nat) : Bool := if xs.length = 0 then !s else decide (xs.length ≤ 4096) && decide (xs.getD (xs.length - 1) 0 ≠ 0)
set_option maxHeartbeats 400000 in
set_option maxRecDepth 100000 in
theorem valid_c (s : Bool) (A : Option Addr) (n c : Nat) (xs : List Nat) (w : World) (h : Rd w A n xs) :
 Calls Tryz.prog 74 #[.agg #[.bool s, .slice A n c]] w fun e w' => e = .returned (.bool (validB s xs)) ∧ Below w.heap.size w w' := by
 have hl := h.len
 rcases Nat.eq_zero_or_pos n with h0 | h0
 · subst h0
   have H := Lib.hid (show validB s xs = !s by unfold validB; rw [if_pos hl])
   clear hl
   go_enter Tryz.func74, Tryz.ntmps74
   go_wp2
   go_ret
   exact ⟨by rw [H.out]; rfl, (Below.refl _ _).alloc (Nat.le_refl _) _⟩
 · obtain ⟨b, o, rfl, hb, hcell⟩ := h.of h0
   have t0 : ((n : Int) == 0) = false := by rw [beq_eq_false_iff_ne]; omega
   by_cases hn : n ≤ 4096
   · obtain ⟨j, rfl⟩ : ∃ j, n = j + 1 := ⟨n - 1, by omega⟩
     clear t0
     have t0 : ((j : Int) + 1 == 0) = false := by rw [beq_eq_false_iff_ne]; omega
     have hcj := hcell j (by omega)
     have hx1 := small_get h.sm j
     obtain ⟨x, hx⟩ : ∃ x, x = xs.getD j 0 := ⟨_, rfl⟩
     rw [← hx] at hcj hx1
     have hcj2 : ∀ o1, (w.alloc o1).cell? ⟨b, o + j, none⟩ = some (.int .u32 (x : Int)) := fun o1 => (World.cell?_alloc_lt w o1 ⟨b, o + j, none⟩ hb).trans hcj
     have HV := Lib.hid (show validB s xs = decide (x ≠ 0) by unfold validB; rw [if_neg (by omega), hl, Nat.add_sub_cancel, ← hx]; simp [hn])
     clear hx hl hcell hcj
     by_cases hx0 : x = 0
     · have t : ((x : Int) != 0) = false := by subst hx0; rfl
       have HV2 := Lib.hid (show decide (x ≠ 0) = false by simp [hx0])
       clear hx0
       go_enter Tryz.func74, Tryz.ntmps74
       go_wp2
       go_ret
       exact ⟨by rw [HV.out, HV2.out]; rfl, (Below.refl _ _).alloc (Nat.le_refl _) _⟩
     · have t : ((x : Int) != 0) = true := by rw [bne_iff_ne]; omega
       have HV2 := Lib.hid (show decide (x ≠ 0) = true by simp [hx0])
       clear hx0
       go_enter Tryz.func74, Tryz.ntmps74
       go_wp2
       go_ret
       exact ⟨by rw [HV.out, HV2.out]; rfl, (Below.refl _ _).alloc (Nat.le_refl _) _⟩
   · have HV := Lib.hid (show validB s xs = false by unfold validB; rw [if_neg (by omega), hl]; simp; omega)
     clear hl hcell
     go_enter Tryz.func74, Tryz.ntmps74
     go_wp2
     go_ret
     exact ⟨by rw [HV.out]; rfl, (Below.refl _ _).alloc (Nat.le_refl _) _⟩
set_option maxHeartbeats 1000000 in
theorem allValid_c (g : Nat) (s s' : Bool) (A A' : Option Addr) (n c n' c' : Nat) (xs ys : List Nat) (w : World) (h : Rd w A n xs) (h' : Rd w A' n' ys) (hg : g < w.heap.size)
 (c0 : w.cell? ⟨g, 0, none⟩ = some (.bool s)) (c1 : w.cell? ⟨g, 1, none⟩ = some (.slice A n c)) (c2 : w.cell? ⟨g, 2, none⟩ = some (.bool s')) (c3 : w.cell? ⟨g, 3, none⟩ = some (.slice A' n' c')) :
 Calls Tryz.prog 120 #[.slice (some ⟨g, 0, none⟩) 2 2] w fun e w' => e = .returned (.bool (validB s xs && validB s' ys)) ∧ Below w.heap.size w w' := by
 go_enter Tryz.func120, Tryz.ntmps120
 go_wp2
 go_loopw [7] (fun i wr => Below w.heap.size w wr ∧ (i = .int .i64 0 ∨ (i = .int .i64 1 ∧ validB s xs = true) ∨ (i = .int .i64 2 ∧ validB s xs = true ∧ validB s' ys = true))) (fun i _ => (2 - intOf i).toNat)
 case atStart => exact ⟨Below.refl _ _, .inl rfl⟩
 case round =>
  obtain ⟨hW, hi⟩ := hrel
  have d0 := (hW.cell (p := ⟨g, 0, none⟩) hg).trans c0
  have d1 := (hW.cell (p := ⟨g, 1, none⟩) hg).trans c1
  have d2 := (hW.cell (p := ⟨g, 2, none⟩) hg).trans c2
  have d3 := (hW.cell (p := ⟨g, 3, none⟩) hg).trans c3
  clear c0 c1 c2 c3
  have hx := h.below hW
  have hy := h'.below hW
  have hz := hW.size
  rcases hi with rfl | ⟨rfl, v1'⟩ | ⟨rfl, v1', v2'⟩
  · go_wp2_with fail
    refine (valid_c s A n c xs _ (hx.alloc _)).mono ?_
    rintro e w1 ⟨rfl, hb⟩
    have HB := Lib.hid ((hW.alloc hz (.cells #[.bool s, .slice A n c] 58)).trans (hb.mono (by simp; omega)))
    have hz1 := hb.size
    clear hb hW
    obtain ⟨v, hv⟩ : ∃ v, v = validB s xs := ⟨_, rfl⟩
    rw [← hv]
    have HV := Lib.hid hv.symm
    clear hv
    cases v
    · go_wp2
      go_ret
      exact ⟨by rw [HV.out]; rfl, HB.out⟩
    · go_wp2
      go_roundw
      case measure => simp [intOf]
      case rel => exact ⟨HB.out, .inr (.inl ⟨rfl, HV.out⟩)⟩
  · have v1 := Lib.hid v1'
    clear v1'
    go_wp2_with fail
    refine (valid_c s' A' n' c' ys _ (hy.alloc _)).mono ?_
    rintro e w1 ⟨rfl, hb⟩
    have HB := Lib.hid ((hW.alloc hz (.cells #[.bool s', .slice A' n' c'] 58)).trans (hb.mono (by simp; omega)))
    have hz1 := hb.size
    clear hb hW
    obtain ⟨v, hv⟩ : ∃ v, v = validB s' ys := ⟨_, rfl⟩
    rw [← hv]
    have HV := Lib.hid hv.symm
    clear hv
    cases v
    · go_wp2
      go_ret
      exact ⟨by rw [v1.out, HV.out]; rfl, HB.out⟩
    · go_wp2
      go_roundw
      case measure => simp [intOf]
      case rel => exact ⟨HB.out, .inr (.inr ⟨rfl, v1.out, HV.out⟩)⟩
  · have v1 := Lib.hid v1'
    have v2 := Lib.hid v2'
    clear v1' v2'
    have HB := Lib.hid hW
    go_wp2
    go_ret
    exact ⟨by rw [v1.out, v2.out]; rfl, HB.out⟩
def One (w : World) (z : Int) (e : Ending) (w' : World) : Prop :=
 ∃ A c, e = .returned (.agg #[.bool (decide (z < 0)), .slice A (words z.natAbs).length c]) ∧ Rd w' A (words z.natAbs).length (words z.natAbs) ∧ (words z.natAbs).length ≤ c ∧ c ≤ 9223372036854775807 ∧ Below w.heap.size w w'
theorem two_row (m : Nat) (_h : m < 18446744073709551616) : Obj.cells #[.int .u32 ((m : Int) % 4294967296), .int .u32 ((m : Int) / 4294967296)] 103 = row [m % 4294967296, m / 4294967296] := by
 simp [row, wd]
theorem two_small (m : Nat) (h : m < 18446744073709551616) : small [m % 4294967296, m / 4294967296] := by
 refine small_cons.2 ⟨by omega, small_cons.2 ⟨by omega, small_nil⟩⟩
theorem two_val (m : Nat) : val [m % 4294967296, m / 4294967296] = m := by simp [val]; omega
set_option maxHeartbeats 400000 in
theorem Of_neg (m : Nat) (w : World) (h1 : m ≤ 9223372036854775808) (h2 : 0 < m) :
 Calls Tryz.prog 97 #[.int .i64 (-(m : Int))] w (One w (-(m : Int))) := by
 have HN := Lib.hid (show ((-(m : Int)) : Int).natAbs = m by omega)
 have HD := Lib.hid (show decide (((-(m : Int)) : Int) < 0) = true by simp; omega)
 have e1 : IntKind.u64.wrap (-IntKind.u64.wrap (-(m : Int))) = (m : Int) := by rw [IntKind.wrap_u64, IntKind.wrap_u64]; omega
 have t : -(m : Int) < 0 := by omega
 go_enter Tryz.func97, Tryz.ntmps97
 go_wp2_with fail
 rw [two_row m (by omega)]
 have hb := Bk.new (w.alloc (.cells #[.bool false, .slice none 0 0] 58)) (two_small m (by omega))
 rw [World.size_alloc] at hb
 have hb1 : Below w.heap.size w ((w.alloc (.cells #[.bool false, .slice none 0 0] 58)).alloc (row [m % 4294967296, m / 4294967296])) := ((Below.refl _ _).alloc (Nat.le_refl _) _).alloc (by simp) _
 refine (trim_c _ 2 2 _ _ hb.rd (Nat.le_refl _) (by omega)).mono ?_
 intro e w3 h3
 obtain ⟨A', rfl, hA, k, rfl⟩ := h3
 obtain ⟨A2, c2, he, r1, r2, r3, r4, -⟩ := out_of_trim (w := w) hb (by omega) (two_val m) hb1 (by simp) ⟨A', rfl, hA, k, rfl⟩
 rw [two_val] at he ⊢
 injection he with he
 injection he with he1 he2 he3
 subst he1 he3
 have R := Lib.hid r1
 clear he2 r1 hb hb1
 go_wp2
 refine bodyPost_ret (v := .agg #[.bool true, .slice A' (words m).length (words m).length]) (by simp [results, Tryz.results97, go_sem]) rfl ?_
 exact ⟨A', (words m).length, by rw [HN.out, HD.out], by rw [HN.out]; exact R.out.store (x := false) (a := none) (i := 0) (j := 0) (by go_simp) (by go_simp) _ _, by rw [HN.out]; exact Nat.le_refl _, r3, below_store r4 (Nat.le_refl _) _ _⟩
set_option maxHeartbeats 400000 in
theorem Of_pos (m : Nat) (w : World) (h1 : m < 9223372036854775808) :
 Calls Tryz.prog 97 #[.int .i64 (m : Int)] w (One w (m : Int)) := by
 have HN := Lib.hid (show ((m : Int) : Int).natAbs = m by omega)
 have HD := Lib.hid (show decide (((m : Int) : Int) < 0) = false by simp)
 go_enter Tryz.func97, Tryz.ntmps97
 go_wp2_with fail
 rw [two_row m (by omega)]
 have hb := Bk.new (w.alloc (.cells #[.bool false, .slice none 0 0] 58)) (two_small m (by omega))
 rw [World.size_alloc] at hb
 have hb1 : Below w.heap.size w ((w.alloc (.cells #[.bool false, .slice none 0 0] 58)).alloc (row [m % 4294967296, m / 4294967296])) := ((Below.refl _ _).alloc (Nat.le_refl _) _).alloc (by simp) _
 refine (trim_c _ 2 2 _ _ hb.rd (Nat.le_refl _) (by omega)).mono ?_
 intro e w3 h3
 obtain ⟨A', rfl, hA, k, rfl⟩ := h3
 obtain ⟨A2, c2, he, r1, r2, r3, r4, -⟩ := out_of_trim (w := w) hb (by omega) (two_val m) hb1 (by simp) ⟨A', rfl, hA, k, rfl⟩
 rw [two_val] at he ⊢
 injection he with he
 injection he with he1 he2 he3
 subst he1 he3
 have R := Lib.hid r1
 clear he2 r1 hb hb1
 go_wp2
 refine bodyPost_ret (v := .agg #[.bool false, .slice A' (words m).length (words m).length]) (by simp [results, Tryz.results97, go_sem]) rfl ?_
 exact ⟨A', (words m).length, by rw [HN.out, HD.out], by rw [HN.out]; exact R.out.store (x := false) (a := none) (i := 0) (j := 0) (by go_simp) (by go_simp) _ _, by rw [HN.out]; exact Nat.le_refl _, r3, below_store r4 (Nat.le_refl _) _ _⟩
theorem Of_c (z : Int) (w : World) (h1 : -9223372036854775808 ≤ z) (h2 : z < 9223372036854775808) :
 Calls Tryz.prog 97 #[.int .i64 z] w (One w z) := by
 by_cases h : z < 0
 · obtain ⟨m, rfl⟩ : ∃ m : Nat, z = -(m : Int) := ⟨z.natAbs, by omega⟩
   exact Of_neg m w (by omega) (by omega)
 · obtain ⟨m, rfl⟩ : ∃ m : Nat, z = (m : Int) := ⟨z.natAbs, by omega⟩
   exact Of_pos m w (by omega)
end Go.Proofs.YteabokkofoomkaaGreat
