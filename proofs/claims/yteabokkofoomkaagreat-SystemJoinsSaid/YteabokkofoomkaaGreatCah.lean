import Derived.Test.YteabokkofoomkaaGreatCag
import Derived.Shelf.Abstract
namespace Go.Proofs.YteabokkofoomkaaGreat
open Go.RowKit Go.Shelf
structure Stp (b : Nat) (w w' : World) : Prop where
 grown : w.grownBy w' (some b)
 own : ∀ o, o ≠ 0 → w'.cell? ⟨b, o, none⟩ = w.cell? ⟨b, o, none⟩
 frz : ∀ o, w'.frozen? ⟨b, o, none⟩ = w.frozen? ⟨b, o, none⟩
theorem Stp.refl (b : Nat) (w : World) : Stp b w w := ⟨grown_of_below (Below.refl _ _) _, fun _ _ => rfl, fun _ => rfl⟩
theorem Stp.trans {b : Nat} {w w' w'' : World} (h : Stp b w w') (k : Stp b w' w'') : Stp b w w'' :=
 ⟨grown_trans h.grown k.grown, fun o ho => (k.own o ho).trans (h.own o ho), fun o => (k.frz o).trans (h.frz o)⟩
theorem Stp.of_below {b : Nat} {w w' : World} (hb : b < w.heap.size) (h : Below w.heap.size w w') : Stp b w w' :=
 ⟨grown_of_below h _, fun o _ => h.cell (p := ⟨b, o, none⟩) hb, fun o => h.frozen (p := ⟨b, o, none⟩) hb⟩
theorem Stp.size {b : Nat} {w w' : World} (h : Stp b w w') : w.heap.size ≤ w'.heap.size := h.grown.size
theorem Stp.below {b B : Nat} {w w' : World} (h : Stp b w w') (hB : B ≤ w.heap.size) (hb : B ≤ b) : Below B w w' := below_of_grown h.grown hB hb
structure Cc (w : World) (b : Nat) (k : Int) : Prop where
 lt : b < w.heap.size
 c0 : w.cell? ⟨b, 0, none⟩ = some (.int .i64 k)
 f0 : w.frozen? ⟨b, 0, none⟩ = false
theorem Cc.below {w w' : World} {b : Nat} {k : Int} (h : Cc w b k) (hb : Below w.heap.size w w') : Cc w' b k :=
 ⟨Nat.lt_of_lt_of_le h.lt hb.size, (hb.cell (p := ⟨b, 0, none⟩) h.lt).trans h.c0, (hb.frozen (p := ⟨b, 0, none⟩) h.lt).trans h.f0⟩
theorem Cc.alloc {w : World} {b : Nat} {k : Int} (h : Cc w b k) (o : Obj) : Cc (w.alloc o) b k := h.below ((Below.refl _ _).alloc (Nat.le_refl _) o)
theorem Cc.put {w : World} {b : Nat} {k : Int} (h : Cc w b k) (k' : Int) : Cc (w.setCell ⟨b, 0, none⟩ (.int .i64 k')) b k' :=
 ⟨by simpa [World.setCell] using h.lt, World.cell?_setCell_same' _ _ _ (by rw [h.c0]; rfl), by rw [World.frozen?_setCell]; exact h.f0⟩
theorem Stp.put (w : World) (b : Nat) (v : Value) : Stp b w (w.setCell ⟨b, 0, none⟩ v) := by
 refine ⟨grown_setCell (grown_of_below (Below.refl _ _) _) (.inl rfl) _, fun o ho => ?_, fun o => by rw [World.frozen?_setCell]⟩
 exact World.cell?_setCell_other _ _ _ _ (by intro e; injection e with _ e; exact ho e.symm)
theorem Stp.cell {b : Nat} {w w' : World} (h : Stp b w w') {p : Addr} (hp : p.block < w.heap.size) (hne : p.block ≠ b) : w'.cell? p = w.cell? p :=
 World.cell?_of_block (h.grown.block p.block hp (fun e => hne (by injection e)))
theorem Stp.frozen {b : Nat} {w w' : World} (h : Stp b w w') {g o : Nat} (hp : g < w.heap.size) (hne : g ≠ b) : w'.frozen? ⟨g, o, none⟩ = w.frozen? ⟨g, o, none⟩ := by
 have := h.grown.block g hp (fun e => hne (by injection e))
 simp [World.frozen?, this]
theorem Is.stp {b : Nat} {k : Int} {w w' : World} {z : Int} {t : Bool} {B : Option Addr} {m d : Nat} (h : Is w z t B m d) (hc : Cc w b k) (hs : Stp b w w') : Is w' z t B m d := by
 obtain ⟨h1, h2, h3, h4, h5⟩ := h
 refine ⟨h1, h2, ⟨h3.len, h3.sm, fun hp => ?_⟩, h4, h5⟩
 obtain ⟨b', o, e, hlt, hcell⟩ := h3.at_ hp
 refine ⟨b', o, e, Nat.lt_of_lt_of_le hlt hs.size, fun i hi => ?_⟩
 by_cases hb : b' = b
 · subst hb
   have h0 := hcell i hi
   by_cases ho : o + i = 0
   · rw [ho] at h0; rw [hc.c0] at h0; cases h0
   · rw [hs.own _ ho]; exact h0
 · rw [hs.cell (p := ⟨b', o + i, none⟩) hlt hb]; exact hcell i hi
theorem Cc.stp_lt {w w' : World} {b : Nat} {k : Int} (h : Cc w b k) (hs : Stp b w w') : b < w'.heap.size := Nat.lt_of_lt_of_le h.lt hs.size
theorem Stp.two {b : Nat} {w W : World} {g : Nat} (h : Stp b w W) (hg : w.heap.size ≤ g) (hne : g ≠ b) (u v : Value) : Stp b w ((W.setCell ⟨g, 0, none⟩ u).setCell ⟨g, 1, none⟩ v) := by
 refine ⟨grown_setCell (grown_setCell h.grown (.inr hg) u) (.inr hg) v, fun o ho => ?_, fun o => ?_⟩
 · rw [World.cell?_setCell_other _ _ _ _ (by intro e; injection e with e; exact hne e), World.cell?_setCell_other _ _ _ _ (by intro e; injection e with e; exact hne e)]
   exact h.own o ho
 · rw [World.frozen?_setCell, World.frozen?_setCell]; exact h.frz o
theorem Cc.two {w : World} {b g : Nat} {k : Int} (h : Cc w b k) (hne : g ≠ b) (u v : Value) : Cc ((w.setCell ⟨g, 0, none⟩ u).setCell ⟨g, 1, none⟩ v) b k :=
 ⟨by simpa [World.setCell] using h.lt, by
  rw [World.cell?_setCell_other _ _ _ _ (by intro e; injection e with e; exact hne e), World.cell?_setCell_other _ _ _ _ (by intro e; injection e with e; exact hne e)]; exact h.c0, by rw [World.frozen?_setCell, World.frozen?_setCell]; exact h.f0⟩
def KeepPost (b : Nat) (k : Int) (t : Bool) (B : Option Addr) (m d : Nat) (e0 : Int) (w : World) (e : Ending) (w' : World) : Prop :=
 ∃ t' B' m' d' k', e = .returned (.agg #[.bool t', .slice B' m' d']) ∧ Stp b w w' ∧ Cc w' b k' ∧ (k' = 0 → k = 0 ∧ e0 = 0 ∧ t' = t ∧ B' = B ∧ m' = m ∧ d' = d) ∧ (k ≠ 0 → k' = k) ∧ (k = 0 → k' = e0)
theorem Cc.keep_lt {w : World} {b : Nat} {k : Int} (h : Cc w b k) : b < w.heap.size := h.lt
set_option maxHeartbeats 400000 in
theorem Keep_zero (b : Nat) (t : Bool) (B : Option Addr) (m d : Nat) (w : World) (hc : Cc w b 0) :
 Calls Tryz.prog 75 #[.pointer (some ⟨b, 0, none⟩), .agg #[.bool t, .slice B m d], .int .i64 0] w (KeepPost b 0 t B m d 0 w) := by
 have HC := Lib.hid hc
 have c0 := hc.c0
 have f0 := hc.f0
 have hlt := hc.lt
 clear hc
 go_enter Tryz.func75, Tryz.ntmps75
 go_wp2
 refine bodyPost_ret (v := .agg #[.bool t, .slice B m d]) (by simp [results, Tryz.results75, go_sem]) rfl ?_
 have h1 := (HC.out.put 0)
 have s1 := Stp.put w b (.int .i64 0)
 exact ⟨t, B, m, d, 0, rfl, (s1.trans (Stp.of_below h1.lt (below_alloc _ _))).trans (Stp.of_below (h1.alloc _).lt (below_alloc _ _)), (h1.alloc _).alloc _, fun _ => ⟨rfl, rfl, rfl, rfl, rfl, rfl⟩, fun h => absurd rfl h, fun _ => rfl⟩
set_option maxHeartbeats 400000 in
theorem Keep_four (b : Nat) (t : Bool) (B : Option Addr) (m d : Nat) (w : World) (hc : Cc w b 0) :
 Calls Tryz.prog 75 #[.pointer (some ⟨b, 0, none⟩), .agg #[.bool t, .slice B m d], .int .i64 4] w (KeepPost b 0 t B m d 4 w) := by
 have HC := Lib.hid hc
 have c0 := hc.c0
 have f0 := hc.f0
 have hlt := hc.lt
 clear hc
 go_enter Tryz.func75, Tryz.ntmps75
 go_wp2
 refine bodyPost_ret (v := .agg #[.bool false, .slice none 0 0]) (by simp [results, Tryz.results75, go_sem]) rfl ?_
 have h1 := (HC.out.put 4)
 have s1 := Stp.put w b (.int .i64 4)
 exact ⟨false, none, 0, 0, 4, rfl, (s1.trans (Stp.of_below h1.lt (below_alloc _ _))).trans (Stp.of_below (h1.alloc _).lt (below_alloc _ _)), (h1.alloc _).alloc _, fun h => by omega, fun h => absurd rfl h, fun _ => rfl⟩
def Two (b : Nat) (k : Int) (z : Int) (w : World) (e : Ending) (w' : World) : Prop :=
 ∃ t B m d k', e = .returned (.agg #[.bool t, .slice B m d]) ∧ Stp b w w' ∧ Cc w' b k' ∧ (k' = 0 → k = 0 ∧ Is w' z t B m d) ∧ (k ≠ 0 → k' = k) ∧ (k = 0 → (words z.natAbs).length ≤ 4096 → k' = 0) ∧ (k = 0 → ¬ (words z.natAbs).length ≤ 4096 → k' = 4)
set_option maxHeartbeats 400000 in
theorem two_bad (b f : Nat) (k : Int) (z : Int) (t t' : Bool) (A A' : Option Addr) (n c n' c' : Nat) (w : World) (hc : Cc w b k) (hk : k ≠ 0) :
 Calls Tryz.prog 108 #[.pointer (some ⟨b, 0, none⟩), .func (.func f) #[] #[], .agg #[.bool t, .slice A n c], .agg #[.bool t', .slice A' n' c']] w (Two b k z w) := by
 have HC := Lib.hid hc
 have c0 := hc.c0
 have f0 := hc.f0
 have hlt := hc.lt
 have q0 : (((w.alloc (.cells #[.bool t, .slice A n c] 58)).alloc (.cells #[.bool t', .slice A' n' c'] 58)).alloc (.cells #[.bool false, .slice none 0 0] 58)).cell? ⟨b, 0, none⟩ = some (.int .i64 k) := (((hc.alloc _).alloc _).alloc _).c0
 have t0 : (k != 0) = true := by simp [hk]
 have t1 : (k == 0) = false := by simp [hk]
 have HK := Lib.hid hk
 clear hc hk
 go_enter Tryz.func108, Tryz.ntmps108
 go_wp2
 refine bodyPost_ret (v := .agg #[.bool false, .slice none 0 0]) (by simp [results, Tryz.results108, go_sem]) rfl ?_
 have h1 := HC.out
 exact ⟨false, none, 0, 0, k, rfl, ((Stp.of_below h1.lt (below_alloc _ _)).trans (Stp.of_below (h1.alloc _).lt (below_alloc _ _))).trans (Stp.of_below ((h1.alloc _).alloc _).lt (below_alloc _ _)), ((h1.alloc _).alloc _).alloc _, fun h => absurd h HK.out, fun _ => rfl, fun h => absurd h HK.out, fun h => absurd h HK.out⟩
set_option maxHeartbeats 400000 in
theorem two_ok (b f : Nat) (z : Int) (t t' : Bool) (A A' : Option Addr) (n c n' c' : Nat) (w : World) (hc : Cc w b 0)
 (heg : ∀ args w, (callFunc f args).run Tryz.prog w = .ok (.enter f args) w)
 (hf : ∀ w1, Below w.heap.size w w1 → Calls Tryz.prog f #[.agg #[.bool t, .slice A n c], .agg #[.bool t', .slice A' n' c']] w1 (Num w1 z)) :
 Calls Tryz.prog 108 #[.pointer (some ⟨b, 0, none⟩), .func (.func f) #[] #[], .agg #[.bool t, .slice A n c], .agg #[.bool t', .slice A' n' c']] w (Two b 0 z w) := by
 have HC := Lib.hid hc
 have HF := Lib.hid hf
 have q0 : (((w.alloc (.cells #[.bool t, .slice A n c] 58)).alloc (.cells #[.bool t', .slice A' n' c'] 58)).alloc (.cells #[.bool false, .slice none 0 0] 58)).cell? ⟨b, 0, none⟩ = some (.int .i64 0) := (((hc.alloc _).alloc _).alloc _).c0
 have hlt := hc.lt
 clear hc hf
 go_enter Tryz.func108, Tryz.ntmps108
 go_wp2_with fail
 have E := Env.start w t t' A A' n c n' c'
 have C3 := Lib.hid (((HC.out.alloc (.cells #[.bool t, .slice A n c] 58)).alloc (.cells #[.bool t', .slice A' n' c'] 58)).alloc (.cells #[.bool false, .slice none 0 0] 58))
 refine (HF.out _ E.below).mono ?_
 rintro e w1 ⟨t1, B, m, d, k1, rfl, hn, hb⟩
 have E1 := Lib.hid (E.next hb)
 have C1 := Lib.hid (C3.out.below hb)
 clear E hb q0 heg
 by_cases hz : (words z.natAbs).length ≤ 4096
 · obtain ⟨rfl, hi⟩ := hn.is_ hz
   have HI := Lib.hid hi
   have HZ := Lib.hid hz
   clear hn hi hz
   go_wp2_with fail
   refine (Keep_zero b t1 B m d w1 C1.out).mono ?_
   rintro e w2 ⟨t2, B2, m2, d2, k2, rfl, s2, c2, h2, -, h4⟩
   have hk2 := h4 rfl
   subst hk2
   obtain ⟨-, -, rfl, rfl, rfl, rfl⟩ := h2 rfl
   have hsz := E1.out.size
   have hne : w.heap.size + 1 + 1 ≠ b := by omega
   have r0 := (s2.cell (p := ⟨w.heap.size + 1 + 1, 0, none⟩) (by simp; omega) hne).trans E1.out.r0
   have r1 := (s2.cell (p := ⟨w.heap.size + 1 + 1, 1, none⟩) (by simp; omega) hne).trans E1.out.r1
   have f0 := (s2.frozen (g := w.heap.size + 1 + 1) (o := 0) (by omega) hne).trans E1.out.f0
   have f1 := (s2.frozen (g := w.heap.size + 1 + 1) (o := 1) (by omega) hne).trans E1.out.f1
   have S2 := Lib.hid s2
   have C2 := Lib.hid c2
   clear h2 h4 s2 c2
   go_wp2
   refine bodyPost_ret (v := .agg #[.bool t2, .slice B2 m2 d2]) (by simp [results, Tryz.results108, go_sem, r0, r1]) rfl ?_
   exact ⟨t2, B2, m2, d2, 0, rfl, ((Stp.of_below HC.out.lt E1.out.below).trans S2.out).two (by omega) hne _ _, C2.out.two hne _ _, fun _ => ⟨rfl, (HI.out.stp C1.out S2.out).store r0 r1 _ _⟩, fun h => absurd rfl h, fun _ _ => rfl, fun _ h => absurd HZ.out h⟩
 · obtain ⟨rfl, rfl, rfl, rfl, rfl⟩ := hn.2 hz
   have HZ := Lib.hid hz
   clear hn hz
   go_wp2_with fail
   refine (Keep_four b false none 0 0 w1 C1.out).mono ?_
   rintro e w2 ⟨t2, B2, m2, d2, k2, rfl, s2, c2, h2, -, h4⟩
   have hk2 := h4 rfl
   subst hk2
   have hsz := E1.out.size
   have hne : w.heap.size + 1 + 1 ≠ b := by omega
   have r0 := (s2.cell (p := ⟨w.heap.size + 1 + 1, 0, none⟩) (by simp; omega) hne).trans E1.out.r0
   have r1 := (s2.cell (p := ⟨w.heap.size + 1 + 1, 1, none⟩) (by simp; omega) hne).trans E1.out.r1
   have f0 := (s2.frozen (g := w.heap.size + 1 + 1) (o := 0) (by omega) hne).trans E1.out.f0
   have f1 := (s2.frozen (g := w.heap.size + 1 + 1) (o := 1) (by omega) hne).trans E1.out.f1
   have S2 := Lib.hid s2
   have C2 := Lib.hid c2
   clear h2 h4 s2 c2
   go_wp2
   refine bodyPost_ret (v := .agg #[.bool t2, .slice B2 m2 d2]) (by simp [results, Tryz.results108, go_sem, r0, r1]) rfl ?_
   exact ⟨t2, B2, m2, d2, 4, rfl, ((Stp.of_below HC.out.lt E1.out.below).trans S2.out).two (by omega) hne _ _, C2.out.two hne _ _, fun h => by omega, fun h => absurd rfl h, fun _ h => absurd h HZ.out, fun _ _ => rfl⟩
structure Iv (w : World) (z : Int) (t : Bool) (B : Option Addr) (m d : Nat) : Prop where
 is : Is w z t B m d
 sz : Sz z 4096
theorem Iv.below {w w' : World} {z : Int} {t : Bool} {B : Option Addr} {m d : Nat} (h : Iv w z t B m d) (hb : Below w.heap.size w w') : Iv w' z t B m d := ⟨h.is.below hb, h.sz⟩
theorem Iv.stp {b : Nat} {k : Int} {w w' : World} {z : Int} {t : Bool} {B : Option Addr} {m d : Nat} (h : Iv w z t B m d) (hc : Cc w b k) (hs : Stp b w w') : Iv w' z t B m d := ⟨h.is.stp hc hs, h.sz⟩
theorem Iv.two {w : World} {z : Int} {t : Bool} {B : Option Addr} {m d : Nat} (h : Iv w z t B m d) {g : Nat} {x : Bool} {a : Option Addr} {i j : Nat} (h0 : w.cell? ⟨g, 0, none⟩ = some (.bool x)) (h1 : w.cell? ⟨g, 1, none⟩ = some (.slice a i j)) (u v : Value) :
 Iv ((w.setCell ⟨g, 0, none⟩ u).setCell ⟨g, 1, none⟩ v) z t B m d := ⟨h.is.store h0 h1 u v, h.sz⟩
def St (T : Nat) (k : Int) : Prop := k = 0 ∨ (k = 4 ∧ pw 4096 ≤ T)
theorem St.zero (T : Nat) : St T 0 := .inl rfl
theorem St.le {T T' : Nat} {k : Int} (h : St T k) (hT : T ≤ T') : St T' k := h.elim .inl fun h => .inr ⟨h.1, Nat.le_trans h.2 hT⟩
def Wv (T : Nat) (b : Nat) (k : Int) (z : Int) (w : World) (e : Ending) (w' : World) : Prop :=
 ∃ t B m d k', e = .returned (.agg #[.bool t, .slice B m d]) ∧ Stp b w w' ∧ Cc w' b k' ∧ (k' = 0 → k = 0 ∧ Iv w' z t B m d) ∧ St T k'
theorem Two.wv {T b : Nat} {k z : Int} {w w' : World} {e : Ending} (h : Two b k z w e w') (hk : St T k) (hz : k = 0 → z.natAbs ≤ T) : Wv T b k z w e w' := by
 obtain ⟨t, B, m, d, k', he, hs, hc, h1, h2, h3, h4⟩ := h
 refine ⟨t, B, m, d, k', he, hs, hc, fun h0 => ⟨(h1 h0).1, (h1 h0).2, ?_⟩, ?_⟩
 · by_cases hl : (words z.natAbs).length ≤ 4096
   · exact words_len_le.1 hl
   · have := h4 (h1 h0).1 hl; omega
 · rcases hk with hk | hk
   · by_cases hl : (words z.natAbs).length ≤ 4096
     · exact .inl (h3 hk hl)
     · refine .inr ⟨h4 hk hl, Nat.le_trans (words_len_lt.1 (by omega)) (hz hk)⟩
   · rw [h2 (by omega)]; exact .inr hk
theorem two_c (b f : Nat) (k z : Int) (t t' : Bool) (A A' : Option Addr) (n c n' c' : Nat) (w : World) (hc : Cc w b k)
 (heg : ∀ args w, (callFunc f args).run Tryz.prog w = .ok (.enter f args) w)
 (hf : k = 0 → ∀ w1, Below w.heap.size w w1 → Calls Tryz.prog f #[.agg #[.bool t, .slice A n c], .agg #[.bool t', .slice A' n' c']] w1 (Num w1 z)) :
 Calls Tryz.prog 108 #[.pointer (some ⟨b, 0, none⟩), .func (.func f) #[] #[], .agg #[.bool t, .slice A n c], .agg #[.bool t', .slice A' n' c']] w (Two b k z w) := by
 by_cases hk : k = 0
 · subst hk; exact two_ok b f z t t' A A' n c n' c' w hc heg (hf rfl)
 · exact two_bad b f k z t t' A A' n c n' c' w hc hk
theorem Is.nums {w : World} {z : Int} {t : Bool} {A : Option Addr} {n c : Nat} (h : Is w z t A n c) (hn : n ≤ 4096) : NumIs w z t A n c 0 :=
 ⟨fun _ => ⟨rfl, h.1, h.2.1, h.2.2.1, h.2.2.2.1, h.2.2.2.2⟩, fun hl => absurd (by rw [← h.2.1]; exact hn) hl⟩
theorem entersAdd : ∀ args w, (callFunc 109 args).run Tryz.prog w = .ok (.enter 109 args) w := enters_of Tryz.func109 (by kernel_rfl) rfl
set_option maxHeartbeats 400000 in
theorem cAdd_c (T b : Nat) (k z z' : Int) (t t' : Bool) (A A' : Option Addr) (n c n' c' : Nat) (w : World) (hc : Cc w b k) (hk : St T k) (hz : k = 0 → (z + z').natAbs ≤ T) (hx : k = 0 → Iv w z t A n c ∧ Iv w z' t' A' n' c') :
 Calls Tryz.prog 66 #[.pointer (some ⟨b, 0, none⟩), .agg #[.bool t, .slice A n c], .agg #[.bool t', .slice A' n' c']] w (Wv T b k (z + z') w) := by
 have E := Env.start w t t' A A' n c n' c'
 have HC := Lib.hid (((hc.alloc (.cells #[.bool t, .slice A n c] 58)).alloc (.cells #[.bool t', .slice A' n' c'] 58)).alloc (.cells #[.bool false, .slice none 0 0] 58))
 have HT := Lib.hid (two_c b 109 k (z + z') t t' A A' n c n' c' _ HC.out entersAdd (fun h0 w1 hb => by
  have hb := E.below.trans (hb.mono E.below.size)
  exact Add_is (k := 4096) (((hx h0).1.is).below hb) (((hx h0).2.is).below hb) (hx h0).1.sz (hx h0).2.sz (Nat.le_refl _)))
 have HK := Lib.hid (And.intro hk (And.intro hz hc.lt))
 clear hc hk hz hx
 have HE := Lib.hid E
 clear E
 go_enter Tryz.func66, Tryz.ntmps66
 go_wp2_with fail
 refine HT.out.mono ?_
 rintro e w2 h
 obtain ⟨t2, B2, m2, d2, k2, rfl, s2, c2, h2, h3⟩ := h.wv HK.out.1 HK.out.2.1
 have hsz := HE.out.size
 have hlt := HK.out.2.2
 have hne : w.heap.size + 1 + 1 ≠ b := by omega
 have r0 := (s2.cell (p := ⟨w.heap.size + 1 + 1, 0, none⟩) (by simp) hne).trans HE.out.r0
 have r1 := (s2.cell (p := ⟨w.heap.size + 1 + 1, 1, none⟩) (by simp) hne).trans HE.out.r1
 have f0 := (s2.frozen (g := w.heap.size + 1 + 1) (o := 0) (by simp) hne).trans HE.out.f0
 have f1 := (s2.frozen (g := w.heap.size + 1 + 1) (o := 1) (by simp) hne).trans HE.out.f1
 have S2 := Lib.hid s2
 have C2 := Lib.hid c2
 have H2 := Lib.hid h2
 have H3 := Lib.hid h3
 clear h2 h3 s2 c2 h
 go_wp2
 refine bodyPost_ret (v := .agg #[.bool t2, .slice B2 m2 d2]) (by simp [results, Tryz.results66, go_sem, r0, r1]) rfl ?_
 exact ⟨t2, B2, m2, d2, k2, rfl, ((Stp.of_below HK.out.2.2 HE.out.below).trans S2.out).two (by omega) hne _ _, C2.out.two hne _ _, fun h => ⟨(H2.out h).1, (H2.out h).2.two r0 r1 _ _⟩, H3.out⟩
theorem entersSub : ∀ args w, (callFunc 167 args).run Tryz.prog w = .ok (.enter 167 args) w := enters_of Tryz.func167 (by kernel_rfl) rfl
set_option maxHeartbeats 400000 in
theorem cSub_c (T b : Nat) (k z z' : Int) (t t' : Bool) (A A' : Option Addr) (n c n' c' : Nat) (w : World) (hc : Cc w b k) (hk : St T k) (hz : k = 0 → (z - z').natAbs ≤ T) (hx : k = 0 → Iv w z t A n c ∧ Iv w z' t' A' n' c') :
 Calls Tryz.prog 160 #[.pointer (some ⟨b, 0, none⟩), .agg #[.bool t, .slice A n c], .agg #[.bool t', .slice A' n' c']] w (Wv T b k (z - z') w) := by
 have E := Env.start w t t' A A' n c n' c'
 have HC := Lib.hid (((hc.alloc (.cells #[.bool t, .slice A n c] 58)).alloc (.cells #[.bool t', .slice A' n' c'] 58)).alloc (.cells #[.bool false, .slice none 0 0] 58))
 have HT := Lib.hid (two_c b 167 k (z - z') t t' A A' n c n' c' _ HC.out entersSub (fun h0 w1 hb => by
  have hb := E.below.trans (hb.mono E.below.size)
  exact Sub_is (k := 4096) (((hx h0).1.is).below hb) (((hx h0).2.is).below hb) (hx h0).1.sz (hx h0).2.sz (Nat.le_refl _)))
 have HK := Lib.hid (And.intro hk (And.intro hz hc.lt))
 clear hc hk hz hx
 have HE := Lib.hid E
 clear E
 go_enter Tryz.func160, Tryz.ntmps160
 go_wp2_with fail
 refine HT.out.mono ?_
 rintro e w2 h
 obtain ⟨t2, B2, m2, d2, k2, rfl, s2, c2, h2, h3⟩ := h.wv HK.out.1 HK.out.2.1
 have hsz := HE.out.size
 have hlt := HK.out.2.2
 have hne : w.heap.size + 1 + 1 ≠ b := by omega
 have r0 := (s2.cell (p := ⟨w.heap.size + 1 + 1, 0, none⟩) (by simp) hne).trans HE.out.r0
 have r1 := (s2.cell (p := ⟨w.heap.size + 1 + 1, 1, none⟩) (by simp) hne).trans HE.out.r1
 have f0 := (s2.frozen (g := w.heap.size + 1 + 1) (o := 0) (by simp) hne).trans HE.out.f0
 have f1 := (s2.frozen (g := w.heap.size + 1 + 1) (o := 1) (by simp) hne).trans HE.out.f1
 have S2 := Lib.hid s2
 have C2 := Lib.hid c2
 have H2 := Lib.hid h2
 have H3 := Lib.hid h3
 clear h2 h3 s2 c2 h
 go_wp2
 refine bodyPost_ret (v := .agg #[.bool t2, .slice B2 m2 d2]) (by simp [results, Tryz.results160, go_sem, r0, r1]) rfl ?_
 exact ⟨t2, B2, m2, d2, k2, rfl, ((Stp.of_below HK.out.2.2 HE.out.below).trans S2.out).two (by omega) hne _ _, C2.out.two hne _ _, fun h => ⟨(H2.out h).1, (H2.out h).2.two r0 r1 _ _⟩, H3.out⟩
theorem entersMul : ∀ args w, (callFunc 110 args).run Tryz.prog w = .ok (.enter 110 args) w := enters_of Tryz.func110 (by kernel_rfl) rfl
set_option maxHeartbeats 400000 in
theorem cMul_c (T b : Nat) (k z z' : Int) (t t' : Bool) (A A' : Option Addr) (n c n' c' : Nat) (w : World) (hc : Cc w b k) (hk : St T k) (hz : k = 0 → (z * z').natAbs ≤ T) (hx : k = 0 → Iv w z t A n c ∧ Iv w z' t' A' n' c') :
 Calls Tryz.prog 67 #[.pointer (some ⟨b, 0, none⟩), .agg #[.bool t, .slice A n c], .agg #[.bool t', .slice A' n' c']] w (Wv T b k (z * z') w) := by
 have E := Env.start w t t' A A' n c n' c'
 have HC := Lib.hid (((hc.alloc (.cells #[.bool t, .slice A n c] 58)).alloc (.cells #[.bool t', .slice A' n' c'] 58)).alloc (.cells #[.bool false, .slice none 0 0] 58))
 have HT := Lib.hid (two_c b 110 k (z * z') t t' A A' n c n' c' _ HC.out entersMul (fun h0 w1 hb => by
  have hb := E.below.trans (hb.mono E.below.size)
  exact Mul_is (k := 4096) (((hx h0).1.is).below hb) (((hx h0).2.is).below hb) (hx h0).1.sz (hx h0).2.sz (Nat.le_refl _)))
 have HK := Lib.hid (And.intro hk (And.intro hz hc.lt))
 clear hc hk hz hx
 have HE := Lib.hid E
 clear E
 go_enter Tryz.func67, Tryz.ntmps67
 go_wp2_with fail
 refine HT.out.mono ?_
 rintro e w2 h
 obtain ⟨t2, B2, m2, d2, k2, rfl, s2, c2, h2, h3⟩ := h.wv HK.out.1 HK.out.2.1
 have hsz := HE.out.size
 have hlt := HK.out.2.2
 have hne : w.heap.size + 1 + 1 ≠ b := by omega
 have r0 := (s2.cell (p := ⟨w.heap.size + 1 + 1, 0, none⟩) (by simp) hne).trans HE.out.r0
 have r1 := (s2.cell (p := ⟨w.heap.size + 1 + 1, 1, none⟩) (by simp) hne).trans HE.out.r1
 have f0 := (s2.frozen (g := w.heap.size + 1 + 1) (o := 0) (by simp) hne).trans HE.out.f0
 have f1 := (s2.frozen (g := w.heap.size + 1 + 1) (o := 1) (by simp) hne).trans HE.out.f1
 have S2 := Lib.hid s2
 have C2 := Lib.hid c2
 have H2 := Lib.hid h2
 have H3 := Lib.hid h3
 clear h2 h3 s2 c2 h
 go_wp2
 refine bodyPost_ret (v := .agg #[.bool t2, .slice B2 m2 d2]) (by simp [results, Tryz.results67, go_sem, r0, r1]) rfl ?_
 exact ⟨t2, B2, m2, d2, k2, rfl, ((Stp.of_below HK.out.2.2 HE.out.below).trans S2.out).two (by omega) hne _ _, C2.out.two hne _ _, fun h => ⟨(H2.out h).1, (H2.out h).2.two r0 r1 _ _⟩, H3.out⟩
end Go.Proofs.YteabokkofoomkaaGreat
