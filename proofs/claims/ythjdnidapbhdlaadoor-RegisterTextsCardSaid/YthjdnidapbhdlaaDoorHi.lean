/- a step in place -/
import Derived.Test.YthjdnidapbhdlaaDoorHh
set_option maxRecDepth 100000
namespace Go.Proofs.YthjdnidapbhdlaaDoor
open Go.RowKit
def rvM (x : Ins) (zs : List Int) : Int := zs.getD x.reg.toNat 0
def advAt (x : Ins) (zs : List Int) : Int := if x.op = 2 ∧ rvM x zs = 0 then x.zr else x.nx
def advZs (x : Ins) (zs : List Int) : List Int := if x.op = 0 then zs.set x.reg.toNat (rvM x zs + 1) else if x.op = 1 then zs.set x.reg.toNat (rvM x zs - 1) else zs
def advOk (x : Ins) (zs : List Int) : Bool := decide ((advZs x zs).getD x.reg.toNat 0 ≤ 1099511627776)
/-- only blocks g and h, and new ones, have turned -/
structure Two (w w' : World) (g h : Nat) : Prop where
  os : w'.os = w.os
  tape : w'.tape = w.tape
  output : w'.output = w.output
  size : w.heap.size ≤ w'.heap.size
  block : ∀ i, i < w.heap.size → i ≠ g → i ≠ h → w'.heap[i]? = w.heap[i]?
section
variable {w w' w1 w2 : World} {g h : Nat}
theorem Two.refl (w : World) (g h : Nat) : Two w w g h := ⟨rfl, rfl, rfl, Nat.le_refl _, fun _ _ _ _ => rfl⟩
theorem Two.drewN (a : Two w w' g h) (n : Nat) : Two w (w'.drewN n) g h := ⟨a.os, a.tape, a.output, a.size, a.block⟩
theorem Two.drew (a : Two w w' g h) : Two w w'.drew g h := ⟨a.os, a.tape, a.output, a.size, a.block⟩
theorem Two.alloc (a : Two w w' g h) (o : Obj) : Two w (w'.alloc o) g h :=
  ⟨a.os, a.tape, a.output, Nat.le_trans a.size (by simp), fun i hi h1 h2 => (Below.heap_alloc w' o i (Nat.lt_of_lt_of_le hi a.size)).trans (a.block i hi h1 h2)⟩
theorem Two.set0 (a : Two w w' g h) (k : Nat) (u : Value) : Two w (w'.setCell ⟨g, k, none⟩ u) g h :=
  ⟨a.os, a.tape, a.output, by rw [World.size_setCell]; exact a.size, fun i hi h1 h2 => (Below.heap_setCell w' ⟨g, k, none⟩ u i h1).trans (a.block i hi h1 h2)⟩
theorem Two.set1 (a : Two w w' g h) (k : Nat) (u : Value) : Two w (w'.setCell ⟨h, k, none⟩ u) g h :=
  ⟨a.os, a.tape, a.output, by rw [World.size_setCell]; exact a.size, fun i hi h1 h2 => (Below.heap_setCell w' ⟨h, k, none⟩ u i h2).trans (a.block i hi h1 h2)⟩
theorem Two.below (a : Two w w' g h) {B : Nat} (hB : B ≤ w.heap.size) (hg : B ≤ g) (hh : B ≤ h) : Below B w w' :=
  ⟨a.os, a.tape, a.output, a.size, fun i hi => a.block i (by omega) (by omega) (by omega)⟩
end
theorem BxS.drew {W : World} {g : Nat} {at_ : Int} {A : Option Addr} {n c : Nat} (h : BxS W g at_ A n c) : BxS W.drew g at_ A n c := ⟨h.lt, h.c0, h.c1, h.f0, h.f1⟩
theorem Ow.drew {W : World} {g : Nat} {zs : List Int} (h : Ow W g zs) : Ow W.drew g zs := h.keep rfl
theorem set_get {zs : List Int} {r : Nat} (h : r < zs.length) (z : Int) : (zs.set r z).getD r 0 = z := by
  simp [List.getD_eq_getElem?_getD, h]
def AdvP (w : World) (gs gr : Nat) (x : Ins) (m d : Nat) (zs : List Int) (e : Ending) (w' : World) : Prop :=
  e = .returned (.bool (advOk x zs)) ∧ BxS w' gs (advAt x zs) (some ⟨gr, 0, none⟩) m d ∧ Ow w' gr (advZs x zs) ∧ Two w w' gs gr
set_option maxHeartbeats 4000000 in
theorem advance_0 (R : Int) (A : Option Addr) (n c : Nat) (cs : List Ins) (k gs gr m d r : Nat) (nx zr : Int) (zs : List Int) (w : World) (h : RdC w A n cs) (hs : BxS w gs (k : Int) (some ⟨gr, 0, none⟩) m d) (ho : Ow w gr zs) (hm : zs.length = m) (hk : k < n) (hx : insAt cs k = ⟨0, (r : Int), nx, zr⟩) (hr : r < m) (hne : gs ≠ gr) (z : Int) (hz : zs.getD r 0 = z) (hb0 : 0 ≤ z) (hb1 : z ≤ 1099511627776) :
    Calls Tryd.prog 78 #[.agg #[.int .i64 R, .slice A n c], .pointer (some ⟨gs, 0, none⟩)] w (AdvP w gs gr ⟨0, (r : Int), nx, zr⟩ m d zs) := by
  obtain ⟨b, o, rfl, hblt, hc⟩ := h.at_ (by omega)
  obtain ⟨x0, x1, x2, x3⟩ := hc k hk
  rw [hx] at x0 x1 x2 x3
  simp only at x0 x1 x2 x3
  have y0 := ho.cell r (by omega)
  rw [hz] at y0
  have y1 := ho.frozen r
  have c0 := hs.c0
  have c1 := hs.c1
  have f0 := hs.f0
  have f1 := hs.f1
  have gl := hs.lt
  have rl := ho.lt
  have HS := Lib.hid hs
  have HO := Lib.hid ho
  have HA := Lib.hid (show advOk ⟨0, (r : Int), nx, zr⟩ zs = decide (z + 1 ≤ 1099511627776) ∧ advZs ⟨0, (r : Int), nx, zr⟩ zs = zs.set r (z + 1) ∧ advAt ⟨0, (r : Int), nx, zr⟩ zs = nx by
    have e := set_get (zs := zs) (r := r) (by omega) (z + 1)
    refine ⟨?_, ?_, ?_⟩
    · simp only [advOk, advZs, rvM, Int.toNat_natCast, hz, if_true]; rw [e]
    · simp only [advZs, rvM, Int.toNat_natCast, hz, if_true]
    · simp [advAt])
  have HNE := Lib.hid (show gr ≠ gs from fun e => hne e.symm)
  clear h hc hs ho hm hx hz
  go_enter Tryd.func78, Tryd.ntmps78
  go_wp2
  go_region
  go_wp2
  go_region
  go_wp2
  go_region
  go_wp2
  go_ret
  refine ⟨by rw [HA.out.1]; rfl, ?_, ?_, ?_⟩
  · rw [HA.out.2.2]
    exact ((((((HS.out.put0 nx).off HNE.out _).next (bel_alloc _ _)).next (bel_alloc _ _)).drew).drew).drew
  · rw [HA.out.2.1]
    exact ((((((HO.out.far HNE.out _).set_ r (z + 1)).next (bel_alloc _ _)).next (bel_alloc _ _)).drew).drew).drew
  · exact (((((((Two.refl w gs gr).set0 0 _).set1 r _).alloc _).alloc _).drew).drew).drew
set_option maxHeartbeats 4000000 in
theorem advance_1 (R : Int) (A : Option Addr) (n c : Nat) (cs : List Ins) (k gs gr m d r : Nat) (nx zr : Int) (zs : List Int) (w : World) (h : RdC w A n cs) (hs : BxS w gs (k : Int) (some ⟨gr, 0, none⟩) m d) (ho : Ow w gr zs) (hm : zs.length = m) (hk : k < n) (hx : insAt cs k = ⟨1, (r : Int), nx, zr⟩) (hr : r < m) (hne : gs ≠ gr) (z : Int) (hz : zs.getD r 0 = z) (hb0 : 0 ≤ z) (hb1 : z ≤ 1099511627776) (hz0 : z ≠ 0) :
    Calls Tryd.prog 78 #[.agg #[.int .i64 R, .slice A n c], .pointer (some ⟨gs, 0, none⟩)] w (AdvP w gs gr ⟨1, (r : Int), nx, zr⟩ m d zs) := by
  obtain ⟨b, o, rfl, hblt, hc⟩ := h.at_ (by omega)
  obtain ⟨x0, x1, x2, x3⟩ := hc k hk
  rw [hx] at x0 x1 x2 x3
  simp only at x0 x1 x2 x3
  have y0 := ho.cell r (by omega)
  rw [hz] at y0
  have y1 := ho.frozen r
  have c0 := hs.c0
  have c1 := hs.c1
  have f0 := hs.f0
  have f1 := hs.f1
  have gl := hs.lt
  have rl := ho.lt
  have HS := Lib.hid hs
  have HO := Lib.hid ho
  have HA := Lib.hid (show advOk ⟨1, (r : Int), nx, zr⟩ zs = true ∧ advZs ⟨1, (r : Int), nx, zr⟩ zs = zs.set r (z - 1) ∧ advAt ⟨1, (r : Int), nx, zr⟩ zs = nx by
    have e := set_get (zs := zs) (r := r) (by omega) (z - 1)
    refine ⟨?_, ?_, ?_⟩
    · simp only [advOk, advZs, rvM, Int.toNat_natCast, hz, if_true, if_neg (show ¬ (1 : Int) = 0 by omega)]; rw [e]; exact decide_eq_true (by omega)
    · simp only [advZs, rvM, Int.toNat_natCast, hz, if_true, if_neg (show ¬ (1 : Int) = 0 by omega)]
    · simp [advAt])
  have q1 : 1 ≤ z := by omega
  have q2 : decide (z - 1 ≤ 1099511627776) = true := decide_eq_true (by omega)
  have q3 : decide (z ≤ 1099511627776 + 1) = true := decide_eq_true (by omega)
  clear hz0
  have HNE := Lib.hid (show gr ≠ gs from fun e => hne e.symm)
  clear h hc hs ho hm hx hz
  go_enter Tryd.func78, Tryd.ntmps78
  go_wp2
  go_region
  go_wp2
  go_region
  go_wp2
  go_region
  go_wp2
  go_ret
  refine ⟨?_, ?_, ?_, ?_⟩
  · rw [HA.out.1]
    show Ending.returned (Value.bool _) = Ending.returned (Value.bool _)
    congr 2
  · rw [HA.out.2.2]
    exact ((((((HS.out.put0 nx).off HNE.out _).next (bel_alloc _ _)).next (bel_alloc _ _)).drew).drew).drew
  · rw [HA.out.2.1]
    exact ((((((HO.out.far HNE.out _).set_ r (z - 1)).next (bel_alloc _ _)).next (bel_alloc _ _)).drew).drew).drew
  · exact (((((((Two.refl w gs gr).set0 0 _).set1 r _).alloc _).alloc _).drew).drew).drew
set_option maxHeartbeats 4000000 in
theorem advance_2z (R : Int) (A : Option Addr) (n c : Nat) (cs : List Ins) (k gs gr m d r : Nat) (nx zr : Int) (zs : List Int) (w : World) (h : RdC w A n cs) (hs : BxS w gs (k : Int) (some ⟨gr, 0, none⟩) m d) (ho : Ow w gr zs) (hm : zs.length = m) (hk : k < n) (hx : insAt cs k = ⟨2, (r : Int), nx, zr⟩) (hr : r < m) (hne : gs ≠ gr) (z : Int) (hz : zs.getD r 0 = z) (_hb0 : 0 ≤ z) (hb1 : z ≤ 1099511627776) (hz0 : z = 0) :
    Calls Tryd.prog 78 #[.agg #[.int .i64 R, .slice A n c], .pointer (some ⟨gs, 0, none⟩)] w (AdvP w gs gr ⟨2, (r : Int), nx, zr⟩ m d zs) := by
  obtain ⟨b, o, rfl, hblt, hc⟩ := h.at_ (by omega)
  obtain ⟨x0, x1, x2, x3⟩ := hc k hk
  rw [hx] at x0 x1 x2 x3
  simp only at x0 x1 x2 x3
  have y0 := ho.cell r (by omega)
  rw [hz] at y0
  have y1 := ho.frozen r
  have c0 := hs.c0
  have c1 := hs.c1
  have f0 := hs.f0
  have f1 := hs.f1
  have gl := hs.lt
  have rl := ho.lt
  have HS := Lib.hid hs
  have HO := Lib.hid ho
  have HA := Lib.hid (show advOk ⟨2, (r : Int), nx, zr⟩ zs = true ∧ advZs ⟨2, (r : Int), nx, zr⟩ zs = zs ∧ advAt ⟨2, (r : Int), nx, zr⟩ zs = zr by
    refine ⟨?_, ?_, ?_⟩
    · simp only [advOk, advZs, Int.toNat_natCast, hz, if_neg (show ¬ (2 : Int) = 0 by omega), if_neg (show ¬ (2 : Int) = 1 by omega)]; exact decide_eq_true (by omega)
    · simp [advZs]
    · simp only [advAt, rvM, Int.toNat_natCast, hz, hz0, and_self, if_true])
  have tz : (z == 0) = true := beq_iff_eq.2 hz0
  have q2 : decide (z ≤ 1099511627776) = true := decide_eq_true (by omega)
  clear hz0
  have HNE := Lib.hid (show gr ≠ gs from fun e => hne e.symm)
  clear h hc hs ho hm hx hz
  go_enter Tryd.func78, Tryd.ntmps78
  go_wp2
  go_region
  go_wp2
  go_region
  go_wp2
  go_region
  go_wp2
  go_ret
  refine ⟨?_, ?_, ?_, ?_⟩
  · rw [HA.out.1]
    show Ending.returned (Value.bool _) = Ending.returned (Value.bool _)
    congr 2
  · rw [HA.out.2.2]
    exact (((((((HS.out.put0 nx).put0 zr).next (bel_alloc _ _)).next (bel_alloc _ _)).drew).drew).drew)
  · rw [HA.out.2.1]
    exact (((((((HO.out.far HNE.out _).far HNE.out _).next (bel_alloc _ _)).next (bel_alloc _ _)).drew).drew).drew)
  · exact ((((((((Two.refl w gs gr).set0 0 _).set0 0 _).alloc _).alloc _).drew).drew).drew)
set_option maxHeartbeats 4000000 in
theorem advance_2n (R : Int) (A : Option Addr) (n c : Nat) (cs : List Ins) (k gs gr m d r : Nat) (nx zr : Int) (zs : List Int) (w : World) (h : RdC w A n cs) (hs : BxS w gs (k : Int) (some ⟨gr, 0, none⟩) m d) (ho : Ow w gr zs) (hm : zs.length = m) (hk : k < n) (hx : insAt cs k = ⟨2, (r : Int), nx, zr⟩) (hr : r < m) (hne : gs ≠ gr) (z : Int) (hz : zs.getD r 0 = z) (_hb0 : 0 ≤ z) (hb1 : z ≤ 1099511627776) (hz0 : z ≠ 0) :
    Calls Tryd.prog 78 #[.agg #[.int .i64 R, .slice A n c], .pointer (some ⟨gs, 0, none⟩)] w (AdvP w gs gr ⟨2, (r : Int), nx, zr⟩ m d zs) := by
  obtain ⟨b, o, rfl, hblt, hc⟩ := h.at_ (by omega)
  obtain ⟨x0, x1, x2, x3⟩ := hc k hk
  rw [hx] at x0 x1 x2 x3
  simp only at x0 x1 x2 x3
  have y0 := ho.cell r (by omega)
  rw [hz] at y0
  have y1 := ho.frozen r
  have c0 := hs.c0
  have c1 := hs.c1
  have f0 := hs.f0
  have f1 := hs.f1
  have gl := hs.lt
  have rl := ho.lt
  have HS := Lib.hid hs
  have HO := Lib.hid ho
  have HA := Lib.hid (show advOk ⟨2, (r : Int), nx, zr⟩ zs = true ∧ advZs ⟨2, (r : Int), nx, zr⟩ zs = zs ∧ advAt ⟨2, (r : Int), nx, zr⟩ zs = nx by
    refine ⟨?_, ?_, ?_⟩
    · simp only [advOk, advZs, Int.toNat_natCast, hz, if_neg (show ¬ (2 : Int) = 0 by omega), if_neg (show ¬ (2 : Int) = 1 by omega)]; exact decide_eq_true (by omega)
    · simp [advZs]
    · simp only [advAt, rvM, Int.toNat_natCast, hz, hz0, and_false, if_false])
  have tz : (z == 0) = false := beq_eq_false_iff_ne.2 hz0
  have q2 : decide (z ≤ 1099511627776) = true := decide_eq_true (by omega)
  clear hz0
  have HNE := Lib.hid (show gr ≠ gs from fun e => hne e.symm)
  clear h hc hs ho hm hx hz
  go_enter Tryd.func78, Tryd.ntmps78
  go_wp2
  go_region
  go_wp2
  go_region
  go_wp2
  go_region
  go_wp2
  go_ret
  refine ⟨?_, ?_, ?_, ?_⟩
  · rw [HA.out.1]
    show Ending.returned (Value.bool _) = Ending.returned (Value.bool _)
    congr 2
  · rw [HA.out.2.2]
    exact ((((((HS.out.put0 nx).next (bel_alloc _ _)).next (bel_alloc _ _)).drew).drew).drew)
  · rw [HA.out.2.1]
    exact ((((((HO.out.far HNE.out _).next (bel_alloc _ _)).next (bel_alloc _ _)).drew).drew).drew)
  · exact (((((((Two.refl w gs gr).set0 0 _).alloc _).alloc _).drew).drew).drew)
theorem valid_cases {R : Int} {n : Nat} {i : Int} {x : Ins} (h : validI R n i x = true) :
    (x.op = 3 ∧ x.reg = 0 ∧ x.nx = 0 ∧ x.zr = 0) ∨ ((x.op = 0 ∨ x.op = 1 ∨ x.op = 2) ∧ 0 ≤ x.reg ∧ x.reg < R ∧ 0 ≤ x.nx ∧ x.nx < (n : Int) ∧ (x.op = 2 → 0 ≤ x.zr ∧ x.zr < (n : Int))) := by
  unfold validI inB at h
  by_cases h0 : x.op = 0 ∨ x.op = 1
  · rw [if_pos h0] at h
    simp only [Bool.and_eq_true, decide_eq_true_eq] at h
    exact .inr ⟨by omega, by omega, by omega, by omega, by omega, fun e => by omega⟩
  · rw [if_neg h0] at h
    by_cases h2 : x.op = 2
    · rw [if_pos h2] at h
      simp only [Bool.and_eq_true, decide_eq_true_eq] at h
      exact .inr ⟨by omega, by omega, by omega, by omega, by omega, fun _ => by omega⟩
    · rw [if_neg h2] at h
      by_cases h3 : x.op = 3
      · rw [if_pos h3] at h
        simp only [Bool.and_eq_true, decide_eq_true_eq] at h
        exact .inl ⟨h3, h.1.1, h.1.2, h.2⟩
      · rw [if_neg h3] at h
        cases h
theorem allIn_at {most : Int} {zs : List Int} (h : allIn most zs = true) {k : Nat} (hk : k < zs.length) : 0 ≤ zs.getD k 0 ∧ zs.getD k 0 ≤ most := by
  have := of_decide_eq_true h k hk
  simpa [inR] using this
/-- what fits, in words -/
structure FitsP (R : Int) (cs : List Ins) (at_ : Int) (zs : List Int) : Prop where
  vm : validM R cs = true
  at0 : 0 ≤ at_
  at1 : at_ < (cs.length : Int)
  len : (zs.length : Int) = R
  all : allIn 1099511627776 zs = true
theorem fits_p {R : Int} {cs : List Ins} {at_ : Int} {zs : List Int} (h : fitsM R cs at_ zs = true) : FitsP R cs at_ zs := by
  unfold fitsM inB at h
  simp only [Bool.and_eq_true, decide_eq_true_eq] at h
  exact ⟨h.1.1.1, h.1.1.2.1, h.1.1.2.2, h.1.2, h.2⟩
theorem p_fits {R : Int} {cs : List Ins} {at_ : Int} {zs : List Int} (h : FitsP R cs at_ zs) : fitsM R cs at_ zs = true := by
  unfold fitsM inB
  simp only [Bool.and_eq_true, decide_eq_true_eq]
  exact ⟨⟨⟨h.vm, h.at0, h.at1⟩, h.len⟩, h.all⟩
theorem FitsP.ins {R : Int} {cs : List Ins} {at_ : Int} {zs : List Int} (h : FitsP R cs at_ zs) : validI R cs.length at_ (insAt cs at_.toNat) = true := by
  have h1 := h.vm
  unfold validM at h1
  rw [Bool.and_eq_true] at h1
  have h2 := of_decide_eq_true h1.2 at_.toNat (by have := h.at0; have := h.at1; omega)
  rwa [Int.toNat_of_nonneg h.at0] at h2
theorem FitsP.bounds {R : Int} {cs : List Ins} {at_ : Int} {zs : List Int} (h : FitsP R cs at_ zs) : 1 ≤ R ∧ R ≤ 4 ∧ 1 ≤ cs.length ∧ cs.length ≤ 15 ∧ 1 ≤ zs.length ∧ zs.length ≤ 4 := by
  have h1 := h.vm
  unfold validM at h1
  rw [Bool.and_eq_true] at h1
  have h2 := of_decide_eq_true h1.1
  have := h.len
  omega
theorem advance_c {R : Int} {cs : List Ins} {k : Nat} {zs : List Int} (hf : FitsP R cs (k : Int) zs) (hend : endM (insAt cs k) zs = false) (A : Option Addr) (c gs gr d : Nat) (w : World) (h : RdC w A cs.length cs) (hs : BxS w gs (k : Int) (some ⟨gr, 0, none⟩) zs.length d) (ho : Ow w gr zs) (hne : gs ≠ gr) :
    Calls Tryd.prog 78 #[.agg #[.int .i64 R, .slice A cs.length c], .pointer (some ⟨gs, 0, none⟩)] w (AdvP w gs gr (insAt cs k) zs.length d zs) := by
  have hv := hf.ins
  rw [Int.toNat_natCast] at hv
  have hk : k < cs.length := by have := hf.at1; omega
  have hl := hf.len
  obtain ⟨x, hx⟩ : ∃ x, insAt cs k = x := ⟨_, rfl⟩
  rw [hx] at hv hend ⊢
  obtain ⟨op, reg, nx, zr⟩ := x
  rcases valid_cases hv with ⟨h3, _⟩ | ⟨h0, r0, r1, n0, n1, _⟩
  · exfalso
    simp only at h3
    simp [endM, h3] at hend
  · simp only at h0 r0 r1 n0 n1
    obtain ⟨r, rfl⟩ := Int.eq_ofNat_of_zero_le r0
    have hr : r < zs.length := by omega
    obtain ⟨b0, b1⟩ := allIn_at hf.all hr
    rcases h0 with rfl | rfl | rfl
    · exact advance_0 R A _ c cs k gs gr _ d r nx zr zs w h hs ho rfl hk hx hr hne _ rfl b0 b1
    · refine advance_1 R A _ c cs k gs gr _ d r nx zr zs w h hs ho rfl hk hx hr hne _ rfl b0 b1 ?_
      intro e
      simp [endM, -List.getD_eq_getElem?_getD, e] at hend
    · by_cases hz : zs.getD r 0 = 0
      · exact advance_2z R A _ c cs k gs gr _ d r nx zr zs w h hs ho rfl hk hx hr hne _ rfl b0 b1 hz
      · exact advance_2n R A _ c cs k gs gr _ d r nx zr zs w h hs ho rfl hk hx hr hne _ rfl b0 b1 hz
end Go.Proofs.YthjdnidapbhdlaaDoor
