import Derived.Test.YteabokkofoomkaaGreatCae
import Derived.Test.YteabokkofoomkaaGreatCag
import Derived.Test.YteabokkofoomkaaGreatCaf
import Derived.Test.YteabokkofoomkaaGreatCad
import Derived.Test.YteabokkofoomkaaGreatCaq
import Derived.Deep.LoopGhost
import Derived.Deep.QuietTactic
import Derived.BigQuiet
namespace Go.Proofs.YteabokkofoomkaaGreat
open Go.RowKit
theorem mod_and (a b : Nat) : (a &&& b) % 4294967296 = a % 4294967296 &&& b % 4294967296 := by
 have h := @Nat.and_mod_two_pow a b 32
 simpa using h
theorem div_and (a b : Nat) : (a &&& b) / 4294967296 = a / 4294967296 &&& b / 4294967296 := by
 have h := @Nat.shiftRight_and_distrib 32 a b
 simpa [Nat.shiftRight_eq_div_pow] using h
theorem and_split (x y X Y : Nat) (hx : x < 4294967296) (hy : y < 4294967296) : (x + 4294967296 * X) &&& (y + 4294967296 * Y) = (x &&& y) + 4294967296 * (X &&& Y) := by
 have h1 := mod_and (x + 4294967296 * X) (y + 4294967296 * Y)
 have h2 := div_and (x + 4294967296 * X) (y + 4294967296 * Y)
 rw [show (x + 4294967296 * X) % 4294967296 = x by omega, show (y + 4294967296 * Y) % 4294967296 = y by omega] at h1
 rw [show (x + 4294967296 * X) / 4294967296 = X by omega, show (y + 4294967296 * Y) / 4294967296 = Y by omega] at h2
 omega
theorem not_under (x y : Nat) (hy : y < 4294967296) : x < 4294967296 → (x &&& (4294967295 - y) = 0 ↔ x &&& y = x) := by
 intro hx
 have hb : ∀ i, (4294967295 - y).testBit i = (decide (i < 32) && !y.testBit i) := fun i => by
  have := @Nat.testBit_two_pow_sub_succ y 32 (by simpa using hy) i
  simpa using this
 have hxi : ∀ i, x.testBit i = true → i < 32 := fun i h => by
  rcases Nat.lt_or_ge i 32 with h1 | h1
  · exact h1
  · have := Nat.testBit_lt_two_pow (x := x) (i := i) (Nat.lt_of_lt_of_le hx (by
     have := Nat.pow_le_pow_right (n := 2) (by omega) h1
     simpa using this))
    rw [this] at h
    cases h
 constructor
 · intro h
   apply Nat.eq_of_testBit_eq
   intro i
   rw [Nat.testBit_and]
   have hi := congrArg (fun z : Nat => z.testBit i) h
   simp only [Nat.testBit_and, hb, Nat.zero_testBit] at hi
   cases hxb : x.testBit i with
   | false => rfl
   | true =>
     have := hxi i hxb
     rw [hxb] at hi
     simpa [this] using hi
 · intro h
   apply Nat.eq_of_testBit_eq
   intro i
   rw [Nat.testBit_and, hb, Nat.zero_testBit]
   have hi := congrArg (fun z : Nat => z.testBit i) h
   simp only [Nat.testBit_and] at hi
   cases hxb : x.testBit i with
   | false => rfl
   | true =>
     rw [hxb] at hi
     have hyb : y.testBit i = true := by simpa using hi
     simp [hyb]
theorem under_iff {xs ys : List Nat} (hx : small xs) (hy : small ys) : (∀ j, j < xs.length → xs.getD j 0 &&& ys.getD j 0 = xs.getD j 0) ↔ val xs &&& val ys = val xs := by
 induction xs generalizing ys with
 | nil => simp [val]
 | cons x xs ih =>
   obtain ⟨h1, h2⟩ := small_cons.1 hx
   obtain ⟨y, ys', hys, hyl, hysm⟩ : ∃ y ys', (∀ j, ys.getD j 0 = (y :: ys').getD j 0) ∧ val ys = val (y :: ys') ∧ small (y :: ys') := by
    cases ys with
    | nil => exact ⟨0, [], fun j => by cases j <;> simp, by simp [val], small_cons.2 ⟨by omega, small_nil⟩⟩
    | cons y ys => exact ⟨y, ys, fun _ => rfl, rfl, hy⟩
   obtain ⟨h3, h4⟩ := small_cons.1 hysm
   rw [hyl, val_cons, val_cons, and_split x y _ _ h1 h3]
   have ih' := ih h2 h4
   constructor
   · intro h
     have a := h 0 (by simp)
     rw [hys] at a
     simp only [List.getD_cons_zero] at a
     have b := ih'.1 (fun j hj => by
      have := h (j + 1) (by simpa using hj)
      rw [hys] at this
      simpa using this)
     rw [a, b]
   · intro h
     have hle : x &&& y ≤ x := Nat.and_le_left
     have hlt : x &&& y < 4294967296 := by omega
     have a : x &&& y = x := by omega
     have b : val xs &&& val ys' = val xs := by omega
     intro j hj
     rw [hys]
     cases j with
     | zero => simpa using a
     | succ j => simpa using ih'.2 b j (by simpa using hj)
theorem under_len {xs ys : List Nat} (cx : canon xs) (cy : canon ys) (h : ys.length < xs.length) : ¬ val xs &&& val ys = val xs := by
 intro e
 have h1 := cmp_len cy.1 cx h
 have h2 : val xs &&& val ys ≤ val ys := Nat.and_le_right
 omega
set_option maxHeartbeats 1000000 in
set_option maxRecDepth 100000 in
theorem Under_ok (A A' : Option Addr) (n c n' c' : Nat) (xs ys : List Nat) (w : World) (h : Rd w A n xs) (h' : Rd w A' n' ys) (vx : validB false xs = true) (vy : validB false ys = true) :
 Calls Tryz.prog 80 #[.agg #[.bool false, .slice A n c], .agg #[.bool false, .slice A' n' c']] w (fun e w' => e = .returned (.tuple #[.bool (decide (val xs &&& val ys = val xs)), .int .i64 0]) ∧ Below w.heap.size w w') := by
 have VX := Lib.hid (valid_canon h.sm vx)
 have VY := Lib.hid (valid_canon h'.sm vy)
 have HV := Lib.hid (show (validB false xs && validB false ys) = true by rw [vx, vy]; rfl)
 have hn := VX.out.2.1
 have hn' := VY.out.2.1
 rw [h.len] at hn
 rw [h'.len] at hn'
 have HX := Lib.hid h.len
 have HY := Lib.hid h'.len
 have hsx := h.sm
 have hsy := h'.sm
 have HU := Lib.hid (under_iff hsx hsy)
 have HW := Lib.hid (under_len VX.out.1 VY.out.1)
 clear vx vy
 go_enter Tryz.func80, Tryz.ntmps80
 go_wp2_with fail
 have E := (Env2.start w false false A A' n c n' c').alloc (.cells #[.bool false, .slice A n c, .bool false, .slice A' n' c'] 58)
 refine (allValid_c (w.heap.size + 1 + 1) false false A A' n c n' c' xs ys _ (h.below E.below) (h'.below E.below) (by simp) (by go_simp) (by go_simp) (by go_simp) (by go_simp)).mono ?_
 rintro e w1 ⟨rfl, hb⟩
 rw [HV.out]
 have E1 := Lib.hid (E.next hb)
 clear E hb
 have a0 := E1.out.a0
 have a1 := E1.out.a1
 have b0 := E1.out.b0
 have b1 := E1.out.b1
 by_cases hnn : n' < n
 · have HF := Lib.hid (HW.out (by rw [HX.out, HY.out]; exact hnn))
   clear hsx hsy
   go_wp2
   go_ret2
   exact ⟨by rw [decide_eq_false HF.out]; rfl, E1.out.below⟩
 · have hcell : 0 < n → ∃ b o, A = some ⟨b, o, none⟩ ∧ b < w1.heap.size ∧ ∀ k, k < n → w1.cell? ⟨b, o + k, none⟩ = some (.int .u32 ((xs.getD k 0 : Nat) : Int)) := (h.below E1.out.below).at_
   have hcell' : 0 < n' → ∃ b o, A' = some ⟨b, o, none⟩ ∧ b < w1.heap.size ∧ ∀ k, k < n' → w1.cell? ⟨b, o + k, none⟩ = some (.int .u32 ((ys.getD k 0 : Nat) : Int)) := (h'.below E1.out.below).at_
   have CA := Lib.hid hcell
   have CB := Lib.hid hcell'
   clear hcell hcell' h h'
   go_wp2
   go_loop [29] (fun v => ∃ i : Nat, v = .int .i64 i ∧ i ≤ n ∧ ∀ j, j < i → xs.getD j 0 &&& ys.getD j 0 = xs.getD j 0) (fun v => n - (intOf v).toNat)
   case atStart => exact ⟨0, rfl, Nat.zero_le _, fun j hj => by omega⟩
   case round =>
    obtain ⟨i, rfl, hi, hall⟩ := hrel
    have HA := Lib.hid hall
    clear hall
    by_cases hin : i < n
    · obtain ⟨b, o, rfl, _, hca⟩ := CA.out (by omega)
      obtain ⟨b', o', rfl, _, hcb⟩ := CB.out (by omega)
      have hci := hca i hin
      have hdi := hcb i (by omega)
      have hx1 := small_get hsx i
      have hy1 := small_get hsy i
      have NU := Lib.hid (not_under _ _ hy1 hx1)
      obtain ⟨x, hx2⟩ : ∃ x, x = xs.getD i 0 := ⟨_, rfl⟩
      obtain ⟨y, hy2⟩ : ∃ y, y = ys.getD i 0 := ⟨_, rfl⟩
      have HX2 := Lib.hid hx2
      have HY2 := Lib.hid hy2
      rw [← hx2, ← hy2] at NU
      rw [← hx2] at hci hx1
      rw [← hy2] at hdi hy1
      have han := u32_andNot_nat x y hx1 hy1
      obtain ⟨z, hz⟩ : ∃ z, z = x &&& (4294967295 - y) := ⟨_, rfl⟩
      rw [← hz] at han NU
      clear hx2 hy2 hca hcb hsx hsy hz
      by_cases hz0 : z = 0
      · have t : ((z : Int) != 0) = false := by rw [hz0]; rfl
        have HN := Lib.hid (NU.out.1 hz0)
        clear hz0
        go_wp2
        go_round
        case measure => simp [intOf]; omega
        case rel => exact ⟨i + 1, by go_num, by omega, fun j hj => by
         by_cases hji : j = i
         · subst hji; rw [← HX2.out, ← HY2.out]; exact HN.out
         · exact HA.out j (by omega)⟩
      · have t : ((z : Int) != 0) = true := by rw [bne_iff_ne]; omega
        have HF := Lib.hid (show ¬ val xs &&& val ys = val xs from fun e => hz0 (NU.out.2 (by
         have := HU.out.2 e i (by rw [HX.out]; exact hin)
         rw [HX2.out, HY2.out]; exact this)))
        clear hz0
        go_wp2
        go_ret2
        exact ⟨by rw [decide_eq_false HF.out]; rfl, E1.out.below⟩
    · have HF := Lib.hid (HU.out.1 (fun j hj => HA.out j (by rw [HX.out] at hj; omega)))
      go_wp2
      go_ret2
      exact ⟨by rw [decide_eq_true HF.out]; rfl, E1.out.below⟩
structure Env1 (w W : World) (s : Bool) (A : Option Addr) (n c : Nat) : Prop where
 size : w.heap.size + 2 ≤ W.heap.size
 a0 : W.cell? ⟨w.heap.size, 0, none⟩ = some (.bool s)
 a1 : W.cell? ⟨w.heap.size, 1, none⟩ = some (.slice A n c)
 r0 : W.cell? ⟨w.heap.size + 1, 0, none⟩ = some (.bool false)
 r1 : W.cell? ⟨w.heap.size + 1, 1, none⟩ = some (.slice none 0 0)
 f0 : W.frozen? ⟨w.heap.size + 1, 0, none⟩ = false
 f1 : W.frozen? ⟨w.heap.size + 1, 1, none⟩ = false
 below : Below w.heap.size w W
theorem Env1.start (w : World) (s : Bool) (A : Option Addr) (n c : Nat) :
 Env1 w ((w.alloc (.cells #[.bool s, .slice A n c] 58)).alloc (.cells #[.bool false, .slice none 0 0] 58)) s A n c :=
 ⟨by simp, by go_simp, by go_simp, by go_simp, by go_simp, by go_simp, by go_simp, (((Below.refl _ _).alloc (Nat.le_refl _) _).alloc (by simp) _)⟩
theorem Env1.next {w W w1 : World} {s : Bool} {A : Option Addr} {n c : Nat} (h : Env1 w W s A n c) (hb : Below W.heap.size W w1) : Env1 w w1 s A n c := by
 have hz := h.size
 have hz1 := hb.size
 exact ⟨by omega, (hb.cell (p := ⟨w.heap.size, 0, none⟩) (by simp; omega)).trans h.a0, (hb.cell (p := ⟨w.heap.size, 1, none⟩) (by simp; omega)).trans h.a1,
  (hb.cell (p := ⟨w.heap.size + 1, 0, none⟩) (by simp; omega)).trans h.r0, (hb.cell (p := ⟨w.heap.size + 1, 1, none⟩) (by simp; omega)).trans h.r1,
  (hb.frozen (p := ⟨w.heap.size + 1, 0, none⟩) (by simp; omega)).trans h.f0, (hb.frozen (p := ⟨w.heap.size + 1, 1, none⟩) (by simp; omega)).trans h.f1,
  h.below.trans (hb.mono (by omega))⟩
theorem Env1.alloc {w W : World} {s : Bool} {A : Option Addr} {n c : Nat} (h : Env1 w W s A n c) (o : Obj) : Env1 w (W.alloc o) s A n c := h.next ((Below.refl _ _).alloc (Nat.le_refl _) o)
theorem Env1.drewN {w W : World} {s : Bool} {A : Option Addr} {n c : Nat} (h : Env1 w W s A n c) (k : Nat) : Env1 w (W.drewN k) s A n c := h.next (below_drewN (Below.refl _ _) k)
end Go.Proofs.YteabokkofoomkaaGreat
set_option maxRecDepth 100000
namespace Go.Proofs.YteabokkofoomkaaGreat
open Go.RowKit Go.Shelf Go.Deep
theorem BxP.oth {W : World} {g : Nat} {V : Int} {A : Option Addr} {n c : Nat} (h : BxP W g V A n c) {g' : Nat} (hne : g' ≠ g) (u v : Value) : BxP ((W.setCell ⟨g', 0, none⟩ u).setCell ⟨g', 1, none⟩ v) g V A n c :=
 ⟨by simpa [World.setCell] using h.lt, cell_two hne h.c0, cell_two hne h.c1⟩
theorem BxT.oth {W : World} {g : Nat} {s : Bool} {A : Option Addr} {n c : Nat} {B : Option Addr} {m d : Nat} (h : BxT W g s A n c B m d) {g' : Nat} (hne : g' ≠ g) (u v : Value) : BxT ((W.setCell ⟨g', 0, none⟩ u).setCell ⟨g', 1, none⟩ v) g s A n c B m d :=
 ⟨by simpa [World.setCell] using h.lt, cell_two hne h.c0, cell_two hne h.c1, cell_two hne h.c2⟩
structure VN (W : World) (g : Nat) (z : Int) (t : Bool) (B : Option Addr) (m d : Nat) : Prop where
 nv : NV W g t B m d
 is : Is W z t B m d
theorem VN.next {W W' : World} {g : Nat} {z : Int} {t : Bool} {B : Option Addr} {m d : Nat} (h : VN W g z t B m d) (hb : Below W.heap.size W W') : VN W' g z t B m d := ⟨h.nv.next hb, h.is.below hb⟩
theorem VN.oth {W : World} {g : Nat} {z : Int} {t : Bool} {B : Option Addr} {m d : Nat} (h : VN W g z t B m d) {g' : Nat} {t' : Bool} {B' : Option Addr} {m' d' : Nat} (h' : NV W g' t' B' m' d') (hne : g' ≠ g) (u v : Value) : VN ((W.setCell ⟨g', 0, none⟩ u).setCell ⟨g', 1, none⟩ v) g z t B m d :=
 ⟨h.nv.oth hne u v, h.is.store h'.r0 h'.r1 u v⟩
theorem VN.put {W : World} {g : Nat} {t : Bool} {B : Option Addr} {m d : Nat} (h : NV W g t B m d) {z' : Int} {t' : Bool} {B' : Option Addr} {m' d' : Nat} (h' : Is W z' t' B' m' d') : VN ((W.setCell ⟨g, 0, none⟩ (.bool t')).setCell ⟨g, 1, none⟩ (.slice B' m' d')) g z' t' B' m' d' :=
 ⟨h.put t' B' m' d', h'.store h.r0 h.r1 _ _⟩
structure EV (w W : World) (g : Nat) (V : Int) (A : Option Addr) (n c : Nat) (zO : Int) (tO : Bool) (BO : Option Addr) (mO dO : Nat) (zA : Int) (tA : Bool) (BA : Option Addr) (mA dA : Nat) : Prop where
 low : Below w.heap.size w W
 bx : BxP W g V A n c
 rs : NV W (g + 1) false none 0 0
 o : VN W (g + 2) zO tO BO mO dO
 a : VN W (g + 3) zA tA BA mA dA
theorem EV.next {w W W' : World} {g : Nat} {V : Int} {A : Option Addr} {n c : Nat} {zO : Int} {tO : Bool} {BO : Option Addr} {mO dO : Nat} {zA : Int} {tA : Bool} {BA : Option Addr} {mA dA : Nat} (h : EV w W g V A n c zO tO BO mO dO zA tA BA mA dA) (hb : Below W.heap.size W W') : EV w W' g V A n c zO tO BO mO dO zA tA BA mA dA :=
 ⟨h.low.trans (hb.mono h.low.size), h.bx.next hb, h.rs.next hb, h.o.next hb, h.a.next hb⟩
theorem EV.oth {w W : World} {g : Nat} {V : Int} {A : Option Addr} {n c : Nat} {zO : Int} {tO : Bool} {BO : Option Addr} {mO dO : Nat} {zA : Int} {tA : Bool} {BA : Option Addr} {mA dA : Nat} (h : EV w W g V A n c zO tO BO mO dO zA tA BA mA dA) (hw : w.heap.size ≤ g) {g' : Nat} {t' : Bool} {B' : Option Addr} {m' d' : Nat} (h' : NV W g' t' B' m' d') (hne : g + 3 < g') (u v : Value) : EV w ((W.setCell ⟨g', 0, none⟩ u).setCell ⟨g', 1, none⟩ v) g V A n c zO tO BO mO dO zA tA BA mA dA :=
 ⟨below_store h.low (by omega) u v, h.bx.oth (by omega) u v, h.rs.oth (by omega) u v, h.o.oth h' (by omega) u v, h.a.oth h' (by omega) u v⟩
def loadT (t : Trm) (ns : List Nmr) : Nat → Nat
 | 0 => t.xs.length + 1
 | k + 1 => loadT t ns k + (t.es.getD k 0).toNat * (nmAt ns k).xs.length
def mostT (ts : List Trm) (ns : List Nmr) : Nat → Nat
 | 0 => 0
 | k + 1 => max (mostT ts ns k) (loadT (trmAt ts k) ns (trmAt ts k).es.length)
def loadP (ts : List Trm) (ns : List Nmr) : Nat := mostT ts ns ts.length
theorem raw_le {s : Bool} {xs : List Nat} (h : validB s xs = true) : xs.length ≤ 4096 := by
 unfold validB at h
 split at h
 · omega
 · simp at h; omega
set_option maxHeartbeats 8000000 in
theorem refLoad_c (V : Int) (A : Option Addr) (n c : Nat) (ts : List Trm) (C : Option Addr) (m cd : Nat) (ns : List Nmr) (w : World) (h : RdT w A n ts) (h' : RdN w C m ns) (hv : validP V ts = true) (hm : (m : Int) = V) (hu : allB ns = true) :
 Calls Tryz.prog 30 #[aggP V A n c, .slice C m cd] w (fun e w' => e = .returned (.int .i64 (loadP ts ns : Int)) ∧ Below w.heap.size w w') := by
 have HI := Lib.hid (And.intro h h')
 have HV := Lib.hid hv
 have HU := Lib.hid hu
 have HMV := Lib.hid hm
 have HBD := Lib.hid (vp_bounds hv)
 have HL := Lib.hid (And.intro h.len h'.len)
 have P := Lib.hid (bel_alloc w (boxP V A n c))
 have X := Lib.hid (BxP.new w V A n c)
 clear h h' hv hm hu
 go_enter Tryz.func30, Tryz.ntmps30
 go_wp2
 generalize w.alloc (boxP V A n c) = W0 at P X ⊢
 obtain ⟨g, hg⟩ : ∃ g, g = w.heap.size := ⟨_, rfl⟩
 rw [← hg] at X ⊢
 clear hg
 go_loopw [5, 6] (fun v5 v wr => ∃ j : Nat, v = .int .i64 (j : Int) ∧ v5 = .int .i64 (mostT ts ns j : Int) ∧ mostT ts ns j ≤ 20000000 ∧ j ≤ n ∧ Below w.heap.size w wr ∧ BxP wr g V A n c) (fun _ v _ => n - (intOf v).toNat)
 case atStart => exact ⟨0, rfl, rfl, Nat.zero_le _, Nat.zero_le _, P.out, X.out⟩
 case round =>
  obtain ⟨j, rfl, rfl, hmost, hj, hP, hX⟩ := hrel
  clear P X
  have hnn : n ≤ 3000 := by have h1 := HBD.out.2.2; have h2 := HL.out.1; omega
  have P := Lib.hid hP
  have X := Lib.hid hX
  clear hP hX
  have a1 := X.out.c1
  by_cases hjn : j < n
  · have t1 : decide ((j : Int) < (n : Int)) = true := decide_eq_true (by omega)
    have t1n : decide (j < n) = true := decide_eq_true hjn
    have hjI : (j : Int) < (n : Int) := by omega
    obtain ⟨bT, oT, rfl, hblt, hcell⟩ := HI.out.1.at_ (by omega)
    obtain ⟨A1, n1, c1, B1, m1, d1, hT0⟩ := hcell j hjn
    have T0 := Lib.hid (TrA.mk hblt hT0)
    have HVT := Lib.hid (vp_at HV.out (k := j) (by rw [HL.out.1]; exact hjn))
    have HMS := Lib.hid (show mostT ts ns (j + 1) = max (mostT ts ns j) (loadT (trmAt ts j) ns (trmAt ts j).es.length) from rfl)
    obtain ⟨tt, htt⟩ : ∃ t, t = trmAt ts j := ⟨_, rfl⟩
    rw [← htt] at T0 HVT HMS
    clear hcell hT0 htt hblt
    obtain ⟨s, xs, es⟩ := tt
    obtain ⟨he, hlen⟩ := vt_exps HVT.out
    obtain rfl : m = m1 := by
     have e1 := T0.out.is.ri.len
     have e2 := HMV.out
     dsimp only at e1 hlen
     omega
    obtain ⟨hvb, -⟩ := vt_coef HVT.out
    have HLE := Lib.hid (show es.length = m from T0.out.is.ri.len)
    have HEI := Lib.hid he
    have HN1 := Lib.hid (show xs.length = n1 ∧ n1 ≤ 4096 from ⟨T0.out.is.rd.len, by have e1 := T0.out.is.rd.len; have e2 := raw_le hvb; dsimp only at e1 e2; omega⟩)
    clear he hlen hvb
    have TW := Lib.hid (T0.out.next P.out)
    have c1' := TW.out.is.c1
    have hn1 := HN1.out.2
    go_wp2
    clear c1' a1 t1 t1n
    have HL0 := Lib.hid (show ((n1 : Int) + 1) = (loadT ⟨s, xs, es⟩ ns 0 : Int) by show _ = ((xs.length + 1 : Nat) : Int); rw [HN1.out.1]; rfl)
    clear TW hn1
    go_loopw [7, 8] (fun v7 v wr => ∃ k : Nat, v = .int .i64 (k : Int) ∧ v7 = .int .i64 (loadT ⟨s, xs, es⟩ ns k : Int) ∧ loadT ⟨s, xs, es⟩ ns k ≤ 4097 + k * 491520 ∧ k ≤ m ∧ Below w.heap.size w wr ∧ BxP wr g V (some ⟨bT, oT, none⟩) n c) (fun _ v _ => m - (intOf v).toNat)
    case atStart => exact ⟨0, rfl, by rw [← HL0.out], by show xs.length + 1 ≤ _; have := HN1.out; omega, Nat.zero_le _, P.out, X.out⟩
    case round =>
     obtain ⟨k, rfl, rfl, hld, hk, hP, hX⟩ := hrel
     clear P X
     have hmm : m ≤ 32 := by have h1 := HBD.out.2.1; have h2 := HMV.out; omega
     have P := Lib.hid hP
     have X := Lib.hid hX
     clear hP hX
     have a0 := X.out.c0
     by_cases hkm : k < m
     · have t1 : decide ((k : Int) < V) = true := decide_eq_true (by have := HMV.out; omega)
       have hkI : (k : Int) < (m : Int) := by omega
       obtain ⟨bN, oN, rfl, hltN, hcN⟩ := HI.out.2.at_ (by omega)
       obtain ⟨A2, n2, c2, hN⟩ := hcN k hkm
       have N0 := Lib.hid (NmA.mk hltN hN)
       have HVN := Lib.hid (show validB (nmAt ns k).s (nmAt ns k).xs = true by have := HU.out; simp only [allB, decide_eq_true_eq] at this; exact this k (by rw [HL.out.2]; exact hkm))
       have HN2 := Lib.hid (show (nmAt ns k).xs.length = n2 ∧ n2 ≤ 4096 from ⟨N0.out.is.rd.len, by have e1 := N0.out.is.rd.len; have e2 := raw_le HVN.out; omega⟩)
       have HPS := Lib.hid (show loadT ⟨s, xs, es⟩ ns (k + 1) = loadT ⟨s, xs, es⟩ ns k + (es.getD k 0).toNat * (nmAt ns k).xs.length from rfl)
       obtain ⟨bE, oE, hBE, hltE, hcE⟩ := T0.out.is.ri.at_ (by omega)
       have HCE := Lib.hid (And.intro hltE (hcE k hkm))
       dsimp only at HCE
       obtain ⟨x, hx⟩ := Int.eq_ofNat_of_zero_le (HEI.out k (by show k < es.length; rw [HLE.out]; exact hkm)).1
       have HX := Lib.hid (show x ≤ 120 by have := (HEI.out k (by show k < es.length; rw [HLE.out]; exact hkm)).2; omega)
       rw [hx] at HCE
       rw [hx, show ((x : Int)).toNat = x from Int.toNat_natCast x, HN2.out.1] at HPS
       obtain ⟨pr, hpr⟩ : ∃ q, q = x * n2 := ⟨_, rfl⟩
       have hprb : pr ≤ 491520 := by rw [hpr]; exact Nat.le_trans (Nat.mul_le_mul HX.out HN2.out.2) (by decide)
       have epr : (x : Int) * (n2 : Int) = (pr : Int) := by rw [hpr]; exact (Int.natCast_mul x n2).symm
       rw [← hpr] at HPS
       obtain ⟨ld, hldv⟩ : ∃ q, q = loadT ⟨s, xs, es⟩ ns k := ⟨_, rfl⟩
       rw [← hldv] at HPS hld ⊢
       have wm : IntKind.i64.wrap (pr : Int) = (pr : Int) := IntWalk.i64_in _ (by omega)
       have wa : IntKind.i64.wrap ((ld : Int) + (pr : Int)) = (ld : Int) + (pr : Int) := IntWalk.i64_in _ (by omega)
       clear hpr hldv
       subst hBE
       clear hcN hN hltN hcE hltE hx
       have TW := Lib.hid (T0.out.next P.out)
       have NW := Lib.hid (N0.out.next P.out)
       have b2 := TW.out.is.c2
       have a1 := X.out.c1
       have d1' := NW.out.is.c1
       have c0 := (P.out.cell (p := ⟨bE, oE + k, none⟩) HCE.out.1).trans HCE.out.2
       go_upto_region 9 with (fail)
       go_quiet (fail)
       have hdr := below_drewN (Below.refl wr.heap.size wr) nq
       replace P := Lib.hid (P.out.trans (hdr.mono P.out.size))
       replace X := Lib.hid (X.out.next hdr)
       clear b2 a1 a0 d1' c0 hdr t1 TW NW
       generalize wr.drewN nq = W1 at P X ⊢
       go_wp2
       go_roundw
       case measure => simp [intOf]; omega
       case rel => exact ⟨k + 1, by go_num, (by rw [HPS.out] <;> (try go_num)), by rw [HPS.out]; omega, by omega, P.out, X.out⟩
     · have t1 : decide ((k : Int) < V) = false := decide_eq_false (by have := HMV.out; omega)
       obtain rfl : k = es.length := by rw [HLE.out]; omega
       obtain ⟨lv, hlv⟩ : ∃ q, q = loadT ⟨s, xs, es⟩ ns es.length := ⟨_, rfl⟩
       obtain ⟨mv, hmv⟩ : ∃ q, q = mostT ts ns j := ⟨_, rfl⟩
       have HMX := Lib.hid (show mostT ts ns (j + 1) = max mv lv by rw [HMS.out, hmv, hlv])
       have hlb : lv ≤ 20000000 := by rw [← hlv] at hld; omega
       rw [← hlv] at hld ⊢
       rw [← hmv] at hmost ⊢
       clear hlv hmv
       by_cases hmx : mv ≤ lv
       · have HM2 := Lib.hid (show mostT ts ns (j + 1) = lv by rw [HMX.out]; omega)
         have u1 : ((mv : Int) ≤ (lv : Int)) := by omega
         have u2 : max (mv : Int) (lv : Int) = (lv : Int) := by omega
         go_wp2
         go_roundw
         case measure => simp [intOf]; omega
         case rel => exact ⟨j + 1, by go_num, by rw [HM2.out]; exact congrArg (Value.int IntKind.i64) (by split <;> omega), by rw [HM2.out]; exact hlb, by omega, P.out, X.out⟩
       · have HM2 := Lib.hid (show mostT ts ns (j + 1) = mv by rw [HMX.out]; omega)
         have u1 : ¬ ((mv : Int) ≤ (lv : Int)) := by omega
         have u2 : max (mv : Int) (lv : Int) = (mv : Int) := by omega
         go_wp2
         go_roundw
         case measure => simp [intOf]; omega
         case rel => exact ⟨j + 1, by go_num, by rw [HM2.out]; exact congrArg (Value.int IntKind.i64) (by split <;> omega), by rw [HM2.out]; exact hmost, by omega, P.out, X.out⟩
  · have t1 : decide ((j : Int) < (n : Int)) = false := decide_eq_false (by omega)
    have t1n : decide (j < n) = false := decide_eq_false hjn
    obtain rfl : j = ts.length := by rw [HL.out.1]; omega
    go_wp2
    go_ret
    exact ⟨rfl, P.out⟩
set_option maxHeartbeats 8000000 in
theorem refLoad_any (V : Int) (A : Option Addr) (n c : Nat) (ts : List Trm) (C : Option Addr) (m cd : Nat) (ns : List Nmr) (w : World) (h : RdT w A n ts) (h' : RdN w C m ns) (hv : validP V ts = true) (hm : (m : Int) = V) :
 Calls Tryz.prog 30 #[aggP V A n c, .slice C m cd] w (fun e w' => ∃ v : Int, e = .returned (.int .i64 v) ∧ Below w.heap.size w w') := by
 have HI := Lib.hid (And.intro h h')
 have HV := Lib.hid hv
 have HMV := Lib.hid hm
 have HBD := Lib.hid (vp_bounds hv)
 have HL := Lib.hid (And.intro h.len h'.len)
 have P := Lib.hid (bel_alloc w (boxP V A n c))
 have X := Lib.hid (BxP.new w V A n c)
 clear h h' hv hm
 go_enter Tryz.func30, Tryz.ntmps30
 go_wp2
 generalize w.alloc (boxP V A n c) = W0 at P X ⊢
 obtain ⟨g, hg⟩ : ∃ g, g = w.heap.size := ⟨_, rfl⟩
 rw [← hg] at X ⊢
 clear hg
 go_loopw [5, 6] (fun v5 v wr => ∃ j : Nat, v = .int .i64 (j : Int) ∧ (∃ v : Int, v5 = .int .i64 v) ∧ j ≤ n ∧ Below w.heap.size w wr ∧ BxP wr g V A n c) (fun _ v _ => n - (intOf v).toNat)
 case atStart => exact ⟨0, rfl, ⟨0, rfl⟩, Nat.zero_le _, P.out, X.out⟩
 case round =>
  obtain ⟨j, rfl, ⟨ov, rfl⟩, hj, hP, hX⟩ := hrel
  clear P X
  have hnn : n ≤ 3000 := by have h1 := HBD.out.2.2; have h2 := HL.out.1; omega
  have P := Lib.hid hP
  have X := Lib.hid hX
  clear hP hX
  have a1 := X.out.c1
  by_cases hjn : j < n
  · have t1 : decide ((j : Int) < (n : Int)) = true := decide_eq_true (by omega)
    have t1n : decide (j < n) = true := decide_eq_true hjn
    have hjI : (j : Int) < (n : Int) := by omega
    obtain ⟨bT, oT, rfl, hblt, hcell⟩ := HI.out.1.at_ (by omega)
    obtain ⟨A1, n1, c1, B1, m1, d1, hT0⟩ := hcell j hjn
    have T0 := Lib.hid (TrA.mk hblt hT0)
    have HVT := Lib.hid (vp_at HV.out (k := j) (by rw [HL.out.1]; exact hjn))
    have HMS := Lib.hid (show mostT ts ns (j + 1) = max (mostT ts ns j) (loadT (trmAt ts j) ns (trmAt ts j).es.length) from rfl)
    obtain ⟨tt, htt⟩ : ∃ t, t = trmAt ts j := ⟨_, rfl⟩
    rw [← htt] at T0 HVT HMS
    clear hcell hT0 htt hblt
    obtain ⟨s, xs, es⟩ := tt
    obtain ⟨he, hlen⟩ := vt_exps HVT.out
    obtain rfl : m = m1 := by
     have e1 := T0.out.is.ri.len
     have e2 := HMV.out
     dsimp only at e1 hlen
     omega
    obtain ⟨hvb, -⟩ := vt_coef HVT.out
    have HLE := Lib.hid (show es.length = m from T0.out.is.ri.len)
    have HEI := Lib.hid he
    have HN1 := Lib.hid (show xs.length = n1 ∧ n1 ≤ 4096 from ⟨T0.out.is.rd.len, by have e1 := T0.out.is.rd.len; have e2 := raw_le hvb; dsimp only at e1 e2; omega⟩)
    clear he hlen hvb
    have TW := Lib.hid (T0.out.next P.out)
    have c1' := TW.out.is.c1
    have hn1 := HN1.out.2
    go_wp2
    clear c1' a1 t1 t1n
    have HL0 := Lib.hid (show ((n1 : Int) + 1) = (loadT ⟨s, xs, es⟩ ns 0 : Int) by show _ = ((xs.length + 1 : Nat) : Int); rw [HN1.out.1]; rfl)
    clear TW hn1
    go_loopw [7, 8] (fun v7 v wr => ∃ k : Nat, v = .int .i64 (k : Int) ∧ (∃ v : Int, v7 = .int .i64 v) ∧ k ≤ m ∧ Below w.heap.size w wr ∧ BxP wr g V (some ⟨bT, oT, none⟩) n c) (fun _ v _ => m - (intOf v).toNat)
    case atStart => exact ⟨0, rfl, ⟨_, rfl⟩, Nat.zero_le _, P.out, X.out⟩
    case round =>
     obtain ⟨k, rfl, ⟨lv, rfl⟩, hk, hP, hX⟩ := hrel
     clear P X
     have hmm : m ≤ 32 := by have h1 := HBD.out.2.1; have h2 := HMV.out; omega
     have P := Lib.hid hP
     have X := Lib.hid hX
     clear hP hX
     have a0 := X.out.c0
     by_cases hkm : k < m
     · have t1 : decide ((k : Int) < V) = true := decide_eq_true (by have := HMV.out; omega)
       have hkI : (k : Int) < (m : Int) := by omega
       obtain ⟨bN, oN, rfl, hltN, hcN⟩ := HI.out.2.at_ (by omega)
       obtain ⟨A2, n2, c2, hN⟩ := hcN k hkm
       have N0 := Lib.hid (NmA.mk hltN hN)
       obtain ⟨bE, oE, hBE, hltE, hcE⟩ := T0.out.is.ri.at_ (by omega)
       have HCE := Lib.hid (And.intro hltE (hcE k hkm))
       dsimp only at HCE
       obtain ⟨x, hx⟩ := Int.eq_ofNat_of_zero_le (HEI.out k (by show k < es.length; rw [HLE.out]; exact hkm)).1
       have HX := Lib.hid (show x ≤ 120 by have := (HEI.out k (by show k < es.length; rw [HLE.out]; exact hkm)).2; omega)
       rw [hx] at HCE
       subst hBE
       clear hcN hN hltN hcE hltE hx
       have TW := Lib.hid (T0.out.next P.out)
       have NW := Lib.hid (N0.out.next P.out)
       have b2 := TW.out.is.c2
       have a1 := X.out.c1
       have d1' := NW.out.is.c1
       have c0 := (P.out.cell (p := ⟨bE, oE + k, none⟩) HCE.out.1).trans HCE.out.2
       go_upto_region 9 with (fail)
       go_quiet (fail)
       have hdr := below_drewN (Below.refl wr.heap.size wr) nq
       replace P := Lib.hid (P.out.trans (hdr.mono P.out.size))
       replace X := Lib.hid (X.out.next hdr)
       clear b2 a1 a0 d1' c0 hdr t1 TW NW
       generalize wr.drewN nq = W1 at P X ⊢
       go_wp2
       go_roundw
       case measure => simp [intOf]; omega
       case rel => exact ⟨k + 1, by go_num, ⟨_, rfl⟩, by omega, P.out, X.out⟩
     · have t1 : decide ((k : Int) < V) = false := decide_eq_false (by have := HMV.out; omega)
       obtain rfl : k = es.length := by rw [HLE.out]; omega
       by_cases hmx : ov ≤ lv
       · go_wp2
         go_roundw
         case measure => simp [intOf]; omega
         case rel => exact ⟨j + 1, by go_num, ⟨_, rfl⟩, by omega, P.out, X.out⟩
       · go_wp2
         go_roundw
         case measure => simp [intOf]; omega
         case rel => exact ⟨j + 1, by go_num, ⟨_, rfl⟩, by omega, P.out, X.out⟩
  · have t1 : decide ((j : Int) < (n : Int)) = false := decide_eq_false (by omega)
    have t1n : decide (j < n) = false := decide_eq_false hjn
    obtain rfl : j = ts.length := by rw [HL.out.1]; omega
    go_wp2
    go_ret
    exact ⟨_, rfl, P.out⟩
def degP (ts : List Trm) : Int := if ts.length = 0 then -1 else sumI (trmAt ts 0).es
def degV (V : Int) (ts : List Trm) : Int := if validP V ts = true then degP ts else -1
set_option maxHeartbeats 2000000 in
theorem polyDegree_c (V : Int) (A : Option Addr) (n c : Nat) (ts : List Trm) (w : World) (h : RdT w A n ts) :
 Calls Tryz.prog 36 #[aggP V A n c] w fun e w' => e = .returned (.int .i64 (degV V ts)) ∧ Below w.heap.size w w' := by
 have HI := Lib.hid h
 have HL := Lib.hid h.len
 have P := Lib.hid (bel_alloc w (boxP V A n c))
 have X := Lib.hid (BxP.new w V A n c)
 clear h
 go_enter Tryz.func36, Tryz.ntmps36
 go_upto_region 1 with (fail)
 generalize w.alloc (boxP V A n c) = W0 at P X ⊢
 obtain ⟨g, hg⟩ : ∃ g, g = w.heap.size := ⟨_, rfl⟩
 rw [← hg] at X ⊢
 clear hg
 have a0 := X.out.c0
 have a1 := X.out.c1
 go_wp2_with fail
 refine (polyValid_c V A n c ts _ (HI.out.below P.out)).mono ?_
 rintro e w1 ⟨rfl, hb⟩
 replace P := Lib.hid (P.out.trans (hb.mono P.out.size))
 replace X := Lib.hid (X.out.next hb)
 clear hb a0 a1
 obtain ⟨v, hv⟩ : ∃ v, v = validP V ts := ⟨_, rfl⟩
 rw [← hv]
 have HV := Lib.hid hv
 clear hv
 cases v with
 | false =>
   have HF := Lib.hid (show degV V ts = -1 by unfold degV; rw [← HV.out]; rfl)
   go_wp2
   go_ret
   exact ⟨by rw [HF.out] <;> rfl, P.out⟩
 | true =>
   have HD := Lib.hid (show degV V ts = degP ts by unfold degV; rw [← HV.out]; rfl)
   have a1 := X.out.c1
   by_cases hn : n = 0
   · have t0 : ((n : Int) == 0) = true := by rw [hn]; rfl
     have HF := Lib.hid (show degV V ts = -1 by rw [HD.out]; unfold degP; rw [if_pos (by rw [HL.out]; exact hn)])
     clear hn
     go_wp2
     go_ret
     exact ⟨by rw [HF.out] <;> rfl, P.out⟩
   · have t0 : ((n : Int) == 0) = false := by rw [beq_eq_false_iff_ne]; omega
     have HF := Lib.hid (show degV V ts = sumI (trmAt ts 0).es by rw [HD.out]; unfold degP; rw [if_neg (by rw [HL.out]; exact hn)])
     obtain ⟨bT, oT, rfl, hblt, hcell⟩ := HI.out.at_ (by omega)
     obtain ⟨A1, n1, c1, B1, m1, d1, hT0⟩ := hcell 0 (by omega)
     have T0 := Lib.hid (TrA.mk hblt hT0)
     have HVT := Lib.hid (vp_at HV.out.symm (k := 0) (by rw [HL.out]; omega))
     have hn0 : (0 : Int) < (n : Int) := by omega
     have hn1 : 0 < n := by omega
     clear hcell hT0 hblt hn
     have TW := Lib.hid (T0.out.next P.out)
     have c2 := TW.out.is.c2
     rw [Nat.zero_mul, Nat.add_zero] at c2
     go_wp2_with fail
     refine (degree_c B1 m1 d1 (trmAt ts 0).es _ TW.out.is.ri (vt_exps HVT.out).1 (by have e1 := TW.out.is.ri.len; have e2 := (vt_exps HVT.out).2; have e3 := vp_bounds HV.out.symm; omega)).mono ?_
     rintro e w2 ⟨rfl, hw⟩
     subst hw
     go_wp2
     go_ret
     exact ⟨by rw [HF.out] <;> rfl, P.out⟩
structure Ply where
 V : Int
 ts : List Trm
def plyAt (ps : List Ply) (k : Nat) : Ply := ps.getD k ⟨0, []⟩
structure PlyIs (w : World) (b o : Nat) (p : Ply) (A : Option Addr) (n c : Nat) : Prop where
 c0 : w.cell? ⟨b, o, none⟩ = some (.int .i64 p.V)
 c1 : w.cell? ⟨b, o + 1, none⟩ = some (.slice A n c)
 rt : RdT w A n p.ts
 nc : n ≤ c
 cm : c ≤ 9223372036854775807
theorem PlyIs.below {w w' : World} {b o : Nat} {p : Ply} {A : Option Addr} {n c : Nat} (h : PlyIs w b o p A n c) (hlt : b < w.heap.size) (hb : Below w.heap.size w w') : PlyIs w' b o p A n c :=
 ⟨(hb.cell (p := ⟨b, o, none⟩) hlt).trans h.c0, (hb.cell (p := ⟨b, o + 1, none⟩) hlt).trans h.c1, h.rt.below hb, h.nc, h.cm⟩
structure RdP (w : World) (A : Option Addr) (n : Nat) (ps : List Ply) : Prop where
 len : ps.length = n
 at_ : 0 < n → ∃ b o, A = some ⟨b, o, none⟩ ∧ b < w.heap.size ∧ ∀ k, k < n → ∃ A1 n1 c1, PlyIs w b (o + k * 2) (plyAt ps k) A1 n1 c1
theorem RdP.below {w w' : World} {A : Option Addr} {n : Nat} {ps : List Ply} (h : RdP w A n ps) (hb : Below w.heap.size w w') : RdP w' A n ps := by
 refine ⟨h.len, fun h0 => ?_⟩
 obtain ⟨b, o, e, hlt, hc⟩ := h.at_ h0
 refine ⟨b, o, e, Nat.lt_of_lt_of_le hlt hb.size, fun k hk => ?_⟩
 obtain ⟨A1, n1, c1, ht⟩ := hc k hk
 exact ⟨A1, n1, c1, ht.below hlt hb⟩
structure Lnk where
 kind : Int
 vs : List Int
 ps : List Ply
def lnkAt (ls : List Lnk) (k : Nat) : Lnk := ls.getD k ⟨0, [], []⟩
structure LnkIs (w : World) (b o : Nat) (l : Lnk) (B : Option Addr) (m d : Nat) (C : Option Addr) (p q : Nat) : Prop where
 c0 : w.cell? ⟨b, o, none⟩ = some (.int .i64 l.kind)
 c1 : w.cell? ⟨b, o + 1, none⟩ = some (.slice B m d)
 c2 : w.cell? ⟨b, o + 2, none⟩ = some (.slice C p q)
 ri : RdI w B m l.vs
 rp : RdP w C p l.ps
 md : m ≤ d
 dm : d ≤ 9223372036854775807
 pq : p ≤ q
 qm : q ≤ 9223372036854775807
theorem LnkIs.below {w w' : World} {b o : Nat} {l : Lnk} {B : Option Addr} {m d : Nat} {C : Option Addr} {p q : Nat} (h : LnkIs w b o l B m d C p q) (hlt : b < w.heap.size) (hb : Below w.heap.size w w') : LnkIs w' b o l B m d C p q :=
 ⟨(hb.cell (p := ⟨b, o, none⟩) hlt).trans h.c0, (hb.cell (p := ⟨b, o + 1, none⟩) hlt).trans h.c1, (hb.cell (p := ⟨b, o + 2, none⟩) hlt).trans h.c2, h.ri.below hb, h.rp.below hb, h.md, h.dm, h.pq, h.qm⟩
structure RdL (w : World) (A : Option Addr) (n : Nat) (ls : List Lnk) : Prop where
 len : ls.length = n
 at_ : 0 < n → ∃ b o, A = some ⟨b, o, none⟩ ∧ b < w.heap.size ∧ ∀ k, k < n → ∃ B1 m1 d1 C1 p1 q1, LnkIs w b (o + k * 3) (lnkAt ls k) B1 m1 d1 C1 p1 q1
theorem RdL.below {w w' : World} {A : Option Addr} {n : Nat} {ls : List Lnk} (h : RdL w A n ls) (hb : Below w.heap.size w w') : RdL w' A n ls := by
 refine ⟨h.len, fun h0 => ?_⟩
 obtain ⟨b, o, e, hlt, hc⟩ := h.at_ h0
 refine ⟨b, o, e, Nat.lt_of_lt_of_le hlt hb.size, fun k hk => ?_⟩
 obtain ⟨B1, m1, d1, C1, p1, q1, ht⟩ := hc k hk
 exact ⟨B1, m1, d1, C1, p1, q1, ht.below hlt hb⟩
def polysOf (kind : Int) : Int := if kind = 0 then 1 else if kind = 3 then 2 else 3
def needsOf (kind : Int) : Int := if kind = 0 then 1 else if kind = 1 ∨ kind = 2 then 3 else if kind = 3 then 2 else -1
theorem needs_polys {kind : Int} (h0 : 0 ≤ kind) (h1 : kind < 4) : needsOf kind = polysOf kind := by
 unfold needsOf polysOf
 have : kind = 0 ∨ kind = 1 ∨ kind = 2 ∨ kind = 3 := by omega
 rcases this with rfl | rfl | rfl | rfl <;> decide
set_option maxHeartbeats 1000000 in
theorem polys_c (kind : Int) (w : World) : Calls Tryz.prog 82 #[.int .i64 kind] w fun e w' => e = .returned (.int .i64 (polysOf kind)) ∧ w' = w := by
 by_cases h0 : kind = 0
 · have H := Lib.hid (show polysOf kind = 1 by unfold polysOf; rw [if_pos h0])
   have t0 : (kind == 0) = true := by rw [h0]; rfl
   clear h0
   go_enter Tryz.func82, Tryz.ntmps82
   go_wp2
   go_ret
   exact ⟨by rw [H.out] <;> rfl, rfl⟩
 · have t0 : (kind == 0) = false := by rw [beq_eq_false_iff_ne]; exact h0
   by_cases h3 : kind = 3
   · have H := Lib.hid (show polysOf kind = 2 by unfold polysOf; rw [if_neg h0, if_pos h3])
     have t3 : (kind == 3) = true := by rw [h3]; rfl
     clear h0 h3
     go_enter Tryz.func82, Tryz.ntmps82
     go_wp2
     go_ret
     exact ⟨by rw [H.out] <;> rfl, rfl⟩
   · have H := Lib.hid (show polysOf kind = 3 by unfold polysOf; rw [if_neg h0, if_neg h3])
     have t3 : (kind == 3) = false := by rw [beq_eq_false_iff_ne]; exact h3
     clear h0 h3
     go_enter Tryz.func82, Tryz.ntmps82
     go_wp2
     go_ret
     exact ⟨by rw [H.out] <;> rfl, rfl⟩
set_option maxHeartbeats 1000000 in
theorem needs_c (kind : Int) (w : World) : Calls Tryz.prog 85 #[.int .i64 kind] w fun e w' => e = .returned (.int .i64 (needsOf kind)) ∧ w' = w := by
 by_cases h0 : kind = 0
 · subst h0
   go_enter Tryz.func85, Tryz.ntmps85
   go_wp2
   go_ret
   exact ⟨rfl, rfl⟩
 · have t0 : (kind == 0) = false := by rw [beq_eq_false_iff_ne]; exact h0
   by_cases h1 : kind = 1
   · subst h1
     clear t0 h0
     go_enter Tryz.func85, Tryz.ntmps85
     go_wp2
     go_ret
     exact ⟨rfl, rfl⟩
   · by_cases h2 : kind = 2
     · subst h2
       clear t0 h0 h1
       go_enter Tryz.func85, Tryz.ntmps85
       go_wp2
       go_ret
       exact ⟨rfl, rfl⟩
     · by_cases h3 : kind = 3
       · subst h3
         clear t0 h0 h1 h2
         go_enter Tryz.func85, Tryz.ntmps85
         go_wp2
         go_ret
         exact ⟨rfl, rfl⟩
       · have t1 : (kind == 1) = false := by rw [beq_eq_false_iff_ne]; exact h1
         have t2 : (kind == 2) = false := by rw [beq_eq_false_iff_ne]; exact h2
         have t3 : (kind == 3) = false := by rw [beq_eq_false_iff_ne]; exact h3
         have H := Lib.hid (show needsOf kind = -1 by unfold needsOf; rw [if_neg h0, if_neg (by omega), if_neg h3])
         clear h0 h1 h2 h3
         go_enter Tryz.func85, Tryz.ntmps85
         go_wp2
         go_ret
         exact ⟨by rw [H.out] <;> rfl, rfl⟩
theorem getD_ext {l l' : List Int} (h : l.length = l'.length) (h2 : ∀ i, i < l.length → l.getD i 0 = l'.getD i 0) : l = l' := by
 apply List.ext_getElem h
 intro i h1 h3
 have := h2 i h1
 simpa [List.getD_eq_getElem?_getD, List.getElem?_eq_getElem h1, List.getElem?_eq_getElem h3] using this
set_option maxHeartbeats 2000000 in
theorem sameExps_c (A : Option Addr) (m c : Nat) (B : Option Addr) (m' d : Nat) (ps qs : List Int) (w : World) (h : RdI w A m ps) (h' : RdI w B m' qs) (hm : m ≤ 9223372036854775807) :
 Calls Tryz.prog 60 #[.slice A m c, .slice B m' d] w (RetB (decide (ps = qs)) w) := by
 have HA := Lib.hid h
 have HB := Lib.hid h'
 have HL := Lib.hid (And.intro h.len h'.len)
 have HM := Lib.hid hm
 clear h h' hm
 by_cases hmm : m = m'
 case neg =>
  have t0 : ((m : Int) != (m' : Int)) = true := by rw [bne_iff_ne]; omega
  have HF := Lib.hid (show decide (ps = qs) = false from decide_eq_false fun e => hmm (by rw [← HL.out.1, ← HL.out.2, e]))
  clear hmm
  go_enter Tryz.func60, Tryz.ntmps60
  go_wp2
  go_ret
  exact ⟨by rw [HF.out] <;> rfl, Below.refl _ _⟩
 case pos =>
 subst hmm
 have t0 : ((m : Int) != (m : Int)) = false := bne_self_eq_false _
 go_enter Tryz.func60, Tryz.ntmps60
 go_wp2
 go_loopw [5] (fun v wr => ∃ k : Nat, v = .int .i64 (k : Int) ∧ k ≤ m ∧ Below w.heap.size w wr ∧ ∀ i, i < k → ps.getD i 0 = qs.getD i 0) (fun v _ => m - (intOf v).toNat)
 case atStart => exact ⟨0, rfl, Nat.zero_le _, Below.refl _ _, fun i hi => absurd hi (by omega)⟩
 case round =>
  obtain ⟨k, rfl, hk, hp, hall⟩ := hrel
  have hM := HM.out
  have P := Lib.hid hp
  have HV := Lib.hid hall
  replace HA := Lib.hid (HA.out.below hp)
  replace HB := Lib.hid (HB.out.below hp)
  clear hp hall t0
  by_cases hkm : k < m
  · have t1 : decide ((k : Int) < (m : Int)) = true := decide_eq_true (by omega)
    have t1n : decide (k < m) = true := decide_eq_true hkm
    have hkI : (k : Int) < (m : Int) := by omega
    obtain ⟨b1, o1, hA, _, hc1⟩ := HA.out.at_ (by omega)
    obtain ⟨b2, o2, hB, _, hc2⟩ := HB.out.at_ (by omega)
    have c1 := hc1 k hkm
    have c2 := hc2 k hkm
    obtain ⟨x, hx⟩ : ∃ x, x = ps.getD k 0 := ⟨_, rfl⟩
    obtain ⟨y, hy⟩ : ∃ y, y = qs.getD k 0 := ⟨_, rfl⟩
    rw [← hx] at c1
    rw [← hy] at c2
    have HE := Lib.hid (And.intro hx hy)
    subst hA hB
    clear hc1 hc2 hx hy
    go_upto_region 6 with (fail)
    go_quiet (fail)
    have hb := below_drewN (Below.refl wr.heap.size wr) nq
    replace P := Lib.hid (P.out.trans (hb.mono P.out.size))
    clear c1 c2 hb
    generalize wr.drewN nq = W1 at P ⊢
    by_cases hxy : x = y
    · have t2 : (x != y) = false := by rw [hxy]; exact bne_self_eq_false _
      have HQ := Lib.hid (show ps.getD k 0 = qs.getD k 0 by rw [← HE.out.1, ← HE.out.2]; exact hxy)
      clear hxy
      go_wp2
      go_roundw
      case measure => simp [intOf]; omega
      case rel => exact ⟨k + 1, by go_num, by omega, P.out, fun i hi => by
       by_cases e : i = k
       · subst e; exact HQ.out
       · exact HV.out i (by omega)⟩
    · have t2 : (x != y) = true := by rw [bne_iff_ne]; exact hxy
      have HF := Lib.hid (show decide (ps = qs) = false from decide_eq_false fun e => hxy (by rw [HE.out.1, HE.out.2, e]))
      clear hxy
      go_wp2
      go_ret
      exact ⟨by rw [HF.out] <;> rfl, P.out⟩
  · have t1 : decide ((k : Int) < (m : Int)) = false := decide_eq_false (by omega)
    have t1n : decide (k < m) = false := decide_eq_false hkm
    have HF := Lib.hid (show decide (ps = qs) = true from decide_eq_true (getD_ext (by rw [HL.out.1, HL.out.2]) fun i hi => HV.out i (by rw [HL.out.1] at hi; omega)))
    go_wp2
    go_ret
    exact ⟨by rw [HF.out] <;> rfl, P.out⟩
end Go.Proofs.YteabokkofoomkaaGreat
