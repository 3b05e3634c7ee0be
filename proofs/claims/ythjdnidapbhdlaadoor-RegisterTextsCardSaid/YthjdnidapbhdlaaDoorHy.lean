/- the machine's Parse of a text of a machine -/
import Derived.Test.YthjdnidapbhdlaaDoorHx
import Derived.Defers
import Derived.Recover
set_option maxRecDepth 100000
namespace Go.Proofs.YthjdnidapbhdlaaDoor
open Go.RowKit
theorem catch_idle (p q : Addr) (w : World) :
    CallsD Tryd.prog 69 #[.pointer (some p), .pointer (some q)] .returning w fun e u' w' => e = .returned (.tuple #[]) ∧ u' = .returning ∧ w' = w := by
  refine callsD_of_wpS Tryd.func69 rfl fun c₀ cs hu => ?_
  apply wpS_seq
  apply wpS_region
  simp [wpOpsS, go_sem, recoverD, hu, Tryd.ntmps69, Exit.thenS]
  refine wpS_cond (t := false) (by simp [Act.eval, Array.replicate]) ?_
  simp only [Bool.false_eq_true, if_false]
  refine wpS_of_wp (wp_skip ?_)
  cases c₀
  simp_all [bodyPostS, results, Tryd.results69]
/-- the machine variable -/
structure BxM (W : World) (g : Nat) (R : Int) (A : Option Addr) (n c : Nat) : Prop where
  lt : g < W.heap.size
  c0 : W.cell? ⟨g, 0, none⟩ = some (.int .i64 R)
  c1 : W.cell? ⟨g, 1, none⟩ = some (.slice A n c)
  fr : ∀ i, W.frozen? ⟨g, i, none⟩ = false
section
variable {W W' : World} {g : Nat} {R : Int} {A : Option Addr} {n c B : Nat}
theorem BxM.low (h : BxM W g R A n c) (hg : g < B) (hb : Below B W W') : BxM W' g R A n c :=
  ⟨Nat.lt_of_lt_of_le h.lt hb.size, (hb.cell (p := ⟨g, 0, none⟩) hg).trans h.c0, (hb.cell (p := ⟨g, 1, none⟩) hg).trans h.c1, fun i => (hb.frozen (p := ⟨g, i, none⟩) hg).trans (h.fr i)⟩
theorem BxM.next (h : BxM W g R A n c) (hb : Below W.heap.size W W') : BxM W' g R A n c := h.low h.lt hb
theorem BxM.new (W : World) (R : Int) (A : Option Addr) (n c : Nat) : BxM (W.alloc (.cells #[.int .i64 R, .slice A n c] 43)) W.heap.size R A n c :=
  ⟨by simp, by go_simp, by go_simp, fun i => by go_simp⟩
theorem BxM.put0 (h : BxM W g R A n c) (z : Int) : BxM (W.setCell ⟨g, 0, none⟩ (.int .i64 z)) g z A n c := by
  have c0 := h.c0
  have c1 := h.c1
  exact ⟨by rw [World.size_setCell]; exact h.lt, by go_simp, by go_simp, fun i => by simp only [World.frozen?_setCell]; exact h.fr i⟩
theorem BxM.put1 (h : BxM W g R A n c) (A' : Option Addr) (n' c' : Nat) : BxM (W.setCell ⟨g, 1, none⟩ (.slice A' n' c')) g R A' n' c' := by
  have c0 := h.c0
  have c1 := h.c1
  exact ⟨by rw [World.size_setCell]; exact h.lt, by go_simp, by go_simp, fun i => by simp only [World.frozen?_setCell]; exact h.fr i⟩
theorem BxM.off (h : BxM W g R A n c) {p : Addr} (hp : p.block ≠ g) (u : Value) : BxM (W.setCell p u) g R A n c :=
  have ne : ∀ i, p ≠ ⟨g, i, none⟩ := fun i e => hp (by rw [e])
  ⟨by rw [World.size_setCell]; exact h.lt, (World.cell?_setCell_other W p ⟨g, 0, none⟩ u (by first | exact ne 0 | exact fun he => ne 0 he.symm)).trans h.c0, (World.cell?_setCell_other W p ⟨g, 1, none⟩ u (by first | exact ne 1 | exact fun he => ne 1 he.symm)).trans h.c1, fun i => by simp only [World.frozen?_setCell]; exact h.fr i⟩
end
/-- an error's variable -/
structure BxE (W : World) (g : Nat) (z : Int) : Prop where
  lt : g < W.heap.size
  c0 : W.cell? ⟨g, 0, none⟩ = some (.int .i64 z)
  fr : ∀ i, W.frozen? ⟨g, i, none⟩ = false
section
variable {W W' : World} {g B : Nat} {z : Int}
theorem BxE.low (h : BxE W g z) (hg : g < B) (hb : Below B W W') : BxE W' g z :=
  ⟨Nat.lt_of_lt_of_le h.lt hb.size, (hb.cell (p := ⟨g, 0, none⟩) hg).trans h.c0, fun i => (hb.frozen (p := ⟨g, i, none⟩) hg).trans (h.fr i)⟩
theorem BxE.next (h : BxE W g z) (hb : Below W.heap.size W W') : BxE W' g z := h.low h.lt hb
theorem BxE.new (W : World) (z : Int) : BxE (W.alloc (.cells #[.int .i64 z] 26)) W.heap.size z :=
  ⟨by simp, by go_simp, fun i => by go_simp⟩
theorem BxE.off (h : BxE W g z) {p : Addr} (hp : p.block ≠ g) (u : Value) : BxE (W.setCell p u) g z :=
  ⟨by rw [World.size_setCell]; exact h.lt, (World.cell?_setCell_other W p ⟨g, 0, none⟩ u (by first | exact (fun e => hp (by rw [e])) | exact (fun e => hp (by rw [← e])))).trans h.c0, fun i => by simp only [World.frozen?_setCell]; exact h.fr i⟩
theorem BxE.put (h : BxE W g z) (z' : Int) : BxE (W.setCell ⟨g, 0, none⟩ (.int .i64 z')) g z' := by
  have c0 := h.c0
  exact ⟨by rw [World.size_setCell]; exact h.lt, by go_simp, fun i => by simp only [World.frozen?_setCell]; exact h.fr i⟩
end
/-- words in memory -/
structure WdP (W : World) (g : Nat) (l : List ByteArray) : Prop where
  lt : g < W.heap.size
  at_ : ∀ i, i < l.length → W.cell? ⟨g, i, none⟩ = some (.string (l.getD i ⟨#[]⟩))
theorem WdP.low {W W' : World} {g B : Nat} {l : List ByteArray} (h : WdP W g l) (hg : g < B) (hb : Below B W W') : WdP W' g l :=
  ⟨Nat.lt_of_lt_of_le h.lt hb.size, fun i hi => (hb.cell (p := ⟨g, i, none⟩) hg).trans (h.at_ i hi)⟩
theorem WdP.next {W W' : World} {g : Nat} {l : List ByteArray} (h : WdP W g l) (hb : Below W.heap.size W W') : WdP W' g l := h.low h.lt hb
theorem WdP.off {W : World} {g : Nat} {l : List ByteArray} (h : WdP W g l) {p : Addr} (hp : p.block ≠ g) (u : Value) : WdP (W.setCell p u) g l :=
  ⟨by rw [World.size_setCell]; exact h.lt, fun i hi => (World.cell?_setCell_other W p ⟨g, i, none⟩ u (by first | exact (fun e => hp (by rw [e])) | exact (fun e => hp (by rw [← e])))).trans (h.at_ i hi)⟩
theorem WdP.new (W : World) (l : List ByteArray) (t : TypeId) : WdP (W.alloc (.cells (l.map Value.string).toArray t)) W.heap.size l := by
  refine ⟨by simp, fun i hi => ?_⟩
  go_simp
/-- a word that is read as an instruction -/
def InsW (m : Int) (s : ByteArray) (x : Ins) : Prop := ∀ W : World, 1 < W.heap.size → W.cell? ⟨1, 0, none⟩ = some (.int .i64 m) →
  Calls Tryd.prog 72 #[.string s] W fun e w' => e = .returned (aggI x) ∧ Below W.heap.size W w'
theorem OwC.far {W : World} {B : Nat} {A : Option Addr} {j c : Nat} {cs : List Ins} (h : OwC W B A j c cs) {p : Addr} (hp : p.block < B) (u : Value) : OwC (W.setCell p u) B A j c cs := by
  refine ⟨h.own.kept (row := some p.block) ⟨rfl, rfl, rfl, by rw [World.size_setCell]; exact Nat.le_refl _, fun k _ hne => Below.heap_setCell W p u k (fun e => hne (by rw [e]))⟩ ?_, h.len⟩
  rcases A with _ | a
  · exact .inl rfl
  · refine .inr (fun e => ?_)
    injection e with e
    have := h.cap.2.2 a rfl
    omega
structure SzP (W : World) (B : Nat) : Prop where
  le : B ≤ W.heap.size
theorem SzP.next {W W' : World} {B : Nat} (h : SzP W B) (hb : Below W.heap.size W W') : SzP W' B := ⟨Nat.le_trans h.le hb.size⟩
/-- a region that does not panic -/
def noPanic (Q : Exit → Act → World → Prop) : Exit → Act → World → Prop
  | .panic _, _, _ => False
  | e, a, w => Q e a w
theorem wp_noPanic {P : Program} {c : Code} {Q : Exit → Act → World → Prop} {a : Act} {w : World} (h : c.wp P (noPanic Q) a w) : c.wp P Q a w :=
  wp_mono h (fun e a w hq => by cases e <;> first | exact hq | exact hq.elim)
theorem noPanic_normal {Q : Exit → Act → World → Prop} {a : Act} {w : World} (h : Q .normal a w) : noPanic Q .normal a w := h
set_option maxHeartbeats 4000000 in
theorem Parse_y (m : Int) (s : ByteArray) (R : Nat) (ws : List ByteArray) (cs : List Ins) (w : World) (hm : w.cell? ⟨1, 0, none⟩ = some (.int .i64 m)) (hw : 1 < w.heap.size) (hs : s.size < 4294967281)
    (hsp : Lib.splitB ⟨#[32]⟩ 0 (Lib.countB s ⟨#[32]⟩) s = tx (Lib.decDigits R) :: ws) (hR : R < 100) (hlen : ws.length = cs.length) (hin : ∀ i, i < cs.length → InsW m (ws.getD i ⟨#[]⟩) (insAt cs i)) (hv : validM R cs = true) :
    Calls Tryd.prog 30 #[.string s] w fun e w' => ∃ A c, e = .returned (.tuple #[.agg #[.int .i64 R, .slice A cs.length c], .int .i64 0]) ∧ RdC w' A cs.length cs ∧ cs.length ≤ c ∧ c ≤ 9223372036854775807 ∧ Below w.heap.size w w' ∧ (∀ a, A = some a → w.heap.size ≤ a.block) := by
  have hmf : ∀ (fn : Fn) (first cap : Array Value) (w : World), (Instr.makeFunc fn first cap).run Tryd.prog w = .ok (.func fn first cap) w := fun _ _ _ _ => rfl
  have hsplit := Tryd.strings_Split s ⟨#[32]⟩ m
  have hall := Lib.splitB_all ⟨#[32]⟩ (by decide) 0 (Lib.countB s ⟨#[32]⟩) s rfl
  rw [hsp, List.length_cons, hlen] at hall
  rw [hsp, ← hall] at hsplit
  have HSP := Lib.hid hsplit
  have HNU := Lib.hid (number_y R hR)
  have HIN := Lib.hid hin
  have HV := Lib.hid hv
  have HLE := Lib.hid hlen
  have HM := Lib.hid hm
  have HW := Lib.hid hw
  have hn15 : cs.length ≤ 15 := by
    unfold validM at hv
    simp only [Bool.and_eq_true, decide_eq_true_eq] at hv
    exact hv.1.2.2.2
  have HN15 := Lib.hid hn15
  have HNE := Lib.hid (show ¬ cs = [] from fun e => by rw [e] at hv; simp [validM] at hv)
  clear hm hw hin hv hlen hsplit hall hsp hn15 hR
  go_enter_defers Tryd.func30, Tryd.ntmps30
  go_wp2_with fail
  have P := Lib.hid ((bel_alloc w (.cells #[.int .i64 0, .slice none 0 0] 43)).trans ((bel_alloc (w.alloc (.cells #[.int .i64 0, .slice none 0 0] 43)) (.cells #[.int .i64 0] 26)).mono (bel_alloc w (.cells #[.int .i64 0, .slice none 0 0] 43)).size))
  have X := Lib.hid ((BxM.new w 0 none 0 0).next (bel_alloc (w.alloc (.cells #[.int .i64 0, .slice none 0 0] 43)) (.cells #[.int .i64 0] 26)))
  have XE := Lib.hid (BxE.new (w.alloc (.cells #[.int .i64 0, .slice none 0 0] 43)) 0)
  rw [World.size_alloc] at XE
  generalize (w.alloc (.cells #[.int .i64 0, .slice none 0 0] 43)).alloc (.cells #[.int .i64 0] 26) = W0 at P X XE ⊢
  obtain ⟨gm, hgm⟩ : ∃ g, g = w.heap.size := ⟨_, rfl⟩
  rw [← hgm] at X XE ⊢
  have HGM := Lib.hid (Nat.le_of_eq hgm.symm)
  clear hgm
  have HB0 := Lib.hid (show gm + 1 < W0.heap.size from XE.out.lt)
  have hm := P.out.cell (p := ⟨1, 0, none⟩) HW.out
  rw [HM.out] at hm
  refine (HSP.out W0 hs hm (by decide)).mono ?_
  rintro e w1 ⟨rfl, rfl⟩
  have WD := Lib.hid (WdP.new W0 (tx (Lib.decDigits R) :: ws) 9)
  have hb := bel_alloc W0 (.cells ((tx (Lib.decDigits R) :: ws).map Value.string).toArray 9)
  replace P := Lib.hid (P.out.trans (hb.mono P.out.size))
  replace X := Lib.hid (X.out.next hb)
  replace XE := Lib.hid (XE.out.next hb)
  clear hb hm HSP hs
  generalize W0.alloc (.cells ((tx (Lib.decDigits R) :: ws).map Value.string).toArray 9) = W1 at P X XE WD ⊢
  obtain ⟨gs, hgs⟩ : ∃ g, g = W0.heap.size := ⟨_, rfl⟩
  rw [← hgs] at WD HB0 ⊢
  clear hgs
  have d0 := WD.out.at_ 0 (by simp)
  have x0 := X.out.c0
  have f0 := X.out.fr 0
  go_wp2_with fail
  refine (HNU.out _).mono ?_
  rintro e w2 ⟨rfl, hb⟩
  replace P := Lib.hid (P.out.trans (hb.mono P.out.size))
  replace X := Lib.hid (X.out.next hb)
  replace XE := Lib.hid (XE.out.next hb)
  replace WD := Lib.hid (WD.out.next hb)
  clear hb x0 f0 d0 W1 HNU
  have x0 := X.out.c0
  have f0 := X.out.fr 0
  go_upto_region 4 with (fail)
  clear x0 f0
  have hgs2 : gm ≠ gs := by have := HB0.out; omega
  replace P := Lib.hid (bel_set P.out (p := ⟨gm, 0, none⟩) HGM.out (.int .i64 (R : Int)))
  replace X := Lib.hid (X.out.put0 R)
  replace XE := Lib.hid (XE.out.off (p := ⟨gm, 0, none⟩) (show gm ≠ gm + 1 by omega) (.int .i64 (R : Int)))
  replace WD := Lib.hid (WD.out.off (p := ⟨gm, 0, none⟩) hgs2 (.int .i64 (R : Int)))
  generalize w2.setCell ⟨gm, 0, none⟩ (.int .i64 (R : Int)) = W3 at P X XE WD ⊢
  have HN2 := Lib.hid hgs2
  clear hgs2
  obtain ⟨B, hB⟩ : ∃ B, B = W3.heap.size := ⟨_, rfl⟩
  have HBS := Lib.hid (show gm < B ∧ gm + 1 < B ∧ gs < B ∧ w.heap.size ≤ B ∧ B ≤ W3.heap.size by have h1 := XE.out.lt; have h2 := WD.out.lt; have h3 := P.out.size; omega)
  have OC := Lib.hid (OwC.nil W3 B)
  clear hB
  have hne := HNE.out
  go_wp2
  clear hne
  go_loopw [18] (fun v wr => ∃ (k c : Nat) (A : Option Addr), v = .int .i64 (k : Int) ∧ k ≤ cs.length ∧ BxM wr gm R A k c ∧ OwC wr B A k c (cs.take k) ∧ BxE wr (gm + 1) 0 ∧ WdP wr gs (tx (Lib.decDigits R) :: ws) ∧ Below w.heap.size w wr ∧ B ≤ wr.heap.size) (fun v _ => cs.length - (intOf v).toNat)
  case atStart => exact ⟨0, 0, none, rfl, Nat.zero_le _, X.out, OC.out, XE.out, WD.out, P.out, HBS.out.2.2.2.2⟩
  case round =>
    obtain ⟨k, c, A, rfl, hk, hx, hoc, hxe, hwd, hp, hB⟩ := hrel
    clear X OC XE WD P
    have X := Lib.hid hx
    have OC := Lib.hid hoc
    have XE := Lib.hid hxe
    have WD := Lib.hid hwd
    have P := Lib.hid hp
    have HSZ := Lib.hid (SzP.mk hB)
    clear hx hoc hxe hwd hp hB
    rcases Nat.lt_or_ge k cs.length with hkn | hkn
    · have t1 : decide ((k : Int) < (cs.length : Int)) = true := decide_eq_true (by omega)
      have hkI : (k : Int) < (cs.length : Int) := by omega
      have dk := WD.out.at_ (k + 1) (by simp only [List.length_cons, HLE.out]; omega)
      rw [List.getD_cons_succ, Nat.add_comm k 1] at dk
      have HI := Lib.hid (HIN.out k hkn)
      have HX := Lib.hid (show (cs.take k) ++ [insAt cs k] = cs.take (k + 1) by
        rw [List.take_add_one]
        congr 1
        unfold insAt
        simp [List.getD_eq_getElem?_getD, List.getElem?_eq_getElem hkn])
      generalize ws.getD k ⟨#[]⟩ = wd at dk HI ⊢
      generalize insAt cs k = x at HI HX ⊢
      have x1 := X.out.c1
      have t2 : ((k : Int) == 15) = false := by have := HN15.out; simp; omega
      go_upto_region 9 with (fail)
      clear dk x1 t1 t2 hkI
      have x1 := X.out.c1
      refine wp_noPanic ?_
      refine wp_region_tail (S := (fun w' => w'.cell? ⟨gm, 1, none⟩ = some (.slice A k c))) 6 (by kernel_rfl) (by kernel_rfl) (by intro c a d v w h; exact h) (cell_dr x1) (fun QT hT hP hHeld => ?_)
      simp only [List.extract_toArray, List.extract_eq_take_drop, List.drop_zero, Nat.sub_zero, List.take_succ_cons, List.take_zero]
      have HT := Lib.hid hT
      clear hT
      replace X := Lib.hid (X.out.next (Below.refl wr.heap.size wr).drew)
      replace XE := Lib.hid (XE.out.next (Below.refl wr.heap.size wr).drew)
      replace WD := Lib.hid (WD.out.next (Below.refl wr.heap.size wr).drew)
      replace P := Lib.hid (P.out.trans ((Below.refl wr.heap.size wr).drew.mono P.out.size))
      replace OC := Lib.hid (OC.out.keep (Below.refl wr.heap.size wr).drew)
      replace HSZ := Lib.hid (HSZ.out.next (Below.refl wr.heap.size wr).drew)
      generalize wr.drew = D1 at X XE WD P OC HSZ hHeld ⊢
      refine take_on (i := 0) (d := (some 28)) (v := ?v1) rfl rfl (by kernel_rfl) (by kernel_rfl) (by kernel_rfl) (fun c a w h => hP c a _ _ w h) (by rfl) ?h1 (by assumption) ?r1
      case h1 => intro w hSw; have h0 := hSw; go_simp; rfl
      simp only [Act.put, List.setIfInBounds_toArray, List.set_cons_zero, List.set_cons_succ]
      refine take_on (i := 1) (d := (some 29)) (v := ?v2) rfl rfl (by kernel_rfl) (by kernel_rfl) (by kernel_rfl) (fun c a w h => hP c a _ _ w h) (by rfl) ?h2 (by assumption) ?r2
      case h2 => intro w hSw; have h0 := hSw; go_simp; rfl
      simp only [Act.put, List.setIfInBounds_toArray, List.set_cons_zero, List.set_cons_succ]
      refine take_on (i := 2) (d := (some 30)) (v := ?v3) rfl rfl (by kernel_rfl) (by kernel_rfl) (by kernel_rfl) (fun c a w h => hP c a _ _ w h) (by rfl) ?h3 (by assumption) ?r3
      case h3 => intro w hSw; have h0 := hSw; go_simp; rfl
      simp only [Act.put, List.setIfInBounds_toArray, List.set_cons_zero, List.set_cons_succ]
      refine wpAnyH_ready (rs := [3]) (by kernel_rfl) (by simp) ?_
      refine AllReadyH.cons rfl (fun K hK => ?_) AllReadyH.nil
      go_simp
      have hm := P.out.cell (p := ⟨1, 0, none⟩) HW.out
      rw [HM.out] at hm
      refine (HI.out D1 (Nat.lt_of_lt_of_le HW.out P.out.size) hm).mono ?_
      rintro e v2 ⟨rfl, hb⟩
      replace X := Lib.hid (X.out.next hb)
      replace XE := Lib.hid (XE.out.next hb)
      replace WD := Lib.hid (WD.out.next hb)
      replace P := Lib.hid (P.out.trans (hb.mono P.out.size))
      replace OC := Lib.hid (OC.out.keep hb)
      replace HSZ := Lib.hid (HSZ.out.next hb)
      have x1 := X.out.c1
      clear hb hm hHeld
      refine hK.out _ _ (x1) (fun hHeld => ?_)
      clear hK K
      refine wpAnyH_ready (rs := [4]) (by kernel_rfl) (by simp) ?_
      refine AllReadyH.cons rfl (fun K hK => ?_) AllReadyH.nil
      go_simp
      have hb := bel_alloc v2 (.cells #[.int .i64 x.op, .int .i64 x.reg, .int .i64 x.nx, .int .i64 x.zr] 70)
      have XB := Lib.hid (BxI.new v2 x)
      replace X := Lib.hid (X.out.next hb)
      replace XE := Lib.hid (XE.out.next hb)
      replace WD := Lib.hid (WD.out.next hb)
      replace P := Lib.hid (P.out.trans (hb.mono P.out.size))
      replace OC := Lib.hid (OC.out.keep hb)
      replace HSZ := Lib.hid (HSZ.out.next hb)
      clear hb hHeld x1
      generalize v2.alloc (.cells #[.int .i64 x.op, .int .i64 x.reg, .int .i64 x.nx, .int .i64 x.zr] 70) = Y3 at X XE WD P OC HSZ XB ⊢
      generalize v2.heap.size = gb at XB ⊢
      have x1 := X.out.c1
      refine hK.out _ _ (x1) (fun hHeld => ?_)
      clear hK K
      refine wpAnyH_ready (rs := [5]) (by kernel_rfl) (by simp) ?_
      refine AllReadyH.cons rfl (fun K hK => ?_) AllReadyH.nil
      refine step_app_ins rfl (.tmp 29) (.tmp 32) rfl B A k c (cs.take k) x gb 1 rfl rfl OC.out HSZ.out.le XB.out (by have := HN15.out; omega) ?_
      intro g' c' w9 h1 hb
      rw [HX.out] at h1
      have OC2 := Lib.hid h1
      have hsz : B ≤ w9.heap.size := Nat.le_trans HSZ.out.le hb.size
      have X2 := Lib.hid (X.out.low HBS.out.1 hb)
      have XE2 := Lib.hid (XE.out.low HBS.out.2.1 hb)
      have WD2 := Lib.hid (WD.out.low HBS.out.2.2.1 hb)
      have P2 := Lib.hid (P.out.trans (hb.mono HBS.out.2.2.2.1))
      clear x1 h1 hHeld XB X XE WD P OC HI HX HSZ
      have HSZ := Lib.hid hsz
      clear hb hsz
      have x1 := X2.out.c1
      refine hK.out _ _ (x1) (fun hHeld => ?_)
      clear hK K
      clear hHeld
      refine wpAnyH_done (by kernel_rfl) ?_ _
      refine HT.out _ _ ?_
      clear HT hP QT
      have f1 := X2.out.fr 1
      refine wpList_step fun K hK => ?_
      go_simp
      refine hK _ _ ?_
      clear hK K
      refine wpList_step fun K hK => ?_
      go_simp
      refine hK _ _ ?_
      clear hK K
      refine wpList_nil ?_
      refine noPanic_normal ?_
      clear f1 x1
      have h1 : gm ≠ gm + 1 := by omega
      have h2 := HN2.out
      have hn15 := HN15.out
      go_wp2
      go_roundw
      case measure => simp [intOf]; omega
      case rel => exact ⟨k + 1, c', some ⟨g', 0, none⟩, by go_num, by omega, X2.out.put1 _ _ _, OC2.out.far (p := ⟨gm, 1, none⟩) HBS.out.1 _, XE2.out.off (p := ⟨gm, 1, none⟩) h1 _, WD2.out.off (p := ⟨gm, 1, none⟩) h2 _, bel_set P2.out (p := ⟨gm, 1, none⟩) HGM.out _, by rw [World.size_setCell]; exact HSZ.out⟩
    · have e : k = cs.length := by omega
      have t1 : decide ((k : Int) < (cs.length : Int)) = false := decide_eq_false (by omega)
      subst e
      have hoc := OC.out
      rw [List.take_length] at hoc
      clear OC WD HIN HLE
      have OC := Lib.hid hoc
      clear hoc
      have x0 := X.out.c0
      have x1 := X.out.c1
      go_wp2_with fail
      refine (Valid_c R A _ c cs wr OC.out.rd).mono ?_
      rintro e w8 ⟨rfl, hb⟩
      rw [HV.out]
      replace P := Lib.hid (P.out.trans (hb.mono P.out.size))
      replace X := Lib.hid (X.out.next hb)
      replace XE := Lib.hid (XE.out.next hb)
      replace OC := Lib.hid (OC.out.keep hb)
      clear hb x0 x1 HSZ
      have x0 := X.out.c0
      have x1 := X.out.c1
      have f0 := X.out.fr 0
      have f1 := X.out.fr 1
      have e0 := XE.out.c0
      have g0 := XE.out.fr 0
      go_wp2
      clear x0 x1 f0 f1 e0 g0
      have h1 : gm ≠ gm + 1 := by omega
      have Y := (((X.out.put0 R).put1 A cs.length c).off (p := ⟨gm + 1, 0, none⟩) (show gm + 1 ≠ gm by omega) (.int .i64 0))
      have y0 := Y.c0
      have y1 := Y.c1
      have Q := (((XE.out.off (p := ⟨gm, 0, none⟩) h1 (.int .i64 R)).off (p := ⟨gm, 1, none⟩) h1 (.slice A cs.length c))).put 0
      have y2 := Q.c0
      refine leaves_cons (f := 69) (args := #[.pointer (some ⟨gm, 0, none⟩), .pointer (some ⟨gm + 1, 0, none⟩)]) (by simp) (by simp [go_sem]) ?_
      refine (catch_idle ⟨gm, 0, none⟩ ⟨gm + 1, 0, none⟩ _).mono ?_
      rintro e u' w9 ⟨rfl, rfl, rfl⟩
      refine (show Leaves _ _ _ _ [] _ _ from ?_)
      simp only [Leaves, settle, results, Tryd.results30]
      simp [go_sem, y0, y1, y2]
      refine ⟨A, c, ⟨rfl, rfl⟩, ((OC.out.far (p := ⟨gm, 0, none⟩) HBS.out.1 _).far (p := ⟨gm, 1, none⟩) HBS.out.1 _).far (p := ⟨gm + 1, 0, none⟩) HBS.out.2.1 _ |>.rd, OC.out.cap.1, OC.out.cap.2.1, bel_set (bel_set (bel_set P.out (p := ⟨gm, 0, none⟩) HGM.out _) (p := ⟨gm, 1, none⟩) HGM.out _) (p := ⟨gm + 1, 0, none⟩) (Nat.le_succ_of_le HGM.out) _, fun a ha => Nat.le_trans HBS.out.2.2.2.1 (OC.out.cap.2.2 a ha)⟩
end Go.Proofs.YthjdnidapbhdlaaDoor
