/- the machine's Text; both Parses; the law RegisterTexts -/
import Derived.Test.YthjdnidapbhdlaaDoorIt
import Derived.Lib.Join
import Derived.Test.YthjdnidapbhdlaaDoorHr
set_option maxRecDepth 100000
namespace Go.Proofs.YthjdnidapbhdlaaDoor
open Go.RowKit Go.Deep
theorem infoS : (Tryd.prog.info? 9).map (fun i => (i.zero, i.size, i.bytes)) = some (some (.string ⟨#[]⟩), 1, 16) := by kernel_rfl
/-- a list of strings of one's own, from block B on -/
structure OwS (W : World) (B : Nat) (A : Option Addr) (j c : Nat) (l : List ByteArray) : Prop where
  own : W.ownsRow B 9 1 (.slice A j c) j (l.map Value.string)
  len : l.length = j
theorem OwS.keep {W W' : World} {B : Nat} {A : Option Addr} {j c : Nat} {l : List ByteArray} (h : OwS W B A j c l) (hb : Below W.heap.size W W') : OwS W' B A j c l := by
  refine ⟨h.own.kept (row := none) ⟨hb.os, hb.tape, hb.output, hb.size, fun k hk _ => hb.block k hk⟩ ?_, h.len⟩
  rcases hv : (Value.slice A j c).ownBlock with _ | b
  · exact .inl rfl
  · exact .inr (by simp)
theorem OwS.one (w : World) (s : ByteArray) (B : Nat) (hB : B ≤ w.heap.size) : OwS (w.alloc (.cells #[.string s] 9)) B (some ⟨w.heap.size, 0, none⟩) 1 1 [s] :=
  ⟨⟨by simp, .inr ⟨w.heap.size, 1, #[.string s], rfl, hB, Go.heap_alloc_new w _, Nat.le_refl _, by simp [maxLen], by simp, by simp⟩⟩, rfl⟩
theorem OwS.cap {W : World} {B : Nat} {A : Option Addr} {j c : Nat} {l : List ByteArray} (h : OwS W B A j c l) : j ≤ c ∧ c ≤ 9223372036854775807 ∧ ∀ a, A = some a → B ≤ a.block := by
  rcases h.own.2 with ⟨e, e2⟩ | ⟨g, cap, cur, e, h1, _, h2, h3, _⟩
  · injection e with e1 e3 e4
    subst e1 e4 e2
    exact ⟨Nat.le_refl _, by omega, fun a h => by cases h⟩
  · injection e with e1 e3 e4
    subst e1 e4
    exact ⟨h2, by simpa [maxLen] using h3, fun a h => by injection h with h; subst h; exact h1⟩
theorem OwS.rd {W : World} {B : Nat} {A : Option Addr} {j c : Nat} {l : List ByteArray} (h : OwS W B A j c l) (h0 : 0 < j) : ∃ g, A = some ⟨g, 0, none⟩ ∧ g < W.heap.size ∧ ∀ k x, l[k]? = some x → W.cell? ⟨g, 0 + k, none⟩ = some (.string x) := by
  rcases h.own.2 with ⟨_, e2⟩ | ⟨g, cap, cur, e, _, hg, _⟩
  · omega
  · injection e with e1 e3 e4
    subst e1 e4
    have hlt : g < W.heap.size := by
      rcases Nat.lt_or_ge g W.heap.size with h1 | h1
      · exact h1
      · rw [Array.getElem?_eq_none h1] at hg; cases hg
    have hc := h.own.cells (g := g) rfl
    refine ⟨g, rfl, hlt, fun k x hk => ?_⟩
    have z : (⟨g, 0, none⟩ : Addr).add k = ⟨g, k, none⟩ := by
      rcases Nat.eq_zero_or_pos k with rfl | hq
      · rfl
      · unfold Addr.add; simp; omega
    rw [Nat.zero_add, ← z]
    exact hc _ _ (by simp [hk])
theorem run_app_str (w : World) (ty : TypeId) (B : Nat) (A : Option Addr) (j c : Nat) (l : List ByteArray) (x : ByteArray) (hown : OwS w B A j c l) (hB : B ≤ w.heap.size) (g n : Nat) (hx : w.cell? ⟨g, 0, none⟩ = some (.string x)) (hj : j ≤ 1000000) (h0 : 0 < j) :
    ∃ g' c' w', (Builtin.append_ #[115, 115] ty #[.slice A j c, .slice (some ⟨g, 0, none⟩) 1 n]).run Tryd.prog w = .ok (.slice (some ⟨g', 0, none⟩) (j + 1) c') w' ∧ OwS w' B (some ⟨g', 0, none⟩) (j + 1) c' (l ++ [x]) ∧ Below B w w' := by
  obtain ⟨i, hi, hz, hs, hb⟩ := info_parts infoS
  have hBg := hown.cap.2.2
  obtain ⟨v', w', hrun, hown', hgr, hnil, hat⟩ := run_append_own_at (P := Tryd.prog) w B 115 ty 9 i (.string ⟨#[]⟩) 1 16 Tryd.underlying115 hi hz hs hb rfl (by omega) (.slice A j c) j (l.map Value.string) hown.own ⟨g, 0, none⟩ 1 n [.string x] rfl
    (fun j u hu => by
      match j, hu with
      | 0, hu => injection hu with hu; subst hu; exact hx)
    (fun u hu => by simp at hu; subst hu; rfl) (by simp only [maxLen]; omega) (by omega) hB
  rw [← List.map_singleton (f := Value.string), ← List.map_append] at hown'
  rcases hown'.2 with ⟨rfl, h1⟩ | ⟨g2, cap, cur, rfl, hg1, hh, hcap, hcap2, hcur, htake⟩
  · omega
  · refine ⟨g2, cap, w', hrun, ⟨hown', by simp [hown.len]⟩, ⟨hgr.os, hgr.tape, hgr.output, hgr.size, fun q hq => hgr.block q (by omega) ?_⟩⟩
    intro e
    rcases A with _ | a
    · cases e
    · injection e with e
      have := hBg a rfl
      omega
theorem wpList_app_str {w : World} {ops : Array Oper} {rest : List Oper} {o : Oper} {a : Act} {Q : Exit → Act → World → Prop} (hgd : o.guard = none) (s y : Operand)
    (ho : o.op = .call { callee := .builtin .append, args := #[s, y], argTypes := #[115, 115] })
    (B : Nat) (A : Option Addr) (j c : Nat) (l : List ByteArray) (x : ByteArray) (g n : Nat) (hs : a.eval s = .slice A j c) (hy : a.eval y = .slice (some ⟨g, 0, none⟩) 1 n) (hown : OwS w B A j c l) (hB : B ≤ w.heap.size) (hx : w.cell? ⟨g, 0, none⟩ = some (.string x)) (hj : j ≤ 1000000) (h0 : 0 < j)
    (h : ∀ g' c' w', OwS w' B (some ⟨g', 0, none⟩) (j + 1) c' (l ++ [x]) → Below B w w' → wpList Tryd.prog ops Q rest (a.put o.dst (.slice (some ⟨g', 0, none⟩) (j + 1) c')) w') : wpList Tryd.prog ops Q (o :: rest) a w := by
  refine wpList_plain hgd fun K hK => ?_
  obtain ⟨g', c', w', hrun, h1, h2⟩ := run_app_str w o.type B A j c l x hown hB g n hx hj h0
  unfold Oper.wp execOp
  simp only [ho, resolve, invoke, builtin, Sem.run_bind, Sem.run_pure, Result.andThen_ok, List.map_toArray, List.map_cons, List.map_nil, hs, hy, hrun]
  exact hK _ _ (h g' c' w' h1 h2)
theorem TxE.low {w W W' : World} {g : Nat} {R : Int} {A : Option Addr} {n c : Nat} {cs : List Ins} (h : TxE w W g R A n c cs) (h0 : RdC w A n cs) {B : Nat} (hg : g < B) (hB : w.heap.size ≤ B) (hb : Below B W W') : TxE w W' g R A n c cs := by
  have hb2 := h.below.trans (hb.mono hB)
  have c0 := h.bm
  exact ⟨hb2, ⟨Nat.lt_of_lt_of_le c0.lt hb.size, (hb.cell (p := ⟨g, 0, none⟩) hg).trans c0.c0, (hb.cell (p := ⟨g, 1, none⟩) hg).trans c0.c1⟩, h0.below hb2⟩
/-- the words of a machine -/
def wordsM (R : Nat) (cs : List Ins) : List ByteArray := tx (Lib.decDigits R) :: cs.map (fun x => tx (wordT x))
theorem join_tail : ∀ l : List (List UInt8), Lib.joinTail [32] l = joinF l
  | [] => rfl
  | x :: t => by
    have := join_tail t
    unfold Lib.joinTail at this ⊢
    simp only [List.map_cons, List.flatten_cons, joinF, this]
    rfl
theorem join_words {R : Nat} (hR : R < 100) (cs : List Ins) : (Lib.join ((wordsM R cs).map (·.data.toList)) [32]) = textM (R : Int) cs := by
  have e : (wordsM R cs).map (·.data.toList) = Lib.decDigits R :: cs.map wordT := by simp [wordsM, Function.comp_def]
  rw [e, Lib.join_cons, join_tail]
  unfold textM
  rw [itoa_nat hR, wordsT_joinF]
theorem text_len {R : Int} {cs : List Ins} (h : validM R cs = true) : (textM R cs).length ≤ 1000 := by
  obtain ⟨r0, r1, _, hl, hc⟩ := vm_parts h
  obtain ⟨r, rfl⟩ := Int.eq_ofNat_of_zero_le (show 0 ≤ R by omega)
  have key : ∀ l : List Ins, (∀ x, x ∈ l → Canon x) → (wordsT l).length ≤ 64 * l.length := by
    intro l
    induction l with
    | nil => intro _; simp [wordsT]
    | cons x t ih =>
      intro hx
      have h1 := ih (fun y hy => hx y (by simp [hy]))
      have h2 : (wordT x).length ≤ 63 := by
        rcases word_cases (hx x (by simp)) with e | ⟨b, r, n, hr, hn, ⟨_, _, e⟩ | ⟨z, hz, _, e⟩⟩
        · rw [e]; simp
        · have a1 := (atoi_dd r hr).2
          have a2 := (atoi_dd n hn).2
          rw [e]; simp only [List.length_cons, List.length_append]; omega
        · have a1 := (atoi_dd r hr).2
          have a2 := (atoi_dd n hn).2
          have a3 := (atoi_dd z hz).2
          rw [e]; simp only [List.length_cons, List.length_append]; omega
      simp only [wordsT, List.length_cons, List.length_append]; omega
  have h2 := key cs hc
  have h3 := (atoi_dd r (by omega)).2
  unfold textM
  rw [itoa_nat (by omega), List.length_append]
  omega
def TxtP (t : ByteArray) (err : Int) (w : World) (e : Ending) (w' : World) : Prop := e = .returned (.tuple #[.string t, .int .i64 err]) ∧ Below w.heap.size w w'
set_option maxHeartbeats 2000000 in
theorem Text_bad (R : Int) (A : Option Addr) (n c : Nat) (cs : List Ins) (w : World) (h : RdC w A n cs) (hv : validM R cs = false) : Calls Tryd.prog 29 #[.agg #[.int .i64 R, .slice A n c]] w (TxtP ⟨#[]⟩ 1 w) := by
  have E := Lib.hid (TxE.start R A n c cs w h)
  have HV := Lib.hid hv
  clear h hv
  go_enter Tryd.func29, Tryd.ntmps29
  go_upto_region 1 with (fail)
  generalize w.alloc (.cells #[.int .i64 R, .slice A n c] 43) = W0 at E ⊢
  generalize w.heap.size = g at E ⊢
  have m0 := E.out.bm.c0
  have m1 := E.out.bm.c1
  go_wp2_with fail
  refine (Valid_c R A n c cs W0 E.out.rc).mono ?_
  rw [HV.out]
  rintro e w1 ⟨rfl, hb⟩
  replace E := Lib.hid (E.out.next hb)
  clear hb m0 m1
  go_wp2
  go_ret2
  exact ⟨rfl, E.out.below⟩
set_option maxHeartbeats 4000000 in
theorem Text_ok (R : Int) (A : Option Addr) (n c : Nat) (cs : List Ins) (w : World) (h : RdC w A n cs) (hv : validM R cs = true) : Calls Tryd.prog 29 #[.agg #[.int .i64 R, .slice A n c]] w (TxtP (tx (textM R cs)) 0 w) := by
  have HTL := Lib.hid (text_len hv)
  obtain ⟨r0, r1, hn0, hn15, hcan⟩ := vm_parts hv
  obtain ⟨r, rfl⟩ := Int.eq_ofNat_of_zero_le (show 0 ≤ R by omega)
  have hr : r < 100 := by omega
  have HJW := Lib.hid (join_words hr cs)
  have HI := Lib.hid (Tryd.strconv_Itoa_small r hr)
  have E := Lib.hid (TxE.start (r : Int) A n c cs w h)
  have HV := Lib.hid hv
  have HC := Lib.hid hcan
  have HL := Lib.hid (show cs.length = n ∧ 1 ≤ n ∧ n ≤ 15 by have := h.len; omega)
  have E0 := Lib.hid h
  clear h hv hcan r0 r1 hr hn0 hn15
  go_enter Tryd.func29, Tryd.ntmps29
  go_upto_region 1 with (fail)
  generalize w.alloc (.cells #[.int .i64 (r : Int), .slice A n c] 43) = W0 at E ⊢
  obtain ⟨g, hg⟩ : ∃ g, g = w.heap.size := ⟨_, rfl⟩
  rw [← hg] at E ⊢
  have HG := Lib.hid (show w.heap.size ≤ g by omega)
  clear hg
  have m0 := E.out.bm.c0
  have m1 := E.out.bm.c1
  go_wp2_with fail
  refine (Valid_c (r : Int) A n c cs W0 E.out.rc).mono ?_
  rw [HV.out]
  rintro e w1 ⟨rfl, hb⟩
  replace E := Lib.hid (E.out.next hb)
  clear hb m0 m1
  have m0 := E.out.bm.c0
  have m1 := E.out.bm.c1
  go_wp2_with fail
  refine (HI.out w1).mono ?_
  rintro e w2 ⟨rfl, hw2⟩
  subst hw2
  have HBS := Lib.hid (show g < w2.heap.size ∧ w.heap.size ≤ w2.heap.size from ⟨E.out.bm.lt, E.out.below.size⟩)
  go_upto_region 4 with (fail)
  obtain ⟨B, hB⟩ : ∃ B, B = w2.heap.size := ⟨_, rfl⟩
  have OS := Lib.hid (OwS.one w2 (tx (Lib.decDigits r)) B (Nat.le_of_eq hB))
  have hb := bel_alloc w2 (.cells #[.string (tx (Lib.decDigits r))] 9)
  replace E := Lib.hid (E.out.next hb)
  have HSZ := Lib.hid (SzP.mk (show B ≤ (w2.alloc (.cells #[.string (tx (Lib.decDigits r))] 9)).heap.size from Nat.le_trans (Nat.le_of_eq hB) hb.size))
  rw [← hB] at HBS
  clear hb m0 m1
  generalize w2.alloc (.cells #[.string (tx (Lib.decDigits r))] 9) = W3 at E OS HSZ ⊢
  generalize w2.heap.size = g2 at OS ⊢
  clear hB
  have m1 := E.out.bm.c1
  go_wp2
  go_loopw [4, 18] (fun v4 v18 wr => ∃ (k c2 : Nat) (A2 : Option Addr), v4 = .slice A2 (k + 1) c2 ∧ v18 = .int .i64 (k : Int) ∧ k ≤ n ∧ OwS wr B A2 (k + 1) c2 (wordsM r (cs.take k)) ∧ TxE w wr g (r : Int) A n c cs ∧ B ≤ wr.heap.size) (fun _ v18 _ => n - (intOf v18).toNat)
  case atStart => exact ⟨0, 1, _, rfl, rfl, Nat.zero_le _, OS.out, E.out, HSZ.out.le⟩
  case round =>
    obtain ⟨k, c2, A2, rfl, rfl, hk, hos, he, hsz⟩ := hrel
    clear OS E HSZ
    have OS := Lib.hid hos
    have E := Lib.hid he
    have HSZ := Lib.hid (SzP.mk hsz)
    clear hos he hsz
    rcases Nat.lt_or_ge k n with hkn | hkn
    · have t1 : decide ((k : Int) < (n : Int)) = true := decide_eq_true (by omega)
      have t1n : decide (k < n) = true := decide_eq_true hkn
      have hkI : (k : Int) < (n : Int) := by omega
      obtain ⟨b, o, hA, _, hcc⟩ := E.out.rc.at_ (by omega)
      obtain ⟨x0, x1, x2, x3⟩ := hcc k hkn
      obtain ⟨x, hx⟩ : ∃ x, x = insAt cs k := ⟨_, rfl⟩
      rw [← hx] at x0 x1 x2 x3
      have hkl : k < cs.length := by have := HL.out; omega
      have hxm : x = cs[k] := by rw [hx]; unfold insAt; simp [List.getD_eq_getElem?_getD, List.getElem?_eq_getElem hkl]
      have HCX := Lib.hid (HC.out x (by rw [hxm]; exact List.getElem_mem hkl))
      have HTX := Lib.hid (show wordsM r (cs.take k) ++ [tx (wordT x)] = wordsM r (cs.take (k + 1)) by
        unfold wordsM
        rw [List.take_add_one, List.getElem?_eq_getElem hkl, ← hxm]
        simp)
      subst hA
      clear hcc hx hxm hkl
      go_upto_region 7 with (fail)
      have XI := Lib.hid (BxI.new wr x)
      have hb := bel_alloc wr (.cells #[.int .i64 x.op, .int .i64 x.reg, .int .i64 x.nx, .int .i64 x.zr] 70)
      replace E := Lib.hid (E.out.next hb)
      replace OS := Lib.hid (OS.out.keep hb)
      replace HSZ := Lib.hid (HSZ.out.next hb)
      clear hb x0 x1 x2 x3
      generalize wr.alloc (.cells #[.int .i64 x.op, .int .i64 x.reg, .int .i64 x.nx, .int .i64 x.zr] 70) = W7 at E OS HSZ XI ⊢
      generalize wr.heap.size = gI at XI ⊢
      have i0 := XI.out.c0
      have i1 := XI.out.c1
      have i2 := XI.out.c2
      have i3 := XI.out.c3
      rcases HCX.out with rfl | ⟨r1, n1, hr1, hn1, rfl | rfl | ⟨z1, hz1, rfl⟩⟩
      · dsimp only at i0 i1 i2 i3
        go_upto_region 12 with (fail)
        rw [show (⟨#[105, 100, 106, 104]⟩ : ByteArray).extract 3 4 = tx [104] by decide]
        go_wp2_with (at_builtin; refine wpList_app_str rfl (.tmp 50) (.tmp 52) rfl B A2 (k + 1) c2 (wordsM r (cs.take k)) (tx [104]) W7.heap.size 1 rfl rfl (OS.out.keep (bel_alloc _ _)) (Nat.le_trans HSZ.out.le (bel_alloc _ _).size) (by go_simp) (by have := HL.out; omega) (by omega) ?_)
        intro g' c' w9 h1 hb
        have hba := bel_alloc W7 (.cells #[.string (tx [104])] 9)
        rw [show tx [104] = tx (wordT ⟨3, 0, 0, 0⟩) from rfl, HTX.out] at h1
        have OS2 := Lib.hid h1
        have E2 := Lib.hid ((E.out.next hba).low E0.out HBS.1 HBS.2 hb)
        have HSZ2 := Lib.hid (Nat.le_trans (Nat.le_trans HSZ.out.le hba.size) hb.size)
        clear h1 hb hba E OS HSZ i0 i1 i2 i3 XI
        have hn15 := HL.out.2.2
        go_wp2
        go_roundw
        case measure => simp [intOf]; omega
        case rel => exact ⟨k + 1, c', some ⟨g', 0, none⟩, by go_num, by go_num, by omega, OS2.out, E2.out, HSZ2.out⟩
      · dsimp only at i0 i1 i2 i3
        have HR1 := Lib.hid (Tryd.strconv_Itoa_small r1 hr1)
        have HN1 := Lib.hid (Tryd.strconv_Itoa_small n1 hn1)
        have a1 := (atoi_dd r1 hr1).2
        have a2 := (atoi_dd n1 hn1).2
        have HTX2 := Lib.hid (show wordT ⟨0, (r1 : Int), (n1 : Int), 0⟩ = [105] ++ (Lib.decDigits r1 ++ [62] ++ Lib.decDigits n1) by
          show (105 :: (Lib.itoa (r1 : Int) ++ 62 :: Lib.itoa (n1 : Int)) : List UInt8) = _
          rw [itoa_nat hr1, itoa_nat hn1]
          simp)
        go_upto_region 9 with (fail)
        rw [show (⟨#[105, 100, 106, 104]⟩ : ByteArray).extract 0 1 = tx [105] by decide]
        generalize Lib.decDigits r1 = d1 at HR1 HTX2 a1
        generalize Lib.decDigits n1 = d2 at HN1 HTX2 a2
        have l0 : ¬ 9223372036854775807 < d1.length + 1 := by omega
        have l1 : ¬ 9223372036854775807 < d1.length + 1 + d2.length := by omega
        have l2 : ¬ 9223372036854775807 < 1 + (d1.length + 1 + d2.length) := by omega
        go_quiet ((go_at_call 43; first | exact Calls.quiet_of_same (HR1.out _) | exact quiet_add_same (HR1.out _) | exact Calls.quiet_of_same (HN1.out _) | exact quiet_add_same (HN1.out _)))
        replace E := Lib.hid (E.out.next (bel_drew (Below.refl _ _) nq))
        replace OS := Lib.hid (OS.out.keep (bel_drew (Below.refl _ _) nq))
        replace HSZ := Lib.hid (HSZ.out.next (bel_drew (Below.refl _ _) nq))
        replace XI := Lib.hid (XI.out.next (bel_drew (Below.refl _ _) nq))
        clear i0 i1 i2 i3
        generalize W7.drewN nq = W8 at E OS HSZ XI ⊢
        have i0 := XI.out.c0
        dsimp only at i0
        go_upto_region 12 with (fail)
        clear l0 l1 l2 HR1 HN1
        go_wp2_with (at_builtin; refine wpList_app_str rfl (.tmp 50) (.tmp 52) rfl B A2 (k + 1) c2 (wordsM r (cs.take k)) (tx [105] ++ ((⟨d1.toArray⟩ : ByteArray) ++ ⟨#[62]⟩ ++ ⟨d2.toArray⟩)) W8.heap.size 1 rfl rfl (OS.out.keep (bel_alloc _ _)) (Nat.le_trans HSZ.out.le (bel_alloc _ _).size) (by go_simp) (by have := HL.out; omega) (by omega) ?_)
        intro g' c' w9 h1 hb
        have hba := bel_alloc W8 (.cells #[.string (tx [105] ++ ((⟨d1.toArray⟩ : ByteArray) ++ ⟨#[62]⟩ ++ ⟨d2.toArray⟩))] 9)
        rw [show tx [105] ++ ((⟨d1.toArray⟩ : ByteArray) ++ ⟨#[62]⟩ ++ ⟨d2.toArray⟩) = tx (wordT ⟨0, (r1 : Int), (n1 : Int), 0⟩) from by rw [HTX2.out]; show tx [105] ++ (tx d1 ++ tx [62] ++ tx d2) = _; rw [txt8_app, txt8_app, txt8_app], HTX.out] at h1
        have OS2 := Lib.hid h1
        have E2 := Lib.hid ((E.out.next hba).low E0.out HBS.1 HBS.2 hb)
        have HSZ2 := Lib.hid (Nat.le_trans (Nat.le_trans HSZ.out.le hba.size) hb.size)
        clear h1 hb hba E OS HSZ i0 XI
        have hn15 := HL.out.2.2
        go_wp2
        go_roundw
        case measure => simp [intOf]; omega
        case rel => exact ⟨k + 1, c', some ⟨g', 0, none⟩, by go_num, by go_num, by omega, OS2.out, E2.out, HSZ2.out⟩
      · dsimp only at i0 i1 i2 i3
        have HR1 := Lib.hid (Tryd.strconv_Itoa_small r1 hr1)
        have HN1 := Lib.hid (Tryd.strconv_Itoa_small n1 hn1)
        have a1 := (atoi_dd r1 hr1).2
        have a2 := (atoi_dd n1 hn1).2
        have HTX2 := Lib.hid (show wordT ⟨1, (r1 : Int), (n1 : Int), 0⟩ = [100] ++ (Lib.decDigits r1 ++ [62] ++ Lib.decDigits n1) by
          show (100 :: (Lib.itoa (r1 : Int) ++ 62 :: Lib.itoa (n1 : Int)) : List UInt8) = _
          rw [itoa_nat hr1, itoa_nat hn1]
          simp)
        go_upto_region 9 with (fail)
        rw [show (⟨#[105, 100, 106, 104]⟩ : ByteArray).extract 1 2 = tx [100] by decide]
        generalize Lib.decDigits r1 = d1 at HR1 HTX2 a1
        generalize Lib.decDigits n1 = d2 at HN1 HTX2 a2
        have l0 : ¬ 9223372036854775807 < d1.length + 1 := by omega
        have l1 : ¬ 9223372036854775807 < d1.length + 1 + d2.length := by omega
        have l2 : ¬ 9223372036854775807 < 1 + (d1.length + 1 + d2.length) := by omega
        go_quiet ((go_at_call 43; first | exact Calls.quiet_of_same (HR1.out _) | exact quiet_add_same (HR1.out _) | exact Calls.quiet_of_same (HN1.out _) | exact quiet_add_same (HN1.out _)))
        replace E := Lib.hid (E.out.next (bel_drew (Below.refl _ _) nq))
        replace OS := Lib.hid (OS.out.keep (bel_drew (Below.refl _ _) nq))
        replace HSZ := Lib.hid (HSZ.out.next (bel_drew (Below.refl _ _) nq))
        replace XI := Lib.hid (XI.out.next (bel_drew (Below.refl _ _) nq))
        clear i0 i1 i2 i3
        generalize W7.drewN nq = W8 at E OS HSZ XI ⊢
        have i0 := XI.out.c0
        dsimp only at i0
        go_upto_region 12 with (fail)
        clear l0 l1 l2 HR1 HN1
        go_wp2_with (at_builtin; refine wpList_app_str rfl (.tmp 50) (.tmp 52) rfl B A2 (k + 1) c2 (wordsM r (cs.take k)) (tx [100] ++ ((⟨d1.toArray⟩ : ByteArray) ++ ⟨#[62]⟩ ++ ⟨d2.toArray⟩)) W8.heap.size 1 rfl rfl (OS.out.keep (bel_alloc _ _)) (Nat.le_trans HSZ.out.le (bel_alloc _ _).size) (by go_simp) (by have := HL.out; omega) (by omega) ?_)
        intro g' c' w9 h1 hb
        have hba := bel_alloc W8 (.cells #[.string (tx [100] ++ ((⟨d1.toArray⟩ : ByteArray) ++ ⟨#[62]⟩ ++ ⟨d2.toArray⟩))] 9)
        rw [show tx [100] ++ ((⟨d1.toArray⟩ : ByteArray) ++ ⟨#[62]⟩ ++ ⟨d2.toArray⟩) = tx (wordT ⟨1, (r1 : Int), (n1 : Int), 0⟩) from by rw [HTX2.out]; show tx [100] ++ (tx d1 ++ tx [62] ++ tx d2) = _; rw [txt8_app, txt8_app, txt8_app], HTX.out] at h1
        have OS2 := Lib.hid h1
        have E2 := Lib.hid ((E.out.next hba).low E0.out HBS.1 HBS.2 hb)
        have HSZ2 := Lib.hid (Nat.le_trans (Nat.le_trans HSZ.out.le hba.size) hb.size)
        clear h1 hb hba E OS HSZ i0 XI
        have hn15 := HL.out.2.2
        go_wp2
        go_roundw
        case measure => simp [intOf]; omega
        case rel => exact ⟨k + 1, c', some ⟨g', 0, none⟩, by go_num, by go_num, by omega, OS2.out, E2.out, HSZ2.out⟩
      · dsimp only at i0 i1 i2 i3
        have HR1 := Lib.hid (Tryd.strconv_Itoa_small r1 hr1)
        have HN1 := Lib.hid (Tryd.strconv_Itoa_small n1 hn1)
        have HZ1 := Lib.hid (Tryd.strconv_Itoa_small z1 hz1)
        have a3 := (atoi_dd z1 hz1).2
        have a1 := (atoi_dd r1 hr1).2
        have a2 := (atoi_dd n1 hn1).2
        have HTX2 := Lib.hid (show wordT ⟨2, (r1 : Int), (n1 : Int), (z1 : Int)⟩ = [106] ++ (Lib.decDigits r1 ++ [62] ++ Lib.decDigits n1) ++ ([58] ++ Lib.decDigits z1) by
          show (106 :: (Lib.itoa (r1 : Int) ++ 62 :: (Lib.itoa (n1 : Int) ++ 58 :: Lib.itoa (z1 : Int))) : List UInt8) = _
          rw [itoa_nat hr1, itoa_nat hn1, itoa_nat hz1]
          simp)
        go_upto_region 9 with (fail)
        rw [show (⟨#[105, 100, 106, 104]⟩ : ByteArray).extract 2 3 = tx [106] by decide]
        generalize Lib.decDigits r1 = d1 at HR1 HTX2 a1
        generalize Lib.decDigits n1 = d2 at HN1 HTX2 a2
        generalize Lib.decDigits z1 = d3 at HZ1 HTX2 a3
        have l0 : ¬ 9223372036854775807 < d1.length + 1 := by omega
        have l1 : ¬ 9223372036854775807 < d1.length + 1 + d2.length := by omega
        have l2 : ¬ 9223372036854775807 < 1 + (d1.length + 1 + d2.length) := by omega
        go_quiet ((go_at_call 43; first | exact Calls.quiet_of_same (HR1.out _) | exact quiet_add_same (HR1.out _) | exact Calls.quiet_of_same (HN1.out _) | exact quiet_add_same (HN1.out _)))
        replace E := Lib.hid (E.out.next (bel_drew (Below.refl _ _) nq))
        replace OS := Lib.hid (OS.out.keep (bel_drew (Below.refl _ _) nq))
        replace HSZ := Lib.hid (HSZ.out.next (bel_drew (Below.refl _ _) nq))
        replace XI := Lib.hid (XI.out.next (bel_drew (Below.refl _ _) nq))
        clear i0 i1 i2 i3
        generalize W7.drewN nq = W8 at E OS HSZ XI ⊢
        have i0 := XI.out.c0
        dsimp only at i0
        go_upto_region 11 with (fail)
        have i3 := XI.out.c3
        dsimp only at i3
        have l3 : ¬ 9223372036854775807 < 1 + d3.length := by omega
        have l4 : ¬ 9223372036854775807 < 1 + (d1.length + 1 + d2.length) + (1 + d3.length) := by omega
        go_wp2_with fail
        refine (HZ1.out _).mono ?_
        rintro e v1 ⟨rfl, hq⟩
        subst hq
        go_upto_region 12 with (fail)
        clear l0 l1 l2 l3 l4 HR1 HN1 HZ1
        go_wp2_with (at_builtin; refine wpList_app_str rfl (.tmp 50) (.tmp 52) rfl B A2 (k + 1) c2 (wordsM r (cs.take k)) (tx [106] ++ ((⟨d1.toArray⟩ : ByteArray) ++ ⟨#[62]⟩ ++ ⟨d2.toArray⟩) ++ ((⟨#[58]⟩ : ByteArray) ++ ⟨d3.toArray⟩)) v1.heap.size 1 rfl rfl (OS.out.keep (bel_alloc _ _)) (Nat.le_trans HSZ.out.le (bel_alloc _ _).size) (by go_simp) (by have := HL.out; omega) (by omega) ?_)
        intro g' c' w9 h1 hb
        have hba := bel_alloc v1 (.cells #[.string (tx [106] ++ ((⟨d1.toArray⟩ : ByteArray) ++ ⟨#[62]⟩ ++ ⟨d2.toArray⟩) ++ ((⟨#[58]⟩ : ByteArray) ++ ⟨d3.toArray⟩))] 9)
        rw [show tx [106] ++ ((⟨d1.toArray⟩ : ByteArray) ++ ⟨#[62]⟩ ++ ⟨d2.toArray⟩) ++ ((⟨#[58]⟩ : ByteArray) ++ ⟨d3.toArray⟩) = tx (wordT ⟨2, (r1 : Int), (n1 : Int), (z1 : Int)⟩) from by rw [HTX2.out]; show tx [106] ++ (tx d1 ++ tx [62] ++ tx d2) ++ (tx [58] ++ tx d3) = _; rw [txt8_app, txt8_app, txt8_app, txt8_app, txt8_app], HTX.out] at h1
        have OS2 := Lib.hid h1
        have E2 := Lib.hid ((E.out.next hba).low E0.out HBS.1 HBS.2 hb)
        have HSZ2 := Lib.hid (Nat.le_trans (Nat.le_trans HSZ.out.le hba.size) hb.size)
        clear h1 hb hba E OS HSZ i0 i3 XI
        have hn15 := HL.out.2.2
        go_wp2
        go_roundw
        case measure => simp [intOf]; omega
        case rel => exact ⟨k + 1, c', some ⟨g', 0, none⟩, by go_num, by go_num, by omega, OS2.out, E2.out, HSZ2.out⟩
    · have t1 : decide ((k : Int) < (n : Int)) = false := decide_eq_false (by omega)
      have t1n : decide (k < n) = false := decide_eq_false (by omega)
      have hos := OS.out
      rw [show cs.take k = cs from List.take_of_length_le (by have := HL.out; omega)] at hos
      obtain ⟨gw, hA2, hlt, hcells⟩ := hos.rd (by omega)
      have hcap := hos.cap
      have hlen : (wordsM r cs).length = k + 1 := hos.len
      have HJ := Lib.hid (Tryd.strings_Join gw 0 c2 (wordsM r cs) ⟨#[32]⟩ wr hcells hlt (by have := HL.out; omega) (by omega) (by rw [show (⟨#[32]⟩ : ByteArray).data.toList = [32] from rfl, HJW.out]; have := HTL.out; omega))
      rw [show (⟨#[32]⟩ : ByteArray).data.toList = [32] from rfl, HJW.out, hlen] at HJ
      subst hA2
      clear hos hlt hcells hcap hlen OS HSZ
      go_wp2_with fail
      refine HJ.out.mono ?_
      rintro e w8 ⟨rfl, hb⟩
      replace E := Lib.hid (E.out.next hb)
      clear hb HJ
      go_wp2
      go_ret2
      exact ⟨rfl, E.out.below⟩
end Go.Proofs.YthjdnidapbhdlaaDoor
namespace Go.Proofs.YthjdnidapbhdlaaDoor
open Go.RowKit
theorem tx_ne {a b : List UInt8} (h : a ≠ b) : ((tx a).toList == b) = false := by
  rw [beq_eq_false_iff_ne, ByteArray.toList_eq]
  exact h
theorem insW_word (m : Int) {x : Ins} (h : Canon x) : InsW m (tx (wordT x)) x := by
  intro W hW hm
  have sz : ∀ (b : UInt8) (r : List UInt8), 0 < (tx (b :: r)).size := fun b r => by show 0 < (b :: r).toArray.size; simp
  have ex : ∀ (b : UInt8) (r : List UInt8), ((tx (b :: r)).extract 1 (tx (b :: r)).size).data.toList = r := fun b r => by rw [Lib.extract_to_end]; rfl
  rcases h with rfl | ⟨r, n, hr, hn, rfl | rfl | ⟨z, hz, rfl⟩⟩
  · exact insn_h W
  · have e : wordT ⟨0, (r : Int), (n : Int), 0⟩ = 105 :: (Lib.decDigits r ++ 62 :: Lib.decDigits n) := by
      show (105 :: (Lib.itoa (r : Int) ++ 62 :: Lib.itoa (n : Int)) : List UInt8) = _
      rw [itoa_nat hr, itoa_nat hn]
    rw [e]
    exact insn_y m _ 0 r n (by omega) hr hn W hm hW (tx_ne (by simp)) (by rw [ByteArray.toList_eq]; rfl) (sz _ _) rfl (ex _ _)
  · have e : wordT ⟨1, (r : Int), (n : Int), 0⟩ = 100 :: (Lib.decDigits r ++ 62 :: Lib.decDigits n) := by
      show (100 :: (Lib.itoa (r : Int) ++ 62 :: Lib.itoa (n : Int)) : List UInt8) = _
      rw [itoa_nat hr, itoa_nat hn]
    rw [e]
    exact insn_y m _ 1 r n (by omega) hr hn W hm hW (tx_ne (by simp)) (by rw [ByteArray.toList_eq]; rfl) (sz _ _) rfl (ex _ _)
  · have e : wordT ⟨2, (r : Int), (n : Int), (z : Int)⟩ = 106 :: (Lib.decDigits r ++ 62 :: (Lib.decDigits n ++ 58 :: Lib.decDigits z)) := by
      show (106 :: (Lib.itoa (r : Int) ++ 62 :: (Lib.itoa (n : Int) ++ 58 :: Lib.itoa (z : Int))) : List UInt8) = _
      rw [itoa_nat hr, itoa_nat hn, itoa_nat hz]
    rw [e]
    exact insn_j m _ r n z hr hn hz W hm hW (tx_ne (by simp)) (by rw [ByteArray.toList_eq]; rfl) (sz _ _) rfl (ex _ _)
/-- what Parse of either side says -/
def ParP (R : Int) (cs : List Ins) (v : Value) (w : World) (e : Ending) (w' : World) : Prop :=
  ∃ A c, e = .returned (.tuple #[.agg #[.int .i64 R, .slice A cs.length c], v]) ∧ RdC w' A cs.length cs ∧ Below w.heap.size w w'
theorem Parse_good {R : Int} {cs : List Ins} (hv : validM R cs = true) (w : World) (hw : Mw w) : Calls Tryd.prog 30 #[.string (tx (textM R cs))] w (ParP R cs (.int .i64 0) w) := by
  have hl := text_len hv
  obtain ⟨r0, r1, _, _, hc⟩ := vm_parts hv
  obtain ⟨r, rfl⟩ := Int.eq_ofNat_of_zero_le (show 0 ≤ R by omega)
  have hr : r < 100 := by omega
  have h0 : (32 : UInt8) ∉ Lib.decDigits r := fun hc => by
    have := dd_mem hr hc
    have e : (32 : UInt8).toNat = 32 := rfl
    omega
  have ht : (tx (textM (r : Int) cs)).data.toList = Lib.decDigits r ++ joinF (cs.map wordT) := by
    show textM (r : Int) cs = _
    unfold textM; rw [itoa_nat hr, wordsT_joinF]
  obtain ⟨hcnt, hspl⟩ := split_words (cs.map wordT) (Lib.decDigits r) h0 (fun x hx => by
    obtain ⟨y, hy, rfl⟩ := List.mem_map.1 hx
    exact word_space (hc y hy))
  have hsp : Lib.splitB ⟨#[32]⟩ 0 (Lib.countB (tx (textM (r : Int) cs)) ⟨#[32]⟩) (tx (textM (r : Int) cs)) = tx (Lib.decDigits r) :: (cs.map wordT).map tx := by
    refine tx_map (M := Lib.decDigits r :: cs.map wordT) ?_
    rw [Lib.splitB_data]
    have hcn : Lib.countB (tx (textM (r : Int) cs)) ⟨#[32]⟩ = (cs.map wordT).length := by
      show Lib.count (tx (textM (r : Int) cs)).data.toList [32] = _
      rw [ht]; exact hcnt
    rw [hcn, ht]
    exact hspl
  obtain ⟨m, hm⟩ := hw.ml.at_
  refine (Parse_y m (tx (textM (r : Int) cs)) r ((cs.map wordT).map tx) cs w hm hw.ml.lt (by show (textM (r : Int) cs).toArray.size < 4294967281; simp; omega) hsp hr (by simp) (fun i hi => ?_) hv).mono ?_
  · have e1 : ((cs.map wordT).map tx).getD i ⟨#[]⟩ = tx (wordT cs[i]) := by simp [List.getD_eq_getElem?_getD, List.getElem?_eq_getElem hi]
    have e2 : insAt cs i = cs[i] := by unfold insAt; simp [List.getD_eq_getElem?_getD, List.getElem?_eq_getElem hi]
    rw [e1, e2]
    exact insW_word m (hc _ (List.getElem_mem hi))
  · rintro e w' ⟨A, c, rfl, hrd, _, _, hb, _⟩
    exact ⟨A, c, rfl, hrd, hb⟩
/-- a string is the text of a valid machine -/
def Good (s : ByteArray) (R : Int) (cs : List Ins) : Prop := validM R cs = true ∧ s = tx (textM R cs)
theorem Parse_none (s : ByteArray) (hs : s.size ≤ 2000) (h : ∀ R cs, ¬ Good s R cs) (w : World) (hw : Mw w) : Calls Tryd.prog 30 #[.string s] w (ParP 0 [] (.int .i64 3) w) := by
  refine (Parse_s s hs w hw).mono ?_
  rintro e w' ⟨⟨R, cs, A, c, rfl, _, hv, ht⟩ | rfl, hb⟩
  · refine absurd ⟨hv, ?_⟩ (h R cs)
    apply ByteArray.ext
    apply Array.toList_inj.1
    exact ht
  · exact ⟨none, 0, rfl, ⟨rfl, fun h => absurd h (by simp)⟩, hb⟩
theorem refParse_good {R : Int} {cs : List Ins} (hv : validM R cs = true) (w : World) : Calls Tryd.prog 31 #[.string (tx (textM R cs))] w (ParP R cs (.bool true) w) := by
  have hl := text_len hv
  obtain ⟨h1, h2⟩ := scan_text hv
  have hsz : (tx (textM R cs)).size ≤ 1000 := by show (textM R cs).toArray.size ≤ 1000; simpa using hl
  refine (refParse13_ok (tx (textM R cs)) w hsz).mono ?_
  intro e w' h
  unfold RParse at h
  rw [h1, h2] at h
  rw [if_pos ⟨hsz, hv, rfl⟩] at h
  obtain ⟨A, c, rfl, hrd, _, _, hb, _⟩ := h
  exact ⟨A, c, rfl, hrd, hb⟩
theorem refParse_none (s : ByteArray) (hs : s.size ≤ 2000) (h : ∀ R cs, ¬ Good s R cs) (w : World) : Calls Tryd.prog 31 #[.string s] w (ParP 0 [] (.bool false) w) := by
  have key : ∀ e w', RParse s w e w' → ParP 0 [] (.bool false) w e w' := by
    intro e w' hr
    unfold RParse at hr
    rw [if_neg (fun hc => h _ _ ⟨hc.2.1, hc.2.2.symm⟩)] at hr
    exact ⟨none, 0, hr.1, ⟨rfl, fun h => absurd h (by simp)⟩, hr.2⟩
  rcases Nat.lt_or_ge 1000 s.size with h1 | h1
  · exact (refParse13_long s w h1 (by omega)).mono key
  · exact (refParse13_ok s w h1).mono key
/-- both Parses say the same -/
theorem both_parse (s : ByteArray) (hs : s.size ≤ 2000) : ∃ (R1 : Int) (cs1 : List Ins) (f1 : Int) (ok : Bool), ((ok = true ∧ f1 = 0) ∨ (ok = false ∧ f1 = 3)) ∧ cs1.length ≤ 15 ∧
    (∀ w, Mw w → Calls Tryd.prog 30 #[.string s] w (ParP R1 cs1 (.int .i64 f1) w)) ∧ (∀ w, Calls Tryd.prog 31 #[.string s] w (ParP R1 cs1 (.bool ok) w)) := by
  by_cases h : ∃ R cs, Good s R cs
  · obtain ⟨R, cs, hv, rfl⟩ := h
    exact ⟨R, cs, 0, true, .inl ⟨rfl, rfl⟩, (vm_parts hv).2.2.2.1, fun w hw => Parse_good hv w hw, fun w => refParse_good hv w⟩
  · have h2 : ∀ R cs, ¬ Good s R cs := fun R cs hg => h ⟨R, cs, hg⟩
    exact ⟨0, [], 3, false, .inr ⟨rfl, rfl⟩, by simp, fun w hw => Parse_none s hs h2 w hw, fun w => refParse_none s hs h2 w⟩
set_option maxHeartbeats 4000000 in
theorem RegisterTexts_c (R : Int) (A : Option Addr) (n c : Nat) (cs : List Ins) (s : ByteArray) (w : World) (h : RdC w A n cs) (hw : Mw w) :
    Calls Tryd.prog 5 #[.agg #[.int .i64 R, .slice A n c], .string s] w (RetB true w) := by
  have E := Lib.hid (TxE.start R A n c cs w h)
  have HW := Lib.hid hw
  have HL := Lib.hid h.len
  clear h hw
  go_enter Tryd.func5, Tryd.ntmps5
  go_upto_region 1 with (fail)
  generalize w.alloc (.cells #[.int .i64 R, .slice A n c] 43) = W0 at E ⊢
  generalize w.heap.size = g at E ⊢
  have m0 := E.out.bm.c0
  have m1 := E.out.bm.c1
  by_cases hn : n ≤ 100
  · go_wp2_with fail
    refine (wide_f R A n c 0 none 0 0 none 0 0 W0 ⟨hn, by omega, by omega⟩).mono ?_
    rintro e w1 ⟨rfl, hb⟩
    replace E := Lib.hid (E.out.next hb)
    clear hb m0 m1
    have m0 := E.out.bm.c0
    have m1 := E.out.bm.c1
    by_cases hs : 2000 < s.size
    · have t1 : decide ((2000 : Int) < (s.size : Int)) = true := decide_eq_true (by omega)
      go_wp2_with fail
      refine (awake13_c _ (HW.out.next E.out.below).ml).mono ?_
      rintro e' wa ⟨rfl, hb⟩
      replace E := Lib.hid (E.out.next hb)
      clear hb
      go_wp2
      go_ret
      exact ⟨rfl, E.out.below⟩
    · have t1 : decide ((2000 : Int) < (s.size : Int)) = false := decide_eq_false (by omega)
      obtain ⟨R1, cs1, f1, ok, hok, hl1, hp, hq⟩ := both_parse s (by omega)
      have HOK := Lib.hid hok
      have HL1 := Lib.hid hl1
      have HP := Lib.hid hp
      have HQ := Lib.hid hq
      clear hok hl1 hp hq hs
      obtain ⟨v, hv⟩ : ∃ v, v = validM R cs := ⟨_, rfl⟩
      have HV := Lib.hid hv.symm
      clear hv
      go_upto_region 3 with (fail)
      clear t1
      cases v with

      | false =>
        go_wp2_with fail
        refine (Text_bad R A n c cs w1 E.out.rc HV.out).mono ?_
        rintro e w2 ⟨rfl, hb⟩
        replace E := Lib.hid (E.out.next hb)
        clear hb m0 m1
        go_wp2_with fail
        refine (HP.out w2 (HW.out.next E.out.below)).mono ?_
        rintro e w3 ⟨A1, c1, rfl, hr1, hb⟩
        have hba := bel_alloc w3 (.cells #[.int .i64 R1, .slice A1 cs1.length c1] 43)
        replace E := Lib.hid ((E.out.next hb).next hba)
        have X1 := Lib.hid (BoxM.new w3 R1 A1 cs1.length c1)
        have Y1 := Lib.hid (hr1.below hba)
        clear hb hba hr1 HP
        go_upto_region 5 with (fail)
        generalize w3.alloc (.cells #[.int .i64 R1, .slice A1 cs1.length c1] 43) = W3 at E X1 Y1 ⊢
        generalize w3.heap.size = g1 at X1 ⊢
        go_wp2_with fail
        refine (HQ.out W3).mono ?_
        rintro e w4 ⟨A2, c2, rfl, hr2, hb⟩
        have hba := bel_alloc w4 (.cells #[.int .i64 R1, .slice A2 cs1.length c2] 43)
        replace E := Lib.hid ((E.out.next hb).next hba)
        replace X1 := Lib.hid ((X1.out.next hb).next hba)
        replace Y1 := Lib.hid ((Y1.out.below hb).below hba)
        have X2 := Lib.hid (BoxM.new w4 R1 A2 cs1.length c2)
        have Y2 := Lib.hid (hr2.below hba)
        clear hb hba hr2 HQ
        go_upto_region 6 with (fail)
        generalize w4.alloc (.cells #[.int .i64 R1, .slice A2 cs1.length c2] 43) = W4 at E X1 Y1 X2 Y2 ⊢
        generalize w4.heap.size = g2 at X2 ⊢
        rcases HOK.out with ⟨rfl, rfl⟩ | ⟨rfl, rfl⟩
        ·
          have x0 := X1.out.c0
          have x1 := X1.out.c1
          have y0 := X2.out.c0
          have y1 := X2.out.c1
          go_wp2_with fail
          refine (sameM_t R1 A1 A2 cs1.length c1 c2 cs1 W4 Y1.out Y2.out (by have := HL1.out; omega)).mono ?_
          rintro e w5 ⟨rfl, hb⟩
          replace E := Lib.hid (E.out.next hb)
          clear hb x0 x1 y0 y1 X1 Y1 X2 Y2
          have m0 := E.out.bm.c0
          have m1 := E.out.bm.c1
          go_wp2_with fail
          refine (refValid13_c R A n c cs w5 E.out.rc).mono ?_
          rw [HV.out]
          rintro e w6 ⟨rfl, hb⟩
          replace E := Lib.hid (E.out.next hb)
          clear hb m0 m1
          go_wp2_with fail
          refine (awake13_c _ (HW.out.next E.out.below).ml).mono ?_
          rintro e' wa ⟨rfl, hb⟩
          replace E := Lib.hid (E.out.next hb)
          clear hb
          go_wp2
          go_ret
          exact ⟨rfl, E.out.below⟩
        ·
          have x0 := X1.out.c0
          have x1 := X1.out.c1
          have y0 := X2.out.c0
          have y1 := X2.out.c1
          go_wp2_with fail
          refine (sameM_t R1 A1 A2 cs1.length c1 c2 cs1 W4 Y1.out Y2.out (by have := HL1.out; omega)).mono ?_
          rintro e w5 ⟨rfl, hb⟩
          replace E := Lib.hid (E.out.next hb)
          clear hb x0 x1 y0 y1 X1 Y1 X2 Y2
          have m0 := E.out.bm.c0
          have m1 := E.out.bm.c1
          go_wp2_with fail
          refine (refValid13_c R A n c cs w5 E.out.rc).mono ?_
          rw [HV.out]
          rintro e w6 ⟨rfl, hb⟩
          replace E := Lib.hid (E.out.next hb)
          clear hb m0 m1
          go_wp2_with fail
          refine (awake13_c _ (HW.out.next E.out.below).ml).mono ?_
          rintro e' wa ⟨rfl, hb⟩
          replace E := Lib.hid (E.out.next hb)
          clear hb
          go_wp2
          go_ret
          exact ⟨rfl, E.out.below⟩
      | true =>
        go_wp2_with fail
        refine (Text_ok R A n c cs w1 E.out.rc HV.out).mono ?_
        rintro e w2 ⟨rfl, hb⟩
        replace E := Lib.hid (E.out.next hb)
        clear hb m0 m1
        obtain ⟨tt, htt⟩ : ∃ t, t = tx (textM R cs) := ⟨_, rfl⟩
        rw [← htt]
        have HT := Lib.hid htt
        clear htt
        go_wp2_with fail
        refine (HP.out w2 (HW.out.next E.out.below)).mono ?_
        rintro e w3 ⟨A1, c1, rfl, hr1, hb⟩
        have hba := bel_alloc w3 (.cells #[.int .i64 R1, .slice A1 cs1.length c1] 43)
        replace E := Lib.hid ((E.out.next hb).next hba)
        have X1 := Lib.hid (BoxM.new w3 R1 A1 cs1.length c1)
        have Y1 := Lib.hid (hr1.below hba)
        clear hb hba hr1 HP
        go_upto_region 5 with (fail)
        generalize w3.alloc (.cells #[.int .i64 R1, .slice A1 cs1.length c1] 43) = W3 at E X1 Y1 ⊢
        generalize w3.heap.size = g1 at X1 ⊢
        go_wp2_with fail
        refine (HQ.out W3).mono ?_
        rintro e w4 ⟨A2, c2, rfl, hr2, hb⟩
        have hba := bel_alloc w4 (.cells #[.int .i64 R1, .slice A2 cs1.length c2] 43)
        replace E := Lib.hid ((E.out.next hb).next hba)
        replace X1 := Lib.hid ((X1.out.next hb).next hba)
        replace Y1 := Lib.hid ((Y1.out.below hb).below hba)
        have X2 := Lib.hid (BoxM.new w4 R1 A2 cs1.length c2)
        have Y2 := Lib.hid (hr2.below hba)
        clear hb hba hr2 HQ
        go_upto_region 6 with (fail)
        generalize w4.alloc (.cells #[.int .i64 R1, .slice A2 cs1.length c2] 43) = W4 at E X1 Y1 X2 Y2 ⊢
        generalize w4.heap.size = g2 at X2 ⊢
        rcases HOK.out with ⟨rfl, rfl⟩ | ⟨rfl, rfl⟩
        ·
          have x0 := X1.out.c0
          have x1 := X1.out.c1
          have y0 := X2.out.c0
          have y1 := X2.out.c1
          go_wp2_with fail
          refine (sameM_t R1 A1 A2 cs1.length c1 c2 cs1 W4 Y1.out Y2.out (by have := HL1.out; omega)).mono ?_
          rintro e w5 ⟨rfl, hb⟩
          replace E := Lib.hid (E.out.next hb)
          clear hb x0 x1 y0 y1 X1 Y1 X2 Y2
          have m0 := E.out.bm.c0
          have m1 := E.out.bm.c1
          go_wp2_with fail
          refine (refValid13_c R A n c cs w5 E.out.rc).mono ?_
          rw [HV.out]
          rintro e w6 ⟨rfl, hb⟩
          replace E := Lib.hid (E.out.next hb)
          clear hb m0 m1
          have hpg := Parse_good HV.out w6 (HW.out.next E.out.below)
          rw [← HT.out] at hpg
          have HPG := Lib.hid hpg
          clear hpg
          go_wp2_with fail
          refine HPG.out.mono ?_
          rintro e w7 ⟨A3, c3, rfl, hr3, hb⟩
          have hln := HL.out
          rw [hln] at hr3 ⊢
          have hba := bel_alloc w7 (.cells #[.int .i64 R, .slice A3 n c3] 43)
          replace E := Lib.hid ((E.out.next hb).next hba)
          have X3 := Lib.hid (BoxM.new w7 R A3 n c3)
          have Y3 := Lib.hid (hr3.below hba)
          clear hb hba hr3 HPG hln
          go_upto_region 11 with (fail)
          generalize w7.alloc (.cells #[.int .i64 R, .slice A3 n c3] 43) = W7 at E X3 Y3 ⊢
          generalize w7.heap.size = g3 at X3 ⊢
          have m0 := E.out.bm.c0
          have m1 := E.out.bm.c1
          have hrt := refText13_c R A n c cs W7 E.out.rc (by omega) (valid_in64 HV.out).1 (fun k hk => (valid_in64 HV.out).2.2 k (by have := HL.out; omega))
          rw [show txt8 (textM R cs) = tt from HT.out.symm] at hrt
          have HRT := Lib.hid hrt
          clear hrt
          go_wp2_with fail
          refine HRT.out.mono ?_
          rintro e w8 ⟨rfl, hb⟩
          replace E := Lib.hid (E.out.next hb)
          replace X3 := Lib.hid (X3.out.next hb)
          replace Y3 := Lib.hid (Y3.out.below hb)
          clear hb m0 m1 HRT
          have m0 := E.out.bm.c0
          have m1 := E.out.bm.c1
          have x0 := X3.out.c0
          have x1 := X3.out.c1
          go_wp2_with fail
          refine (sameM_t R A3 A n c3 c cs w8 Y3.out E.out.rc (by omega)).mono ?_
          rintro e w9 ⟨rfl, hb⟩
          replace E := Lib.hid (E.out.next hb)
          clear hb m0 m1 x0 x1 X3 Y3
          go_wp2_with fail
          refine (awake13_c _ (HW.out.next E.out.below).ml).mono ?_
          rintro e' wa ⟨rfl, hb⟩
          replace E := Lib.hid (E.out.next hb)
          clear hb
          go_wp2
          go_ret
          exact ⟨rfl, E.out.below⟩
        ·
          have x0 := X1.out.c0
          have x1 := X1.out.c1
          have y0 := X2.out.c0
          have y1 := X2.out.c1
          go_wp2_with fail
          refine (sameM_t R1 A1 A2 cs1.length c1 c2 cs1 W4 Y1.out Y2.out (by have := HL1.out; omega)).mono ?_
          rintro e w5 ⟨rfl, hb⟩
          replace E := Lib.hid (E.out.next hb)
          clear hb x0 x1 y0 y1 X1 Y1 X2 Y2
          have m0 := E.out.bm.c0
          have m1 := E.out.bm.c1
          go_wp2_with fail
          refine (refValid13_c R A n c cs w5 E.out.rc).mono ?_
          rw [HV.out]
          rintro e w6 ⟨rfl, hb⟩
          replace E := Lib.hid (E.out.next hb)
          clear hb m0 m1
          have hpg := Parse_good HV.out w6 (HW.out.next E.out.below)
          rw [← HT.out] at hpg
          have HPG := Lib.hid hpg
          clear hpg
          go_wp2_with fail
          refine HPG.out.mono ?_
          rintro e w7 ⟨A3, c3, rfl, hr3, hb⟩
          have hln := HL.out
          rw [hln] at hr3 ⊢
          have hba := bel_alloc w7 (.cells #[.int .i64 R, .slice A3 n c3] 43)
          replace E := Lib.hid ((E.out.next hb).next hba)
          have X3 := Lib.hid (BoxM.new w7 R A3 n c3)
          have Y3 := Lib.hid (hr3.below hba)
          clear hb hba hr3 HPG hln
          go_upto_region 11 with (fail)
          generalize w7.alloc (.cells #[.int .i64 R, .slice A3 n c3] 43) = W7 at E X3 Y3 ⊢
          generalize w7.heap.size = g3 at X3 ⊢
          have m0 := E.out.bm.c0
          have m1 := E.out.bm.c1
          have hrt := refText13_c R A n c cs W7 E.out.rc (by omega) (valid_in64 HV.out).1 (fun k hk => (valid_in64 HV.out).2.2 k (by have := HL.out; omega))
          rw [show txt8 (textM R cs) = tt from HT.out.symm] at hrt
          have HRT := Lib.hid hrt
          clear hrt
          go_wp2_with fail
          refine HRT.out.mono ?_
          rintro e w8 ⟨rfl, hb⟩
          replace E := Lib.hid (E.out.next hb)
          replace X3 := Lib.hid (X3.out.next hb)
          replace Y3 := Lib.hid (Y3.out.below hb)
          clear hb m0 m1 HRT
          have m0 := E.out.bm.c0
          have m1 := E.out.bm.c1
          have x0 := X3.out.c0
          have x1 := X3.out.c1
          go_wp2_with fail
          refine (sameM_t R A3 A n c3 c cs w8 Y3.out E.out.rc (by omega)).mono ?_
          rintro e w9 ⟨rfl, hb⟩
          replace E := Lib.hid (E.out.next hb)
          clear hb m0 m1 x0 x1 X3 Y3
          go_wp2_with fail
          refine (awake13_c _ (HW.out.next E.out.below).ml).mono ?_
          rintro e' wa ⟨rfl, hb⟩
          replace E := Lib.hid (E.out.next hb)
          clear hb
          go_wp2
          go_ret
          exact ⟨rfl, E.out.below⟩
  · go_wp2_with fail
    refine (wide_t R A n c 0 none 0 0 none 0 0 W0 (fun h => hn h.1)).mono ?_
    rintro e w1 ⟨rfl, hb⟩
    replace E := Lib.hid (E.out.next hb)
    clear hb m0 m1
    go_wp2_with fail
    refine (awake13_c _ (HW.out.next E.out.below).ml).mono ?_
    rintro e' wa ⟨rfl, hb⟩
    replace E := Lib.hid (E.out.next hb)
    clear hb
    go_wp2
    go_ret
    exact ⟨rfl, E.out.below⟩
end Go.Proofs.YthjdnidapbhdlaaDoor
