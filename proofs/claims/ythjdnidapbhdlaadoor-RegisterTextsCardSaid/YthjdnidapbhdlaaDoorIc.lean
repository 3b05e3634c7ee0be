/- the reference's Text of a machine -/
import Derived.Test.YthjdnidapbhdlaaDoorIb
import Derived.Test.YthjdnidapbhdlaaDoorHc
set_option maxRecDepth 100000
namespace Go.Proofs.YthjdnidapbhdlaaDoor
open Go.RowKit
/-- the word of an instruction -/
def wordT (x : Ins) : List UInt8 :=
  if x.op = 0 then 105 :: (Lib.itoa x.reg ++ 62 :: Lib.itoa x.nx)
  else if x.op = 1 then 100 :: (Lib.itoa x.reg ++ 62 :: Lib.itoa x.nx)
  else if x.op = 2 then 106 :: (Lib.itoa x.reg ++ 62 :: (Lib.itoa x.nx ++ 58 :: Lib.itoa x.zr))
  else [104]
def wordsT : List Ins → List UInt8
  | [] => []
  | x :: t => 32 :: (wordT x ++ wordsT t)
/-- the text of a machine -/
def textM (R : Int) (cs : List Ins) : List UInt8 := Lib.itoa R ++ wordsT cs
theorem wordsT_snoc : ∀ (cs : List Ins) (x : Ins), wordsT (cs ++ [x]) = wordsT cs ++ 32 :: wordT x
  | [], x => by simp [wordsT]
  | y :: t, x => by simp [wordsT, wordsT_snoc t x]
abbrev txt8 (l : List UInt8) : ByteArray := ⟨l.toArray⟩
theorem txt8_app (a b : List UInt8) : (txt8 a ++ txt8 b : ByteArray) = txt8 (a ++ b) := by
  apply ByteArray.ext
  simp
theorem itoa_len {z : Int} (h : -9223372036854775808 ≤ z ∧ z < 9223372036854775808) : (Lib.itoa z).length ≤ 20 := by
  unfold Lib.itoa
  split
  · have := dd_len_le (V := z.natAbs) (k := 19) (by omega) (by omega)
    simp only [List.length_cons]; omega
  · have := dd_len_le (V := z.toNat) (k := 19) (by omega) (by omega)
    omega
structure TxE (w W : World) (g : Nat) (R : Int) (A : Option Addr) (n c : Nat) (cs : List Ins) : Prop where
  below : Below w.heap.size w W
  bm : BoxM W g R A n c
  rc : RdC W A n cs
theorem TxE.next {w W W' : World} {g : Nat} {R : Int} {A : Option Addr} {n c : Nat} {cs : List Ins} (h : TxE w W g R A n c cs) (hb : Below W.heap.size W W') : TxE w W' g R A n c cs :=
  ⟨h.below.trans (hb.mono h.below.size), h.bm.next hb, h.rc.below hb⟩
theorem TxE.start (R : Int) (A : Option Addr) (n c : Nat) (cs : List Ins) (w : World) (h : RdC w A n cs) : TxE w (w.alloc (.cells #[.int .i64 R, .slice A n c] 43)) w.heap.size R A n c cs :=
  ⟨bel_alloc w _, BoxM.new w R A n c, h.below (bel_alloc w _)⟩
/-- a range -/
abbrev In64 (z : Int) : Prop := -9223372036854775808 ≤ z ∧ z < 9223372036854775808
theorem word_len {x : Ins} (h : x.op = 3 ∨ (In64 x.reg ∧ In64 x.nx ∧ In64 x.zr)) : (wordT x).length ≤ 63 := by
  unfold wordT
  rcases h with h | ⟨h1, h2, h3⟩
  · rw [if_neg (by omega), if_neg (by omega), if_neg (by omega)]; simp
  · have a := itoa_len h1
    have b := itoa_len h2
    have c := itoa_len h3
    split
    · simp only [List.length_cons, List.length_append]; omega
    · split
      · simp only [List.length_cons, List.length_append]; omega
      · split
        · simp only [List.length_cons, List.length_append]; omega
        · simp
set_option maxHeartbeats 8000000 in
theorem refText13_c (R : Int) (A : Option Addr) (n c : Nat) (cs : List Ins) (w : World) (h : RdC w A n cs) (hn : n ≤ 1000000) (hR : In64 R) (hx : ∀ k, k < n → (insAt cs k).op = 3 ∨ (In64 (insAt cs k).reg ∧ In64 (insAt cs k).nx ∧ In64 (insAt cs k).zr)) :
    Calls Tryd.prog 33 #[.agg #[.int .i64 R, .slice A n c]] w fun e w' => e = .returned (.string (txt8 (textM R cs))) ∧ Below w.heap.size w w' := by
  have E := Lib.hid (TxE.start R A n c cs w h)
  have HR := Lib.hid (fun W => num_c R W hR.1 hR.2)
  have HX := Lib.hid hx
  have HRL := Lib.hid (itoa_len hR)
  have HL := Lib.hid h.len
  clear h hR hx
  go_enter Tryd.func33, Tryd.ntmps33
  go_upto_region 1 with (fail)
  generalize w.alloc (.cells #[.int .i64 R, .slice A n c] 43) = W0 at E ⊢
  generalize w.heap.size = g at E ⊢
  have m0 := E.out.bm.c0
  go_wp2_with fail
  refine (HR.out W0).mono ?_
  rintro e w1 ⟨rfl, hb⟩
  replace E := Lib.hid (E.out.next hb)
  clear hb m0 HR W0
  go_upto_region 2 with (fail)
  go_wp2
  go_loopw [3, 4] (fun v3 v4 wr => ∃ k : Nat, v3 = .string (txt8 (textM R (cs.take k))) ∧ v4 = .int .i64 (k : Int) ∧ k ≤ n ∧ TxE w wr g R A n c cs ∧ (textM R (cs.take k)).length ≤ 20 + 70 * k) (fun _ v4 _ => n - (intOf v4).toNat)
  case atStart => exact ⟨0, by simp [textM, wordsT], rfl, Nat.zero_le _, E.out, by have := HRL.out; simpa [textM, wordsT] using this⟩
  case round =>
    obtain ⟨k, rfl, rfl, hk, he, hlk⟩ := hrel
    clear E
    have E := Lib.hid he
    clear he
    have m1 := E.out.bm.c1
    rcases Nat.lt_or_ge k n with hkn | hkn
    · have t1 : decide ((k : Int) < (n : Int)) = true := decide_eq_true (by omega)
      have hkI : (k : Int) < (n : Int) := by omega
      obtain ⟨b, p, rfl, hblt, hc⟩ := E.out.rc.at_ (by omega)
      obtain ⟨q0, q1, q2, q3⟩ := hc k hkn
      clear hc
      have HS := Lib.hid (show textM R (cs.take (k + 1)) = textM R (cs.take k) ++ 32 :: wordT (insAt cs k) by
        have e : cs.take (k + 1) = cs.take k ++ [insAt cs k] := by
          rw [List.take_add_one]
          congr 1
          unfold insAt
          have := HL.out
          simp [List.getD_eq_getElem?_getD, List.getElem?_eq_getElem (show k < cs.length by omega)]
        rw [e]
        unfold textM
        rw [wordsT_snoc, List.append_assoc])
      have HXX := Lib.hid (HX.out k hkn)
      obtain ⟨T2, hT2⟩ : ∃ T, textM R (cs.take (k + 1)) = T := ⟨_, rfl⟩
      rw [hT2] at HS
      have HTE := Lib.hid hT2
      clear hT2
      have HW := Lib.hid (word_len (HX.out k hkn))
      have HS2 := HS
      generalize textM R (cs.take k) = T1 at HS hlk ⊢
      have hT : T1.length ≤ 80000000 := by omega
      have HLK := Lib.hid hlk
      clear hlk
      have l0 : ¬ 9223372036854775807 < T1.length + 2 := by omega
      obtain ⟨x, hx⟩ : ∃ x, x = insAt cs k := ⟨_, rfl⟩
      rw [← hx] at q0 q1 q2 q3 HS HXX HW
      have HT2 := Lib.hid (show T2.length ≤ 20 + 70 * (k + 1) by rw [HS.out, List.length_append, List.length_cons]; have h1 := HW.out; have h2 := HLK.out; omega)
      clear hx HS2 HW HLK
      go_upto_region 6 with (fail)
      have X := Lib.hid (BxI.new wr x)
      have hb := bel_alloc wr (celI2 x)
      replace E := Lib.hid (E.out.next hb)
      generalize wr.alloc (celI2 x) = W1 at X E ⊢
      generalize wr.heap.size = gx at X ⊢
      clear hb q0 q1 q2 q3 m1
      have x0 := X.out.c0
      by_cases e0 : x.op = 0
      · have t0 : (x.op == 0) = true := by simp [e0]
        have HV := Lib.hid (show txt8 T2 = txt8 T1 ++ (⟨#[32, 105]⟩ : ByteArray) ++ txt8 (Lib.itoa x.reg) ++ (⟨#[62]⟩ : ByteArray) ++ txt8 (Lib.itoa x.nx) by
          simp only [txt8_app]
          rw [HS.out]
          unfold wordT
          simp [e0])
        obtain ⟨hr, hn1, hz⟩ := HXX.out.resolve_left (by omega)
        have NR := Lib.hid (fun W => num_c x.reg W hr.1 hr.2)
        have NN := Lib.hid (fun W => num_c x.nx W hn1.1 hn1.2)
        have NZ := Lib.hid (fun W => num_c x.zr W hz.1 hz.2)
        have la := itoa_len hr
        have lb := itoa_len hn1
        have lc := itoa_len hz
        generalize Lib.itoa x.reg = sr at *
        generalize Lib.itoa x.nx = sn at *
        generalize Lib.itoa x.zr = sz at *
        clear hr hn1 hz HX HXX
        have l1 : ¬ 9223372036854775807 < T1.length + 2 + sr.length := by omega
        have l2 : ¬ 9223372036854775807 < T1.length + 2 + sr.length + 1 := by omega
        have l3 : ¬ 9223372036854775807 < T1.length + 2 + sr.length + 1 + sn.length := by omega
        have l4 : ¬ 9223372036854775807 < T1.length + 2 + sr.length + 1 + sn.length + 1 := by omega
        have l5 : ¬ 9223372036854775807 < T1.length + 2 + sr.length + 1 + sn.length + 1 + sz.length := by omega
        have x1 := X.out.c1
        have x2 := X.out.c2
        have x3 := X.out.c3
        go_upto_region 9 with (fail)
        refine wp_region_tail (S := (fun w' => w'.cell? ⟨gx, 1, none⟩ = some (.int .i64 x.reg) ∧ w'.cell? ⟨gx, 2, none⟩ = some (.int .i64 x.nx) ∧ w'.cell? ⟨gx, 3, none⟩ = some (.int .i64 x.zr))) 11 (by kernel_rfl) (by kernel_rfl) (by intro c a d v w h; cases d <;> exact h) (⟨cell_dr x1, cell_dr x2, cell_dr x3⟩) (fun QT hT hP hHeld => ?_)
        simp only [List.extract_toArray, List.extract_eq_take_drop, List.drop_zero, Nat.sub_zero, List.take_succ_cons, List.take_zero]
        have HT := Lib.hid hT
        clear hT
        replace E := Lib.hid (E.out.next (Below.refl W1.heap.size W1).drew)
        replace X := Lib.hid (X.out.next (Below.refl W1.heap.size W1).drew)
        generalize W1.drew = D1 at E X hHeld ⊢
        refine take_on (i := 0) (d := (some 27)) (v := ?v1) rfl rfl (by kernel_rfl) (by kernel_rfl) (by kernel_rfl) (fun c a w h => hP c a _ _ w h) (by rfl) ?h1 (by assumption) ?r1
        case h1 => intro w hSw; obtain ⟨h0, h1, h2⟩ := hSw; go_simp; rfl
        simp only [Act.put, List.setIfInBounds_toArray, List.set_cons_zero, List.set_cons_succ]
        refine take_on (i := 1) (d := (some 28)) (v := ?v2) rfl rfl (by kernel_rfl) (by kernel_rfl) (by kernel_rfl) (fun c a w h => hP c a _ _ w h) (by rfl) ?h2 (by assumption) ?r2
        case h2 => intro w hSw; obtain ⟨h0, h1, h2⟩ := hSw; go_simp; rfl
        simp only [Act.put, List.setIfInBounds_toArray, List.set_cons_zero, List.set_cons_succ]
        refine take_on (i := 2) (d := (some 29)) (v := ?v3) rfl rfl (by kernel_rfl) (by kernel_rfl) (by kernel_rfl) (fun c a w h => hP c a _ _ w h) (by rfl) ?h3 (by assumption) ?r3
        case h3 => intro w hSw; obtain ⟨h0, h1, h2⟩ := hSw; go_simp; rfl
        simp only [Act.put, List.setIfInBounds_toArray, List.set_cons_zero, List.set_cons_succ]
        refine take_on (i := 3) (d := (some 30)) (v := ?v4) rfl rfl (by kernel_rfl) (by kernel_rfl) (by kernel_rfl) (fun c a w h => hP c a _ _ w h) (by rfl) ?h4 (by assumption) ?r4
        case h4 => intro w hSw; obtain ⟨h0, h1, h2⟩ := hSw; go_simp; rfl
        simp only [Act.put, List.setIfInBounds_toArray, List.set_cons_zero, List.set_cons_succ]
        refine take_on (i := 7) (d := (some 34)) (v := ?v5) rfl rfl (by kernel_rfl) (by kernel_rfl) (by kernel_rfl) (fun c a w h => hP c a _ _ w h) (by rfl) ?h5 (by assumption) ?r5
        case h5 => intro w hSw; obtain ⟨h0, h1, h2⟩ := hSw; go_simp; rfl
        simp only [Act.put, List.setIfInBounds_toArray, List.set_cons_zero, List.set_cons_succ]
        refine take_on (i := 8) (d := (some 35)) (v := ?v6) rfl rfl (by kernel_rfl) (by kernel_rfl) (by kernel_rfl) (fun c a w h => hP c a _ _ w h) (by rfl) ?h6 (by assumption) ?r6
        case h6 => intro w hSw; obtain ⟨h0, h1, h2⟩ := hSw; go_simp; rfl
        simp only [Act.put, List.setIfInBounds_toArray, List.set_cons_zero, List.set_cons_succ]
        refine wpAnyH_ready (rs := [4]) (by kernel_rfl) (by simp) ?_
        refine AllReadyH.cons rfl (fun K hK => ?_) AllReadyH.nil
        go_simp
        clear x1 x2 x3
        refine (NR.out D1).mono ?_
        rintro e v2 ⟨rfl, hb⟩
        replace E := Lib.hid (E.out.next hb)
        replace X := Lib.hid (X.out.next hb)
        have x1 := X.out.c1
        have x2 := X.out.c2
        have x3 := X.out.c3
        clear hb hHeld
        refine hK.out _ _ (⟨x1, x2, x3⟩) (fun hHeld => ?_)
        clear hK K
        refine take_on (i := 5) (d := (some 32)) (v := ?v7) rfl rfl (by kernel_rfl) (by kernel_rfl) (by kernel_rfl) (fun c a w h => hP c a _ _ w h) (by rfl) ?h7 (by assumption) ?r7
        case h7 => intro w hSw; obtain ⟨h0, h1, h2⟩ := hSw; go_simp; rfl
        simp only [Act.put, List.setIfInBounds_toArray, List.set_cons_zero, List.set_cons_succ]
        refine take_on (i := 6) (d := (some 33)) (v := ?v8) rfl rfl (by kernel_rfl) (by kernel_rfl) (by kernel_rfl) (fun c a w h => hP c a _ _ w h) (by rfl) ?h8 (by assumption) ?r8
        case h8 => intro w hSw; obtain ⟨h0, h1, h2⟩ := hSw; go_simp; rfl
        simp only [Act.put, List.setIfInBounds_toArray, List.set_cons_zero, List.set_cons_succ]
        refine wpAnyH_ready (rs := [9]) (by kernel_rfl) (by simp) ?_
        refine AllReadyH.cons rfl (fun K hK => ?_) AllReadyH.nil
        go_simp
        clear x1 x2 x3
        refine (NN.out v2).mono ?_
        rintro e v3 ⟨rfl, hb⟩
        replace E := Lib.hid (E.out.next hb)
        replace X := Lib.hid (X.out.next hb)
        have x1 := X.out.c1
        have x2 := X.out.c2
        have x3 := X.out.c3
        clear hb hHeld
        refine hK.out _ _ (⟨x1, x2, x3⟩) (fun hHeld => ?_)
        clear hK K
        refine take_on (i := 10) (d := (some 37)) (v := ?v9) rfl rfl (by kernel_rfl) (by kernel_rfl) (by kernel_rfl) (fun c a w h => hP c a _ _ w h) (by rfl) ?h9 (by assumption) ?r9
        case h9 => intro w hSw; obtain ⟨h0, h1, h2⟩ := hSw; go_simp; rfl
        simp only [Act.put, List.setIfInBounds_toArray, List.set_cons_zero, List.set_cons_succ]
        clear hHeld
        refine wpAnyH_done (by kernel_rfl) ?_ _
        refine HT.out _ _ ?_
        clear HT hP QT
        refine wpList_step fun K hK => ?_
        go_simp
        refine hK _ _ ?_
        clear hK K
        refine wpList_nil ?_
        clear x1 x2 x3
        go_wp2
        go_roundw
        case measure => simp [intOf]; omega
        case rel => exact ⟨k + 1, by rw [HTE.out, HV.out], by go_num, by omega, E.out, by rw [HTE.out]; exact HT2.out⟩
      · have t0 : (x.op == 0) = false := by simp [e0]
        by_cases e1 : x.op = 1
        · have t1 : (x.op == 1) = true := by simp [e1]
          have HV := Lib.hid (show txt8 T2 = txt8 T1 ++ (⟨#[32, 100]⟩ : ByteArray) ++ txt8 (Lib.itoa x.reg) ++ (⟨#[62]⟩ : ByteArray) ++ txt8 (Lib.itoa x.nx) by
            simp only [txt8_app]
            rw [HS.out]
            unfold wordT
            simp [e1])
          obtain ⟨hr, hn1, hz⟩ := HXX.out.resolve_left (by omega)
          have NR := Lib.hid (fun W => num_c x.reg W hr.1 hr.2)
          have NN := Lib.hid (fun W => num_c x.nx W hn1.1 hn1.2)
          have NZ := Lib.hid (fun W => num_c x.zr W hz.1 hz.2)
          have la := itoa_len hr
          have lb := itoa_len hn1
          have lc := itoa_len hz
          generalize Lib.itoa x.reg = sr at *
          generalize Lib.itoa x.nx = sn at *
          generalize Lib.itoa x.zr = sz at *
          clear hr hn1 hz HX HXX
          have l1 : ¬ 9223372036854775807 < T1.length + 2 + sr.length := by omega
          have l2 : ¬ 9223372036854775807 < T1.length + 2 + sr.length + 1 := by omega
          have l3 : ¬ 9223372036854775807 < T1.length + 2 + sr.length + 1 + sn.length := by omega
          have l4 : ¬ 9223372036854775807 < T1.length + 2 + sr.length + 1 + sn.length + 1 := by omega
          have l5 : ¬ 9223372036854775807 < T1.length + 2 + sr.length + 1 + sn.length + 1 + sz.length := by omega
          have x1 := X.out.c1
          have x2 := X.out.c2
          have x3 := X.out.c3
          go_upto_region 11 with (fail)
          refine wp_region_tail (S := (fun w' => w'.cell? ⟨gx, 1, none⟩ = some (.int .i64 x.reg) ∧ w'.cell? ⟨gx, 2, none⟩ = some (.int .i64 x.nx) ∧ w'.cell? ⟨gx, 3, none⟩ = some (.int .i64 x.zr))) 11 (by kernel_rfl) (by kernel_rfl) (by intro c a d v w h; cases d <;> exact h) (⟨cell_dr x1, cell_dr x2, cell_dr x3⟩) (fun QT hT hP hHeld => ?_)
          simp only [List.extract_toArray, List.extract_eq_take_drop, List.drop_zero, Nat.sub_zero, List.take_succ_cons, List.take_zero]
          have HT := Lib.hid hT
          clear hT
          replace E := Lib.hid (E.out.next (Below.refl W1.heap.size W1).drew)
          replace X := Lib.hid (X.out.next (Below.refl W1.heap.size W1).drew)
          generalize W1.drew = D4 at E X hHeld ⊢
          refine take_on (i := 0) (d := (some 40)) (v := ?v10) rfl rfl (by kernel_rfl) (by kernel_rfl) (by kernel_rfl) (fun c a w h => hP c a _ _ w h) (by rfl) ?h10 (by assumption) ?r10
          case h10 => intro w hSw; obtain ⟨h0, h1, h2⟩ := hSw; go_simp; rfl
          simp only [Act.put, List.setIfInBounds_toArray, List.set_cons_zero, List.set_cons_succ]
          refine take_on (i := 1) (d := (some 41)) (v := ?v11) rfl rfl (by kernel_rfl) (by kernel_rfl) (by kernel_rfl) (fun c a w h => hP c a _ _ w h) (by rfl) ?h11 (by assumption) ?r11
          case h11 => intro w hSw; obtain ⟨h0, h1, h2⟩ := hSw; go_simp; rfl
          simp only [Act.put, List.setIfInBounds_toArray, List.set_cons_zero, List.set_cons_succ]
          refine take_on (i := 2) (d := (some 42)) (v := ?v12) rfl rfl (by kernel_rfl) (by kernel_rfl) (by kernel_rfl) (fun c a w h => hP c a _ _ w h) (by rfl) ?h12 (by assumption) ?r12
          case h12 => intro w hSw; obtain ⟨h0, h1, h2⟩ := hSw; go_simp; rfl
          simp only [Act.put, List.setIfInBounds_toArray, List.set_cons_zero, List.set_cons_succ]
          refine take_on (i := 3) (d := (some 43)) (v := ?v13) rfl rfl (by kernel_rfl) (by kernel_rfl) (by kernel_rfl) (fun c a w h => hP c a _ _ w h) (by rfl) ?h13 (by assumption) ?r13
          case h13 => intro w hSw; obtain ⟨h0, h1, h2⟩ := hSw; go_simp; rfl
          simp only [Act.put, List.setIfInBounds_toArray, List.set_cons_zero, List.set_cons_succ]
          refine take_on (i := 7) (d := (some 47)) (v := ?v14) rfl rfl (by kernel_rfl) (by kernel_rfl) (by kernel_rfl) (fun c a w h => hP c a _ _ w h) (by rfl) ?h14 (by assumption) ?r14
          case h14 => intro w hSw; obtain ⟨h0, h1, h2⟩ := hSw; go_simp; rfl
          simp only [Act.put, List.setIfInBounds_toArray, List.set_cons_zero, List.set_cons_succ]
          refine take_on (i := 8) (d := (some 48)) (v := ?v15) rfl rfl (by kernel_rfl) (by kernel_rfl) (by kernel_rfl) (fun c a w h => hP c a _ _ w h) (by rfl) ?h15 (by assumption) ?r15
          case h15 => intro w hSw; obtain ⟨h0, h1, h2⟩ := hSw; go_simp; rfl
          simp only [Act.put, List.setIfInBounds_toArray, List.set_cons_zero, List.set_cons_succ]
          refine wpAnyH_ready (rs := [4]) (by kernel_rfl) (by simp) ?_
          refine AllReadyH.cons rfl (fun K hK => ?_) AllReadyH.nil
          go_simp
          clear x1 x2 x3
          refine (NR.out D4).mono ?_
          rintro e v5 ⟨rfl, hb⟩
          replace E := Lib.hid (E.out.next hb)
          replace X := Lib.hid (X.out.next hb)
          have x1 := X.out.c1
          have x2 := X.out.c2
          have x3 := X.out.c3
          clear hb hHeld
          refine hK.out _ _ (⟨x1, x2, x3⟩) (fun hHeld => ?_)
          clear hK K
          refine take_on (i := 5) (d := (some 45)) (v := ?v16) rfl rfl (by kernel_rfl) (by kernel_rfl) (by kernel_rfl) (fun c a w h => hP c a _ _ w h) (by rfl) ?h16 (by assumption) ?r16
          case h16 => intro w hSw; obtain ⟨h0, h1, h2⟩ := hSw; go_simp; rfl
          simp only [Act.put, List.setIfInBounds_toArray, List.set_cons_zero, List.set_cons_succ]
          refine take_on (i := 6) (d := (some 46)) (v := ?v17) rfl rfl (by kernel_rfl) (by kernel_rfl) (by kernel_rfl) (fun c a w h => hP c a _ _ w h) (by rfl) ?h17 (by assumption) ?r17
          case h17 => intro w hSw; obtain ⟨h0, h1, h2⟩ := hSw; go_simp; rfl
          simp only [Act.put, List.setIfInBounds_toArray, List.set_cons_zero, List.set_cons_succ]
          refine wpAnyH_ready (rs := [9]) (by kernel_rfl) (by simp) ?_
          refine AllReadyH.cons rfl (fun K hK => ?_) AllReadyH.nil
          go_simp
          clear x1 x2 x3
          refine (NN.out v5).mono ?_
          rintro e v6 ⟨rfl, hb⟩
          replace E := Lib.hid (E.out.next hb)
          replace X := Lib.hid (X.out.next hb)
          have x1 := X.out.c1
          have x2 := X.out.c2
          have x3 := X.out.c3
          clear hb hHeld
          refine hK.out _ _ (⟨x1, x2, x3⟩) (fun hHeld => ?_)
          clear hK K
          refine take_on (i := 10) (d := (some 50)) (v := ?v18) rfl rfl (by kernel_rfl) (by kernel_rfl) (by kernel_rfl) (fun c a w h => hP c a _ _ w h) (by rfl) ?h18 (by assumption) ?r18
          case h18 => intro w hSw; obtain ⟨h0, h1, h2⟩ := hSw; go_simp; rfl
          simp only [Act.put, List.setIfInBounds_toArray, List.set_cons_zero, List.set_cons_succ]
          clear hHeld
          refine wpAnyH_done (by kernel_rfl) ?_ _
          refine HT.out _ _ ?_
          clear HT hP QT
          refine wpList_step fun K hK => ?_
          go_simp
          refine hK _ _ ?_
          clear hK K
          refine wpList_nil ?_
          clear x1 x2 x3
          go_wp2
          go_roundw
          case measure => simp [intOf]; omega
          case rel => exact ⟨k + 1, by rw [HTE.out, HV.out], by go_num, by omega, E.out, by rw [HTE.out]; exact HT2.out⟩
        · have t1 : (x.op == 1) = false := by simp [e1]
          by_cases e2 : x.op = 2
          · have t2 : (x.op == 2) = true := by simp [e2]
            have HV := Lib.hid (show txt8 T2 = txt8 T1 ++ (⟨#[32, 106]⟩ : ByteArray) ++ txt8 (Lib.itoa x.reg) ++ (⟨#[62]⟩ : ByteArray) ++ txt8 (Lib.itoa x.nx) ++ (⟨#[58]⟩ : ByteArray) ++ txt8 (Lib.itoa x.zr) by
              simp only [txt8_app]
              rw [HS.out]
              unfold wordT
              simp [e2])
            obtain ⟨hr, hn1, hz⟩ := HXX.out.resolve_left (by omega)
            have NR := Lib.hid (fun W => num_c x.reg W hr.1 hr.2)
            have NN := Lib.hid (fun W => num_c x.nx W hn1.1 hn1.2)
            have NZ := Lib.hid (fun W => num_c x.zr W hz.1 hz.2)
            have la := itoa_len hr
            have lb := itoa_len hn1
            have lc := itoa_len hz
            generalize Lib.itoa x.reg = sr at *
            generalize Lib.itoa x.nx = sn at *
            generalize Lib.itoa x.zr = sz at *
            clear hr hn1 hz HX HXX
            have l1 : ¬ 9223372036854775807 < T1.length + 2 + sr.length := by omega
            have l2 : ¬ 9223372036854775807 < T1.length + 2 + sr.length + 1 := by omega
            have l3 : ¬ 9223372036854775807 < T1.length + 2 + sr.length + 1 + sn.length := by omega
            have l4 : ¬ 9223372036854775807 < T1.length + 2 + sr.length + 1 + sn.length + 1 := by omega
            have l5 : ¬ 9223372036854775807 < T1.length + 2 + sr.length + 1 + sn.length + 1 + sz.length := by omega
            have x1 := X.out.c1
            have x2 := X.out.c2
            have x3 := X.out.c3
            go_upto_region 13 with (fail)
            refine wp_region_tail (S := (fun w' => w'.cell? ⟨gx, 1, none⟩ = some (.int .i64 x.reg) ∧ w'.cell? ⟨gx, 2, none⟩ = some (.int .i64 x.nx) ∧ w'.cell? ⟨gx, 3, none⟩ = some (.int .i64 x.zr))) 16 (by kernel_rfl) (by kernel_rfl) (by intro c a d v w h; cases d <;> exact h) (⟨cell_dr x1, cell_dr x2, cell_dr x3⟩) (fun QT hT hP hHeld => ?_)
            simp only [List.extract_toArray, List.extract_eq_take_drop, List.drop_zero, Nat.sub_zero, List.take_succ_cons, List.take_zero]
            have HT := Lib.hid hT
            clear hT
            replace E := Lib.hid (E.out.next (Below.refl W1.heap.size W1).drew)
            replace X := Lib.hid (X.out.next (Below.refl W1.heap.size W1).drew)
            generalize W1.drew = D7 at E X hHeld ⊢
            refine take_on (i := 0) (d := (some 53)) (v := ?v19) rfl rfl (by kernel_rfl) (by kernel_rfl) (by kernel_rfl) (fun c a w h => hP c a _ _ w h) (by rfl) ?h19 (by assumption) ?r19
            case h19 => intro w hSw; obtain ⟨h0, h1, h2⟩ := hSw; go_simp; rfl
            simp only [Act.put, List.setIfInBounds_toArray, List.set_cons_zero, List.set_cons_succ]
            refine take_on (i := 1) (d := (some 54)) (v := ?v20) rfl rfl (by kernel_rfl) (by kernel_rfl) (by kernel_rfl) (fun c a w h => hP c a _ _ w h) (by rfl) ?h20 (by assumption) ?r20
            case h20 => intro w hSw; obtain ⟨h0, h1, h2⟩ := hSw; go_simp; rfl
            simp only [Act.put, List.setIfInBounds_toArray, List.set_cons_zero, List.set_cons_succ]
            refine take_on (i := 2) (d := (some 55)) (v := ?v21) rfl rfl (by kernel_rfl) (by kernel_rfl) (by kernel_rfl) (fun c a w h => hP c a _ _ w h) (by rfl) ?h21 (by assumption) ?r21
            case h21 => intro w hSw; obtain ⟨h0, h1, h2⟩ := hSw; go_simp; rfl
            simp only [Act.put, List.setIfInBounds_toArray, List.set_cons_zero, List.set_cons_succ]
            refine take_on (i := 3) (d := (some 56)) (v := ?v22) rfl rfl (by kernel_rfl) (by kernel_rfl) (by kernel_rfl) (fun c a w h => hP c a _ _ w h) (by rfl) ?h22 (by assumption) ?r22
            case h22 => intro w hSw; obtain ⟨h0, h1, h2⟩ := hSw; go_simp; rfl
            simp only [Act.put, List.setIfInBounds_toArray, List.set_cons_zero, List.set_cons_succ]
            refine take_on (i := 7) (d := (some 60)) (v := ?v23) rfl rfl (by kernel_rfl) (by kernel_rfl) (by kernel_rfl) (fun c a w h => hP c a _ _ w h) (by rfl) ?h23 (by assumption) ?r23
            case h23 => intro w hSw; obtain ⟨h0, h1, h2⟩ := hSw; go_simp; rfl
            simp only [Act.put, List.setIfInBounds_toArray, List.set_cons_zero, List.set_cons_succ]
            refine take_on (i := 8) (d := (some 61)) (v := ?v24) rfl rfl (by kernel_rfl) (by kernel_rfl) (by kernel_rfl) (fun c a w h => hP c a _ _ w h) (by rfl) ?h24 (by assumption) ?r24
            case h24 => intro w hSw; obtain ⟨h0, h1, h2⟩ := hSw; go_simp; rfl
            simp only [Act.put, List.setIfInBounds_toArray, List.set_cons_zero, List.set_cons_succ]
            refine take_on (i := 12) (d := (some 65)) (v := ?v25) rfl rfl (by kernel_rfl) (by kernel_rfl) (by kernel_rfl) (fun c a w h => hP c a _ _ w h) (by rfl) ?h25 (by assumption) ?r25
            case h25 => intro w hSw; obtain ⟨h0, h1, h2⟩ := hSw; go_simp; rfl
            simp only [Act.put, List.setIfInBounds_toArray, List.set_cons_zero, List.set_cons_succ]
            refine take_on (i := 13) (d := (some 66)) (v := ?v26) rfl rfl (by kernel_rfl) (by kernel_rfl) (by kernel_rfl) (fun c a w h => hP c a _ _ w h) (by rfl) ?h26 (by assumption) ?r26
            case h26 => intro w hSw; obtain ⟨h0, h1, h2⟩ := hSw; go_simp; rfl
            simp only [Act.put, List.setIfInBounds_toArray, List.set_cons_zero, List.set_cons_succ]
            refine wpAnyH_ready (rs := [4]) (by kernel_rfl) (by simp) ?_
            refine AllReadyH.cons rfl (fun K hK => ?_) AllReadyH.nil
            go_simp
            clear x1 x2 x3
            refine (NR.out D7).mono ?_
            rintro e v8 ⟨rfl, hb⟩
            replace E := Lib.hid (E.out.next hb)
            replace X := Lib.hid (X.out.next hb)
            have x1 := X.out.c1
            have x2 := X.out.c2
            have x3 := X.out.c3
            clear hb hHeld
            refine hK.out _ _ (⟨x1, x2, x3⟩) (fun hHeld => ?_)
            clear hK K
            refine take_on (i := 5) (d := (some 58)) (v := ?v27) rfl rfl (by kernel_rfl) (by kernel_rfl) (by kernel_rfl) (fun c a w h => hP c a _ _ w h) (by rfl) ?h27 (by assumption) ?r27
            case h27 => intro w hSw; obtain ⟨h0, h1, h2⟩ := hSw; go_simp; rfl
            simp only [Act.put, List.setIfInBounds_toArray, List.set_cons_zero, List.set_cons_succ]
            refine take_on (i := 6) (d := (some 59)) (v := ?v28) rfl rfl (by kernel_rfl) (by kernel_rfl) (by kernel_rfl) (fun c a w h => hP c a _ _ w h) (by rfl) ?h28 (by assumption) ?r28
            case h28 => intro w hSw; obtain ⟨h0, h1, h2⟩ := hSw; go_simp; rfl
            simp only [Act.put, List.setIfInBounds_toArray, List.set_cons_zero, List.set_cons_succ]
            refine wpAnyH_ready (rs := [9]) (by kernel_rfl) (by simp) ?_
            refine AllReadyH.cons rfl (fun K hK => ?_) AllReadyH.nil
            go_simp
            clear x1 x2 x3
            refine (NN.out v8).mono ?_
            rintro e v9 ⟨rfl, hb⟩
            replace E := Lib.hid (E.out.next hb)
            replace X := Lib.hid (X.out.next hb)
            have x1 := X.out.c1
            have x2 := X.out.c2
            have x3 := X.out.c3
            clear hb hHeld
            refine hK.out _ _ (⟨x1, x2, x3⟩) (fun hHeld => ?_)
            clear hK K
            refine take_on (i := 10) (d := (some 63)) (v := ?v29) rfl rfl (by kernel_rfl) (by kernel_rfl) (by kernel_rfl) (fun c a w h => hP c a _ _ w h) (by rfl) ?h29 (by assumption) ?r29
            case h29 => intro w hSw; obtain ⟨h0, h1, h2⟩ := hSw; go_simp; rfl
            simp only [Act.put, List.setIfInBounds_toArray, List.set_cons_zero, List.set_cons_succ]
            refine take_on (i := 11) (d := (some 64)) (v := ?v30) rfl rfl (by kernel_rfl) (by kernel_rfl) (by kernel_rfl) (fun c a w h => hP c a _ _ w h) (by rfl) ?h30 (by assumption) ?r30
            case h30 => intro w hSw; obtain ⟨h0, h1, h2⟩ := hSw; go_simp; rfl
            simp only [Act.put, List.setIfInBounds_toArray, List.set_cons_zero, List.set_cons_succ]
            refine wpAnyH_ready (rs := [14]) (by kernel_rfl) (by simp) ?_
            refine AllReadyH.cons rfl (fun K hK => ?_) AllReadyH.nil
            go_simp
            clear x1 x2 x3
            refine (NZ.out v9).mono ?_
            rintro e v10 ⟨rfl, hb⟩
            replace E := Lib.hid (E.out.next hb)
            replace X := Lib.hid (X.out.next hb)
            have x1 := X.out.c1
            have x2 := X.out.c2
            have x3 := X.out.c3
            clear hb hHeld
            refine hK.out _ _ (⟨x1, x2, x3⟩) (fun hHeld => ?_)
            clear hK K
            refine take_on (i := 15) (d := (some 68)) (v := ?v31) rfl rfl (by kernel_rfl) (by kernel_rfl) (by kernel_rfl) (fun c a w h => hP c a _ _ w h) (by rfl) ?h31 (by assumption) ?r31
            case h31 => intro w hSw; obtain ⟨h0, h1, h2⟩ := hSw; go_simp; rfl
            simp only [Act.put, List.setIfInBounds_toArray, List.set_cons_zero, List.set_cons_succ]
            clear hHeld
            refine wpAnyH_done (by kernel_rfl) ?_ _
            refine HT.out _ _ ?_
            clear HT hP QT
            refine wpList_step fun K hK => ?_
            go_simp
            refine hK _ _ ?_
            clear hK K
            refine wpList_nil ?_
            clear x1 x2 x3
            go_wp2
            go_roundw
            case measure => simp [intOf]; omega
            case rel => exact ⟨k + 1, by rw [HTE.out, HV.out], by go_num, by omega, E.out, by rw [HTE.out]; exact HT2.out⟩
          · have t2 : (x.op == 2) = false := by simp [e2]
            have HV := Lib.hid (show txt8 T2 = txt8 T1 ++ (⟨#[32, 104]⟩ : ByteArray) by
              rw [HS.out]
              show txt8 _ = txt8 T1 ++ txt8 [32, 104]
              rw [txt8_app]
              unfold wordT
              simp [e0, e1, e2])
            clear HS
            go_wp2
            go_roundw
            case measure => simp [intOf]; omega
            case rel => exact ⟨k + 1, by rw [HTE.out, HV.out], by go_num, by omega, E.out, by rw [HTE.out]; exact HT2.out⟩
    · have e : k = n := by omega
      have t1 : decide ((k : Int) < (n : Int)) = false := decide_eq_false (by omega)
      go_wp2
      go_ret
      refine ⟨?_, E.out.below⟩
      rw [e, ← HL.out, List.take_length]
      rfl
end Go.Proofs.YthjdnidapbhdlaaDoor
