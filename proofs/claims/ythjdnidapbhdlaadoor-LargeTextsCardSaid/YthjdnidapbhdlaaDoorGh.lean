/- decimal texts: large's Text -/
import Derived.Lib.AppendIntMem
import Derived.Lib.SmallJoins
import Derived.Test.YthjdnidapbhdlaaDoorGs
import Derived.Test.YthjdnidapbhdlaaDoorGe
import Derived.Test.YthjdnidapbhdlaaDoorWg
import Derived.Test.YthjdnidapbhdlaaDoorRd
set_option maxRecDepth 100000
namespace Go.Proofs.YthjdnidapbhdlaaDoor
open Go.RowKit Go.Sort
abbrev Tab (w : World) : Prop := Lib.TabBelow Tryd.prog w.heap.size w "internal/strconv.uint64pow10" .u64 Lib.pow10Tab
abbrev Bld (B b : Nat) (l : List UInt8) (w : World) : Prop := Lib.IsBuilder 82 5 B b (Lib.byteCells l) w
theorem bld_below {B b : Nat} {l : List UInt8} {w w' : World} (h : Bld B b l w) (hb : Below w.heap.size w w') : Bld B b l w' := by
  have key : ∀ p, Lib.BuilderAt 82 5 B b p (Lib.byteCells l) w → Lib.BuilderAt 82 5 B b p (Lib.byteCells l) w' := by
    intro p h
    have hlt := h.lt
    obtain ⟨hB, v, hbk, hown, hne⟩ := h
    refine ⟨hB, v, (hb.block b hlt).trans hbk, hown.kept (row := none) ⟨hb.os, hb.tape, hb.output, hb.size, fun k hk _ => hb.block k hk⟩ ?_, hne⟩
    rcases v.ownBlock with _ | q
    · exact .inl rfl
    · exact .inr (by simp)
  exact h.elim (fun h => .inl (key _ h)) (fun h => .inr (key _ h))
theorem rd_block {w w' : World} {A : Option Addr} {n B : Nat} {xs : List Nat} (h : Rd w A n xs) (hA : ∀ a, A = some a → a.block < B) (hb : Below B w w') : Rd w' A n xs :=
  h.keep hb.size fun a ha _ => hb.block _ (hA a ha)
theorem byteCells_app (l m : List UInt8) : Lib.byteCells l ++ Lib.byteCells m = Lib.byteCells (l ++ m) := by simp [Lib.byteCells]
theorem txt_take {gs : List Nat} {i : Nat} (hi : i < gs.length) (h0 : 0 < i) : txt (gs.take (i + 1)) = txt (gs.take i) ++ padded 9 gs[i] := by
  rw [List.take_succ_eq_append_getElem hi, txt_snoc]
  intro e
  have h1 : (gs.take i).length = 0 := by rw [e]; rfl
  rw [List.length_take] at h1
  omega
theorem txt_one {gs : List Nat} (hi : 0 < gs.length) : txt (gs.take 1) = Lib.decDigits gs[0] := by
  rcases gs with _ | ⟨x, gs⟩
  · simp at hi
  · simp [txt]
theorem txt_len {gs : List Nat} (h : ∀ g ∈ gs, g < 1000000000) : (txt gs).length ≤ 9 * gs.length := by
  rcases gs with _ | ⟨x, gs⟩
  · simp [txt]
  · have h1 := dd_len9 (h x (by simp))
    have h2 : ((gs.map (padded 9)).flatten).length = 9 * gs.length := by
      clear h h1
      induction gs with
      | nil => rfl
      | cons y gs ih =>
        rw [List.map_cons, List.flatten_cons, List.length_append, padded_len, ih, List.length_cons]
        omega
    simp only [txt, List.length_append, h2, List.length_cons]
    omega
/-- what Text keeps -/
structure TxtSt (w wr : World) (g B n i : Nat) (gs : List Nat) (pre : List UInt8) : Prop where
  bld : Bld B B (pre ++ txt (gs.take i)) wr
  rd : Rd wr (some ⟨g, 0, none⟩) n gs
  below : Below w.heap.size w wr
  gB : g < B
  wB : w.heap.size ≤ B
  Bw : B ≤ wr.heap.size
theorem TxtSt.calls {w wr w' : World} {g B n i : Nat} {gs : List Nat} {pre : List UInt8} (h : TxtSt w wr g B n i gs pre) (hb : Below wr.heap.size wr w') : TxtSt w w' g B n i gs pre :=
  ⟨bld_below h.bld hb, h.rd.below hb, h.below.trans (hb.mono h.below.size), h.gB, h.wB, Nat.le_trans h.Bw hb.size⟩
set_option maxHeartbeats 8000000 in
theorem Text_ok (s : Bool) (A : Option Addr) (n c V : Nat) (w : World) (h : Rd w A n (words V)) (hv : validB s (words V) = true) (ht : Tab w) :
    Calls Tryd.prog 9 #[.agg #[.bool s, .slice A n c]] w fun e w' => e = .returned (.tuple #[.string ⟨(Lib.itoa (sgn s V)).toArray⟩, .int .i64 0]) ∧ Below w.heap.size w w' := by
  have hl := h.len
  have hn : n ≤ 4096 := by
    unfold validB at hv
    split at hv
    · omega
    · simp only [Bool.and_eq_true, decide_eq_true_eq] at hv
      omega
  have hsV : s = true → V ≠ 0 := by
    rintro rfl rfl
    simp [validB, words_zero] at hv
  have HI := Lib.hid (show Lib.itoa (sgn s V) = (if s then [45] else []) ++ Lib.decDigits V by
    cases s
    · simp [sgn, Lib.itoa]
    · have := hsV rfl
      simp only [sgn, if_true, Lib.itoa]
      rw [if_pos (by omega)]
      simp)
  have HT := Lib.hid ht
  have P := Lib.hid (below_alloc w (.cells #[.bool s, .slice A n c] 24))
  have HR := Lib.hid (h.below P.out)
  have HV := Lib.hid hv
  clear h ht hv hsV
  go_enter Tryd.func9, Tryd.ntmps9
  go_upto_region 1 with (fail)
  have a0 : (w.alloc (.cells #[.bool s, .slice A n c] 24)).cell? ⟨w.heap.size, 0, none⟩ = some (.bool s) := by go_simp
  have a1 : (w.alloc (.cells #[.bool s, .slice A n c] 24)).cell? ⟨w.heap.size, 1, none⟩ = some (.slice A n c) := by go_simp
  have HL := Lib.hid (show w.heap.size < (w.alloc (.cells #[.bool s, .slice A n c] 24)).heap.size by simp)
  generalize w.alloc (.cells #[.bool s, .slice A n c] 24) = W0 at P HR HL a0 a1 ⊢
  go_wp2_with fail
  refine (valid_c s A n c (words V) W0 HR.out).mono ?_
  rintro e w1 ⟨rfl, hb⟩
  replace P := Lib.hid (P.out.trans (hb.mono P.out.size))
  replace HR := Lib.hid (HR.out.below hb)
  replace a0 := (hb.cell (p := ⟨w.heap.size, 0, none⟩) HL.out).trans a0
  replace a1 := (hb.cell (p := ⟨w.heap.size, 1, none⟩) HL.out).trans a1
  replace HL := Lib.hid (Nat.lt_of_lt_of_le HL.out hb.size)
  clear hb
  rw [HV.out]
  go_wp2_with fail
  refine (groupsOf_c A n c V w1 HR.out (by omega)).mono ?_
  rintro e w2 ⟨g, d, rfl, hcount, hrd, hb⟩
  replace P := Lib.hid (P.out.trans (hb.mono P.out.size))
  replace a0 := (hb.cell (p := ⟨w.heap.size, 0, none⟩) HL.out).trans a0
  replace HL := Lib.hid (Nat.lt_of_lt_of_le HL.out hb.size)
  clear hb a1 HR
  obtain ⟨gs, hgs⟩ : ∃ gs, gs = grp V := ⟨_, rfl⟩
  rw [← hgs] at hcount hrd ⊢
  have HG := Lib.hid (show ∀ x ∈ gs, x < 1000000000 by rw [hgs]; exact grp_lt V)
  have HTX := Lib.hid (show txt gs = Lib.decDigits V by rw [hgs]; exact txt_grp V)
  have hgp : 0 < gs.length := by rw [hgs]; exact List.length_pos_iff.2 (grp_ne V)
  clear hgs
  obtain ⟨m, hm⟩ : ∃ m, m = gs.length := ⟨_, rfl⟩
  have HM := Lib.hid hm
  rw [← hm] at hcount hrd hgp ⊢
  have HGB := Lib.hid (show g < w2.heap.size by
    obtain ⟨b, o, e, hlt, _⟩ := hrd.at_ hgp
    injection e with e
    injection e with e1 e2
    omega)
  have hba := below_alloc w2 (.cells #[.pointer none, .slice none 0 0] 82)
  have F := Lib.hid (Lib.fresh_isBuilder 82 5 w2)
  have PB := Lib.hid (P.out.trans (hba.mono P.out.size))
  have RB := Lib.hid (hrd.below hba)
  have SB := Lib.hid hba.size
  replace a0 := (hba.cell (p := ⟨w.heap.size, 0, none⟩) HL.out).trans a0
  clear hba hrd hm
  go_upto_region 5 with (fail)
  have HWB := Lib.hid P.out.size
  generalize w2.alloc (.cells #[.pointer none, .slice none 0 0] 82) = W3 at F PB RB SB a0 ⊢
  obtain ⟨B, hB⟩ : ∃ B, B = w2.heap.size := ⟨_, rfl⟩
  rw [← hB] at F SB HGB HWB ⊢
  clear hB P HL
  cases s
  · have S := Lib.hid (show TxtSt w W3 g B m 0 gs [] from ⟨F.out, RB.out, PB.out, HGB.out, HWB.out, SB.out⟩)
    clear F RB PB HGB HWB SB
    · skip
      have hlen : ((gs.length : Nat) : Int) = (gs.length : Int) := rfl
      go_wp2
      go_loopw [20] (fun iv wr => ∃ i : Nat, iv = .int .i64 (i : Int) ∧ i ≤ m ∧ TxtSt w wr g B m i gs []) (fun iv _ => (m - intOf iv).toNat)
      case atStart => exact ⟨0, rfl, Nat.zero_le _, S.out⟩
      case round =>
        obtain ⟨i, rfl, hi, hS⟩ := hrel
        clear S hlen
        rcases Nat.lt_or_ge i m with him | him
        · have him' : i < gs.length := by rw [← HM.out]; exact him
          obtain ⟨x, hx⟩ : ∃ x, x = gs[i] := ⟨_, rfl⟩
          have hx9 : x < 1000000000 := by rw [hx]; exact HG.out _ (List.getElem_mem him')
          have ex : gs.getD i 0 = x := by rw [List.getD_eq_getElem?_getD, List.getElem?_eq_getElem him', hx]; rfl
          obtain ⟨b, o, e, hbk, hcell⟩ := hS.rd.at_ (by omega)
          injection e with e
          injection e with e1 e2
          subst e1 e2
          have hc := hcell i him
          rw [ex, Nat.zero_add] at hc
          have HX := Lib.hid hx
          have HS := Lib.hid hS
          have IT := Lib.hid (Tryd.strconv_Itoa (x : Int) (by omega) (by omega) wr (HT.out wr hS.below))
          rw [Lib.itoa_nonneg] at IT
          clear hS hx ex hcell hbk
          go_wp2_with fail
          refine IT.out.mono ?_
          rintro e w5 ⟨rfl, kk, os, hw5⟩
          have hb : Below wr.heap.size wr w5 := by rw [hw5]; exact Lib.below_grow _ _ (Nat.le_refl _) _ _
          replace HS := Lib.hid (HS.out.calls hb)
          clear IT hb hw5 hc
          have hd9 := dd_len9 hx9
          have HD := Lib.hid (show (⟨(Lib.decDigits x).toArray⟩ : ByteArray).size = (Lib.decDigits x).length by show (Lib.decDigits x).toArray.size = _; simp)
          have hpre : ([] : List UInt8).length ≤ 1 := by simp
          have htl : (txt (gs.take i)).length ≤ 9 * i := by
            have h1 := txt_len (gs := gs.take i) (fun y hy => HG.out y (List.mem_of_mem_take hy))
            rw [List.length_take] at h1
            omega
          rcases Nat.eq_zero_or_pos i with hi0 | hi0
          · subst hi0
            have WS := Lib.hid (Tryd.Builder_WriteString B B (Lib.byteCells ([] ++ txt (gs.take 0))) ⟨(Lib.decDigits x).toArray⟩ w5 HS.out.bld (by rw [HD.out]; simp only [Lib.byteCells, List.length_map, List.length_append]; omega) HS.out.Bw)
            go_wp2_with fail
            refine WS.out.mono ?_
            rintro e w6 ⟨rfl, hbd, hb⟩
            have h6 : Bld B B ([] ++ txt (gs.take (0 + 1))) w6 := by
              right
              rw [Lib.strCells_toArray, byteCells_app] at hbd
              have e1 : [] ++ txt (gs.take 0) ++ Lib.decDigits x = [] ++ txt (gs.take (0 + 1)) := by
                rw [txt_one him', ← HX.out]
                simp [txt]
              rw [← e1]
              exact hbd
            have S6 := Lib.hid (show TxtSt w w6 g B m (0 + 1) gs [] from ⟨h6, rd_block HS.out.rd (fun a ha => by injection ha with ha; subst ha; exact HS.out.gB) hb, HS.out.below.trans (hb.mono HS.out.wB), HS.out.gB, HS.out.wB, Nat.le_trans HS.out.Bw hb.size⟩)
            clear WS hbd hb h6 HS
            go_wp2
            go_roundw
            case measure => simp [intOf]; omega
            case rel => exact ⟨0 + 1, rfl, by omega, S6.out⟩
          · have hk : (9 : Int) - ((Lib.decDigits x).length : Int) = ((9 - (Lib.decDigits x).length : Nat) : Int) := by omega
            obtain ⟨z, hz⟩ : ∃ z, z = 9 - (Lib.decDigits x).length := ⟨_, rfl⟩
            rw [← hz] at hk
            have RP := Lib.hid (Tryd.strings_Repeat ⟨#[48]⟩ z w5 (by omega) (by show 1 * z ≤ _; omega))
            have hrep : Lib.repeatL (⟨#[48]⟩ : ByteArray).data.toList z = List.replicate z 48 := by
              have := Lib.repeatL_replicate 48 1 z
              rw [Nat.mul_one] at this
              exact this
            rw [hrep] at RP
            clear hrep
            have HZ := Lib.hid hz
            clear hz
            go_wp2_with fail
            refine RP.out.mono ?_
            rintro e w6 ⟨rfl, hb⟩
            replace HS := Lib.hid (HS.out.calls hb)
            clear RP hb
            have HD2 := Lib.hid (show (⟨(List.replicate z (48 : UInt8)).toArray⟩ : ByteArray).size = z by show (List.replicate z (48 : UInt8)).toArray.size = _; simp)
            have WS := Lib.hid (Tryd.Builder_WriteString B B (Lib.byteCells ([] ++ txt (gs.take i))) ⟨(List.replicate z 48).toArray⟩ w6 HS.out.bld (by rw [HD2.out]; simp only [Lib.byteCells, List.length_map, List.length_append]; omega) HS.out.Bw)
            go_wp2_with fail
            refine WS.out.mono ?_
            rintro e w7 ⟨rfl, hbd, hb⟩
            rw [Lib.strCells_toArray, byteCells_app] at hbd
            have R7 := Lib.hid (rd_block HS.out.rd (fun a ha => by injection ha with ha; subst ha; exact HS.out.gB) hb)
            have P7 := Lib.hid (HS.out.below.trans (hb.mono HS.out.wB))
            have B7 := Lib.hid (Nat.le_trans HS.out.Bw hb.size)
            have W2 := Lib.hid (Tryd.Builder_WriteString B B (Lib.byteCells ([] ++ txt (gs.take i) ++ List.replicate z 48)) ⟨(Lib.decDigits x).toArray⟩ w7 (.inr hbd) (by rw [HD.out]; simp only [Lib.byteCells, List.length_map, List.length_append, List.length_replicate]; omega) B7.out)
            clear WS hbd hb
            go_wp2_with fail
            refine W2.out.mono ?_
            rintro e w8 ⟨rfl, hbd, hb⟩
            have h8 : Bld B B ([] ++ txt (gs.take (i + 1))) w8 := by
              right
              rw [Lib.strCells_toArray, byteCells_app] at hbd
              have e1 : [] ++ txt (gs.take i) ++ List.replicate z 48 ++ Lib.decDigits x = [] ++ txt (gs.take (i + 1)) := by
                rw [txt_take him' hi0, ← HX.out, padded_dd 9 (by omega) (by omega), ← HZ.out]
                simp
              rw [← e1]
              exact hbd
            have S8 := Lib.hid (show TxtSt w w8 g B m (i + 1) gs [] from ⟨h8, rd_block R7.out (fun a ha => by injection ha with ha; subst ha; exact HS.out.gB) hb, P7.out.trans (hb.mono HS.out.wB), HS.out.gB, HS.out.wB, Nat.le_trans B7.out hb.size⟩)
            clear W2 hbd hb h8 HS R7 P7 B7
            go_wp2
            go_roundw
            case measure => simp [intOf]; omega
            case rel => exact ⟨i + 1, by simp, by omega, S8.out⟩
        · have e : i = m := by omega
          subst e
          have hfin : [] ++ txt (gs.take i) = Lib.itoa (sgn false V) := by
            rw [List.take_of_length_le (by rw [HM.out]; exact Nat.le_refl _), HTX.out, HI.out]
            rfl
          have HS := Lib.hid hS
          have hbl := hS.bld
          rw [hfin] at hbl
          have ST := Lib.hid (Tryd.Builder_String_any B B (Lib.itoa (sgn false V)) wr hbl hS.Bw)
          clear hS hbl hfin
          go_wp2_with fail
          refine ST.out.mono ?_
          rintro e w6 ⟨rfl, hb⟩
          have HB := Lib.hid (HS.out.below.trans (hb.mono HS.out.wB))
          clear ST hb HS
          go_wp2
          go_ret2
          exact ⟨rfl, HB.out⟩
  · have WB := Lib.hid (Tryd.Builder_WriteByte B B [] 45 W3 F.out (by simp) SB.out)
    go_wp2_with fail
    refine WB.out.mono ?_
    rintro e w4 ⟨rfl, hbd, hb⟩
    have S := Lib.hid (show TxtSt w w4 g B m 0 gs [45] from ⟨.inr hbd, rd_block RB.out (fun a ha => by injection ha with ha; subst ha; exact HGB.out) hb, PB.out.trans (hb.mono HWB.out), HGB.out, HWB.out, Nat.le_trans SB.out hb.size⟩)
    clear F RB PB HGB HWB SB WB hbd hb a0
    · skip
      have hlen : ((gs.length : Nat) : Int) = (gs.length : Int) := rfl
      go_wp2
      go_loopw [20] (fun iv wr => ∃ i : Nat, iv = .int .i64 (i : Int) ∧ i ≤ m ∧ TxtSt w wr g B m i gs [45]) (fun iv _ => (m - intOf iv).toNat)
      case atStart => exact ⟨0, rfl, Nat.zero_le _, S.out⟩
      case round =>
        obtain ⟨i, rfl, hi, hS⟩ := hrel
        clear S hlen
        rcases Nat.lt_or_ge i m with him | him
        · have him' : i < gs.length := by rw [← HM.out]; exact him
          obtain ⟨x, hx⟩ : ∃ x, x = gs[i] := ⟨_, rfl⟩
          have hx9 : x < 1000000000 := by rw [hx]; exact HG.out _ (List.getElem_mem him')
          have ex : gs.getD i 0 = x := by rw [List.getD_eq_getElem?_getD, List.getElem?_eq_getElem him', hx]; rfl
          obtain ⟨b, o, e, hbk, hcell⟩ := hS.rd.at_ (by omega)
          injection e with e
          injection e with e1 e2
          subst e1 e2
          have hc := hcell i him
          rw [ex, Nat.zero_add] at hc
          have HX := Lib.hid hx
          have HS := Lib.hid hS
          have IT := Lib.hid (Tryd.strconv_Itoa (x : Int) (by omega) (by omega) wr (HT.out wr hS.below))
          rw [Lib.itoa_nonneg] at IT
          clear hS hx ex hcell hbk
          go_wp2_with fail
          refine IT.out.mono ?_
          rintro e w5 ⟨rfl, kk, os, hw5⟩
          have hb : Below wr.heap.size wr w5 := by rw [hw5]; exact Lib.below_grow _ _ (Nat.le_refl _) _ _
          replace HS := Lib.hid (HS.out.calls hb)
          clear IT hb hw5 hc
          have hd9 := dd_len9 hx9
          have HD := Lib.hid (show (⟨(Lib.decDigits x).toArray⟩ : ByteArray).size = (Lib.decDigits x).length by show (Lib.decDigits x).toArray.size = _; simp)
          have hpre : ([45] : List UInt8).length ≤ 1 := by simp
          have htl : (txt (gs.take i)).length ≤ 9 * i := by
            have h1 := txt_len (gs := gs.take i) (fun y hy => HG.out y (List.mem_of_mem_take hy))
            rw [List.length_take] at h1
            omega
          rcases Nat.eq_zero_or_pos i with hi0 | hi0
          · subst hi0
            have WS := Lib.hid (Tryd.Builder_WriteString B B (Lib.byteCells ([45] ++ txt (gs.take 0))) ⟨(Lib.decDigits x).toArray⟩ w5 HS.out.bld (by rw [HD.out]; simp only [Lib.byteCells, List.length_map, List.length_append]; omega) HS.out.Bw)
            go_wp2_with fail
            refine WS.out.mono ?_
            rintro e w6 ⟨rfl, hbd, hb⟩
            have h6 : Bld B B ([45] ++ txt (gs.take (0 + 1))) w6 := by
              right
              rw [Lib.strCells_toArray, byteCells_app] at hbd
              have e1 : [45] ++ txt (gs.take 0) ++ Lib.decDigits x = [45] ++ txt (gs.take (0 + 1)) := by
                rw [txt_one him', ← HX.out]
                simp [txt]
              rw [← e1]
              exact hbd
            have S6 := Lib.hid (show TxtSt w w6 g B m (0 + 1) gs [45] from ⟨h6, rd_block HS.out.rd (fun a ha => by injection ha with ha; subst ha; exact HS.out.gB) hb, HS.out.below.trans (hb.mono HS.out.wB), HS.out.gB, HS.out.wB, Nat.le_trans HS.out.Bw hb.size⟩)
            clear WS hbd hb h6 HS
            go_wp2
            go_roundw
            case measure => simp [intOf]; omega
            case rel => exact ⟨0 + 1, rfl, by omega, S6.out⟩
          · have hk : (9 : Int) - ((Lib.decDigits x).length : Int) = ((9 - (Lib.decDigits x).length : Nat) : Int) := by omega
            obtain ⟨z, hz⟩ : ∃ z, z = 9 - (Lib.decDigits x).length := ⟨_, rfl⟩
            rw [← hz] at hk
            have RP := Lib.hid (Tryd.strings_Repeat ⟨#[48]⟩ z w5 (by omega) (by show 1 * z ≤ _; omega))
            have hrep : Lib.repeatL (⟨#[48]⟩ : ByteArray).data.toList z = List.replicate z 48 := by
              have := Lib.repeatL_replicate 48 1 z
              rw [Nat.mul_one] at this
              exact this
            rw [hrep] at RP
            clear hrep
            have HZ := Lib.hid hz
            clear hz
            go_wp2_with fail
            refine RP.out.mono ?_
            rintro e w6 ⟨rfl, hb⟩
            replace HS := Lib.hid (HS.out.calls hb)
            clear RP hb
            have HD2 := Lib.hid (show (⟨(List.replicate z (48 : UInt8)).toArray⟩ : ByteArray).size = z by show (List.replicate z (48 : UInt8)).toArray.size = _; simp)
            have WS := Lib.hid (Tryd.Builder_WriteString B B (Lib.byteCells ([45] ++ txt (gs.take i))) ⟨(List.replicate z 48).toArray⟩ w6 HS.out.bld (by rw [HD2.out]; simp only [Lib.byteCells, List.length_map, List.length_append]; omega) HS.out.Bw)
            go_wp2_with fail
            refine WS.out.mono ?_
            rintro e w7 ⟨rfl, hbd, hb⟩
            rw [Lib.strCells_toArray, byteCells_app] at hbd
            have R7 := Lib.hid (rd_block HS.out.rd (fun a ha => by injection ha with ha; subst ha; exact HS.out.gB) hb)
            have P7 := Lib.hid (HS.out.below.trans (hb.mono HS.out.wB))
            have B7 := Lib.hid (Nat.le_trans HS.out.Bw hb.size)
            have W2 := Lib.hid (Tryd.Builder_WriteString B B (Lib.byteCells ([45] ++ txt (gs.take i) ++ List.replicate z 48)) ⟨(Lib.decDigits x).toArray⟩ w7 (.inr hbd) (by rw [HD.out]; simp only [Lib.byteCells, List.length_map, List.length_append, List.length_replicate]; omega) B7.out)
            clear WS hbd hb
            go_wp2_with fail
            refine W2.out.mono ?_
            rintro e w8 ⟨rfl, hbd, hb⟩
            have h8 : Bld B B ([45] ++ txt (gs.take (i + 1))) w8 := by
              right
              rw [Lib.strCells_toArray, byteCells_app] at hbd
              have e1 : [45] ++ txt (gs.take i) ++ List.replicate z 48 ++ Lib.decDigits x = [45] ++ txt (gs.take (i + 1)) := by
                rw [txt_take him' hi0, ← HX.out, padded_dd 9 (by omega) (by omega), ← HZ.out]
                simp
              rw [← e1]
              exact hbd
            have S8 := Lib.hid (show TxtSt w w8 g B m (i + 1) gs [45] from ⟨h8, rd_block R7.out (fun a ha => by injection ha with ha; subst ha; exact HS.out.gB) hb, P7.out.trans (hb.mono HS.out.wB), HS.out.gB, HS.out.wB, Nat.le_trans B7.out hb.size⟩)
            clear W2 hbd hb h8 HS R7 P7 B7
            go_wp2
            go_roundw
            case measure => simp [intOf]; omega
            case rel => exact ⟨i + 1, by simp, by omega, S8.out⟩
        · have e : i = m := by omega
          subst e
          have hfin : [45] ++ txt (gs.take i) = Lib.itoa (sgn true V) := by
            rw [List.take_of_length_le (by rw [HM.out]; exact Nat.le_refl _), HTX.out, HI.out]
            rfl
          have HS := Lib.hid hS
          have hbl := hS.bld
          rw [hfin] at hbl
          have ST := Lib.hid (Tryd.Builder_String_any B B (Lib.itoa (sgn true V)) wr hbl hS.Bw)
          clear hS hbl hfin
          go_wp2_with fail
          refine ST.out.mono ?_
          rintro e w6 ⟨rfl, hb⟩
          have HB := Lib.hid (HS.out.below.trans (hb.mono HS.out.wB))
          clear ST hb HS
          go_wp2
          go_ret2
          exact ⟨rfl, HB.out⟩
end Go.Proofs.YthjdnidapbhdlaaDoor
