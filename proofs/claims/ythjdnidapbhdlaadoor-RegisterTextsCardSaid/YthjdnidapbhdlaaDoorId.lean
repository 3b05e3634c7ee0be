/- the reference's Parse of a machine's text -/
import Derived.Test.YthjdnidapbhdlaaDoorIc
import Derived.Test.YthjdnidapbhdlaaDoorHy
set_option maxRecDepth 100000
namespace Go.Proofs.YthjdnidapbhdlaaDoor
open Go.RowKit
theorem digN_lt (s : ByteArray) (a : Nat) : digN s a < 100 := by
  have hd : ∀ k, isD s k = true → bt s k ≤ 57 := fun k h => by unfold isD at h; simp at h; omega
  unfold digN
  split
  · rename_i h1
    have := hd _ h1
    split
    · rename_i h2
      have := hd _ h2
      omega
    · omega
  · omega
/-- what the reference's Parse has read before the place i -/
structure Scan where
  from_ : Nat
  first : Bool
  regs : Nat
  code : List Ins
def scanT (s : ByteArray) : Nat → Scan
  | 0 => ⟨0, true, 0, []⟩
  | i + 1 =>
    if i < s.size ∧ bt s i ≠ 32 then scanT s i
    else ⟨i + 1, false, if (scanT s i).first = true then digN (s.extract (scanT s i).from_ i) 0 else (scanT s i).regs, if (scanT s i).first = true then (scanT s i).code else (scanT s i).code ++ [insT (s.extract (scanT s i).from_ i)]⟩
theorem scan_le (s : ByteArray) : ∀ i, (scanT s i).from_ ≤ i ∧ (scanT s i).code.length ≤ i ∧ (scanT s i).regs < 100
  | 0 => ⟨Nat.le_refl _, Nat.le_refl _, by show 0 < 100; omega⟩
  | i + 1 => by
    have h := scan_le s i
    unfold scanT
    split
    · omega
    · refine ⟨Nat.le_refl _, ?_, ?_⟩
      · show (if _ then _ else _ : List Ins).length ≤ _
        split
        · omega
        · simp only [List.length_append, List.length_cons, List.length_nil]; omega
      · show (if _ then _ else _ : Nat) < _
        split
        · exact digN_lt _ _
        · omega
/-- what the reference's Parse says -/
def RParse (s : ByteArray) (w : World) (e : Ending) (w' : World) : Prop :=
  if s.size ≤ 1000 ∧ validM ((scanT s (s.size + 1)).regs : Int) (scanT s (s.size + 1)).code = true ∧ txt8 (textM ((scanT s (s.size + 1)).regs : Int) (scanT s (s.size + 1)).code) = s then
    ∃ A c, e = .returned (.tuple #[.agg #[.int .i64 ((scanT s (s.size + 1)).regs : Int), .slice A (scanT s (s.size + 1)).code.length c], .bool true]) ∧ RdC w' A (scanT s (s.size + 1)).code.length (scanT s (s.size + 1)).code ∧ (scanT s (s.size + 1)).code.length ≤ c ∧ c ≤ 9223372036854775807 ∧ Below w.heap.size w w' ∧ (∀ a, A = some a → w.heap.size ≤ a.block)
  else e = .returned (.tuple #[.agg #[.int .i64 0, .slice none 0 0], .bool false]) ∧ Below w.heap.size w w'
theorem RParse.no {s : ByteArray} {w w' : World} {e : Ending} (h : ¬ (s.size ≤ 1000 ∧ validM ((scanT s (s.size + 1)).regs : Int) (scanT s (s.size + 1)).code = true ∧ txt8 (textM ((scanT s (s.size + 1)).regs : Int) (scanT s (s.size + 1)).code) = s)) (he : e = .returned (.tuple #[.agg #[.int .i64 0, .slice none 0 0], .bool false])) (hb : Below w.heap.size w w') : RParse s w e w' := by
  unfold RParse
  rw [if_neg h]
  exact ⟨he, hb⟩
theorem RdC.far {W : World} {A : Option Addr} {n : Nat} {cs : List Ins} (h : RdC W A n cs) {p : Addr} (hp : ∀ a, A = some a → a.block ≠ p.block) (u : Value) : RdC (W.setCell p u) A n cs := by
  refine ⟨h.len, fun h0 => ?_⟩
  obtain ⟨b, o, e, hlt, hc⟩ := h.at_ h0
  have hb : b ≠ p.block := hp _ e
  have hk : ∀ q : Nat, (W.setCell p u).cell? ⟨b, q, none⟩ = W.cell? ⟨b, q, none⟩ := fun q => World.cell?_of_block (w := W) (a := ⟨b, q, none⟩) (Below.heap_setCell W p u b hb)
  refine ⟨b, o, e, by rw [World.size_setCell]; exact hlt, fun k hk2 => ?_⟩
  obtain ⟨c0, c1, c2, c3⟩ := hc k hk2
  exact ⟨(hk _).trans c0, (hk _).trans c1, (hk _).trans c2, (hk _).trans c3⟩
theorem beq_bytes_no {a b : ByteArray} (h : ¬ a = b) : (a.toList == b.toList) = false := by
  rw [beq_eq_false_iff_ne, ByteArray.toList_eq, ByteArray.toList_eq]
  intro e
  apply h
  apply ByteArray.ext
  apply Array.toList_inj.1
  exact e
theorem RParse.yes (s : ByteArray) (w : World) (h : s.size ≤ 1000 ∧ validM ((scanT s (s.size + 1)).regs : Int) (scanT s (s.size + 1)).code = true ∧ txt8 (textM ((scanT s (s.size + 1)).regs : Int) (scanT s (s.size + 1)).code) = s) (e : Ending) (w' : World) (hr : ∃ A c, e = .returned (.tuple #[.agg #[.int .i64 ((scanT s (s.size + 1)).regs : Int), .slice A (scanT s (s.size + 1)).code.length c], .bool true]) ∧ RdC w' A (scanT s (s.size + 1)).code.length (scanT s (s.size + 1)).code ∧ (scanT s (s.size + 1)).code.length ≤ c ∧ c ≤ 9223372036854775807 ∧ Below w.heap.size w w' ∧ (∀ a, A = some a → w.heap.size ≤ a.block)) : RParse s w e w' := by
  unfold RParse
  rw [if_pos h]
  exact hr
theorem valid_in64 {R : Int} {cs : List Ins} (h : validM R cs = true) : In64 R ∧ cs.length ≤ 15 ∧ ∀ k, k < cs.length → (insAt cs k).op = 3 ∨ (In64 (insAt cs k).reg ∧ In64 (insAt cs k).nx ∧ In64 (insAt cs k).zr) := by
  unfold validM validCs at h
  simp only [Bool.and_eq_true, decide_eq_true_eq] at h
  obtain ⟨⟨h1, h2, h3, h4⟩, hv⟩ := h
  refine ⟨⟨by omega, by omega⟩, h4, fun k hk => ?_⟩
  rcases valid_cases (hv k hk) with ⟨h, _⟩ | ⟨hop, a, b, c, d, hz⟩
  · exact .inl h
  · refine .inr ⟨⟨by omega, by omega⟩, ⟨by omega, by omega⟩, ?_⟩
    by_cases e2 : (insAt cs k).op = 2
    · have := hz e2; exact ⟨by omega, by omega⟩
    · have e : (insAt cs k).zr = 0 := by
        have hv2 := hv k hk
        unfold validI at hv2
        rw [if_pos (by omega)] at hv2
        simp only [Bool.and_eq_true, decide_eq_true_eq] at hv2
        exact hv2.2
      rw [e]; exact ⟨by omega, by omega⟩
set_option maxHeartbeats 2000000 in
theorem refParse13_long (s : ByteArray) (w : World) (hs : 1000 < s.size) (hs2 : s.size ≤ 9223372036854775807) : Calls Tryd.prog 31 #[.string s] w (RParse s w) := by
  have t1 : decide ((1000 : Int) < (s.size : Int)) = true := decide_eq_true (by omega)
  have HB := Lib.hid (bel_alloc w (.cells #[.int .i64 0, .slice none 0 0] 43))
  have HN := Lib.hid (fun (e : Ending) (w' : World) => RParse.no (s := s) (w := w) (w' := w') (e := e) (fun h => by omega))
  go_enter Tryd.func31, Tryd.ntmps31
  go_wp2
  refine bodyPost_ret (v := .tuple #[.agg #[.int .i64 0, .slice none 0 0], .bool false]) (by simp [results, Tryd.results31, go_sem]) rfl ?_
  exact HN.out _ _ rfl HB.out
set_option maxHeartbeats 8000000 in
theorem refParse13_ok (s : ByteArray) (w : World) (hs : s.size ≤ 1000) : Calls Tryd.prog 31 #[.string s] w (RParse s w) := by
  have t1 : decide ((1000 : Int) < (s.size : Int)) = false := decide_eq_false (by omega)
  have P := Lib.hid ((bel_alloc w (.cells #[.int .i64 0, .slice none 0 0] 43)).trans ((bel_alloc (w.alloc (.cells #[.int .i64 0, .slice none 0 0] 43)) (.cells #[.int .i64 0, .slice none 0 0] 43)).mono (bel_alloc w (.cells #[.int .i64 0, .slice none 0 0] 43)).size))
  have XR := Lib.hid ((BxM.new w 0 none 0 0).next (bel_alloc (w.alloc (.cells #[.int .i64 0, .slice none 0 0] 43)) (.cells #[.int .i64 0, .slice none 0 0] 43)))
  have X := Lib.hid (BxM.new (w.alloc (.cells #[.int .i64 0, .slice none 0 0] 43)) 0 none 0 0)
  rw [World.size_alloc] at X
  go_enter Tryd.func31, Tryd.ntmps31
  go_upto_region 4 with (fail)
  clear t1
  generalize (w.alloc (.cells #[.int .i64 0, .slice none 0 0] 43)).alloc (.cells #[.int .i64 0, .slice none 0 0] 43) = W0 at P X XR ⊢
  obtain ⟨g, hg⟩ : ∃ g, g = w.heap.size := ⟨_, rfl⟩
  rw [← hg] at X XR ⊢
  have HG := Lib.hid (Nat.le_of_eq hg.symm)
  clear hg
  obtain ⟨B, hB⟩ : ∃ B, B = W0.heap.size := ⟨_, rfl⟩
  have HBS := Lib.hid (show g < B ∧ g + 1 < B ∧ w.heap.size ≤ B ∧ B ≤ W0.heap.size by have h1 := X.out.lt; have h3 := P.out.size; omega)
  have OC := Lib.hid (OwC.nil W0 B)
  clear hB
  go_wp2
  go_loopw [5, 6, 7] (fun v5 v6 v7 wr => ∃ (i c : Nat) (A : Option Addr), v5 = .int .i64 ((scanT s i).from_ : Int) ∧ v6 = .bool (scanT s i).first ∧ v7 = .int .i64 (i : Int) ∧ i ≤ s.size + 1 ∧ BxM wr (g + 1) ((scanT s i).regs : Int) A (scanT s i).code.length c ∧ OwC wr B A (scanT s i).code.length c (scanT s i).code ∧ BxM wr g 0 none 0 0 ∧ Below w.heap.size w wr ∧ B ≤ wr.heap.size) (fun _ _ v7 _ => s.size + 1 - (intOf v7).toNat)
  case atStart => exact ⟨0, 0, none, rfl, rfl, rfl, by omega, X.out, OC.out, XR.out, P.out, HBS.out.2.2.2⟩
  case round =>
    obtain ⟨i, c, A, rfl, rfl, rfl, hi, hx, hoc, hxr, hp, hB⟩ := hrel
    clear X OC XR P
    have X := Lib.hid hx
    have OC := Lib.hid hoc
    have XR := Lib.hid hxr
    have P := Lib.hid hp
    have HSZ := Lib.hid (SzP.mk hB)
    clear hx hoc hxr hp hB
    obtain ⟨hf, hcl, hr⟩ := scan_le s i
    rcases Nat.lt_or_ge s.size i with his | his
    · have e : i = s.size + 1 := by omega
      have t1 : decide ((i : Int) ≤ (s.size : Int)) = false := decide_eq_false (by omega)
      have HSC := Lib.hid (show scanT s i = scanT s (s.size + 1) by rw [e])
      rw [HSC.out] at X OC hcl ⊢
      have HYES := Lib.hid (RParse.yes s w)
      have HNO := Lib.hid (fun (e : Ending) (w' : World) => RParse.no (s := s) (w := w) (w' := w') (e := e))
      clear HSC hf hr e
      generalize scanT s (s.size + 1) = S at X OC hcl HYES HNO ⊢
      obtain ⟨fr, fst_, rg, cs⟩ := S
      dsimp only at X OC hcl HYES HNO ⊢
      have x0 := X.out.c0
      have x1 := X.out.c1
      go_wp2_with fail
      refine (refValid13_c (rg : Int) A _ c cs wr OC.out.rd).mono ?_
      rintro e w2 ⟨rfl, hb⟩
      replace X := Lib.hid (X.out.next hb)
      replace XR := Lib.hid (XR.out.next hb)
      replace P := Lib.hid (P.out.trans (hb.mono P.out.size))
      replace OC := Lib.hid (OC.out.keep hb)
      clear hb x0 x1 HSZ
      have x0 := X.out.c0
      have x1 := X.out.c1
      obtain ⟨v, hv⟩ : ∃ v, v = validM (rg : Int) cs := ⟨_, rfl⟩
      rw [← hv]
      have HV := Lib.hid hv
      clear hv
      cases v with
      | false =>
        have y0 := XR.out.c0
        have y1 := XR.out.c1
        have f0 := XR.out.fr 0
        have f1 := XR.out.fr 1
        go_wp2
        have Q := (XR.out.put0 0).put1 none 0 0
        have z0 := Q.c0
        have z1 := Q.c1
        refine bodyPost_ret (v := .tuple #[.agg #[.int .i64 0, .slice none 0 0], .bool false]) (by simp [results, Tryd.results31, go_sem, z0, z1]) rfl ?_
        exact HNO.out _ _ (fun h => by rw [← HV.out] at h; exact absurd h.2.1 (by simp)) rfl (bel_set (bel_set P.out (p := ⟨g, 0, none⟩) HG.out _) (p := ⟨g, 1, none⟩) HG.out _)
      | true =>
        obtain ⟨hi1, hi2, hi3⟩ := valid_in64 HV.out.symm
        have HT := Lib.hid (fun (W : World) (h : RdC W A cs.length cs) => refText13_c (rg : Int) A _ c cs W h (by omega) hi1 hi3)
        clear hi1 hi2 hi3
        go_wp2_with fail
        refine (HT.out w2 OC.out.rd).mono ?_
        rintro e w3 ⟨rfl, hb⟩
        replace X := Lib.hid (X.out.next hb)
        replace XR := Lib.hid (XR.out.next hb)
        replace P := Lib.hid (P.out.trans (hb.mono P.out.size))
        replace OC := Lib.hid (OC.out.keep hb)
        clear hb x0 x1 HT
        have x0 := X.out.c0
        have x1 := X.out.c1
        have y0 := XR.out.c0
        have y1 := XR.out.c1
        have f0 := XR.out.fr 0
        have f1 := XR.out.fr 1
        obtain ⟨tt, ht⟩ : ∃ tt, tt = txt8 (textM (rg : Int) cs) := ⟨_, rfl⟩
        rw [← ht] at HNO HYES ⊢
        clear ht
        by_cases hts : tt = s
        · subst hts
          have HS := Lib.hid hs
          have t8 : (tt.toList == tt.toList) = true := by simp
          go_wp2
          have Q := (XR.out.put0 (rg : Int)).put1 A cs.length c
          have z0 := Q.c0
          have z1 := Q.c1
          refine bodyPost_ret (v := .tuple #[.agg #[.int .i64 (rg : Int), .slice A cs.length c], .bool true]) (by simp [results, Tryd.results31, go_sem, z0, z1]) rfl ?_
          refine HYES.out ⟨HS.out, HV.out.symm, by trivial⟩ _ _ ⟨A, c, rfl, ((OC.out.far (p := ⟨g, 0, none⟩) HBS.out.1 _).far (p := ⟨g, 1, none⟩) HBS.out.1 _).rd, OC.out.cap.1, OC.out.cap.2.1, bel_set (bel_set P.out (p := ⟨g, 0, none⟩) HG.out _) (p := ⟨g, 1, none⟩) HG.out _, fun a ha => Nat.le_trans HBS.out.2.2.1 (OC.out.cap.2.2 a ha)⟩
        · have t8 : (tt.toList == s.toList) = false := beq_bytes_no hts
          have HTS := Lib.hid hts
          clear hts
          go_wp2
          have Q := (XR.out.put0 0).put1 none 0 0
          have z0 := Q.c0
          have z1 := Q.c1
          refine bodyPost_ret (v := .tuple #[.agg #[.int .i64 0, .slice none 0 0], .bool false]) (by simp [results, Tryd.results31, go_sem, z0, z1]) rfl ?_
          exact HNO.out _ _ (fun h => HTS.out h.2.2) rfl (bel_set (bel_set P.out (p := ⟨g, 0, none⟩) HG.out _) (p := ⟨g, 1, none⟩) HG.out _)
    · have t1 : decide ((i : Int) ≤ (s.size : Int)) = true := decide_eq_true (by omega)
      have HSC := Lib.hid (show scanT s (i + 1) = if i < s.size ∧ bt s i ≠ 32 then scanT s i else ⟨i + 1, false, if (scanT s i).first = true then digN (s.extract (scanT s i).from_ i) 0 else (scanT s i).regs, if (scanT s i).first = true then (scanT s i).code else (scanT s i).code ++ [insT (s.extract (scanT s i).from_ i)]⟩ from rfl)
      obtain ⟨S0, hS0⟩ : ∃ S, scanT s i = S := ⟨_, rfl⟩
      rw [hS0] at X OC HSC hf hcl hr ⊢
      clear hS0
      obtain ⟨fr, fst_, rg, cs⟩ := S0
      dsimp only at X OC HSC hf hcl hr ⊢
      have hcl2 : cs.length ≤ 1000 := by omega
      have HCL := Lib.hid hcl2
      clear hcl hcl2 t1
      have t1 : decide ((i : Int) ≤ (s.size : Int)) = true := decide_eq_true (by omega)
      have hiI : (i : Int) ≤ (s.size : Int) := by omega
      have hfI : (fr : Int) ≤ (i : Int) := by omega
      by_cases hlt : i < s.size
      · have t2 : decide ((i : Int) < (s.size : Int)) = true := decide_eq_true (by omega)
        have HB := Lib.hid (show bt s i = s[i].toNat by unfold bt; rw [dif_pos hlt])
        by_cases h32 : s[i].toNat = 32
        · have HNX := Lib.hid (HSC.out.trans (if_neg (fun h => h.2 (by rw [HB.out]; exact h32))))
          have t3 : ((s[i].toNat : Int) != 32) = false := by simp; omega
          clear HSC HB h32
          have hwz : (s.extract fr i).size ≤ 100000 := by rw [ByteArray.size_extract]; omega
          cases fst_ with
          | true =>
            have HD := Lib.hid (refDigits_c (s.extract fr i) 0 · (by omega) (by omega))
            rw [Int.ofNat_zero] at HD
            clear hwz
            have x0 := X.out.c0
            have f0 := X.out.fr 0
            go_wp2_with fail
            refine (HD.out wr).mono ?_
            rintro e w2 ⟨rfl, rfl⟩
            go_wp2
            go_roundw
            case measure => simp [intOf]; omega
            case rel => exact ⟨i + 1, c, A, by rw [HNX.out]; go_num, by rw [HNX.out], by go_num, by omega, by rw [HNX.out]; exact X.out.put0 _, by rw [HNX.out]; exact OC.out.far (p := ⟨g + 1, 0, none⟩) HBS.out.2.1 _, XR.out.off (p := ⟨g + 1, 0, none⟩) (show g + 1 ≠ g by omega) _, bel_set P.out (p := ⟨g + 1, 0, none⟩) (Nat.le_succ_of_le HG.out) _, by rw [World.size_setCell]; exact HSZ.out.le⟩
          | false =>
            obtain ⟨x, hx⟩ : ∃ x, x = insT (s.extract fr i) := ⟨_, rfl⟩
            have HI := Lib.hid (fun W => refIns_c (s.extract fr i) W hwz)
            rw [← hx] at HI HNX
            clear hx hwz
            go_upto_region 11 with (fail)
            have x1 := X.out.c1
            refine wp_region_tail (S := (fun w' => w'.cell? ⟨(g + 1), 1, none⟩ = some (.slice A cs.length c))) 9 (by kernel_rfl) (by kernel_rfl) (by intro c a d v w h; cases d <;> exact h) (cell_dr x1) (fun QT hT hP hHeld => ?_)
            simp only [List.extract_toArray, List.extract_eq_take_drop, List.drop_zero, Nat.sub_zero, List.take_succ_cons, List.take_zero]
            have HT := Lib.hid hT
            clear hT
            replace X := Lib.hid (X.out.next (Below.refl wr.heap.size wr).drew)
            replace XR := Lib.hid (XR.out.next (Below.refl wr.heap.size wr).drew)
            replace P := Lib.hid (P.out.trans ((Below.refl wr.heap.size wr).drew.mono P.out.size))
            replace OC := Lib.hid (OC.out.keep (Below.refl wr.heap.size wr).drew)
            replace HSZ := Lib.hid (HSZ.out.next (Below.refl wr.heap.size wr).drew)
            generalize wr.drew = D1 at X XR P OC HSZ hHeld ⊢
            refine take_on (i := 0) (d := (some 39)) (v := ?v1) rfl rfl (by kernel_rfl) (by kernel_rfl) (by kernel_rfl) (fun c a w h => hP c a _ _ w h) (by rfl) ?h1 (by assumption) ?r1
            case h1 => intro w hSw; have h0 := hSw; go_simp; rfl
            simp only [Act.put, List.setIfInBounds_toArray, List.set_cons_zero, List.set_cons_succ]
            refine take_on (i := 1) (d := (some 40)) (v := ?v2) rfl rfl (by kernel_rfl) (by kernel_rfl) (by kernel_rfl) (fun c a w h => hP c a _ _ w h) (by rfl) ?h2 (by assumption) ?r2
            case h2 => intro w hSw; have h0 := hSw; go_simp; rfl
            simp only [Act.put, List.setIfInBounds_toArray, List.set_cons_zero, List.set_cons_succ]
            refine take_on (i := 2) (d := (some 41)) (v := ?v3) rfl rfl (by kernel_rfl) (by kernel_rfl) (by kernel_rfl) (fun c a w h => hP c a _ _ w h) (by rfl) ?h3 (by assumption) ?r3
            case h3 => intro w hSw; have h0 := hSw; go_simp; rfl
            simp only [Act.put, List.setIfInBounds_toArray, List.set_cons_zero, List.set_cons_succ]
            refine take_on (i := 3) (d := (some 42)) (v := ?v4) rfl rfl (by kernel_rfl) (by kernel_rfl) (by kernel_rfl) (fun c a w h => hP c a _ _ w h) (by rfl) ?h4 (by assumption) ?r4
            case h4 => intro w hSw; have h0 := hSw; go_simp; rfl
            simp only [Act.put, List.setIfInBounds_toArray, List.set_cons_zero, List.set_cons_succ]
            refine take_on (i := 4) (d := (some 43)) (v := ?v5) rfl rfl (by kernel_rfl) (by kernel_rfl) (by kernel_rfl) (fun c a w h => hP c a _ _ w h) (by rfl) ?h5 (by assumption) ?r5
            case h5 => intro w hSw; have h0 := hSw; go_simp; rfl
            simp only [Act.put, List.setIfInBounds_toArray, List.set_cons_zero, List.set_cons_succ]
            refine take_on (i := 5) (d := (some 44)) (v := ?v6) rfl rfl (by kernel_rfl) (by kernel_rfl) (by kernel_rfl) (fun c a w h => hP c a _ _ w h) (by rfl) ?h6 (by assumption) ?r6
            case h6 => intro w hSw; have h0 := hSw; go_simp; rfl
            simp only [Act.put, List.setIfInBounds_toArray, List.set_cons_zero, List.set_cons_succ]
            refine wpAnyH_ready (rs := [6]) (by kernel_rfl) (by simp) ?_
            refine AllReadyH.cons rfl (fun K hK => ?_) AllReadyH.nil
            go_simp
            refine (HI.out D1).mono ?_
            rintro e v2 ⟨rfl, hb⟩
            clear x1
            replace X := Lib.hid (X.out.next hb)
            replace XR := Lib.hid (XR.out.next hb)
            replace P := Lib.hid (P.out.trans (hb.mono P.out.size))
            replace OC := Lib.hid (OC.out.keep hb)
            replace HSZ := Lib.hid (HSZ.out.next hb)
            have x1 := X.out.c1
            clear hb hHeld
            refine hK.out _ _ (x1) (fun hHeld => ?_)
            clear hK K
            refine wpAnyH_ready (rs := [7]) (by kernel_rfl) (by simp) ?_
            refine AllReadyH.cons rfl (fun K hK => ?_) AllReadyH.nil
            go_simp
            have hb := bel_alloc v2 (.cells #[.int .i64 x.op, .int .i64 x.reg, .int .i64 x.nx, .int .i64 x.zr] 70)
            have XB := Lib.hid (BxI.new v2 x)
            replace X := Lib.hid (X.out.next hb)
            replace XR := Lib.hid (XR.out.next hb)
            replace P := Lib.hid (P.out.trans (hb.mono P.out.size))
            replace OC := Lib.hid (OC.out.keep hb)
            replace HSZ := Lib.hid (HSZ.out.next hb)
            clear hb hHeld x1
            generalize v2.alloc (.cells #[.int .i64 x.op, .int .i64 x.reg, .int .i64 x.nx, .int .i64 x.zr] 70) = Y3 at X XR P OC HSZ XB ⊢
            generalize v2.heap.size = gb at XB ⊢
            have x1 := X.out.c1
            refine hK.out _ _ (x1) (fun hHeld => ?_)
            clear hK K
            refine wpAnyH_ready (rs := [8]) (by kernel_rfl) (by simp) ?_
            refine AllReadyH.cons rfl (fun K hK => ?_) AllReadyH.nil
            refine step_app_ins rfl (.tmp 40) (.tmp 46) rfl B A cs.length c cs x gb 1 rfl rfl OC.out HSZ.out.le XB.out (by have := HCL.out; omega) ?_
            intro g' c' w9 h1 hb
            have OC2 := Lib.hid h1
            have hsz : B ≤ w9.heap.size := Nat.le_trans HSZ.out.le hb.size
            have X2 := Lib.hid (X.out.low HBS.out.2.1 hb)
            have XR2 := Lib.hid (XR.out.low HBS.out.1 hb)
            have P2 := Lib.hid (P.out.trans (hb.mono HBS.out.2.2.1))
            clear x1 h1 hHeld XB X XR P OC HI HSZ
            have HSZ := Lib.hid hsz
            clear hb hsz
            have x1 := X2.out.c1
            refine hK.out _ _ (x1) (fun hHeld => ?_)
            clear hK K
            clear hHeld
            refine wpAnyH_done (by kernel_rfl) ?_ _
            refine HT.out _ _ ?_
            clear HT hP QT
            have f1 := X2.out.fr 1
            refine wpList_step fun K hK => ?_
            go_simp
            refine hK _ _ ?_
            clear hK K
            refine wpList_step fun K hK => ?_
            go_simp
            refine hK _ _ ?_
            clear hK K
            refine wpList_nil ?_
            clear f1 x1
            go_wp2
            go_roundw
            case measure => simp [intOf]; omega
            case rel => exact ⟨i + 1, c', some ⟨g', 0, none⟩, by rw [HNX.out]; go_num, by rw [HNX.out], by go_num, by omega, by rw [HNX.out]; simp only [Bool.false_eq_true, if_false, List.length_append, List.length_cons, List.length_nil]; exact X2.out.put1 _ _ _, by rw [HNX.out]; simp only [Bool.false_eq_true, if_false, List.length_append, List.length_cons, List.length_nil]; exact OC2.out.far (p := ⟨g + 1, 1, none⟩) HBS.out.2.1 _, XR2.out.off (p := ⟨g + 1, 1, none⟩) (show g + 1 ≠ g by omega) _, bel_set P2.out (p := ⟨g + 1, 1, none⟩) (Nat.le_succ_of_le HG.out) _, by rw [World.size_setCell]; exact HSZ.out⟩
        · have HNX := Lib.hid (HSC.out.trans (if_pos ⟨hlt, by rw [HB.out]; exact h32⟩))
          have t3 : ((s[i].toNat : Int) != 32) = true := by simp; omega
          clear HSC HB h32
          go_wp2
          go_roundw
          case measure => simp [intOf]; omega
          case rel => exact ⟨i + 1, c, A, by rw [HNX.out], by rw [HNX.out], by go_num, by omega, by rw [HNX.out]; exact X.out, by rw [HNX.out]; exact OC.out, XR.out, P.out, HSZ.out.le⟩
      · have t2 : decide ((i : Int) < (s.size : Int)) = false := decide_eq_false (by omega)
        have HNX := Lib.hid (HSC.out.trans (if_neg (fun h => hlt h.1)))
        clear HSC
        have hwz : (s.extract fr i).size ≤ 100000 := by rw [ByteArray.size_extract]; omega
        cases fst_ with
        | true =>
          have HD := Lib.hid (refDigits_c (s.extract fr i) 0 · (by omega) (by omega))
          rw [Int.ofNat_zero] at HD
          clear hwz
          have x0 := X.out.c0
          have f0 := X.out.fr 0
          go_wp2_with fail
          refine (HD.out wr).mono ?_
          rintro e w2 ⟨rfl, rfl⟩
          go_wp2
          go_roundw
          case measure => simp [intOf]; omega
          case rel => exact ⟨i + 1, c, A, by rw [HNX.out]; go_num, by rw [HNX.out], by go_num, by omega, by rw [HNX.out]; exact X.out.put0 _, by rw [HNX.out]; exact OC.out.far (p := ⟨g + 1, 0, none⟩) HBS.out.2.1 _, XR.out.off (p := ⟨g + 1, 0, none⟩) (show g + 1 ≠ g by omega) _, bel_set P.out (p := ⟨g + 1, 0, none⟩) (Nat.le_succ_of_le HG.out) _, by rw [World.size_setCell]; exact HSZ.out.le⟩
        | false =>
          obtain ⟨x, hx⟩ : ∃ x, x = insT (s.extract fr i) := ⟨_, rfl⟩
          have HI := Lib.hid (fun W => refIns_c (s.extract fr i) W hwz)
          rw [← hx] at HI HNX
          clear hx hwz
          go_upto_region 11 with (fail)
          have x1 := X.out.c1
          refine wp_region_tail (S := (fun w' => w'.cell? ⟨(g + 1), 1, none⟩ = some (.slice A cs.length c))) 9 (by kernel_rfl) (by kernel_rfl) (by intro c a d v w h; cases d <;> exact h) (cell_dr x1) (fun QT hT hP hHeld => ?_)
          simp only [List.extract_toArray, List.extract_eq_take_drop, List.drop_zero, Nat.sub_zero, List.take_succ_cons, List.take_zero]
          have HT := Lib.hid hT
          clear hT
          replace X := Lib.hid (X.out.next (Below.refl wr.heap.size wr).drew)
          replace XR := Lib.hid (XR.out.next (Below.refl wr.heap.size wr).drew)
          replace P := Lib.hid (P.out.trans ((Below.refl wr.heap.size wr).drew.mono P.out.size))
          replace OC := Lib.hid (OC.out.keep (Below.refl wr.heap.size wr).drew)
          replace HSZ := Lib.hid (HSZ.out.next (Below.refl wr.heap.size wr).drew)
          generalize wr.drew = D4 at X XR P OC HSZ hHeld ⊢
          refine take_on (i := 0) (d := (some 39)) (v := ?v7) rfl rfl (by kernel_rfl) (by kernel_rfl) (by kernel_rfl) (fun c a w h => hP c a _ _ w h) (by rfl) ?h7 (by assumption) ?r7
          case h7 => intro w hSw; have h0 := hSw; go_simp; rfl
          simp only [Act.put, List.setIfInBounds_toArray, List.set_cons_zero, List.set_cons_succ]
          refine take_on (i := 1) (d := (some 40)) (v := ?v8) rfl rfl (by kernel_rfl) (by kernel_rfl) (by kernel_rfl) (fun c a w h => hP c a _ _ w h) (by rfl) ?h8 (by assumption) ?r8
          case h8 => intro w hSw; have h0 := hSw; go_simp; rfl
          simp only [Act.put, List.setIfInBounds_toArray, List.set_cons_zero, List.set_cons_succ]
          refine take_on (i := 2) (d := (some 41)) (v := ?v9) rfl rfl (by kernel_rfl) (by kernel_rfl) (by kernel_rfl) (fun c a w h => hP c a _ _ w h) (by rfl) ?h9 (by assumption) ?r9
          case h9 => intro w hSw; have h0 := hSw; go_simp; rfl
          simp only [Act.put, List.setIfInBounds_toArray, List.set_cons_zero, List.set_cons_succ]
          refine take_on (i := 3) (d := (some 42)) (v := ?v10) rfl rfl (by kernel_rfl) (by kernel_rfl) (by kernel_rfl) (fun c a w h => hP c a _ _ w h) (by rfl) ?h10 (by assumption) ?r10
          case h10 => intro w hSw; have h0 := hSw; go_simp; rfl
          simp only [Act.put, List.setIfInBounds_toArray, List.set_cons_zero, List.set_cons_succ]
          refine take_on (i := 4) (d := (some 43)) (v := ?v11) rfl rfl (by kernel_rfl) (by kernel_rfl) (by kernel_rfl) (fun c a w h => hP c a _ _ w h) (by rfl) ?h11 (by assumption) ?r11
          case h11 => intro w hSw; have h0 := hSw; go_simp; rfl
          simp only [Act.put, List.setIfInBounds_toArray, List.set_cons_zero, List.set_cons_succ]
          refine take_on (i := 5) (d := (some 44)) (v := ?v12) rfl rfl (by kernel_rfl) (by kernel_rfl) (by kernel_rfl) (fun c a w h => hP c a _ _ w h) (by rfl) ?h12 (by assumption) ?r12
          case h12 => intro w hSw; have h0 := hSw; go_simp; rfl
          simp only [Act.put, List.setIfInBounds_toArray, List.set_cons_zero, List.set_cons_succ]
          refine wpAnyH_ready (rs := [6]) (by kernel_rfl) (by simp) ?_
          refine AllReadyH.cons rfl (fun K hK => ?_) AllReadyH.nil
          go_simp
          refine (HI.out D4).mono ?_
          rintro e v5 ⟨rfl, hb⟩
          clear x1
          replace X := Lib.hid (X.out.next hb)
          replace XR := Lib.hid (XR.out.next hb)
          replace P := Lib.hid (P.out.trans (hb.mono P.out.size))
          replace OC := Lib.hid (OC.out.keep hb)
          replace HSZ := Lib.hid (HSZ.out.next hb)
          have x1 := X.out.c1
          clear hb hHeld
          refine hK.out _ _ (x1) (fun hHeld => ?_)
          clear hK K
          refine wpAnyH_ready (rs := [7]) (by kernel_rfl) (by simp) ?_
          refine AllReadyH.cons rfl (fun K hK => ?_) AllReadyH.nil
          go_simp
          have hb := bel_alloc v5 (.cells #[.int .i64 x.op, .int .i64 x.reg, .int .i64 x.nx, .int .i64 x.zr] 70)
          have XB := Lib.hid (BxI.new v5 x)
          replace X := Lib.hid (X.out.next hb)
          replace XR := Lib.hid (XR.out.next hb)
          replace P := Lib.hid (P.out.trans (hb.mono P.out.size))
          replace OC := Lib.hid (OC.out.keep hb)
          replace HSZ := Lib.hid (HSZ.out.next hb)
          clear hb hHeld x1
          generalize v5.alloc (.cells #[.int .i64 x.op, .int .i64 x.reg, .int .i64 x.nx, .int .i64 x.zr] 70) = Y6 at X XR P OC HSZ XB ⊢
          generalize v5.heap.size = gb at XB ⊢
          have x1 := X.out.c1
          refine hK.out _ _ (x1) (fun hHeld => ?_)
          clear hK K
          refine wpAnyH_ready (rs := [8]) (by kernel_rfl) (by simp) ?_
          refine AllReadyH.cons rfl (fun K hK => ?_) AllReadyH.nil
          refine step_app_ins rfl (.tmp 40) (.tmp 46) rfl B A cs.length c cs x gb 1 rfl rfl OC.out HSZ.out.le XB.out (by have := HCL.out; omega) ?_
          intro g' c' w9 h1 hb
          have OC2 := Lib.hid h1
          have hsz : B ≤ w9.heap.size := Nat.le_trans HSZ.out.le hb.size
          have X2 := Lib.hid (X.out.low HBS.out.2.1 hb)
          have XR2 := Lib.hid (XR.out.low HBS.out.1 hb)
          have P2 := Lib.hid (P.out.trans (hb.mono HBS.out.2.2.1))
          clear x1 h1 hHeld XB X XR P OC HI HSZ
          have HSZ := Lib.hid hsz
          clear hb hsz
          have x1 := X2.out.c1
          refine hK.out _ _ (x1) (fun hHeld => ?_)
          clear hK K
          clear hHeld
          refine wpAnyH_done (by kernel_rfl) ?_ _
          refine HT.out _ _ ?_
          clear HT hP QT
          have f1 := X2.out.fr 1
          refine wpList_step fun K hK => ?_
          go_simp
          refine hK _ _ ?_
          clear hK K
          refine wpList_step fun K hK => ?_
          go_simp
          refine hK _ _ ?_
          clear hK K
          refine wpList_nil ?_
          clear f1 x1
          go_wp2
          go_roundw
          case measure => simp [intOf]; omega
          case rel => exact ⟨i + 1, c', some ⟨g', 0, none⟩, by rw [HNX.out]; go_num, by rw [HNX.out], by go_num, by omega, by rw [HNX.out]; simp only [Bool.false_eq_true, if_false, List.length_append, List.length_cons, List.length_nil]; exact X2.out.put1 _ _ _, by rw [HNX.out]; simp only [Bool.false_eq_true, if_false, List.length_append, List.length_cons, List.length_nil]; exact OC2.out.far (p := ⟨g + 1, 1, none⟩) HBS.out.2.1 _, XR2.out.off (p := ⟨g + 1, 1, none⟩) (show g + 1 ≠ g by omega) _, bel_set P2.out (p := ⟨g + 1, 1, none⟩) (Nat.le_succ_of_le HG.out) _, by rw [World.size_setCell]; exact HSZ.out⟩
end Go.Proofs.YthjdnidapbhdlaaDoor
