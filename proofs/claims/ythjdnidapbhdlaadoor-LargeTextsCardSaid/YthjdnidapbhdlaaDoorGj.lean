/- decimal texts: large's readGroups -/
import Derived.Test.YthjdnidapbhdlaaDoorGi
set_option maxRecDepth 100000
namespace Go.Proofs.YthjdnidapbhdlaaDoor
open Go.RowKit Go.Sort
theorem ext_drop (r : ByteArray) (n : Nat) : (r.extract n r.size).data.toList = r.data.toList.drop n := by
  rw [ByteArray.data_extract, Array.toList_extract]
  simp only [List.extract_eq_take_drop]
  rw [List.take_of_length_le]
  simp
theorem ext_take (r : ByteArray) (n : Nat) : (r.extract 0 n).data.toList = r.data.toList.take n := by
  rw [ByteArray.data_extract, Array.toList_extract]
  simp [List.extract_eq_take_drop]
theorem digits_sub {l : List UInt8} (h : Digits l) (k n : Nat) : Digits ((l.drop k).take n) := fun c hc => h c (List.mem_of_mem_drop (List.mem_of_mem_take hc))
theorem val10_step {l : List UInt8} {k n : Nat} (h : k = 0 ∨ n = 9) (hn : k + n ≤ l.length) : val10 (l.take (k + n)) = val10 (l.take k) * 1000000000 + val10 ((l.drop k).take n) := by
  have e : l.take (k + n) = l.take k ++ (l.drop k).take n := by rw [List.take_add]
  rw [e, val10_app, List.length_take, List.length_drop, Nat.min_eq_left (by omega)]
  rcases h with rfl | rfl
  · simp [val10]
  · rfl
theorem val10_words {l : List UInt8} (h : Digits l) (k : Nat) : (words (val10 (l.take k))).length ≤ l.length := by
  rw [words_len_le]
  have h1 := val10_lt (l := l.take k) (fun c hc => h c (List.mem_of_mem_take hc))
  have h2 : (10 : Nat) ^ (l.take k).length ≤ 10 ^ l.length := Nat.pow_le_pow_right (by omega) (by rw [List.length_take]; omega)
  have h3 : (10 : Nat) ^ l.length ≤ pw l.length := by
    unfold pw
    exact Nat.pow_le_pow_left (by omega) _
  omega
/-- what readGroups keeps -/
structure RgSt (w wr : World) (l : List UInt8) (k : Nat) (r : ByteArray) (sv : Value) : Prop where
  le : k ≤ l.length
  nine : k = 0 ∨ (l.length - k) % 9 = 0
  rest : r.data.toList = l.drop k
  own : wr.ownsRow w.heap.size 86 1 sv (words (val10 (l.take k))).length ((words (val10 (l.take k))).map enc32)
  some_ : sv ≠ .slice none 0 0
  below : Below w.heap.size w wr
set_option maxHeartbeats 8000000 in
theorem readGroups_c (s : ByteArray) (w : World) (hd : Digits s.data.toList) (hs : s.size ≤ 60000) :
    Calls Tryd.prog 50 #[.string s] w fun e w' => ∃ A c, e = .returned (.slice A (words (val10 s.data.toList)).length c) ∧ Rd w' A (words (val10 s.data.toList)).length (words (val10 s.data.toList)) ∧ (words (val10 s.data.toList)).length ≤ c ∧ c ≤ 9223372036854775807 ∧ Below w.heap.size w w' := by
  obtain ⟨l, hl⟩ : ∃ l, l = s.data.toList := ⟨_, rfl⟩
  have hsl : s.size = l.length := by rw [hl]; rfl
  have HS := Lib.hid hl
  rw [← hl] at hd ⊢
  have HD := Lib.hid hd
  clear hd hl
  obtain ⟨i0, hi, hz0, hz1, hz2⟩ := info_parts info32
  obtain ⟨w1, hrun, own1, gr1⟩ := run_make_own (P := Tryd.prog) w w.heap.size 22 86 i0 (.int .u32 0) 1 Tryd.underlying22 hi hz0 hz1 .i64 .i64 (l.length / 9 + 1) (by rw [hz2]; omega) (by simp only [maxLen]; omega) (Nat.le_refl _)
  rw [show ((l.length / 9 + 1 : Nat) : Int) = (l.length : Int) / 9 + 1 by omega] at hrun
  go_enter Tryd.func50, Tryd.ntmps50
  have hb1 : Below w.heap.size w w1 := ⟨gr1.os, gr1.tape, gr1.output, gr1.size, fun q hq => gr1.block q hq (by simp)⟩
  have S0 := Lib.hid (show RgSt w w1 l 0 s (.slice (some ⟨w.heap.size, 0, none⟩) 0 (l.length / 9 + 1)) from
    ⟨Nat.zero_le _, .inl rfl, by rw [← HS.out]; rfl, by
      have e : words (val10 (l.take 0)) = [] := by rw [List.take_zero]; exact words_zero
      rw [e]
      exact own1, by simp, hb1⟩)
  clear own1 gr1 hb1 hi hz0 hz1 hz2
  have conv : ∀ (w : World) (s : ByteArray), (convert 9 80 (.string s)).run Tryd.prog w = .ok (.slice (some ⟨w.heap.size, 0, none⟩) s.size (grownCap w s.size 0 5)) (w.drew.alloc (.cells (bytesRow s (grownCap w s.size 0 5)) 5 ((bytesRow s (grownCap w s.size 0 5)).size, (bytesRow s (grownCap w s.size 0 5)).size + 1))) := fun w s => run_bytes_of_string w _ _ _ s Tryd.underlying9 Tryd.underlying80 Tryd.underlying5
  go_wp2
  go_loopw [0, 3] (fun s0 s3 wr => ∃ (k : Nat) (r : ByteArray) (sv : Value), s0 = .string r ∧ sv = s3 ∧ RgSt w wr l k r sv) (fun s0 _ _ => match s0 with | .string r => r.size | _ => 0)
  case atStart => exact ⟨0, s, _, rfl, rfl, S0.out⟩
  case round =>
    obtain ⟨k, r, sv, rfl, rfl, hS⟩ := hrel
    clear S0
    have hrs : r.size = l.length - k := by
      have := congrArg List.length hS.rest
      rw [List.length_drop] at this
      exact this
    have hkl := hS.le
    by_cases hr0 : r.size = 0
    · have ek : k = l.length := by omega
      obtain ⟨g2, cap, rfl, hBg, hlt, hc1, hc2, _, hH⟩ := Lib.holds_of_ownsRow hS.own hS.some_
      have ev : val10 (l.take k) = val10 l := by rw [ek, List.take_of_length_le (Nat.le_refl _)]
      rw [ev] at hc1 hH
      have R := Lib.hid (show Rd wr (some ⟨g2, 0, none⟩) (words (val10 l)).length (words (val10 l)) from ⟨rfl, words_small _, fun _ => ⟨g2, 0, rfl, hlt, fun j hj => by
        rw [(hH j (by simpa using hj)).1]
        simp only [enc32, List.getElem!_toArray]
        rw [getElem!_pos _ j hj, List.getD_eq_getElem?_getD, List.getElem?_eq_getElem hj]
        rfl⟩⟩)
      have HB := Lib.hid hS.below
      have HC := Lib.hid (And.intro hc1 (show cap ≤ 9223372036854775807 by simpa [maxLen] using hc2))
      rw [ev]
      clear hS hH hlt hBg hc1 hc2 hrs hkl
      go_wp2
      go_ret
      exact ⟨_, _, rfl, R.out, HC.out.1, HC.out.2, HB.out⟩
    · obtain ⟨n, hn⟩ : ∃ n, n = (r.size - 1) % 9 + 1 := ⟨_, rfl⟩
      have hnr : n ≤ r.size := by omega
      have hn9 : n ≤ 9 := by omega
      have hkn : k + n ≤ l.length := by omega
      have hk9 : k = 0 ∨ n = 9 := by
        rcases hS.nine with h | h
        · exact .inl h
        · right
          omega
      have hnx : k + n = 0 ∨ (l.length - (k + n)) % 9 = 0 := by
        right
        rcases hS.nine with h | h <;> omega
      have eq1 : ((r.size : Int) - 1) % 9 + 1 = (n : Int) := by omega
      have hmin : min n r.size = n := by omega
      have hrb : (r.size : Int) ≤ 60000 := by omega
      have hrp : 0 < (r.size : Int) := by omega
      have hb0 : 0 ≤ (n : Int) ∧ (n : Int) ≤ (r.size : Int) := ⟨by omega, by omega⟩
      obtain ⟨grp0, hgrp⟩ : ∃ g, g = (l.drop k).take n := ⟨_, rfl⟩
      have hgd : Digits grp0 := by rw [hgrp]; exact digits_sub HD.out k n
      have hgl : grp0.length = n := by rw [hgrp, List.length_take, List.length_drop]; omega
      have hext : (r.extract 0 n).data.toList = grp0 := by rw [ext_take, hS.rest, hgrp]
      have hes : (r.extract 0 n).size = n := by
        have := congrArg List.length hext
        rw [hgl] at this
        exact this
      have HST := Lib.hid hS
      have HG := Lib.hid hgrp
      have HRS := Lib.hid hrs
      have HL := Lib.hid (And.intro hkl (And.intro hkn (And.intro hk9 hnx)))
      have HSL := Lib.hid hsl
      have hC : ∀ i, i < n → (bytesRow (r.extract 0 n) (grownCap wr n 0 5))[i]? = some (.int .u8 (((grp0.getD i 0).toNat : Nat) : Int)) := by
        intro i hi
        unfold bytesRow
        rw [Array.getElem?_append_left (by rw [Array.size_map]; show i < (r.extract 0 n).size; rw [hes]; exact hi)]
        rw [Array.getElem?_map, ← Array.getElem?_toList, hext, List.getD_eq_getElem?_getD, List.getElem?_eq_getElem (by omega)]
        rfl
      have HGL := Lib.hid hgl
      have HGD := Lib.hid hgd
      obtain ⟨g2, cap, rfl, hBg, hlt2, hc1, hc2, _, _⟩ := Lib.holds_of_ownsRow hS.own hS.some_
      obtain ⟨V0, hV0⟩ : ∃ v, v = val10 (l.take k) := ⟨_, rfl⟩
      rw [← hV0] at hc1 HST ⊢
      obtain ⟨W, hW⟩ : ∃ W, W = words V0 := ⟨_, rfl⟩
      have HV0 := Lib.hid hV0
      have HW := Lib.hid hW
      obtain ⟨m, hm⟩ : ∃ m, m = (words V0).length := ⟨_, rfl⟩
      have hm6 : m ≤ 60000 := by
        rw [hm, hV0]
        have := val10_words HD.out k
        omega
      have HM := Lib.hid hm
      have HOW := Lib.hid (show wr.ownsRow w.heap.size 86 1 (.slice (some ⟨g2, 0, none⟩) m cap) m (W.map enc32) by
        have := hS.own
        rw [← hV0, ← hm, ← hW] at this
        exact this)
      rw [← hm]
      clear hS hgrp hn hrs hkl hkn hk9 hnx hsl hgl hext hgd hBg hlt2 hc1 hc2 hV0 hW hm
      go_upto_region 6 with (fail)
      generalize bytesRow (r.extract 0 n) (grownCap wr n 0 5) = C at hC ⊢
      have hb5 := ((Below.refl wr.heap.size wr).alloc (Nat.le_refl _) (.cells C 5 (C.size, C.size + 1))).drew
      have hc5 : ∀ i, i < n → ((wr.alloc (.cells C 5 (C.size, C.size + 1))).drew).cell? ⟨wr.heap.size, i, none⟩ = some (.int .u8 (((grp0.getD i 0).toNat : Nat) : Int)) := fun i hi => by
        show (wr.alloc (.cells C 5 (C.size, C.size + 1))).cell? ⟨wr.heap.size, i, none⟩ = _
        rw [cell_of_row _ _ i _ _ _ (heap_alloc_new wr _)]
        exact hC i hi
      generalize (wr.alloc (.cells C 5 (C.size, C.size + 1))).drew = W5 at hb5 hc5 ⊢
      have HB5 := Lib.hid hb5
      have HC5 := Lib.hid hc5
      clear hb5 hc5 hC
      go_loopw [29, 5] (fun iv cv w2 => ∃ i c : Nat, iv = .int .i64 (i : Int) ∧ cv = .int .u64 (c : Int) ∧ i ≤ n ∧ c = val10 (grp0.take i) ∧ W5 = w2) (fun iv _ _ => (n - intOf iv).toNat)
      case atStart => exact ⟨0, 0, rfl, rfl, Nat.zero_le _, rfl, rfl⟩
      case round =>
        obtain ⟨i, c, rfl, rfl, hi, hc, rfl⟩ := hrel
        rcases Nat.lt_or_ge i n with him | him
        · have hig : i < grp0.length := by rw [HGL.out]; exact him
          have hcx := HC5.out i him
          obtain ⟨x, hx⟩ : ∃ x, x = (grp0.getD i 0).toNat := ⟨_, rfl⟩
          rw [← hx] at hcx
          have eg : grp0.getD i 0 = grp0[i] := by rw [List.getD_eq_getElem?_getD, List.getElem?_eq_getElem hig]; rfl
          have hx1 : 48 ≤ x ∧ x ≤ 57 := by rw [hx, eg]; exact HGD.out _ (List.getElem_mem hig)
          have hstep : val10 (grp0.take (i + 1)) = 10 * c + (x - 48) := by
            rw [List.take_succ_eq_append_getElem hig, val10_snoc, ← hc, ← eg, ← hx]
          have hc8 : c < 100000000 := by
            have h1 := val10_lt (l := grp0.take i) (fun y hy => HGD.out y (List.mem_of_mem_take hy))
            have h2 : (10 : Nat) ^ (grp0.take i).length ≤ 10 ^ 8 := Nat.pow_le_pow_right (by omega) (by rw [List.length_take]; omega)
            omega
          have eN : 10 * (c : Int) + ((x : Int) - 48) = ((10 * c + (x - 48) : Nat) : Int) := by omega
          obtain ⟨c', hc'⟩ : ∃ c', c' = 10 * c + (x - 48) := ⟨_, rfl⟩
          rw [← hc'] at eN hstep
          have HST2 := Lib.hid hstep
          clear hx eg hstep hc' hc
          go_wp2
          go_roundw
          case measure => simp [intOf]; omega
          case rel => exact ⟨i + 1, c', by simp, rfl, by omega, HST2.out.symm, trivial⟩
        · have e : i = n := by omega
          subst e
          have hcv : c = val10 grp0 := by rw [hc, List.take_of_length_le (by rw [HGL.out]; exact Nat.le_refl _)]
          have hc9 : c < 1000000000 := by
            have h1 := val10_lt HGD.out
            rw [HGL.out, ← hcv] at h1
            have h2 : (10 : Nat) ^ i ≤ 10 ^ 9 := Nat.pow_le_pow_right (by omega) hn9
            omega
          have HCV := Lib.hid hcv
          clear hcv hc HC5
          have hn0 : 0 < i := by omega
          have own5 := HOW.out.kept (row := none) (w' := W5) ⟨HB5.out.os, HB5.out.tape, HB5.out.output, HB5.out.size, fun q hq _ => HB5.out.block q hq⟩ (.inr (by simp [Value.ownBlock]))
          have M0 := Lib.hid (MulAt.start (W := W) (M := 1000000000) (c := c) (by rw [HW.out]; exact words_small _) hc9)
          have HP5 := Lib.hid (HST.out.below.trans (HB5.out.mono HST.out.below.size))
          have HO5 := Lib.hid own5
          have HWL := Lib.hid (show W.length = m by rw [HW.out, HM.out])
          clear own5 HB5 HOW
          go_wp2
          go_loopw [42, 5] (fun iv cv w3' => ∃ (j q : Nat) (L : List Nat) (w3 : World), w3 = w3' ∧ iv = .int .i64 (j : Int) ∧ cv = .int .u64 (q : Int) ∧ j ≤ m ∧ MulAt W 1000000000 c j L q ∧ w3.ownsRow w.heap.size 86 1 (.slice (some ⟨g2, 0, none⟩) m cap) m (L.map enc32) ∧ Below w.heap.size w w3) (fun iv _ _ => (m - intOf iv).toNat)
          case atStart => exact ⟨0, c, W, _, rfl, rfl, rfl, Nat.zero_le _, M0.out, HO5.out, HP5.out⟩
          case round =>
            obtain ⟨j, q, L, w3, rfl, rfl, rfl, hj, hM, hO, hP⟩ := hrel
            clear M0 HO5 HP5
            rcases Nat.lt_or_ge j m with hjm | hjm
            · obtain ⟨oc, ofz, oB, olt⟩ := own_cell hO hjm
              rw [hM.get] at oc
              have hsW : small W := by rw [HW.out]; exact words_small _
              have hx := small_get hsW j
              have hq := hM.lt
              obtain ⟨hnx, htl⟩ := hM.next (by rw [HWL.out]; exact hjm) hsW rfl
              obtain ⟨x, hxd⟩ : ∃ x, x = W.getD j 0 := ⟨_, rfl⟩
              rw [← hxd] at oc hx hnx htl
              obtain ⟨t, htd⟩ : ∃ t, t = x * 1000000000 + q := ⟨_, rfl⟩
              rw [← htd] at hnx htl
              have et : (x : Int) * 1000000000 + (q : Int) = (t : Int) := by omega
              have em : (t : Int) % 4294967296 = ((t % 4294967296 : Nat) : Int) := by omega
              have ed : (t : Int) / 4294967296 = ((t / 4294967296 : Nat) : Int) := by omega
              have ht0 : t < 4294967296000000000 := by omega
              obtain ⟨y, hy⟩ : ∃ y, y = t % 4294967296 := ⟨_, rfl⟩
              obtain ⟨z, hz⟩ : ∃ z, z = t / 4294967296 := ⟨_, rfl⟩
              rw [← hy] at em hnx
              rw [← hz] at ed hnx
              have N1 := Lib.hid hnx
              have N2 := Lib.hid (own_set (i := j) hO y)
              have N3 := Lib.hid (hP.setCell (p := ⟨g2, j, none⟩) oB (.int .u32 (y : Int)))
              clear hnx hO hP hM hsW hxd htd hy hz olt
              go_wp2
              go_roundw
              case measure => simp [intOf]; omega
              case rel => exact ⟨j + 1, z, _, _, rfl, by simp, rfl, by omega, N1.out, N2.out, N3.out⟩
            · have e : j = m := by omega
              subst e
              have hMW : MulAt W 1000000000 c W.length L q := by rw [HWL.out]; exact hM
              obtain ⟨d0, d1⟩ := hMW.done HW.out (by omega) (by omega)
              have hL : L.length = j := by rw [hM.len, HWL.out]
              have hq := hM.lt
              have ev : V0 * 1000000000 + c = val10 (l.take (k + i)) := by
                rw [val10_step HL.out.2.2.1 HL.out.2.1, ← HV0.out, ← HG.out, ← HCV.out]
              rw [ev] at d0 d1
              have hrl : (r.extract i r.size).data.toList = l.drop (k + i) := by rw [ext_drop, HST.out.rest, List.drop_drop]
              have hb1 : 0 ≤ (i : Int) ∧ (i : Int) ≤ (r.size : Int) := ⟨by omega, by omega⟩
              have hsz : (r.extract i r.size).size = r.size - i := by rw [ByteArray.size_extract]; omega
              have HRL := Lib.hid hrl
              have HO := Lib.hid hO
              have HP := Lib.hid hP
              by_cases hq0 : q = 0
              · have d := d0 hq0
                subst hq0
                have R := Lib.hid (show RgSt w w3 l (k + i) (r.extract i r.size) (.slice (some ⟨g2, 0, none⟩) j cap) from ⟨HL.out.2.1, (HL.out.2.2.2).imp (fun h => h) (fun h => h), HRL.out, by rw [← d, hL]; exact HO.out, by simp, HP.out⟩)
                clear d d0 d1 ev hM hMW hO hP hrl HO HP
                go_wp2
                go_roundw
                case measure =>
                  show (r.extract i r.size).size < r.size
                  omega
                case rel => exact ⟨k + i, _, _, rfl, rfl, R.out⟩
              · have d := d1 hq0
                obtain ⟨i0, hi0, hz0, hz1, hz2⟩ := info_parts info32
                have hne : ((q : Int) == 0) = false := by rw [beq_eq_false_iff_ne]; omega
                have HD1 := Lib.hid d
                have HLJ := Lib.hid hL
                have HG2 := Lib.hid (show w.heap.size ≤ g2 by
                  obtain ⟨g3, cap3, e3, hB3, _⟩ := Lib.holds_of_ownsRow HO.out (by simp)
                  injection e3 with e3
                  injection e3 with e3
                  injection e3 with e3
                  omega)
                have HWP := Lib.hid HP.out.size
                have hO4 := HO.out
                clear d d0 d1 ev hM hMW hO hP hrl hL
                go_wp2_with (at_builtin; refine wpList_append_own _ rfl _ _ 22 rfl w.heap.size 86 i0 (.int .u32 0) 1 4 Tryd.underlying22 hi0 hz0 hz1 hz2 rfl (by decide) _ j _ rfl (hO4.alloc _) ⟨w3.heap.size, 0, none⟩ 1 1 [.int .u32 (q : Int)] rfl rfl ?c1 ?c2 ?c3 ?c4 ?c5 ?_)
                case c1 =>
                  intro a u hj
                  match a, hj with
                  | 0, hj => simp at hj; subst hj; simp [Addr.add]
                case c2 => intro u hu; simp at hu; subst hu; rfl
                case c3 => simp only [maxLen]; omega
                case c4 => omega
                case c5 => have := HWP.out; simp; omega
                intro v' w4 own4 gr4 nil4
                have hb4 : Below w.heap.size w w4 := by
                  refine ⟨gr4.os.trans HP.out.os, gr4.tape.trans HP.out.tape, gr4.output.trans HP.out.output, Nat.le_trans HP.out.size (Nat.le_trans (by simp) gr4.size), fun a ha => ?_⟩
                  have h1 := Nat.lt_of_lt_of_le ha HP.out.size
                  refine (gr4.block a (by simp; omega) (fun e => ?_)).trans ((Below.heap_alloc w3 _ a h1).trans (HP.out.block a ha))
                  have h2 := HG2.out
                  injection e with e
                  have e2 : a = g2 := e
                  omega
                have R := Lib.hid (show RgSt w w4 l (k + i) (r.extract i r.size) v' from ⟨HL.out.2.1, HL.out.2.2.2, HRL.out, by
                  rw [← HD1.out, List.length_append, HLJ.out, List.map_append]
                  exact own4, nil4, hb4⟩)
                clear own4 gr4 nil4 hb4 hO4 HO HP hi0 hz0 hz1 hz2
                go_wp2
                go_roundw
                case measure =>
                  show (r.extract i r.size).size < r.size
                  omega
                case rel => exact ⟨k + i, _, _, rfl, rfl, R.out⟩
end Go.Proofs.YthjdnidapbhdlaaDoor
