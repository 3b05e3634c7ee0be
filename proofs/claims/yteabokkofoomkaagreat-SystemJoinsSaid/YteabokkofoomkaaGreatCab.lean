import Derived.Test.YteabokkofoomkaaGreatCaa
import Derived.ProofKit
import Derived.OpenShut
import Derived.Lib.SmallJoins
import Derived.ChangeSlices
import Derived.Carry
import Derived.WideKeyArgs
namespace Go.Proofs.YteabokkofoomkaaGreat
open Go.RowKit Go.ChangeShapes Go.WideShapes Go.ChangeAt
theorem cells_word : Tryz.prog.cellsOf 103 = 1 := by kernel_rfl
theorem cells_number : Tryz.prog.cellsOf 58 = 2 := by kernel_rfl
theorem laid_out : laidOutB Tryz.prog = true := by kernel_rfl
theorem plain_of_cell {w : World} {a : Addr} {v : Value} (h : w.cell? a = some v) : a = ⟨a.block, a.off, none⟩ ∧ a.block < w.heap.size := by
 obtain ⟨b, o, s⟩ := a
 unfold World.cell? at h
 have hb : b < w.heap.size := by
  rcases Nat.lt_or_ge b w.heap.size with h1 | h1
  · exact h1
  · simp [Array.getElem?_eq_none h1] at h
 refine ⟨?_, hb⟩
 cases s with
 | none => rfl
 | some k =>
   simp only at h
   split at h <;> simp_all
theorem wf_u32 {z : Int} (h : (Lit.int .u32 z).wf = true) : ∃ n : Nat, z = (n : Int) ∧ n < 4294967296 := by
 simp only [Lit.wf, Bool.and_eq_true, decide_eq_true_eq] at h
 have h1 : IntKind.min .u32 = 0 := rfl
 have h2 : IntKind.max .u32 = 4294967295 := rfl
 exact ⟨z.toNat, by omega, by omega⟩
theorem open_words {H : Type} {enc : TypeId × Value → H} {W : World} {base fuel : Nat} {spare : Nat → Bool} {held : Bool} {v : Value} {y : DataW H × List MemPlace}
 (h : DataW.trod enc Tryz.prog W base spare held fuel 56 [v] = some y) : ∃ A n c xs, v = .slice A n c ∧ Rd W A n xs ∧ n ≤ c ∧ c ≤ 9223372036854775807 := by
 rcases open_ints Tryz.underlying56 Tryz.underlying103 cells_word h with ⟨hcs, _⟩ | ⟨a, len, cap, zs, hcs, _, hl, hm, hz, _, hcell, hwz⟩
 · injection hcs with hv
   exact ⟨none, 0, 0, [], hv, Rd.nil _, Nat.le_refl _, by omega⟩
 · injection hcs with hv
   have hlen : len ≤ zs.length := by rw [hz]; split <;> omega
   refine ⟨some a, len, cap, (zs.take len).map Int.toNat, hv, ⟨by simp; omega, ?_, fun h0 => ?_⟩, hl, hm⟩
   · intro x hx
     obtain ⟨z, hz1, rfl⟩ := List.mem_map.1 hx
     obtain ⟨n, rfl, hn⟩ := wf_u32 (hwz z (List.mem_of_mem_take hz1))
     simpa using hn
   · have c0 := hcell 0 (by omega)
     obtain ⟨pa, hb⟩ := plain_of_cell c0
     rw [show a.add 0 = a from rfl] at pa hb
     refine ⟨a.block, a.off, by rw [← pa], hb, fun k hk => ?_⟩
     have ck := hcell k (by omega)
     have ea : a.add k = ⟨a.block, a.off + k, none⟩ := by
      unfold Addr.add
      split
      · rename_i h1; subst h1; exact pa
      · rfl
     rw [ea] at ck
     rw [ck]
     have hkz : k < zs.length := by omega
     obtain ⟨n, hn, _⟩ := wf_u32 (hwz (zs.getD k 0) (by rw [List.getD_eq_getElem?_getD, List.getElem?_eq_getElem hkz]; exact List.getElem_mem hkz))
     have e2 : ((zs.take len).map Int.toNat).getD k 0 = (zs.getD k 0).toNat := by
      simp [List.getD_eq_getElem?_getD, List.getElem?_map, hk, List.getElem?_eq_getElem hkz]
     rw [e2, hn]
     rfl
end Go.Proofs.YteabokkofoomkaaGreat
namespace Go.Proofs.YteabokkofoomkaaGreat
open Go.RowKit
theorem trim_last {xs : List Nat} {k : Nat} (hk : k < xs.length) (hz : val (xs.drop (k + 1)) = 0) (h0 : xs.getD k 0 = 0) : val (xs.drop k) = 0 := by
 rw [List.drop_eq_getElem_cons hk, val_cons, hz]
 simpa [List.getD_eq_getElem?_getD, List.getElem?_eq_getElem hk] using h0
theorem trim_len {xs : List Nat} (hs : small xs) {k : Nat} (hk : k ≤ xs.length) (hz : val (xs.drop k) = 0) (hl : k = 0 ∨ xs.getD (k - 1) 0 ≠ 0) : (words (val xs)).length = k := by
 rw [← words_of_take hs hk hz hl, List.length_take]; omega
set_option maxHeartbeats 400000 in
theorem trim_q (A : Option Addr) (n c : Nat) (xs : List Nat) (w : World) (h : Rd w A n xs) (hc : n ≤ c) (hc2 : c ≤ 9223372036854775807) :
 Calls Tryz.prog 125 #[.slice A n c] w (Quietly w (.slice (trimA A (words (val xs)).length) (words (val xs)).length (words (val xs)).length)) := by
 have hlen := h.len
 rcases Nat.eq_zero_or_pos n with h0 | h0
 · subst h0
   have hx : xs = [] := List.eq_nil_of_length_eq_zero hlen
   subst hx
   clear hlen
   have hw : (words (val [])).length = 0 := by rw [val_nil, words_zero]; rfl
   rw [hw]
   clear hw
   go_enter Tryz.func125, Tryz.ntmps125
   go_wp2
   go_loop [3] (fun v => v = .int .i64 0) (fun _ => 0)
   case atStart => rfl
   case round =>
    obtain rfl := hrel
    go_wp2
    go_ret
    exact ⟨rfl, 0, rfl⟩
 · obtain ⟨b, o, rfl, hb, hcell⟩ := h.of h0
   have hs := h.sm
   have H := Lib.hid h
   clear h
   have HL := Lib.hid hlen
   clear hlen
   go_enter Tryz.func125, Tryz.ntmps125
   go_wp2
   go_loop [3] (fun v => ∃ k : Nat, k ≤ n ∧ v = .int .i64 k ∧ val (xs.drop k) = 0) (fun v => (intOf v).toNat)
   case atStart => exact ⟨n, Nat.le_refl _, rfl, by rw [← HL.out, List.drop_length]; rfl⟩
   case round =>
    obtain ⟨k, hk, rfl, hz⟩ := hrel
    have HZ := Lib.hid hz
    clear hz
    rcases Nat.eq_zero_or_pos k with hk0 | hk0
    · subst hk0
      have HM := Lib.hid (trim_len hs (Nat.zero_le _) HZ.out (.inl rfl))
      go_wp2
      go_ret
      exact ⟨by rw [HM.out]; rfl, 0, rfl⟩
    · obtain ⟨j, rfl⟩ : ∃ j, k = j + 1 := ⟨k - 1, by omega⟩
      have hcj := hcell j (by omega)
      clear hcell
      obtain ⟨x, hx⟩ : ∃ x, x = xs.getD j 0 := ⟨_, rfl⟩
      rw [← hx] at hcj
      have HX := Lib.hid hx
      clear hx
      by_cases h0 : x = 0
      · have t : ((x : Int) == 0) = true := by subst h0; rfl
        have hz2 := trim_last (by have := HL.out; omega) HZ.out (by rw [← HX.out]; exact h0)
        have HZ2 := Lib.hid hz2
        clear hz2 h0
        go_wp2
        go_round
        case rel => exact ⟨j, by omega, by go_num, HZ2.out⟩
        case measure => simp [intOf]
      · have t : ((x : Int) == 0) = false := by simpa using h0
        have HM := Lib.hid (trim_len hs (by have := HL.out; omega) HZ.out (.inr (by rw [Nat.add_sub_cancel, ← HX.out]; exact h0)))
        clear h0
        go_wp2
        go_ret
        exact ⟨by rw [HM.out, trimA_pos _ (by omega)]; rfl, 0, rfl⟩
theorem trim_c (A : Option Addr) (n c : Nat) (xs : List Nat) (w : World) (h : Rd w A n xs) (hc : n ≤ c) (hc2 : c ≤ 9223372036854775807) :
 Calls Tryz.prog 125 #[.slice A n c] w (TrimPost A (words (val xs)).length w) :=
 (trim_q A n c xs w h hc hc2).mono fun _ _ ⟨he, hk⟩ => ⟨_, he, by
  by_cases h0 : (words (val xs)).length = 0
  · exact .inr h0
  · exact .inl (trimA_pos A h0), hk⟩
theorem Rd.trim {w : World} {A : Option Addr} {n : Nat} {xs : List Nat} (h : Rd w A n xs) : Rd w (trimA A (words (val xs)).length) (words (val xs)).length (words (val xs)) := by
 obtain ⟨t1, t2⟩ := take_words h.sm
 by_cases h0 : (words (val xs)).length = 0
 · rw [h0, List.eq_nil_of_length_eq_zero h0]; exact Rd.nil _
 · rw [trimA_pos A h0]
   have := h.take (m := (words (val xs)).length) (by rw [← h.len]; exact t2)
   rwa [t1] at this
def SetPost (w : World) (g : Nat) (L : List Nat) (o n : Nat) (v : Nat) (e : Ending) (w' : World) : Prop :=
 e = .returned (.tuple #[]) ∧ w.grownBy w' (some g) ∧ ∃ cs, cs.length = n ∧ small cs ∧ val cs = v ∧ Bk w' g (splice L o cs)
set_option maxHeartbeats 400000 in
theorem addTo_c (g o n c : Nat) (L : List Nat) (B : Option Addr) (m d : Nat) (ys : List Nat) (w : World) (hL : Bk w g L) (ho : o + n ≤ L.length) (hr : Rd w B m ys) (hoff : 0 < m → Off B g) (hm : m ≤ n)
 (hc2 : n ≤ 9223372036854775800) (hd2 : m ≤ 9223372036854775800) (hf : val ((L.drop o).take n) + val ys < pw n) :
 Calls Tryz.prog 147 #[.slice (some ⟨g, o, none⟩) n c, .slice B m d] w (SetPost w g L o n (val ((L.drop o).take n) + val ys)) := by
 obtain ⟨cs0, hcs0⟩ : ∃ cs0, cs0 = (L.drop o).take n := ⟨_, rfl⟩
 have hcl : cs0.length = n := by subst hcs0; simp; omega
 have hsc : small cs0 := by subst hcs0; exact small_take (small_drop hL.1 _) _
 have hsp : splice L o cs0 = L := by subst hcs0; exact splice_self ho
 rw [← hcs0] at hf ⊢
 have hb := hr.sm
 have hbl := hr.len
 have HCL := Lib.hid hcl
 have HBL := Lib.hid hbl
 have HSP := Lib.hid hsp
 clear hcs0 hcl hsp hbl
 go_enter Tryz.func147, Tryz.ntmps147
 go_wp2
 go_loopw [4, 5] (fun cy i wr => ∃ k y : Nat, ∃ cs, cy = .int .u64 y ∧ i = .int .i64 k ∧ k ≤ n ∧ y ≤ 1 ∧ AddAt cs0 ys k cs y ∧ Bk wr g (splice L o cs) ∧ w.grownBy wr (some g)) (fun _ i _ => n - (intOf i).toNat)
 case atStart => exact ⟨0, 0, cs0, rfl, rfl, by omega, by omega, AddAt.start ys hsc, by rw [HSP.out]; exact hL, ⟨rfl, rfl, rfl, Nat.le_refl _, fun _ _ _ => rfl⟩⟩
 case round =>
  obtain ⟨k, y, cs, rfl, rfl, hk, hy, hA, hB, hg⟩ := hrel
  have hcl : cs.length = n := hA.len.trans HCL.out
  have hsl := splice_len (L := L) (o := o) (cs := cs) (by omega)
  by_cases hkm : k < m
  · obtain ⟨x, hx⟩ : ∃ x, x = cs0.getD k 0 := ⟨_, rfl⟩
    obtain ⟨z, hz⟩ : ∃ z, z = ys.getD k 0 := ⟨_, rfl⟩
    have hx1 := small_get hsc k
    have hz1 := small_get hb k
    have hcx : wr.cell? ⟨g, o + k, none⟩ = some (.int .u32 (x : Int)) := by
     rw [hB.cell _ (by omega), splice_get (by omega) (by omega), getD_drop_eq hA.rest, ← hx]
    have hfx : wr.frozen? ⟨g, o + k, none⟩ = false := hB.frozen _
    have hr2 := hr.grown hg hoff
    obtain ⟨bb, q, rfl, hbb, hcell⟩ := hr2.of (by omega)
    have hcz := hcell k hkm
    rw [← hz] at hcz hz1
    rw [← hx] at hx1
    have hnx := hA.next hsc hb (by have := HCL.out; omega)
    rw [← hx, ← hz] at hnx
    have hbn := hB.set_ (o + k) ((x + y + z) % 4294967296) (by omega)
    rw [splice_set (by omega) (by omega)] at hbn
    have hgn := grown_setCell hg (p := ⟨g, o + k, none⟩) (.inl rfl) (.int .u32 (((x + y + z) % 4294967296 : Nat) : Int))
    have hv : (((x + y + z) % 4294967296 : Nat) : Int) = ((x : Int) + y + z) % 4294967296 := by omega
    rw [hv] at hbn hgn
    have H1 := Lib.hid hnx
    have H2 := Lib.hid hbn
    have H3 := Lib.hid hgn
    clear hv hnx hbn hgn hA hB hg hx hz hcl hsl hr hr2 hcell hoff
    go_wp2
    go_roundw
    case measure => simp [intOf]; omega
    case rel => exact ⟨k + 1, (x + y + z) / 4294967296, _, by simp, by go_num, by omega, by omega, H1.out, H2.out, H3.out⟩
  · by_cases hy0 : y = 0
    · subst hy0
      have hd := hA.done (by have := HBL.out; omega)
      have H1 := Lib.hid (show SetPost w g L o n (val cs0 + val ys) (.returned (.tuple #[])) wr from ⟨rfl, hg, cs, hcl, hA.sm, hd, hB⟩)
      clear hd hA hB hg hcl hsl hr hoff
      go_wp2
      go_end0
      exact H1.out
    · have hkn : k < n := by
       rcases Nat.lt_or_ge k n with h1 | h1
       · exact h1
       · exact absurd (hA.stop (by rw [HCL.out]; exact hf) (by rw [HCL.out]; exact h1) (by rw [HBL.out]; omega)) hy0
      obtain ⟨x, hx⟩ : ∃ x, x = cs0.getD k 0 := ⟨_, rfl⟩
      have hx1 := small_get hsc k
      have hcx : wr.cell? ⟨g, o + k, none⟩ = some (.int .u32 (x : Int)) := by
       rw [hB.cell _ (by omega), splice_get (by omega) (by omega), getD_drop_eq hA.rest, ← hx]
      have hfx : wr.frozen? ⟨g, o + k, none⟩ = false := hB.frozen _
      have hz : ys.getD k 0 = 0 := by rw [List.getD_eq_getElem?_getD, List.getElem?_eq_none (by rw [HBL.out]; omega)]; rfl
      rw [← hx] at hx1
      have hnx := hA.next hsc hb (by have := HCL.out; omega)
      rw [← hx, hz, Nat.add_zero] at hnx
      have hbn := hB.set_ (o + k) ((x + y) % 4294967296) (by omega)
      rw [splice_set (by omega) (by omega)] at hbn
      have hgn := grown_setCell hg (p := ⟨g, o + k, none⟩) (.inl rfl) (.int .u32 (((x + y) % 4294967296 : Nat) : Int))
      have hv : (((x + y) % 4294967296 : Nat) : Int) = ((x : Int) + y) % 4294967296 := by omega
      rw [hv] at hbn hgn
      have t : ((y : Int) != 0) = true := by rw [bne_iff_ne]; omega
      have H1 := Lib.hid hnx
      have H2 := Lib.hid hbn
      have H3 := Lib.hid hgn
      clear hv hnx hbn hgn hA hB hg hx hz hcl hsl hr hoff
      go_wp2
      go_roundw
      case measure => simp [intOf]; omega
      case rel => exact ⟨k + 1, (x + y) / 4294967296, _, by simp, by go_num, by omega, by omega, H1.out, H2.out, H3.out⟩
def ord (x y : Int) : Int := if x < y then -1 else if y < x then 1 else 0
theorem ord_lt {x y : Int} (h : x < y) : ord x y = -1 := if_pos h
theorem ord_gt {x y : Int} (h : y < x) : ord x y = 1 := by unfold ord; rw [if_neg (by omega), if_pos h]
theorem ord_eq {x y : Int} (h : x = y) : ord x y = 0 := by unfold ord; rw [if_neg (by omega), if_neg (by omega)]
set_option maxHeartbeats 400000 in
theorem cmpInt_c (x y : Int) (w : World) : Calls Tryz.prog 132 #[.int .i64 x, .int .i64 y] w fun e w' => e = .returned (.int .i64 (ord x y)) ∧ w' = w := by
 by_cases h1 : x < y
 · have H := Lib.hid (ord_lt h1)
   go_enter Tryz.func132, Tryz.ntmps132
   go_wp2
   go_ret
   exact ⟨by rw [H.out]; rfl, rfl⟩
 · by_cases h2 : y < x
   · have H := Lib.hid (ord_gt h2)
     go_enter Tryz.func132, Tryz.ntmps132
     go_wp2
     go_ret
     exact ⟨by rw [H.out]; rfl, rfl⟩
   · have H := Lib.hid (ord_eq (show x = y by omega))
     go_enter Tryz.func132, Tryz.ntmps132
     go_wp2
     go_ret
     exact ⟨by rw [H.out]; rfl, rfl⟩
set_option maxHeartbeats 400000 in
theorem cmpWord_c (x y : Int) (w : World) : Calls Tryz.prog 157 #[.int .u32 x, .int .u32 y] w fun e w' => e = .returned (.int .i64 (ord x y)) ∧ w' = w := by
 by_cases h1 : x < y
 · have H := Lib.hid (ord_lt h1)
   go_enter Tryz.func157, Tryz.ntmps157
   go_wp2
   go_ret
   exact ⟨by rw [H.out]; rfl, rfl⟩
 · by_cases h2 : y < x
   · have H := Lib.hid (ord_gt h2)
     go_enter Tryz.func157, Tryz.ntmps157
     go_wp2
     go_ret
     exact ⟨by rw [H.out]; rfl, rfl⟩
   · have H := Lib.hid (ord_eq (show x = y by omega))
     go_enter Tryz.func157, Tryz.ntmps157
     go_wp2
     go_ret
     exact ⟨by rw [H.out]; rfl, rfl⟩
theorem cmp_find {xs ys : List Nat} (hx : canon xs) (hy : canon ys) (hl : xs.length = ys.length) (k : Nat) (hk : k < xs.length)
 (he : xs.drop (k + 1) = ys.drop (k + 1)) (hne : ¬ xs.getD k 0 = ys.getD k 0) : ord ((xs.getD k 0 : Nat) : Int) ((ys.getD k 0 : Nat) : Int) = ord (val xs) (val ys) := by
 rcases Nat.lt_or_ge (xs.getD k 0) (ys.getD k 0) with h | h
 · have := cmp_top hx.1 hl k hk he h
   rw [ord_lt (by omega), ord_lt (by omega)]
 · have := cmp_top hy.1 hl.symm k (by omega) he.symm (by omega)
   rw [ord_gt (by omega), ord_gt (by omega)]
theorem drop_step {xs ys : List Nat} (hl : xs.length = ys.length) {k : Nat} (hk : k < xs.length) (he : xs.drop (k + 1) = ys.drop (k + 1)) (h : xs.getD k 0 = ys.getD k 0) : xs.drop k = ys.drop k := by
 rw [List.drop_eq_getElem_cons hk, List.drop_eq_getElem_cons (show k < ys.length by omega), he]
 simp only [List.getD_eq_getElem?_getD, List.getElem?_eq_getElem hk, List.getElem?_eq_getElem (show k < ys.length by omega), Option.getD_some] at h
 rw [h]
set_option maxHeartbeats 800000 in
theorem compare_c (A B : Option Addr) (n c m d : Nat) (xs ys : List Nat) (w : World) (ha : Rd w A n xs) (hb : Rd w B m ys) (hx : canon xs) (hy : canon ys) (hn : n ≤ 9223372036854775800) (hm : m ≤ 9223372036854775800) :
 Calls Tryz.prog 144 #[.slice A n c, .slice B m d] w (Quietly w (.int .i64 (ord (val xs) (val ys)))) := by
 have hxl := ha.len
 have hyl := hb.len
 by_cases hnm : n = m
 · subst hnm
   have HX := Lib.hid hxl
   have HY := Lib.hid hyl
   clear hxl hyl
   have t : ((n : Int) != (n : Int)) = false := by simp
   rcases Nat.eq_zero_or_pos n with h0 | h0
   · subst h0
     have hx0 : xs = [] := List.eq_nil_of_length_eq_zero HX.out
     have hy0 : ys = [] := List.eq_nil_of_length_eq_zero HY.out
     have HV := Lib.hid (show ord (val xs) (val ys) = 0 by rw [hx0, hy0]; rfl)
     clear hx0 hy0
     go_enter Tryz.func144, Tryz.ntmps144
     go_wp2
     go_loop [5] (fun v => v = .int .i64 (-1)) (fun _ => 0)
     case atStart => rfl
     case round =>
      obtain rfl := hrel
      go_wp2
      go_ret
      exact ⟨by rw [HV.out]; rfl, 0, rfl⟩
   · obtain ⟨b, o, rfl, _, hca⟩ := ha.of h0
     obtain ⟨b', o', rfl, _, hcb⟩ := hb.of h0
     clear t
     go_enter Tryz.func144, Tryz.ntmps144
     go_wp2
     go_loopw [5] (fun v wr => ∃ k j : Nat, k ≤ n ∧ v = .int .i64 ((k : Int) - 1) ∧ xs.drop k = ys.drop k ∧ wr = w.drewN j) (fun v _ => (intOf v + 1).toNat)
     case atStart => exact ⟨n, 0, Nat.le_refl _, rfl, by have h1 := HX.out; have h2 := HY.out; rw [List.drop_of_length_le (by omega), List.drop_of_length_le (by omega)], rfl⟩
     case round =>
      obtain ⟨k, j, hk, rfl, hd, rfl⟩ := hrel
      have HD := Lib.hid hd
      clear hd
      rcases Nat.eq_zero_or_pos k with hk0 | hk0
      · subst hk0
        have HV := Lib.hid (show ord (val xs) (val ys) = 0 from ord_eq (by have := HD.out; simp at this; rw [this]))
        go_wp2
        go_ret
        exact ⟨by rw [HV.out]; rfl, j, rfl⟩
      · obtain ⟨i, rfl⟩ : ∃ i, k = i + 1 := ⟨k - 1, by omega⟩
        have hci := hca i (by omega)
        have hdi := hcb i (by omega)
        have ei : (((i + 1 : Nat) : Int) - 1) = (i : Int) := by omega
        rw [ei]
        have hx1 := small_get hx.1 i
        have hy1 := small_get hy.1 i
        have HF := Lib.hid (cmp_find hx hy (by rw [HX.out, HY.out]) i (by have := HX.out; omega) HD.out)
        have HS := Lib.hid (drop_step (by rw [HX.out, HY.out]) (by have := HX.out; omega) HD.out)
        obtain ⟨x, hx2⟩ : ∃ x, x = xs.getD i 0 := ⟨_, rfl⟩
        obtain ⟨y, hy2⟩ : ∃ y, y = ys.getD i 0 := ⟨_, rfl⟩
        rw [← hx2] at hci hx1 HF HS
        rw [← hy2] at hdi hy1 HF HS
        clear hx2 hy2 hca hcb ei
        by_cases hxy : x = y
        · have HS2 := Lib.hid (HS.out hxy)
          subst hxy
          have t : ((x : Int) != (x : Int)) = false := by simp
          go_wp2
          go_quiet (fail)
          go_wp2
          go_roundw
          case measure => simp [intOf]
          case rel => exact ⟨i, _, by omega, rfl, HS2.out, rfl⟩
        · have HF2 := Lib.hid (HF.out hxy)
          have t : ((x : Int) != (y : Int)) = true := by rw [bne_iff_ne]; omega
          go_wp2
          go_quiet (fail)
          go_wp2
          go_quiet ((go_at_call 157; exact quiet_add_same (cmpWord_c _ _ _)))
          go_wp2
          go_ret
          exact ⟨by rw [← HF2.out]; rfl, j + (_ + _), by rw [World.drewN_drewN, World.drewN_drewN]⟩
 · have HV := Lib.hid (show ord (n : Int) (m : Int) = ord (val xs) (val ys) by
    rcases Nat.lt_or_ge n m with h | h
    · have := cmp_len hx.1 hy (by omega)
      rw [ord_lt (by omega), ord_lt (by omega)]
    · have := cmp_len hy.1 hx (by omega)
      rw [ord_gt (by omega), ord_gt (by omega)])
   have t : ((n : Int) != (m : Int)) = true := by rw [bne_iff_ne]; omega
   clear hxl hyl
   go_enter Tryz.func144, Tryz.ntmps144
   go_wp2_with (go_at_call 132; refine (cmpInt_c _ _ _).mono ?_; rintro e w' ⟨rfl, rfl⟩)
   go_ret
   exact ⟨by rw [← HV.out]; rfl, 0, rfl⟩
theorem hi_or (a b : Nat) : (a ||| b) / 2147483648 = a / 2147483648 ||| b / 2147483648 := by
 have h := @Nat.shiftRight_or_distrib 31 a b
 simpa [Nat.shiftRight_eq_div_pow] using h
theorem hi_and (a b : Nat) : (a &&& b) / 2147483648 = a / 2147483648 &&& b / 2147483648 := by
 have h := @Nat.shiftRight_and_distrib 31 a b
 simpa [Nat.shiftRight_eq_div_pow] using h
theorem hi_xor (a b : Nat) : (a ^^^ b) / 2147483648 = a / 2147483648 ^^^ b / 2147483648 := by
 have h := @Nat.shiftRight_xor_distrib 31 a b
 simpa [Nat.shiftRight_eq_div_pow] using h
theorem borrow_bit (p q r : Nat) (hp : p < 2) (hq : q < 2) (hr : r < 2) : ((1 ^^^ p) &&& q) ||| ((1 ^^^ (p ^^^ q)) &&& r) = if p < q then 1 else if q < p then 0 else r := by
 have h1 : p = 0 ∨ p = 1 := by omega
 have h2 : q = 0 ∨ q = 1 := by omega
 have h3 : r = 0 ∨ r = 1 := by omega
 rcases h1 with rfl | rfl <;> rcases h2 with rfl | rfl <;> rcases h3 with rfl | rfl <;> rfl
theorem borrow_nat (x y b : Nat) (hx : x < 4294967296) (hy : y < 4294967296) (hb : b ≤ 1) :
 (((4294967295 ^^^ x) &&& y) ||| ((4294967295 ^^^ (x ^^^ y)) &&& ((x + 4294967296 - y - b) % 4294967296))) / 2147483648 = if x < y + b then 1 else 0 := by
 rw [hi_or, hi_and, hi_and, hi_xor, hi_xor, hi_xor]
 rw [show 4294967295 / 2147483648 = 1 from rfl]
 rw [borrow_bit _ _ _ (by omega) (by omega) (by omega)]
 by_cases h : x < y + b
 · rw [if_pos h]
   split
   · rfl
   · split
     · omega
     · omega
 · rw [if_neg h]
   split
   · omega
   · split
     · rfl
     · omega
theorem borrow_int (x y b : Nat) (hx : x < 4294967296) (hy : y < 4294967296) (hb : b ≤ 1) :
 bits BinOp.or IntKind.u32 (bits BinOp.and IntKind.u32 (bits BinOp.xor IntKind.u32 IntKind.u32.max x) y)
  (bits BinOp.and IntKind.u32 (bits BinOp.xor IntKind.u32 IntKind.u32.max (bits BinOp.xor IntKind.u32 x y)) (((x : Int) - y - b) % 4294967296)) / 2147483648 = ((if x < y + b then 1 else 0 : Nat) : Int) := by
 have e : ((x : Int) - y - b) % 4294967296 = (((x + 4294967296 - y - b) % 4294967296 : Nat) : Int) := by omega
 have em : IntKind.u32.max = ((4294967295 : Nat) : Int) := by decide
 have x1 : (4294967295 ^^^ x) < 2 ^ 32 := Nat.xor_lt_two_pow (by omega) (by omega)
 have x2 : (x ^^^ y) < 2 ^ 32 := Nat.xor_lt_two_pow (by omega) (by omega)
 have x3 : (4294967295 ^^^ (x ^^^ y)) < 2 ^ 32 := Nat.xor_lt_two_pow (by omega) x2
 have x4 : ((4294967295 ^^^ x) &&& y) < 2 ^ 32 := Nat.and_lt_two_pow _ (by omega)
 have x5 : ((4294967295 ^^^ (x ^^^ y)) &&& ((x + 4294967296 - y - b) % 4294967296)) < 2 ^ 32 := Nat.and_lt_two_pow _ (by omega)
 rw [e, em, u32_xor_nat _ _ (by omega) hx, u32_and_nat _ _ (by omega) hy, u32_xor_nat _ _ hx hy, u32_xor_nat _ _ (by omega) (by omega), u32_and_nat _ _ (by omega) (by omega), u32_or_nat _ _ (by omega) (by omega)]
 rw [← borrow_nat x y b hx hy hb]
 omega
set_option maxHeartbeats 400000 in
theorem sub32_c (x y b : Nat) (w : World) (hx : x < 4294967296) (hy : y < 4294967296) (hb : b ≤ 1) : Calls Tryz.prog 166 #[.int .u32 (x : Int), .int .u32 (y : Int), .int .u32 (b : Int)] w fun e w' =>
 e = .returned (.tuple #[.int .u32 (((x + 4294967296 - y - b) % 4294967296 : Nat) : Int), .int .u32 ((if x < y + b then 1 else 0 : Nat) : Int)]) ∧ w' = w := by
 have H1 := Lib.hid (borrow_int x y b hx hy hb)
 have H2 := Lib.hid (show (((x + 4294967296 - y - b) % 4294967296 : Nat) : Int) = ((x : Int) - y - b) % 4294967296 by omega)
 obtain ⟨r, hr⟩ : ∃ r : Int, r = ((if x < y + b then 1 else 0 : Nat) : Int) := ⟨_, rfl⟩
 obtain ⟨d, hd⟩ : ∃ d : Int, d = (((x + 4294967296 - y - b) % 4294967296 : Nat) : Int) := ⟨_, rfl⟩
 rw [← hr] at H1 ⊢
 rw [← hd] at H2 ⊢
 clear hr hd
 go_enter Tryz.func166, Tryz.ntmps166
 go_wp2
 go_ret2
 exact ⟨by rw [H2.out, ← H1.out]; rfl, rfl⟩
set_option maxHeartbeats 800000 in
theorem takeFrom_c (g o n c : Nat) (L : List Nat) (B : Option Addr) (m d : Nat) (ys : List Nat) (w : World) (hL : Bk w g L) (ho : o + n ≤ L.length) (hr : Rd w B m ys) (hoff : 0 < m → Off B g) (hm : m ≤ n)
 (hc2 : n ≤ 9223372036854775800) (hd2 : m ≤ 9223372036854775800) (hf : val ys ≤ val ((L.drop o).take n)) :
 Calls Tryz.prog 158 #[.slice (some ⟨g, o, none⟩) n c, .slice B m d] w (SetPost w g L o n (val ((L.drop o).take n) - val ys)) := by
 obtain ⟨cs0, hcs0⟩ : ∃ cs0, cs0 = (L.drop o).take n := ⟨_, rfl⟩
 have hcl : cs0.length = n := by subst hcs0; simp; omega
 have hsc : small cs0 := by subst hcs0; exact small_take (small_drop hL.1 _) _
 have hsp : splice L o cs0 = L := by subst hcs0; exact splice_self ho
 rw [← hcs0] at hf ⊢
 have hb := hr.sm
 have hbl := hr.len
 have HCL := Lib.hid hcl
 have HBL := Lib.hid hbl
 have HSP := Lib.hid hsp
 clear hcs0 hcl hsp hbl
 go_enter Tryz.func158, Tryz.ntmps158
 go_wp2
 go_loopw [4, 5] (fun cy i wr => ∃ k y : Nat, ∃ cs, cy = .int .u32 y ∧ i = .int .i64 k ∧ k ≤ n ∧ y ≤ 1 ∧ SubAt cs0 ys k cs y ∧ Bk wr g (splice L o cs) ∧ w.grownBy wr (some g)) (fun _ i _ => n - (intOf i).toNat)
 case atStart => exact ⟨0, 0, cs0, rfl, rfl, by omega, by omega, SubAt.start ys hsc, by rw [HSP.out]; exact hL, ⟨rfl, rfl, rfl, Nat.le_refl _, fun _ _ _ => rfl⟩⟩
 case round =>
  obtain ⟨k, y, cs, rfl, rfl, hk, hy, hA, hB, hg⟩ := hrel
  have hcl : cs.length = n := hA.len.trans HCL.out
  have hsl := splice_len (L := L) (o := o) (cs := cs) (by omega)
  by_cases hkm : k < m
  · obtain ⟨x, hx⟩ : ∃ x, x = cs0.getD k 0 := ⟨_, rfl⟩
    obtain ⟨z, hz⟩ : ∃ z, z = ys.getD k 0 := ⟨_, rfl⟩
    have hx1 := small_get hsc k
    have hz1 := small_get hb k
    have hcx : wr.cell? ⟨g, o + k, none⟩ = some (.int .u32 (x : Int)) := by
     rw [hB.cell _ (by omega), splice_get (by omega) (by omega), getD_drop_eq hA.rest, ← hx]
    have hfx : wr.frozen? ⟨g, o + k, none⟩ = false := hB.frozen _
    have hr2 := hr.grown hg hoff
    obtain ⟨bb, q, rfl, hbb, hcell⟩ := hr2.of (by omega)
    have hcz := hcell k hkm
    rw [← hz] at hcz hz1
    rw [← hx] at hx1
    have hnx := hA.next hsc hb (by have := HCL.out; omega)
    rw [← hx, ← hz] at hnx
    have hbn := hB.set_ (o + k) ((x + 4294967296 - z - y) % 4294967296) (by omega)
    rw [splice_set (by omega) (by omega)] at hbn
    have hgn := grown_setCell hg (p := ⟨g, o + k, none⟩) (.inl rfl) (.int .u32 (((x + 4294967296 - z - y) % 4294967296 : Nat) : Int))
    have hle : (if x < z + y then 1 else 0 : Nat) ≤ 1 := by split <;> omega
    obtain ⟨y', hy'⟩ : ∃ y' : Nat, y' = (if x < z + y then 1 else 0 : Nat) := ⟨_, rfl⟩
    obtain ⟨r, hr'⟩ : ∃ r : Nat, r = (x + 4294967296 - z - y) % 4294967296 := ⟨_, rfl⟩
    have HC := Lib.hid (fun w => sub32_c x z y w hx1 hz1 hy)
    rw [← hy'] at hle hnx HC
    rw [← hr'] at hnx hbn hgn HC
    have H1 := Lib.hid hnx
    have H2 := Lib.hid hbn
    have H3 := Lib.hid hgn
    clear hy' hr' hnx hbn hgn hA hB hg hx hz hcl hsl hr hr2 hcell hoff
    go_wp2_with (go_at_call 166; refine (HC.out _).mono ?_; rintro e w' ⟨rfl, rfl⟩)
    go_roundw
    case measure => simp [intOf]; omega
    case rel => exact ⟨k + 1, y', _, rfl, by go_num, by omega, hle, H1.out, H2.out, H3.out⟩
  · by_cases hy0 : y = 0
    · subst hy0
      have hd := hA.done (by have := HBL.out; omega)
      have H1 := Lib.hid (show SetPost w g L o n (val cs0 - val ys) (.returned (.tuple #[])) wr from ⟨rfl, hg, cs, hcl, hA.sm, hd, hB⟩)
      clear hd hA hB hg hcl hsl hr hoff
      go_wp2
      go_end0
      exact H1.out
    · have hkn : k < n := by
       rcases Nat.lt_or_ge k n with h1 | h1
       · exact h1
       · exact absurd (hA.stop (by omega) (by rw [HCL.out]; exact h1) (by rw [HBL.out]; omega)) hy0
      obtain ⟨x, hx⟩ : ∃ x, x = cs0.getD k 0 := ⟨_, rfl⟩
      have hx1 := small_get hsc k
      have hcx : wr.cell? ⟨g, o + k, none⟩ = some (.int .u32 (x : Int)) := by
       rw [hB.cell _ (by omega), splice_get (by omega) (by omega), getD_drop_eq hA.rest, ← hx]
      have hfx : wr.frozen? ⟨g, o + k, none⟩ = false := hB.frozen _
      have hz : ys.getD k 0 = 0 := by rw [List.getD_eq_getElem?_getD, List.getElem?_eq_none (by rw [HBL.out]; omega)]; rfl
      rw [← hx] at hx1
      have hnx := hA.next hsc hb (by have := HCL.out; omega)
      rw [← hx, hz] at hnx
      have hbn := hB.set_ (o + k) ((x + 4294967296 - 0 - y) % 4294967296) (by omega)
      rw [splice_set (by omega) (by omega)] at hbn
      have hgn := grown_setCell hg (p := ⟨g, o + k, none⟩) (.inl rfl) (.int .u32 (((x + 4294967296 - 0 - y) % 4294967296 : Nat) : Int))
      have hle : (if x < 0 + y then 1 else 0 : Nat) ≤ 1 := by split <;> omega
      obtain ⟨y', hy'⟩ : ∃ y' : Nat, y' = (if x < 0 + y then 1 else 0 : Nat) := ⟨_, rfl⟩
      obtain ⟨r, hr'⟩ : ∃ r : Nat, r = (x + 4294967296 - 0 - y) % 4294967296 := ⟨_, rfl⟩
      have hC := fun w => sub32_c x 0 y w hx1 (by omega) hy
      rw [← hy'] at hle hnx hC
      rw [← hr'] at hnx hbn hgn hC
      have HC : Hid (∀ w, Calls Tryz.prog 166 #[.int .u32 (x : Int), .int .u32 0, .int .u32 (y : Int)] w fun e w' => e = .returned (.tuple #[.int .u32 (r : Int), .int .u32 (y' : Int)]) ∧ w' = w) := hC
      have t : ((y : Int) != 0) = true := by rw [bne_iff_ne]; omega
      have H1 := Lib.hid hnx
      have H2 := Lib.hid hbn
      have H3 := Lib.hid hgn
      clear hC hy' hr' hnx hbn hgn hA hB hg hx hz hcl hsl hr hoff
      go_wp2_with (go_at_call 166; refine (HC.out _).mono ?_; rintro e w' ⟨rfl, rfl⟩)
      go_roundw
      case measure => simp [intOf]; omega
      case rel => exact ⟨k + 1, y', _, rfl, by go_num, by omega, hle, H1.out, H2.out, H3.out⟩
set_option maxHeartbeats 400000 in
theorem clone_c (A : Option Addr) (n c : Nat) (xs : List Nat) (w : World) (h : Rd w A n xs) (hn : n ≤ 70368744177664) :
 Calls Tryz.prog 140 #[.slice A n c] w (New w xs) := by
 have hmk := mk_words n hn
 have HL := Lib.hid h.len
 go_enter Tryz.func140, Tryz.ntmps140
 go_wp2_with (with_reducible refine wpList_copy_words rfl (.tmp 7) (.tmp 8) rfl _ _ _ _ _ _ rfl rfl w.heap.size 0 _ xs (Bk.new0 w n) (h.alloc _) rfl (Nat.le_refl _) (by simp) ?_; intro w1 hb hg)
 have HB := Lib.hid hb
 have HG := Lib.hid hg
 clear hb hg
 go_ret
 refine ⟨w.heap.size, by rw [HL.out]; rfl, Nat.le_refl _, ?_, below_new HG.out⟩
 have := HB.out
 rwa [splice_all (by rw [HL.out]; simp)] at this
set_option maxHeartbeats 800000 in
theorem add_le (A B : Option Addr) (n c m d : Nat) (xs ys : List Nat) (w : World) (ha : Rd w A n xs) (hb : Rd w B m ys) (hn : n < 70368744177664) (hm : m ≤ n) :
 Calls Tryz.prog 143 #[.slice A n c, .slice B m d] w (Out w (val xs + val ys)) := by
 have hmk : ∀ w : World, (Instr.makeSlice 56 (.int .i64 ((n : Int) + 1)) (.int .i64 ((n : Int) + 1))).run Tryz.prog w = .ok (.slice (some ⟨w.heap.size, 0, none⟩) (n + 1) (n + 1)) (w.alloc (row (List.replicate (n + 1) 0))) := mk_words (n + 1) (by omega)
 have hoff : 0 < m → Off B w.heap.size := fun h a e => by have := hb.blk h a e; omega
 have HX := Lib.hid ha.len
 have HY := Lib.hid hb.len
 go_enter Tryz.func143, Tryz.ntmps143
 go_wp2_with (with_reducible refine wpList_copy_words rfl (.tmp 17) (.tmp 18) rfl _ _ _ _ _ _ rfl rfl w.heap.size 0 _ xs (Bk.new0 w (n + 1)) (ha.alloc _) rfl (by omega) (by simp) ?_; intro w1 hb1 hg1)
 have hsl : (splice (List.replicate (n + 1) 0) 0 xs).length = n + 1 := by rw [splice_len] <;> simp [HX.out]
 have hva : val (((splice (List.replicate (n + 1) 0) 0 xs).drop 0).take (n + 1)) = val xs := by
  rw [List.drop_zero, take_of_len (by omega), splice_zero, HX.out, val_append]
  simp [val]
 have hlt := val_lt ha.sm
 have hlt2 := val_lt hb.sm
 have hpw := pw_le (show ys.length ≤ xs.length by rw [HX.out, HY.out]; exact hm)
 rw [HX.out] at hlt hpw
 refine (addTo_c w.heap.size 0 (n + 1) _ _ B m d ys w1 hb1 (by omega) ((hb.alloc _).grown hg1 hoff) hoff (by omega) (by omega) (by omega) (by rw [hva, pw_succ]; omega)).mono ?_
 rintro e w2 ⟨rfl, hg2, cs, hcl, hcs, hv, hb2⟩
 rw [hva] at hv
 rw [splice_all (by omega)] at hb2
 have HV := Lib.hid hv
 have HC := Lib.hid hcl
 have HG := Lib.hid (below_new (grown_trans hg1 hg2))
 have hrd := hb2.rd
 rw [hcl] at hrd
 clear hv hva hcl hsl hlt hlt2 hpw hg1 hg2 hb1
 go_wp2_with fail
 refine (trim_c _ _ _ cs w2 hrd (Nat.le_refl _) (by omega)).mono ?_
 intro e w3 h3
 obtain ⟨A', c', rfl, r1, r2, r3, r4, r5⟩ := out_of_trim hb2 (Nat.le_refl _) HV.out HG.out (by have := HC.out; omega) h3
 have R := Lib.hid r5
 clear r5 h3
 go_wp2
 go_ret
 exact ⟨A', c', rfl, r1, r2, r3, r4, R.out⟩
set_option maxHeartbeats 800000 in
theorem add_gt (A B : Option Addr) (n c m d : Nat) (xs ys : List Nat) (w : World) (ha : Rd w A n xs) (hb : Rd w B m ys) (hn : m < 70368744177664) (hm : n < m) :
 Calls Tryz.prog 143 #[.slice A n c, .slice B m d] w (Out w (val xs + val ys)) := by
 rw [Nat.add_comm (val xs)]
 have hmk : ∀ w : World, (Instr.makeSlice 56 (.int .i64 ((m : Int) + 1)) (.int .i64 ((m : Int) + 1))).run Tryz.prog w = .ok (.slice (some ⟨w.heap.size, 0, none⟩) (m + 1) (m + 1)) (w.alloc (row (List.replicate (m + 1) 0))) := mk_words (m + 1) (by omega)
 have hoff : 0 < n → Off A w.heap.size := fun h a e => by have := ha.blk h a e; omega
 have HY := Lib.hid hb.len
 have HX := Lib.hid ha.len
 go_enter Tryz.func143, Tryz.ntmps143
 go_wp2_with (with_reducible refine wpList_copy_words rfl (.tmp 17) (.tmp 18) rfl _ _ _ _ _ _ rfl rfl w.heap.size 0 _ ys (Bk.new0 w (m + 1)) (hb.alloc _) rfl (by omega) (by simp) ?_; intro w1 hb1 hg1)
 have hsl : (splice (List.replicate (m + 1) 0) 0 ys).length = m + 1 := by rw [splice_len] <;> simp [HY.out]
 have hva : val (((splice (List.replicate (m + 1) 0) 0 ys).drop 0).take (m + 1)) = val ys := by
  rw [List.drop_zero, take_of_len (by omega), splice_zero, HY.out, val_append]
  simp [val]
 have hlt := val_lt hb.sm
 have hlt2 := val_lt ha.sm
 have hpw := pw_le (show xs.length ≤ ys.length by rw [HY.out, HX.out]; exact Nat.le_of_lt hm)
 rw [HY.out] at hlt hpw
 refine (addTo_c w.heap.size 0 (m + 1) _ _ A n c xs w1 hb1 (by omega) ((ha.alloc _).grown hg1 hoff) hoff (by omega) (by omega) (by omega) (by rw [hva, pw_succ]; omega)).mono ?_
 rintro e w2 ⟨rfl, hg2, cs, hcl, hcs, hv, hb2⟩
 rw [hva] at hv
 rw [splice_all (by omega)] at hb2
 have HV := Lib.hid hv
 have HC := Lib.hid hcl
 have HG := Lib.hid (below_new (grown_trans hg1 hg2))
 have hrd := hb2.rd
 rw [hcl] at hrd
 clear hv hva hcl hsl hlt hlt2 hpw hg1 hg2 hb1
 go_wp2_with fail
 refine (trim_c _ _ _ cs w2 hrd (Nat.le_refl _) (by omega)).mono ?_
 intro e w3 h3
 obtain ⟨A', c', rfl, r1, r2, r3, r4, r5⟩ := out_of_trim hb2 (Nat.le_refl _) HV.out HG.out (by have := HC.out; omega) h3
 have R := Lib.hid r5
 clear r5 h3
 go_wp2
 go_ret
 exact ⟨A', c', rfl, r1, r2, r3, r4, R.out⟩
theorem add_c (A B : Option Addr) (n c m d : Nat) (xs ys : List Nat) (w : World) (ha : Rd w A n xs) (hb : Rd w B m ys) (hn : n < 70368744177664) (hm : m < 70368744177664) :
 Calls Tryz.prog 143 #[.slice A n c, .slice B m d] w (Out w (val xs + val ys)) := by
 rcases Nat.lt_or_ge n m with h | h
 · exact add_gt A B n c m d xs ys w ha hb hm h
 · exact add_le A B n c m d xs ys w ha hb hn h
set_option maxHeartbeats 800000 in
theorem subtract_c (A B : Option Addr) (n c m d : Nat) (xs ys : List Nat) (w : World) (ha : Rd w A n xs) (hb : Rd w B m ys) (hn : n < 70368744177664) (hm : m ≤ n) (hv : val ys ≤ val xs) :
 Calls Tryz.prog 145 #[.slice A n c, .slice B m d] w (Out w (val xs - val ys)) := by
 have hoff : ∀ g, w.heap.size ≤ g → 0 < m → Off B g := fun g hg h a e => by have := hb.blk h a e; omega
 have HX := Lib.hid ha.len
 have HV := Lib.hid hv
 clear hv
 go_enter Tryz.func145, Tryz.ntmps145
 go_wp2_with fail
 refine (clone_c A n c xs w ha (by omega)).mono ?_
 rintro e w1 ⟨g, rfl, hg1, hb1, hw1⟩
 rw [HX.out]
 go_wp2_with fail
 have ea : (xs.drop 0).take n = xs := by rw [List.drop_zero, take_of_len (by rw [HX.out]; omega)]
 refine (takeFrom_c g 0 n _ xs B m d ys w1 hb1 (by rw [HX.out]; omega) (hb.below hw1) (hoff g hg1) hm (by omega) (by omega) (by rw [ea]; exact HV.out)).mono ?_
 rintro e w2 ⟨rfl, hg2, cs, hcl, hcs, hv, hb2⟩
 rw [ea] at hv
 rw [splice_all (by rw [HX.out]; exact hcl)] at hb2
 have HV := Lib.hid hv
 have HC := Lib.hid hcl
 have HG := Lib.hid (hw1.trans (below_of_grown hg2 hw1.size hg1))
 have hrd := hb2.rd
 rw [hcl] at hrd
 clear ea hv hcl hg2 hb1
 go_wp2_with fail
 refine (trim_c _ _ _ cs w2 hrd (Nat.le_refl _) (by omega)).mono ?_
 intro e w3 h3
 obtain ⟨A', c', rfl, r1, r2, r3, r4, r5⟩ := out_of_trim hb2 hg1 HV.out HG.out (by have := HC.out; omega) h3
 have R := Lib.hid r5
 clear r5 h3
 go_wp2
 go_ret
 exact ⟨A', c', rfl, r1, r2, r3, r4, R.out⟩
theorem out_zero (w : World) : Out w 0 (.returned (.slice none 0 0)) w := by
 have e : words 0 = [] := words_zero
 refine ⟨none, 0, by rw [e]; rfl, by rw [e]; exact Rd.nil _, by rw [e]; exact Nat.le_refl _, by omega, Below.refl _ _, fun h => ?_⟩
 rw [e] at h
 exact absurd h (by simp)
end Go.Proofs.YteabokkofoomkaaGreat
