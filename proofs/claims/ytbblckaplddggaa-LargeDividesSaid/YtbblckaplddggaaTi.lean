import Derived.Test.YtbblckaplddggaaTh
import Derived.Test.YtbblckaplddggaaSn
import Derived.Outline
import Derived.IntWalk
import Derived.Deep.CutBlock
import Derived.Deep.DeepCutAuto
namespace Go.Proofs.Ytbblckaplddggaa
open Go.RowKit Go.Deep

/-- a quotient and a rest as words -/
def LongPost (w : World) (k q r : Nat) (e : Ending) (w' : World) : Prop :=
  ∃ A1 c1 A2 n2 c2 qs, e = .returned (.tuple #[.slice A1 k c1, .slice A2 n2 c2]) ∧ Rd w' A1 k qs ∧ val qs = q ∧ k ≤ c1 ∧ c1 ≤ 9223372036854775807 ∧ Rd w' A2 n2 (words r) ∧ n2 ≤ c2 ∧ c2 ≤ 9223372036854775807 ∧ Below w.heap.size w w'

/-- the reference's long division at work: the digits from i on are found -/
structure LongAt (w W : World) (gU gV gO n m K1 X V i : Nat) (U Q vs : List Nat) : Prop where
  below : Below w.heap.size w W
  bu : Bop W gU U
  rv : Rd W (some ⟨gV, 0, none⟩) (m + 2) vs
  bo : Bk W gO Q
  ql : Q.length = K1
  quo : QuoAt X V (n + 2) i U Q
theorem LongAt.drewN {w W : World} {gU gV gO n m K1 X V i : Nat} {U Q vs : List Nat} (h : LongAt w W gU gV gO n m K1 X V i U Q vs) (q : Nat) : LongAt w (W.drewN q) gU gV gO n m K1 X V i U Q vs :=
  ⟨below_drewN h.below q, h.bu.drewN q, h.rv.drewN q, h.bo.drewN q, h.ql, h.quo⟩
theorem LongAt.next_ {w W W' : World} {gU gV gO n m K1 X V i : Nat} {U Q vs : List Nat} (h : LongAt w W gU gV gO n m K1 X V i U Q vs) (hb : Below W.heap.size W W') : LongAt w W' gU gV gO n m K1 X V i U Q vs :=
  ⟨h.below.trans (hb.mono h.below.size), h.bu.below hb h.bu.lt, h.rv.below hb, h.bo.below hb h.bo.lt, h.ql, h.quo⟩
/-- the words at work -/
theorem LongAt.words_ {w W : World} {gU gV gO n m K1 X V j : Nat} {U Q vs : List Nat} (h : LongAt w W gU gV gO n m K1 X V (j + 1) U Q vs) (hj : j + (m + 3) ≤ n + 2) (i : Nat) (hi : i < m + 3) :
    W.cell? ⟨gU, j + i, none⟩ = some (.int .u32 (((((U.drop j).take (m + 3)).getD i 0) : Nat) : Int)) := by
  rw [h.bu.cell _ (by rw [h.quo.rl]; omega)]
  simp [List.getD_eq_getElem?_getD, List.getElem?_drop, hi]

theorem LongAt.next {w W0 W : World} {gU gV gO n m K1 X V j : Nat} {U Q vs cs : List Nat} (h : LongAt w W0 gU gV gO n m K1 X V (j + 1) U Q vs) (hin : LongIn w W gU gV gO m j U cs Q vs) (hj : j + (m + 3) ≤ n + 2) (hjk : j < K1) (hV : V < pw (m + 2)) (hV0 : 0 < V) (hcs : small cs)
    (hv : val cs = val ((U.drop j).take (m + 3)) % V) (hd : val ((U.drop j).take (m + 3)) / V < 4294967296) (hO : w.heap.size ≤ gO) (hUO : gU ≠ gO) (hVO : gV ≠ gO) (q : Nat) (hq : q = val ((U.drop j).take (m + 3)) / V) :
    LongAt w (W.setCell ⟨gO, j, none⟩ (.int .u32 (q : Int))) gU gV gO n m K1 X V j (splice U j cs) (Q.set j q) vs := by
  subst hq
  exact ⟨hin.below.setCell (p := ⟨gO, j, none⟩) hO _, hin.bu.far (p := ⟨gO, j, none⟩) hUO _, hin.rv.keep (by simp) (fun a ha _ => Below.heap_setCell W ⟨gO, j, none⟩ _ a.block (fun e => by injection ha with ha; subst ha; exact hVO e)), hin.bo.set_ j _ hd, by rw [List.length_set]; exact h.ql, h.quo.next hj hV hV0 (by rw [h.ql]; exact hjk) hin.len hcs hv hd⟩

set_option maxHeartbeats 4000000 in
set_option maxRecDepth 100000 in
/-- the reference's quotient and rest by more than one word -/
theorem refLong_c (A B : Option Addr) (n c m d : Nat) (xs ys : List Nat) (w : World) (ha : Rd w A n xs) (hb : Rd w B (m + 2) ys) (cy : canon ys) (hn : n ≤ 4398046511104) (hm : m ≤ 4398046511104) (hmn : m + 2 ≤ n) :
    Calls Try.prog 86 #[.slice A n c, .slice B (m + 2) d] w (LongPost w (n - m) (val xs / val ys) (val xs % val ys)) := by
  have hxl := ha.len
  have hyl := hb.len
  have hlast := canon_last cy (by omega)
  rw [hyl, show m + 2 - 1 = m + 1 from rfl] at hlast
  obtain ⟨b', o', rfl, hlb, hcy⟩ := hb.of (by omega)
  have hc1 := hcy (m + 1) (by omega)
  have hy1 := small_get cy.1 (m + 1)
  have HNorm := Lib.hid (fun s h1 h2 h3 => norm_any (s := s) cy.1 hyl h1 h2 h3)
  obtain ⟨y1, hy1d⟩ : ∃ y1, y1 = ys.getD (m + 1) 0 := ⟨_, rfl⟩
  rw [← hy1d] at hc1 hy1 HNorm hlast
  have e1 : (m : Int) + 2 - 1 = (m : Int) + 1 := by omega
  have HA := Lib.hid ha
  have HB := Lib.hid hb
  have HXl := Lib.hid hxl
  have hy0 : 0 < y1 := by omega
  clear hcy hlast hy1d ha hb hxl hyl
  go_enter Try.func86, Try.ntmps86
  go_wp2_with fail
  go_loop [6] (fun v => ∃ s : Nat, v = .int .i64 s ∧ s < 32 ∧ y1 * 2 ^ s < 4294967296) (fun v => 32 - (intOf v).toNat)
  case atStart => exact ⟨0, rfl, by omega, by omega⟩
  case round =>
    obtain ⟨s, rfl, hs, hys⟩ := hrel
    have es : IntKind.u32.wrap ((y1 : Int) * 2 ^ s) = ((y1 * 2 ^ s : Nat) : Int) := by
      have e4 : ((y1 : Int) * 2 ^ s) = ((y1 * 2 ^ s : Nat) : Int) := by push_cast; rfl
      rw [e4]
      show ((y1 * 2 ^ s : Nat) : Int) % 4294967296 = _
      omega
    obtain ⟨Y, hY⟩ : ∃ Y : Int, Y = ((y1 * 2 ^ s : Nat) : Int) := ⟨_, rfl⟩
    rw [← hY] at es
    have HYs := Lib.hid hys
    have HYd := Lib.hid hY
    clear hY hys
    by_cases hlt : Y < 2147483648
    · have hs31 : s + 1 < 32 := by
        rcases Nat.lt_or_ge (s + 1) 32 with h | h
        · exact h
        · exfalso
          obtain rfl : s = 31 := by omega
          have h1 : 1 * 2 ^ 31 ≤ y1 * 2 ^ 31 := Nat.mul_le_mul_right _ hy0
          have h2 := HYd.out
          omega
      have HY := Lib.hid (show y1 * 2 ^ (s + 1) < 4294967296 by rw [Nat.pow_succ, ← Nat.mul_assoc]; have := HYd.out; omega)
      go_wp2
      go_round
      case measure => simp [intOf]; omega
      case rel => exact ⟨s + 1, by go_num, hs31, HY.out⟩
    · have HN1 := Lib.hid (HNorm.out s hs (by have := HYd.out; omega) HYs.out)
      go_wp2_with fail
      refine (shifted_c A n c s xs _ HA.out (by omega) hs).mono ?_
      rintro e w1 ⟨cs, rfl, l1, l2, l3, l4⟩
      have hR0 : Rd (w1.alloc (Obj.cells #[.int .u32 0] 60)) (some ⟨w1.heap.size, 0, none⟩) 1 [0] := (Bk.new w1 (xs := [0]) (small_one (by omega))).rd
      have hB1 : w.heap.size ≤ (w1.alloc (Obj.cells #[.int .u32 0] 60)).heap.size := Nat.le_trans l4.size (by simp)
      have hL1 := l3.alloc (Obj.cells #[.int .u32 0] 60)
      have q1 : n + 1 + 1 ≤ 35184372088832 := by omega
      have q2 : 0 < n + 1 := by omega
      have HL2 := Lib.hid l2
      have W1 := Lib.hid (l4.trans (((Below.refl w1.heap.size w1).alloc (Nat.le_refl _) (Obj.cells #[.int .u32 0] 60)).mono l4.size))
      clear es hlt
      go_wp2_with (with_reducible refine wpList_app_open rfl (.tmp 35) (.tmp 36) rfl w.heap.size w1.heap.size 0 (n + 1) 1 1 cs [0] rfl rfl hL1 l1 hR0 q2 q1 w.heap.size hB1 (Nat.le_refl _) ?_; intro gU cU w2 k1 k2 k3 k4 k5)
      have W2 := Lib.hid (W1.out.trans k5)
      refine (shifted_c _ (m + 2) d s ys _ (HB.out.below W2.out) (by omega) hs).mono ?_
      rintro e w3 ⟨ds, rfl, p1, p2, p3, p4⟩
      obtain ⟨V, hV⟩ : ∃ V, V = val ys * 2 ^ s := ⟨_, rfl⟩
      have HVd := Lib.hid hV
      rw [← hV] at p2 HN1
      have hvs : val (ds.take (m + 2)) = V := by rw [val_mod p3.1, p2, Nat.mod_eq_of_lt HN1.out.1]
      have hvl : (ds.take (m + 2)).length = m + 2 := by rw [List.length_take, p1]; omega
      have RV : Rd w3 (some ⟨w2.heap.size, 0, none⟩) (m + 2) (ds.take (m + 2)) := by
        have := p3.rdAt (o := 0) (n := m + 2) (by rw [p1]; omega)
        rwa [List.drop_zero] at this
      have hUlt : gU < w2.heap.size := k2.lt
      have BU := Lib.hid (k2.below p4 hUlt)
      have W3 := Lib.hid (W2.out.trans (p4.mono W2.out.size))
      obtain ⟨vs, hvsd⟩ : ∃ vs, vs = ds.take (m + 2) := ⟨_, rfl⟩
      rw [← hvsd] at hvs hvl RV
      have HRV := Lib.hid RV
      have HVs := Lib.hid hvs
      have HVl := Lib.hid hvl
      obtain ⟨K1, hK⟩ : ∃ K1, K1 = n - m := ⟨_, rfl⟩
      have HK := Lib.hid (show n = K1 + m by omega)
      have e2 : (n : Int) + 1 + 1 - ((m : Int) + 2) = (K1 : Int) := by omega
      have hK1 : K1 ≤ 4398046511104 := by omega
      have hK2 : 2 ≤ K1 := by omega
      have hmk := mk_words K1 (by omega)
      clear hV hvsd hvs hvl RV p1 p2 p3 p4 k2 k5 hK
      go_wp2_with fail
      obtain ⟨X, hX⟩ : ∃ X, X = val xs * 2 ^ s := ⟨_, rfl⟩
      have HXd := Lib.hid hX
      have hXlt : 2 * X < pw (n + 1) := by
        have h1 := val_lt HA.out.sm
        rw [HXl.out] at h1
        have h2 := two_le hs
        have h3 : val xs * 2 ^ s ≤ val xs * 2147483648 := Nat.mul_le_mul_left _ h2
        rw [pw_succ, hX]
        omega
      have hU0 : val (cs ++ [0]) = X := by rw [val_append, HL2.out, hX]; simp [val]
      have L0 : LongAt w (w3.alloc (row (List.replicate K1 0))) gU w2.heap.size w3.heap.size n m K1 X V K1 (cs ++ [0]) (List.replicate K1 0) vs :=
        ⟨W3.out.alloc W3.out.size _, BU.out.alloc _, HRV.out.alloc _, Bk.new0 _ _, by simp, by simp [l1], BU.out.1, fun x hx => by have := List.eq_of_mem_replicate hx; omega, by
          rw [hU0]
          have h2 := HN1.out.2
          have h3 : pw (n + 2) = pw K1 * pw (m + 2) := by rw [← pw_add]; congr 1; have := HK.out; omega
          have h4 : pw K1 * pw (m + 2) ≤ pw K1 * (2 * V) := Nat.mul_le_mul_left _ h2
          have h5 : pw K1 * (2 * V) = 2 * (pw K1 * V) := Nat.mul_left_comm _ _ _
          have h6 : pw (n + 1) ≤ pw (n + 2) := pw_le (by omega)
          omega, by rw [val_replicate, Nat.mul_zero, Nat.add_zero]; exact hU0, fun j _ => getD_replicate _ _⟩
      have HL0 := Lib.hid L0
      have n1 : gU ≠ w2.heap.size := by omega
      have hz3 := HRV.out.blk (by omega) _ rfl
      have n2 : gU ≠ w3.heap.size := by have := BU.out.lt; omega
      have n3 : w2.heap.size ≠ w3.heap.size := Nat.ne_of_lt hz3
      have q3 : w.heap.size ≤ w2.heap.size := W2.out.size
      have q4 : w.heap.size ≤ w3.heap.size := W3.out.size
      obtain ⟨gV, hgV⟩ : ∃ gV, gV = w2.heap.size := ⟨_, rfl⟩
      obtain ⟨gO, hgO⟩ : ∃ gO, gO = w3.heap.size := ⟨_, rfl⟩
      rw [← hgV, ← hgO] at HL0
      rw [← hgV] at n1 n3 q3
      rw [← hgO] at n2 n3 q4
      rw [← hgV, ← hgO]
      have HVpos := Lib.hid (show 0 < V by
        have := HN1.out.2
        have := pw_pos (m + 2)
        omega)
      have HVtop := Lib.hid (show 0 < vs.getD (m + 1) 0 by
        have h1 := val_top HVl.out
        rw [HVs.out] at h1
        have h2 := val_lt (small_take HRV.out.sm m)
        rw [List.length_take, HVl.out, Nat.min_eq_left (by omega)] at h2
        have h3 := small_get HRV.out.sm m
        have h4 := HN1.out.2
        have h5 := pw_succ (m + 1)
        have h6 := pw_succ m
        rcases Nat.eq_zero_or_pos (vs.getD (m + 1) 0) with h0 | h0
        · exfalso
          rw [h0, Nat.zero_mul, Nat.zero_add] at h1
          have h7 : (vs.getD m 0 + 1) * pw m ≤ 4294967296 * pw m := Nat.mul_le_mul_right _ h3
          rw [Nat.add_mul, Nat.one_mul] at h7
          rw [show m + 1 + 1 = m + 2 from rfl] at h5
          omega
        · exact h0)
      clear hX hXlt hU0 L0 hz3 hgV hgO BU HRV l1 l3 hR0 hL1 hB1 q1 q2 hUlt e1 e2 hmk hc1
      go_loopw [11] (fun v wr => ∃ i : Nat, ∃ U Q, v = .int .i64 ((i : Int) - 1) ∧ i ≤ K1 ∧ LongAt w wr gU gV gO n m K1 X V i U Q vs) (fun v _ => (intOf v + 1).toNat)
      case atStart => exact ⟨K1, _, _, rfl, Nat.le_refl _, HL0.out⟩
      case round =>
        obtain ⟨i, U, Q, rfl, hi, hLA⟩ := hrel
        clear HL0
        obtain ⟨wro, hwro⟩ : ∃ wo : World, wo = wr := ⟨_, rfl⟩
        subst hwro
        have H := Lib.hid hLA
        clear hLA
        rcases Nat.eq_zero_or_pos i with hi0 | hi0
        · subst hi0
          have hval := Lib.hid (show val Q = val xs / val ys ∧ val U / 2 ^ s = val xs % val ys by
            obtain ⟨h1, h2⟩ := H.out.quo.done HVpos.out
            rw [h1, h2, HXd.out, HVd.out]
            exact quo_shift _ _ _)
          have HUl := Lib.hid H.out.quo.rl
          have HQl := Lib.hid H.out.ql
          have HS32 := Lib.hid hs
          have HNM := Lib.hid (And.intro hn (And.intro hm hmn))
          have HKM := Lib.hid (show n - m = K1 by have := HK.out; omega)
          have HUlt := Lib.hid (show val U < pw (m + 2) by
            have h1 := H.out.quo.lt
            rw [pw_zero, Nat.one_mul] at h1
            exact Nat.lt_trans h1 HN1.out.1)
          clear HVtop HVpos HK HVl HVs HN1 HNorm HXd HVd HXl HA HB
          clear hs hn hm hmn hK1 hK2 hy0 hy1 n1 n2 n3 q3 q4
          go_wp2_with fail
          have RU := H.out.bu.rd
          rw [HUl.out] at RU
          refine (Make_i (s := false) RU k3 k4 (by have := HNM.out; omega)).mono ?_
          rintro e w4 ⟨t4, A4, n4, c4, rfl, i4, hb⟩
          have e4 : sgn false (val U) = ((val U : Nat) : Int) := rfl
          rw [e4] at i4
          have I4 := Lib.hid i4
          replace H := Lib.hid (H.out.next_ hb)
          have hs0 : 0 ≤ (s : Int) := by omega
          have hs1 : (s : Int) < 32 := by have := HS32.out; omega
          have hn4 : n4 ≤ 4398046511104 := by
            have h1 := i4.len (k := m + 2) HUlt.out
            have := HNM.out
            omega
          clear hb i4 RU e4
          go_wp2_with fail
          refine (refShift_c I4.out hn4 (-(s : Int)) (by omega)).mono ?_
          rintro e w5 ⟨t5, A5, n5, c5, rfl, i5, hb⟩
          have e5 : shl ((val U : Nat) : Int) (-(s : Int)) = ((val xs % val ys : Nat) : Int) := by
            rw [← hval.out.2]
            rcases Nat.eq_zero_or_pos s with (h0 | h0)
            · subst h0
              show shl _ 0 = _
              unfold shl
              simp
            · rw [shl_down _ h0]
              exact (Int.natCast_ediv _ _).symm
          rw [e5] at i5
          have I5 := Lib.hid i5
          replace H := Lib.hid (H.out.next_ hb)
          clear hb i5 e5 I4 hn4
          have hfd : (Instr.field 24 (.agg #[.bool t5, .slice A5 n5 c5]) 1).run Try.prog w5 = .ok (.slice A5 n5 c5) w5 := by kernel_rfl
          go_wp2
          refine bodyPost_ret (v := .tuple #[.slice (some ⟨gO, 0, none⟩) K1 K1, .slice A5 n5 c5]) (by simp [results, Try.results86, go_sem]) rfl ?_
          exact ⟨_, _, _, _, _, Q, by rw [HKM.out], by rw [HKM.out, ← HQl.out]; exact H.out.bo.rd, hval.out.1, by rw [HKM.out]; exact Nat.le_refl _, by have := HNM.out; have := HKM.out; omega, I5.out.2.2.1, I5.out.2.2.2.1, I5.out.2.2.2.2, H.out.below⟩
        · obtain ⟨j, rfl⟩ : ∃ j, i = j + 1 := ⟨i - 1, by omega⟩
          have hjn : j + (m + 3) ≤ n + 2 := by have := HK.out; omega
          obtain ⟨g1, g2⟩ := H.out.quo.digit (m := m) hjn HN1.out.1
          have x0 := H.out.words_ hjn (m + 2) (by omega)
          have x1 := H.out.words_ hjn (m + 1) (by omega)
          have x2 := H.out.words_ hjn m (by omega)
          obtain ⟨zs, hzs⟩ : ∃ zs, zs = (U.drop j).take (m + 3) := ⟨_, rfl⟩
          rw [← hzs] at g1 g2 x0 x1 x2
          have hzl : zs.length = m + 3 := by rw [hzs, List.length_take, List.length_drop, H.out.quo.rl]; omega
          have hzm : small zs := by rw [hzs]; exact small_take (small_drop H.out.quo.rs _) _
          obtain ⟨gg, oo, e0, _, hy⟩ := H.out.rv.of (by omega)
          injection e0 with e0
          injection e0 with e01 e02
          subst e01 e02
          have y1' := hy (m + 1) (by omega)
          have y2' := hy m (by omega)
          rw [Nat.zero_add] at y1' y2'
          have lx0 := small_get hzm (m + 2)
          have lx1 := small_get hzm (m + 1)
          have lx2 := small_get hzm m
          have ly1 := small_get H.out.rv.sm (m + 1)
          have ly2 := small_get H.out.rv.sm m
          have HX := val_top3 hzl
          have HY := val_top HVl.out
          have px : val (zs.take m) < pw m := by have := val_lt (small_take hzm m); rwa [List.length_take, hzl, Nat.min_eq_left (by omega)] at this
          have py : val (vs.take m) < pw m := by have := val_lt (small_take H.out.rv.sm m); rwa [List.length_take, HVl.out, Nat.min_eq_left (by omega)] at this
          have hb1 := HVtop.out
          obtain ⟨r0, h0⟩ : ∃ r, r = zs.getD (m + 2) 0 := ⟨_, rfl⟩
          obtain ⟨r1, h1⟩ : ∃ r, r = zs.getD (m + 1) 0 := ⟨_, rfl⟩
          obtain ⟨r2, h2⟩ : ∃ r, r = zs.getD m 0 := ⟨_, rfl⟩
          obtain ⟨b1, h3⟩ : ∃ r, r = vs.getD (m + 1) 0 := ⟨_, rfl⟩
          obtain ⟨b2, h4⟩ : ∃ r, r = vs.getD m 0 := ⟨_, rfl⟩
          rw [← h0] at x0 lx0 HX
          rw [← h1] at x1 lx1 HX
          rw [← h2] at x2 lx2 HX
          rw [← h3] at y1' ly1 HY hb1
          rw [← h4] at y2' ly2 HY
          obtain ⟨top, ht⟩ : ∃ t, t = r0 * 4294967296 + r1 := ⟨_, rfl⟩
          rw [← ht] at HX
          have hsum : (r0 : Int) * 4294967296 + (r1 : Int) = (top : Int) := by omega
          have htop : top < 18446744073709551616 := by omega
          obtain ⟨Z, hZ⟩ : ∃ Z, Z = val zs := ⟨_, rfl⟩
          rw [← hZ] at HX g1
          rw [HVs.out] at HY
          have Hzs := Lib.hid hzs
          have Hzl := Lib.hid hzl
          have Hzm := Lib.hid hzm
          have HZd := Lib.hid hZ
          have Hx := Lib.hid HX
          have Hy := Lib.hid HY
          have Hpx := Lib.hid px
          have Hpy := Lib.hid py
          have Hlt := Lib.hid g1
          have G0 := Lib.hid (show GuessAt V Z b1 b2 top r2 (top / b1) (top % b1) from ⟨by rw [Nat.mul_comm]; exact (Nat.div_add_mod top b1).symm, kn_start HY HX px (Nat.div_mul_le_self Z V) rfl rfl lx2 hb1, Nat.lt_trans (Nat.mod_lt _ hb1) ly1⟩)
          have HQ := Lib.hid (show Z / V < 4294967296 from Nat.div_lt_of_lt_mul (by rw [Nat.mul_comm]; exact g1))
          have f0 : IntKind.i64.wrap ((j : Int) + ((m : Int) + 2)) = (j : Int) + ((m : Int) + 2) := IntWalk.i64_in _ (by omega)
          have f1 : IntKind.i64.wrap ((j : Int) + ((m : Int) + 2) - 1) = (j : Int) + ((m : Int) + 1) := by rw [show (j : Int) + ((m : Int) + 2) - 1 = (j : Int) + ((m : Int) + 1) by omega]; exact IntWalk.i64_in _ (by omega)
          have f2 : IntKind.i64.wrap ((j : Int) + ((m : Int) + 2) - 2) = (j : Int) + (m : Int) := by rw [show (j : Int) + ((m : Int) + 2) - 2 = (j : Int) + (m : Int) by omega]; exact IntWalk.i64_in _ (by omega)
          have w1' : IntKind.i64.wrap ((m : Int) + 2 - 1) = (m : Int) + 1 := by rw [show (m : Int) + 2 - 1 = (m : Int) + 1 by omega]; exact IntWalk.i64_in _ (by omega)
          have w2' : IntKind.i64.wrap ((m : Int) + 2 - 2) = (m : Int) := by rw [show (m : Int) + 2 - 2 = (m : Int) by omega]; exact IntWalk.i64_in _ (by omega)
          have f1' : (j : Int) + ((m : Int) + 2) - 1 = (j : Int) + ((m : Int) + 1) := by omega
          have f2' : (j : Int) + ((m : Int) + 2) - 2 = (j : Int) + (m : Int) := by omega
          have e1' : (m : Int) + 2 - 1 = (m : Int) + 1 := by omega
          have e2' : (m : Int) + 2 - 2 = (m : Int) := by omega
          obtain ⟨F0, hF0⟩ : ∃ F0, F0 = top / b1 := ⟨_, rfl⟩
          obtain ⟨l0, hl0⟩ : ∃ l0, l0 = top % b1 := ⟨_, rfl⟩
          rw [← hF0, ← hl0] at G0
          have d1 : (top : Int) / (b1 : Int) = (F0 : Int) := by rw [hF0, Int.natCast_ediv]
          have d2 : (top : Int) % (b1 : Int) = (l0 : Int) := by rw [hl0, Int.natCast_emod]
          have hF1 : F0 < 18446744073709551616 := by rw [hF0]; exact Nat.lt_of_le_of_lt (Nat.div_le_self _ _) htop
          have d3 : IntKind.u64.wrap (F0 : Int) = (F0 : Int) := by rw [IntKind.wrap_u64]; omega
          have tb : ((b1 : Int) == 0) = false := by rw [beq_eq_false_iff_ne]; omega
          have tb2 : ¬ (b1 : Int) = 0 := by omega
          have tb3 : ¬ b1 = 0 := by omega
          have Hb1 := Lib.hid hb1
          clear hF0 hl0 g1 g2 hzs hzl hzm hy HX HY px py h0 h1 h2 h3 h4 ht hZ hb1
          go_wp2_with fail
          go_quiet (fail)
          go_wp2_with fail
          go_quiet (fail)
          go_upto_block 4 with (fail)
          have D2 := Lib.hid d2
          clear d1 d2 d3 hsum w1' f1 x0 x1
          go_cut [13, 14] (fun q _ W => ∃ G qn : Nat, q = .int .u64 (G : Int) ∧ Guessed V Z G ∧ W = wro.drewN qn)
          case first =>
            go_wp2_with fail
            go_loopw [13, 14] (fun f l wr => ∃ F left q : Nat, f = .int .u64 F ∧ l = .int .u64 left ∧ F ≤ F0 ∧ GuessAt V Z b1 b2 top r2 F left ∧ wr = wro.drewN q) (fun f _ _ => (intOf f).toNat)
            case atStart => exact ⟨F0, l0, _, rfl, by rw [D2.out], Nat.le_refl _, G0.out, by first | rfl | rw [World.drewN_drewN]⟩
            case round =>
              obtain ⟨F, left, q, rfl, rfl, hF, hG, rfl⟩ := hrel
              have HG := Lib.hid hG
              have hleft := hG.lt
              clear hG G0
              have hF0 : 1 ≤ F ∨ F = 0 := by omega
              by_cases hbig : 4294967296 ≤ F
              · have tA : decide ((4294967296 : Int) ≤ (F : Int)) = true := by simp; omega
                have tA2 : (4294967296 : Int) ≤ (F : Int) := by omega
                have hmore := Lib.hid (show Z / V < F from Nat.lt_of_lt_of_le HQ.out hbig)
                replace hF0 : 1 ≤ F := by omega
                by_cases hbr : 4294967296 ≤ left + b1
                · have tC : decide ((4294967296 : Int) ≤ (left : Int) + (b1 : Int)) = true := by simp; omega
                  have tC2 : (4294967296 : Int) ≤ (left : Int) + (b1 : Int) := by omega
                  have hend := Lib.hid (guess_early (guess_sub HG.out.eq (Nat.lt_of_le_of_lt (Nat.zero_le _) hmore.out)) (Nat.le_sub_one_of_lt hmore.out) Hy.out Hx.out Hpy.out Hb1.out ly2 Hlt.out hbr)
                  obtain ⟨G, hGd⟩ : ∃ G, G = F - 1 := ⟨_, rfl⟩
                  have hGi : (F : Int) - 1 = (G : Int) := by omega
                  rw [← hGd] at hend
                  clear hbr hGd
                  go_wp2_with fail
                  go_quiet (fail)
                  go_wp2
                  go_meet
                  exact ⟨G, _, rfl, hend.out, by first | rfl | rw [World.drewN_drewN]⟩
                · have tC : decide ((4294967296 : Int) ≤ (left : Int) + (b1 : Int)) = false := by simp; omega
                  have tC2 : (left : Int) + (b1 : Int) < 4294967296 := by omega
                  have hnext := Lib.hid (guess_next HG.out hmore.out (by omega))
                  clear hbr
                  go_wp2_with fail
                  go_quiet (fail)
                  go_wp2
                  go_roundw
                  case measure => simp [intOf]; omega
                  case rel => exact ⟨F - 1, left + b1, _, by rw [Int.natCast_sub hF0]; rfl, by go_num, by omega, hnext.out, rfl⟩
              · have tA : decide ((4294967296 : Int) ≤ (F : Int)) = false := by simp; omega
                have tA2 : (F : Int) < 4294967296 := by omega
                have hp := mul_word (F := F) (w := b2) (c := 0) (by omega) ly2 (by omega)
                rw [Nat.add_zero] at hp
                have hor2 : (left : Int) * 4294967296 + (r2 : Int) = ((left * 4294967296 + r2 : Nat) : Int) := by omega
                obtain ⟨p, hpd⟩ : ∃ p, p = F * b2 := ⟨_, rfl⟩
                obtain ⟨t, htd⟩ : ∃ t, t = left * 4294967296 + r2 := ⟨_, rfl⟩
                rw [← hpd] at hp
                rw [← htd] at hor2
                have ht1 : t < 18446744073709551616 := by omega
                have d4 : (F : Int) * (b2 : Int) = (p : Int) := by rw [hpd, Int.natCast_mul]
                have d5 : IntKind.u64.wrap (p : Int) = (p : Int) := by rw [IntKind.wrap_u64]; omega
                have d6 : IntKind.u64.wrap (t : Int) = (t : Int) := by rw [IntKind.wrap_u64]; omega
                by_cases hgt : t < p
                · have tB : decide ((t : Int) < (p : Int)) = true := by simp; exact hgt
                  have hmore := Lib.hid (guess_more HG.out.eq Hy.out Hx.out Hpx.out (by rw [← htd, ← hpd]; exact hgt))
                  replace hF0 : 1 ≤ F := Nat.lt_of_le_of_lt (Nat.zero_le _) hmore.out
                  clear hpd htd
                  by_cases hbr : 4294967296 ≤ left + b1
                  · have tC : decide ((4294967296 : Int) ≤ (left : Int) + (b1 : Int)) = true := by simp; omega
                    have tC2 : (4294967296 : Int) ≤ (left : Int) + (b1 : Int) := by omega
                    have hend := Lib.hid (guess_early (guess_sub HG.out.eq (Nat.lt_of_le_of_lt (Nat.zero_le _) hmore.out)) (Nat.le_sub_one_of_lt hmore.out) Hy.out Hx.out Hpy.out Hb1.out ly2 Hlt.out hbr)
                    obtain ⟨G, hGd⟩ : ∃ G, G = F - 1 := ⟨_, rfl⟩
                    have hGi : (F : Int) - 1 = (G : Int) := by omega
                    rw [← hGd] at hend
                    clear hbr hGd
                    go_wp2_with fail
                    go_quiet (fail)
                    go_wp2
                    go_meet
                    exact ⟨G, _, rfl, hend.out, by first | rfl | rw [World.drewN_drewN]⟩
                  · have tC : decide ((4294967296 : Int) ≤ (left : Int) + (b1 : Int)) = false := by simp; omega
                    have tC2 : (left : Int) + (b1 : Int) < 4294967296 := by omega
                    have hnext := Lib.hid (guess_next HG.out hmore.out (by omega))
                    clear hbr
                    go_wp2_with fail
                    go_quiet (fail)
                    go_wp2
                    go_roundw
                    case measure => simp [intOf]; omega
                    case rel => exact ⟨F - 1, left + b1, _, by rw [Int.natCast_sub hF0]; rfl, by go_num, by omega, hnext.out, rfl⟩
                · have tB : decide ((t : Int) < (p : Int)) = false := by simp; omega
                  have hle : p ≤ t := by omega
                  have hle2 : (p : Int) ≤ (t : Int) := by omega
                  have hend := Lib.hid (guess_good HG.out.eq HG.out.ge Hy.out Hx.out Hpy.out Hb1.out (by omega) (by rw [← htd, ← hpd]; omega))
                  clear hpd htd
                  obtain ⟨G, hGd⟩ : ∃ G, G = F := ⟨_, rfl⟩
                  rw [← hGd] at hend
                  subst hGd
                  go_wp2_with fail
                  go_quiet (fail)
                  go_wp2
                  go_meet
                  exact ⟨G, _, rfl, hend.out, by first | rfl | rw [World.drewN_drewN]⟩
          case rest =>
            obtain ⟨G, qn, rfl, hG, rfl⟩ := hcut
            have hend := Lib.hid hG
            clear hG G0 D2
            go_wp2_with fail
            have HLI := Lib.hid (show LongIn w wro gU gV gO m j U zs Q vs by
              have h := LongIn.start H.out.below H.out.bu H.out.rv H.out.bo (j := j) (m := m) (by rw [H.out.quo.rl]; exact hjn)
              rw [← Hzs.out] at h
              exact h)
            have HM0 := Lib.hid (MulAll.start (ys := vs) (F := G) Hzm.out Hzl.out)
            have hG32 := hend.out.lt
            go_loopw [15, 16, 17] (fun cy bo i wr => ∃ k y u : Nat, ∃ cs, cy = .int .u64 y ∧ bo = .int .u64 u ∧ i = .int .i64 k ∧ k ≤ m + 3 ∧ MulAll zs vs G m k cs y u ∧ LongIn w wr gU gV gO m j U cs Q vs) (fun _ _ i _ => m + 3 - (intOf i).toNat)
            case atStart => exact ⟨0, 0, 0, zs, rfl, rfl, rfl, by omega, HM0.out, by first | exact HLI.out.drewN _ | exact (HLI.out.drewN _).drewN _⟩
            case round =>
              obtain ⟨k, y, u, cs, rfl, rfl, rfl, hk, hA, hL⟩ := hrel
              have hy1 := hA.lt
              have hu1 := hA.bo
              have HL := Lib.hid hL
              have HA := Lib.hid hA
              clear hL hA HLI HM0
              rcases Nat.lt_or_ge k (m + 2) with hkm | hkm
              · obtain ⟨x, hx⟩ : ∃ x, x = zs.getD k 0 := ⟨_, rfl⟩
                obtain ⟨z, hz⟩ : ∃ z, z = vs.getD k 0 := ⟨_, rfl⟩
                have hcx := HL.out.cell k (by omega)
                rw [getD_drop_eq HA.out.rest, ← hx] at hcx
                have hcz := HL.out.cv k hkm
                rw [← hz] at hcz
                have hfx := HL.out.bu.frozen (j + k)
                have hx1 := small_get Hzm.out k
                have hz1 := small_get H.out.rv.sm k
                rw [← hx] at hx1
                rw [← hz] at hz1
                have hnx := HA.out.next hG32 Hzm.out Hzl.out H.out.rv.sm HVl.out hkm
                rw [← hx, ← hz] at hnx
                have hT := mul_word hG32 hz1 hy1
                obtain ⟨P, hP⟩ : ∃ P, P = G * z := ⟨_, rfl⟩
                have hP2 : (G : Int) * (z : Int) = (P : Int) := by rw [hP, Int.natCast_mul]
                rw [← hP] at hnx hT
                have hP3 : IntKind.u64.wrap (P : Int) = (P : Int) := by rw [IntKind.wrap_u64]; omega
                obtain ⟨T, hTd⟩ : ∃ T, T = P + y := ⟨_, rfl⟩
                have hT2 : (y : Int) + (P : Int) = (T : Int) := by omega
                rw [← hTd] at hnx hT
                obtain ⟨s', hs'⟩ : ∃ s', s' = T % 4294967296 := ⟨_, rfl⟩
                obtain ⟨y', hy'⟩ : ∃ y', y' = T / 4294967296 := ⟨_, rfl⟩
                have hs1 : s' < 4294967296 := by omega
                have hy2 : (T : Int) / 4294967296 = (y' : Int) := by omega
                rw [← hs', ← hy'] at hnx
                obtain ⟨D, hD⟩ : ∃ D, D = x + 4294967296 - s' - u := ⟨_, rfl⟩
                have hD1 : D < 8589934592 := by omega
                have hD2 : (x : Int) + 4294967296 - (s' : Int) - (u : Int) = (D : Int) := by omega
                obtain ⟨v, hv⟩ : ∃ v, v = D % 4294967296 := ⟨_, rfl⟩
                obtain ⟨u', hu'⟩ : ∃ u', u' = (if x < s' + u then 1 else 0 : Nat) := ⟨_, rfl⟩
                have hv1 : v < 4294967296 := by omega
                have hu2 : 1 - (D : Int) / 4294967296 = (u' : Int) := by rw [hu']; split <;> omega
                have hm1 : bits .and .u64 (T : Int) 4294967295 = (s' : Int) := by rw [u64_mask (by omega) (by omega)]; omega
                have hm2 : bits .and .u64 (D : Int) 4294967295 = (v : Int) := by rw [u64_mask (by omega) (by omega)]; omega
                rw [← hD, ← hv, ← hu'] at hnx
                have HL2 := Lib.hid (HL.out.set_ k1 n1 n2 k v (by omega) hv1)
                have H1 := Lib.hid hnx
                have tI1 : decide ((k : Int) ≤ (m : Int) + 2) = true := by simp; omega
                have tI2 : decide ((k : Int) < (m : Int) + 2) = true := by simp; omega
                have hkI1 : (k : Int) ≤ (m : Int) + 2 := by omega
                have hkI2 : (k : Int) < (m : Int) + 2 := by omega
                clear hnx hv hu' hD hTd hs' hy' hP hx hz
                clear H Hzs Hzl Hzm HZd Hx Hy Hpx Hpy Hlt HQ
                go_upto_region 24 with (fail)
                go_wp2_with fail
                go_roundw
                case measure => simp [intOf]; omega
                case rel => exact ⟨k + 1, y', u', _, by go_num, by go_num, by go_num, by omega, H1.out, HL2.out⟩
              · rcases Nat.lt_or_ge k (m + 3) with hk3 | hk3
                · obtain rfl : k = m + 2 := by omega
                  obtain ⟨x, hx⟩ : ∃ x, x = zs.getD (m + 2) 0 := ⟨_, rfl⟩
                  have hcx := HL.out.cell (m + 2) (by omega)
                  rw [getD_drop_eq HA.out.rest, ← hx] at hcx
                  have hfx := HL.out.bu.frozen (j + (m + 2))
                  have hx1 := small_get Hzm.out (m + 2)
                  rw [← hx] at hx1
                  have hnx := HA.out.last Hzm.out Hzl.out HVl.out
                  rw [← hx] at hnx
                  have hy2 : (y : Int) / 4294967296 = 0 := by omega
                  obtain ⟨D, hD⟩ : ∃ D, D = x + 4294967296 - y - u := ⟨_, rfl⟩
                  have hD1 : D < 8589934592 := by omega
                  have hD2 : (x : Int) + 4294967296 - (y : Int) - (u : Int) = (D : Int) := by omega
                  obtain ⟨v, hv⟩ : ∃ v, v = D % 4294967296 := ⟨_, rfl⟩
                  obtain ⟨u', hu'⟩ : ∃ u', u' = (if x < y + u then 1 else 0 : Nat) := ⟨_, rfl⟩
                  have hv1 : v < 4294967296 := by omega
                  have hu2 : 1 - (D : Int) / 4294967296 = (u' : Int) := by rw [hu']; split <;> omega
                  have hm1 : bits .and .u64 (y : Int) 4294967295 = (y : Int) := by rw [u64_mask (by omega) (by omega)]; omega
                  have hm2 : bits .and .u64 (D : Int) 4294967295 = (v : Int) := by rw [u64_mask (by omega) (by omega)]; omega
                  rw [← hD, ← hv, ← hu'] at hnx
                  have HL2 := Lib.hid (HL.out.set_ k1 n1 n2 (m + 2) v (by omega) hv1)
                  have H1 := Lib.hid hnx
                  clear hnx hv hu' hD hx
                  go_wp2_with fail
                  go_roundw
                  case measure => simp [intOf]; omega
                  case rel => exact ⟨m + 3, 0, u', _, by go_num, by go_num, by go_num, by omega, H1.out, HL2.out⟩
                · obtain rfl : k = m + 3 := by omega
                  have hfin := HA.out.fin rfl
                  rw [← HZd.out, HVs.out] at hfin
                  rcases Nat.eq_zero_or_pos u with hu0 | hu0
                  · subst hu0
                    rw [Nat.mul_zero, Nat.add_zero] at hfin
                    obtain ⟨q1', q2'⟩ := once_exact (V := V) (X := Z) hend.out HVpos.out (R := val cs) (by rw [← hfin])
                    have hnext := Lib.hid (LongAt.next H.out HL.out hjn (show j < K1 by omega) HN1.out.1 HVpos.out HA.out.sm (by rw [← Hzs.out, ← HZd.out]; exact q2') (by rw [← Hzs.out, ← HZd.out]; exact HQ.out) q4 n2 n3 G (by rw [← Hzs.out, ← HZd.out]; exact q1'))
                    have hcq := HL.out.bo.cell j (by rw [H.out.ql]; omega)
                    have hfq := HL.out.bo.frozen j
                    have hGI : IntKind.u32.wrap (G : Int) = (G : Int) := by show (G : Int) % 4294967296 = _; omega
                    have hGI2 : (G : Int) % 4294967296 = (G : Int) := by omega
                    have hGI3 : (G : Int) < 4294967296 := by omega
                    clear q1' q2' hfin
                    go_wp2
                    go_roundw
                    case measure => simp [intOf]
                    case rel => exact ⟨j, _, _, by go_num, by omega, hnext.out⟩
                  · obtain rfl : u = 1 := by omega
                    rw [Nat.mul_one] at hfin
                    have hM := val_lt HA.out.sm
                    rw [HA.out.len] at hM
                    obtain ⟨f1, f2, f3, f4⟩ := once_over (V := V) (X := Z) hend.out HVpos.out hM hfin
                    obtain ⟨G', hG'⟩ : ∃ G', G' = G - 1 := ⟨_, rfl⟩
                    rw [← hG'] at f2
                    have hGm : (G : Int) - 1 = (G' : Int) := by omega
                    have hGl : G' < 4294967296 := by omega
                    have HF2 := Lib.hid f2
                    have HF3 := Lib.hid (show pw (m + 3) ≤ val cs + val vs by rw [HVs.out]; exact f3)
                    have HF4 := Lib.hid f4
                    have HA0 := Lib.hid (AddAll.start (b := vs) HA.out.sm HA.out.len)
                    have HCs := Lib.hid HA.out.sm
                    have HCl := Lib.hid HA.out.len
                    clear f1 f2 f3 f4 hM hfin hG' HA
                    go_wp2_with fail
                    go_loopw [20, 21] (fun cy i wr => ∃ k y : Nat, ∃ ds, cy = .int .u64 y ∧ i = .int .i64 k ∧ k ≤ m + 3 ∧ AddAll cs vs m k ds y ∧ LongIn w wr gU gV gO m j U ds Q vs) (fun _ i _ => m + 3 - (intOf i).toNat)
                    case atStart => exact ⟨0, 0, cs, rfl, rfl, by omega, HA0.out, by first | exact HL.out | exact HL.out.drewN _ | exact (HL.out.drewN _).drewN _⟩
                    case round =>
                      obtain ⟨k, y, ds, rfl, rfl, hk, hA, hL⟩ := hrel
                      have hy1 := hA.le
                      clear HL HA0
                      have HL := Lib.hid hL
                      have HA := Lib.hid hA
                      clear hL hA
                      rcases Nat.lt_or_ge k (m + 2) with hkm | hkm
                      · obtain ⟨x, hx⟩ : ∃ x, x = cs.getD k 0 := ⟨_, rfl⟩
                        obtain ⟨z, hz⟩ : ∃ z, z = vs.getD k 0 := ⟨_, rfl⟩
                        have hcx := HL.out.cell k (by omega)
                        rw [getD_drop_eq HA.out.rest, ← hx] at hcx
                        have hcz := HL.out.cv k hkm
                        rw [← hz] at hcz
                        have hfx := HL.out.bu.frozen (j + k)
                        have hx1 := small_get HCs.out k
                        have hz1 := small_get H.out.rv.sm k
                        rw [← hx] at hx1
                        rw [← hz] at hz1
                        have hnx := HA.out.next HCs.out HCl.out H.out.rv.sm hkm
                        rw [← hx, ← hz] at hnx
                        obtain ⟨S, hS⟩ : ∃ S, S = x + y := ⟨_, rfl⟩
                        obtain ⟨T, hTd⟩ : ∃ T, T = S + z := ⟨_, rfl⟩
                        rw [← hS, ← hTd] at hnx
                        have hS2 : (y : Int) + (x : Int) = (S : Int) := by omega
                        have hT2 : (S : Int) + (z : Int) = (T : Int) := by omega
                        have hS1 : S < 4294967297 := by omega
                        have hT1 : T < 8589934592 := by omega
                        obtain ⟨v, hv⟩ : ∃ v, v = T % 4294967296 := ⟨_, rfl⟩
                        obtain ⟨y', hy'⟩ : ∃ y', y' = T / 4294967296 := ⟨_, rfl⟩
                        have hv1 : v < 4294967296 := by omega
                        have hy2 : (T : Int) / 4294967296 = (y' : Int) := by omega
                        have hm1 : bits .and .u64 (T : Int) 4294967295 = (v : Int) := by rw [u64_mask (by omega) (by omega)]; omega
                        rw [← hv, ← hy'] at hnx
                        have HL2 := Lib.hid (HL.out.set_ k1 n1 n2 k v (by omega) hv1)
                        have H1 := Lib.hid hnx
                        have tI1 : decide ((k : Int) ≤ (m : Int) + 2) = true := by simp; omega
                        have tI2 : decide ((k : Int) < (m : Int) + 2) = true := by simp; omega
                        have hkI1 : (k : Int) ≤ (m : Int) + 2 := by omega
                        have hkI2 : (k : Int) < (m : Int) + 2 := by omega
                        clear hnx hv hTd hS hy' hx hz
                        clear H Hzs Hzl Hzm HZd Hx Hy Hpx Hpy Hlt HQ
                        go_upto_region 37 with (fail)
                        go_wp2_with fail
                        go_roundw
                        case measure => simp [intOf]; omega
                        case rel => exact ⟨k + 1, y', _, by go_num, by go_num, by omega, H1.out, HL2.out⟩
                      · rcases Nat.lt_or_ge k (m + 3) with hk3 | hk3
                        · obtain rfl : k = m + 2 := by omega
                          obtain ⟨x, hx⟩ : ∃ x, x = cs.getD (m + 2) 0 := ⟨_, rfl⟩
                          have hcx := HL.out.cell (m + 2) (by omega)
                          rw [getD_drop_eq HA.out.rest, ← hx] at hcx
                          have hfx := HL.out.bu.frozen (j + (m + 2))
                          have hx1 := small_get HCs.out (m + 2)
                          rw [← hx] at hx1
                          have hnx := HA.out.last HCs.out HCl.out HVl.out HF3.out
                          rw [← hx] at hnx
                          obtain ⟨T, hTd⟩ : ∃ T, T = x + y := ⟨_, rfl⟩
                          rw [← hTd] at hnx
                          have hT2 : (y : Int) + (x : Int) = (T : Int) := by omega
                          have hT1 : T < 8589934592 := by omega
                          obtain ⟨v, hv⟩ : ∃ v, v = T % 4294967296 := ⟨_, rfl⟩
                          obtain ⟨y', hy'⟩ : ∃ y', y' = T / 4294967296 := ⟨_, rfl⟩
                          have hv1 : v < 4294967296 := by omega
                          have hy2 : (T : Int) / 4294967296 = (y' : Int) := by omega
                          have hm1 : bits .and .u64 (T : Int) 4294967295 = (v : Int) := by rw [u64_mask (by omega) (by omega)]; omega
                          rw [← hv, ← hy'] at hnx
                          have HL2 := Lib.hid (HL.out.set_ k1 n1 n2 (m + 2) v (by omega) hv1)
                          have H1 := Lib.hid hnx
                          clear hnx hv hTd hy' hx
                          clear H Hzs Hzl Hzm HZd Hx Hy Hpx Hpy Hlt HQ
                          go_wp2_with fail
                          go_roundw
                          case measure => simp [intOf]; omega
                          case rel => exact ⟨m + 3, y', _, by go_num, by go_num, by omega, H1.out, HL2.out⟩
                        · obtain rfl : k = m + 3 := by omega
                          have q2' := HA.out.fin rfl
                          rw [HVs.out, HF4.out] at q2'
                          have hnext := Lib.hid (LongAt.next H.out HL.out hjn (show j < K1 by omega) HN1.out.1 HVpos.out HA.out.sm (by rw [← Hzs.out, ← HZd.out]; exact q2') (by rw [← Hzs.out, ← HZd.out]; exact HQ.out) q4 n2 n3 G' (by rw [← Hzs.out, ← HZd.out]; exact HF2.out))
                          have hcq := HL.out.bo.cell j (by rw [H.out.ql]; omega)
                          have hfq := HL.out.bo.frozen j
                          have hGI : IntKind.u32.wrap (G' : Int) = (G' : Int) := by show (G' : Int) % 4294967296 = _; omega
                          have hGI2 : (G' : Int) % 4294967296 = (G' : Int) := by omega
                          have hGI3 : (G' : Int) < 4294967296 := by omega
                          clear q2'
                          go_wp2
                          go_roundw
                          case measure => simp [intOf]
                          case rel => exact ⟨j, _, _, by go_num, by omega, hnext.out⟩
end Go.Proofs.Ytbblckaplddggaa
