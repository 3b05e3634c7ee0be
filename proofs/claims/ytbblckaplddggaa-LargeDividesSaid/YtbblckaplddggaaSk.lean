import Derived.Test.YtbblckaplddggaaMb
import Derived.Test.YtbblckaplddggaaVb
import Derived.Test.YtbblckaplddggaaRe
import Derived.Outline
import Derived.Test.YtbblckaplddggaaSa
import Derived.Deep.RegionHeld3
import Derived.Deep.DeepMust
import Derived.IntWalk
namespace Go.Proofs.Ytbblckaplddggaa
open Go.RowKit

set_option maxHeartbeats 400000 in
set_option maxRecDepth 100000 in
theorem refBits_c (s : Bool) (A : Option Addr) (n c : Nat) (xs : List Nat) (w : World) (h : Rd w A n xs) (hx : canon xs) (hn : n ≤ 17592186044416) :
    Calls Try.prog 26 #[.agg #[.bool s, .slice A n c]] w fun e w' => e = .returned (.int .i64 (blen (val xs))) ∧ Below w.heap.size w w' := by
  rcases Nat.eq_zero_or_pos n with h0 | h0
  · subst h0
    have hx0 : xs = [] := List.eq_nil_of_length_eq_zero h.len
    have H := Lib.hid (show blen (val xs) = 0 by rw [hx0]; rfl)
    clear hx0
    go_enter Try.func26, Try.ntmps26
    go_wp2
    go_ret
    exact ⟨by rw [H.out]; rfl, below_alloc _ _⟩
  · have hl := h.len
    have hb := blen_words hx (by omega)
    obtain ⟨b, o, rfl, hlt, hcell⟩ := h.of h0
    obtain ⟨j, rfl⟩ : ∃ j, n = j + 1 := ⟨n - 1, by omega⟩
    rw [hl, Nat.add_sub_cancel] at hb
    have hc := hcell j (by omega)
    have hx1 := small_get hx.1 j
    obtain ⟨x, hx2⟩ : ∃ x, x = xs.getD j 0 := ⟨_, rfl⟩
    rw [← hx2] at hc hx1 hb
    have hc2 : ∀ o1, (w.alloc o1).cell? ⟨b, o + j, none⟩ = some (.int .u32 (x : Int)) := fun o1 => (World.cell?_alloc_lt w o1 ⟨b, o + j, none⟩ hlt).trans hc
    have HB := Lib.hid hb
    have hle := blen_le.2 (show x < 2 ^ 32 by omega)
    have t : ((j : Int) + 1 == 0) = false := by rw [beq_eq_false_iff_ne]; omega
    clear hb hcell hl hx2 h hx hc
    go_enter Try.func26, Try.ntmps26
    go_wp2
    go_loop [4, 5] (fun k v => ∃ (i y : Nat), k = .int .i64 i ∧ v = .int .u32 y ∧ i + blen y = blen x ∧ y ≤ x) (fun _ v => (intOf v).toNat)
    case atStart => exact ⟨0, x, rfl, rfl, by omega, Nat.le_refl _⟩
    case round =>
      obtain ⟨i, y, rfl, rfl, he, hy⟩ := hrel
      by_cases hy0 : 0 < y
      · have hbh := Lib.hid (blen_half' hy0)
        have HE := Lib.hid he
        have hi : i ≤ 32 := by omega
        clear he
        go_wp2
        go_round
        case measure => simp [intOf]; omega
        case rel => exact ⟨i + 1, y / 2, by go_num, by go_num, by have := HE.out; have := hbh.out; omega, by omega⟩
      · obtain rfl : y = 0 := by omega
        have HE := Lib.hid (show i = blen x by rw [← he]; rfl)
        have hi : i ≤ 32 := by have := HE.out; omega
        clear he
        go_wp2
        go_ret
        exact ⟨ret_int (by rw [HB.out, ← HE.out]; omega), below_alloc _ _⟩

theorem u32_and (x y : Nat) (hx : x < 4294967296) (hy : y < 4294967296) : bits BinOp.and IntKind.u32 (x : Int) (y : Int) = ((x &&& y : Nat) : Int) := by
  show IntKind.u32.wrap ((BitVec.ofInt 32 (x : Int) &&& BitVec.ofInt 32 (y : Int)).toNat : Int) = _
  rw [BitVec.toNat_and, BitVec.toNat_ofInt, BitVec.toNat_ofInt]
  rw [show (((x : Int) % ((2 ^ 32 : Nat) : Int)).toNat) = x by omega, show (((y : Int) % ((2 ^ 32 : Nat) : Int)).toNat) = y by omega]
  have h : x &&& y ≤ x := Nat.and_le_left
  show ((x &&& y : Nat) : Int) % 4294967296 = _
  omega

end Go.Proofs.Ytbblckaplddggaa
namespace Go.Proofs.Ytbblckaplddggaa
open Go.RowKit

theorem u32_or (x y : Nat) (hx : x < 4294967296) (hy : y < 4294967296) : bits BinOp.or IntKind.u32 (x : Int) (y : Int) = ((x ||| y : Nat) : Int) := by
  show IntKind.u32.wrap ((BitVec.ofInt 32 (x : Int) ||| BitVec.ofInt 32 (y : Int)).toNat : Int) = _
  rw [BitVec.toNat_or, BitVec.toNat_ofInt, BitVec.toNat_ofInt]
  rw [show (((x : Int) % ((2 ^ 32 : Nat) : Int)).toNat) = x by omega, show (((y : Int) % ((2 ^ 32 : Nat) : Int)).toNat) = y by omega]
  have h : x ||| y < 2 ^ 32 := Nat.or_lt_two_pow hx hy
  show ((x ||| y : Nat) : Int) % 4294967296 = _
  omega

/-- a new block of n words with the value v -/
theorem shifted_c (A : Option Addr) (n c q : Nat) (xs : List Nat) (w : World) (ha : Rd w A n xs) (hn : n ≤ 17592186044416) (hq : q < 32) :
    Calls Try.prog 116 #[.slice A n c, .int .i64 (q : Int)] w (Made w (n + 1) (val xs * 2 ^ q)) := by
  have hmk := mk_words (n + 1) (by omega)
  rw [show ((n + 1 : Nat) : Int) = (n : Int) + 1 from rfl] at hmk
  have HL := Lib.hid ha.len
  have HA := Lib.hid ha.at_
  have hs := ha.sm
  have S0 := Lib.hid (show ShAt xs q 0 (List.replicate (n + 1) 0) by rw [← ha.len]; exact ShAt.start xs q)
  clear ha
  go_enter Try.func116, Try.ntmps116
  go_wp2
  clear hmk
  go_loopw [6, 7] (fun i _ wr => ∃ j : Nat, ∃ L, i = .int .i64 j ∧ j ≤ n ∧ ShAt xs q j L ∧ Bk wr w.heap.size L ∧ Below w.heap.size w wr) (fun i _ _ => n - (intOf i).toNat)
  case atStart => exact ⟨0, _, rfl, by omega, S0.out, Bk.new0 _ _, (Below.refl _ _).alloc (Nat.le_refl _) _⟩
  case round =>
    obtain ⟨j, L, rfl, hj, hU, hB, hW⟩ := hrel
    clear S0
    have hlen := hU.len
    rw [HL.out] at hlen
    by_cases hjn : j < n
    · obtain ⟨b, o, rfl, hb, hcell⟩ := HA.out (by omega)
      have hcj := (hW.cell (p := ⟨b, o + j, none⟩) hb).trans (hcell j hjn)
      have hcx := hB.cell j (by omega)
      have hfx := hB.frozen j
      have hfy := hB.frozen (j + 1)
      have hnx := hU.next hs hq (by rw [HL.out]; exact hjn)
      have hx1 := small_get hs j
      have ho1 := hU.or_eq hq
      have ho2 := hU.low_lt hq
      obtain ⟨x, hx2⟩ : ∃ x, x = xs.getD j 0 := ⟨_, rfl⟩
      obtain ⟨l, hl⟩ : ∃ l, l = L.getD j 0 := ⟨_, rfl⟩
      rw [← hx2] at hcj hx1 hnx ho1 ho2
      rw [← hl] at hcx hnx ho1 ho2
      have hxq := mul_two_lt hx1 hq
      have e3 : IntKind.u64.wrap ((x : Int) * 2 ^ q) = ((x * 2 ^ q : Nat) : Int) := by
        have e4 : ((x : Int) * 2 ^ q) = ((x * 2 ^ q : Nat) : Int) := by push_cast; rfl
        rw [e4, IntKind.wrap_u64]; omega
      obtain ⟨X, hX⟩ : ∃ X, X = x * 2 ^ q := ⟨_, rfl⟩
      rw [← hX] at e3 hnx ho1 ho2 hxq
      obtain ⟨R, hR⟩ : ∃ R, R = X % 4294967296 := ⟨_, rfl⟩
      rw [← hR] at hnx ho1 ho2
      have hR1 : R < 4294967296 := by omega
      have hmask : bits .and .u64 (X : Int) 4294967295 = (R : Int) := by rw [u64_mask (by omega) (by omega), hR]; omega
      have hor : bits .or .u32 (l : Int) (R : Int) = ((l + R : Nat) : Int) := by rw [u32_or _ _ (by omega) hR1, ho1]
      obtain ⟨v, hv⟩ : ∃ v, v = l + R := ⟨_, rfl⟩
      rw [← hv] at hor hnx ho2
      obtain ⟨u, hu⟩ : ∃ u, u = X / 4294967296 := ⟨_, rfl⟩
      rw [← hu] at hnx
      have hu2 : ((X : Int) / 4294967296) = (u : Int) := by omega
      have hu1 : u < 4294967296 := by omega
      have hbn := hB.set_ j v ho2
      have hcy := hbn.cell (j + 1) (by rw [List.length_set]; omega)
      have hbn2 := hbn.set_ (j + 1) u hu1
      have hwn := (hW.setCell (p := ⟨w.heap.size, j, none⟩) (Nat.le_refl _) (.int .u32 (v : Int))).setCell (p := ⟨w.heap.size, j + 1, none⟩) (Nat.le_refl _) (.int .u32 (u : Int))
      have H1 := Lib.hid hnx
      have H2 := Lib.hid hbn2
      have H3 := Lib.hid hwn
      clear hnx hbn hbn2 hwn hx2 hl hX hR hv hu hU hB hW hlen hs hcell ho1
      go_wp2
      go_roundw
      case measure => simp [intOf]; omega
      case rel => exact ⟨j + 1, _, by go_num, by omega, H1.out, H2.out, H3.out⟩
    · obtain rfl : j = n := by omega
      have hd := Lib.hid (show val L = val xs * 2 ^ q by rw [← HL.out] at hU; exact hU.done)
      have HLen := Lib.hid hlen
      have H2 := Lib.hid hB
      have H3 := Lib.hid hW
      clear hU hB hW hlen hs
      go_wp2
      go_ret
      exact ⟨L, rfl, HLen.out, hd.out, H2.out, H3.out⟩
end Go.Proofs.Ytbblckaplddggaa
set_option maxRecDepth 100000
namespace Go.Proofs.Ytbblckaplddggaa
open Go.RowKit Go.Deep

/-- append of words to words of the call's own -/
theorem run_app_row (w : World) (ty : TypeId) (g b o k m c : Nat) (L xs : List Nat) (hL : Bk w g L) (hk : L.length = k) (hr : Rd w (some ⟨b, o, none⟩) m xs) (hm : k + m ≤ 35184372088832) (B : Nat) (hB : B ≤ w.heap.size) (hg : B ≤ g) :
    ∃ A' c' w', (Builtin.append_ #[22, 22] ty #[.slice (some ⟨g, 0, none⟩) k k, .slice (some ⟨b, o, none⟩) m c]).run Try.prog w = .ok (.slice A' (k + m) c') w' ∧ Rd w' A' (k + m) (L ++ xs) ∧ k + m ≤ c' ∧ c' ≤ 9223372036854775807 ∧ Below B w w' := by
  obtain ⟨i, hi, hz, hs, hb⟩ := info_parts info32
  have hlen := hr.len
  have hown0 : w.ownsRow B 60 1 (.slice (some ⟨g, 0, none⟩) k k) k (L.map wd) :=
    ⟨by simp [hk], .inr ⟨g, k, (L.map wd).toArray, rfl, hg, hL.2, Nat.le_refl _, by simp only [maxLen]; omega, by simp [hk], by rw [Nat.mul_one, ← hk, ← List.length_map (f := wd)]; exact List.take_length⟩⟩
  obtain ⟨v', w', hrun, hown, hgr, hnil, hat⟩ := run_append_own_at (P := Try.prog) w B 22 ty 60 i (.int .u32 0) 1 4 Try.underlying22 hi hz hs hb rfl (by omega) (.slice (some ⟨g, 0, none⟩) k k) k (L.map wd) hown0 ⟨b, o, none⟩ m c (xs.map wd) (by simp [hlen])
    (fun j u hu => by
      have hj : j < xs.length := by
        rcases Nat.lt_or_ge j xs.length with h1 | h1
        · exact h1
        · rw [List.getElem?_eq_none (by simpa using h1)] at hu; cases hu
      obtain ⟨b2, o2, e, hlt, hc⟩ := hr.at_ (by omega)
      injection e with e
      injection e with e1 e2
      subst e1 e2
      have ea : (⟨b, o, none⟩ : Addr).add j = ⟨b, o + j, none⟩ := by unfold Addr.add; split <;> simp_all
      rw [ea, hc j (by omega), ← hu]
      simp [wd, List.getElem?_eq_getElem hj])
    (fun u hu => by obtain ⟨x, _, rfl⟩ := List.mem_map.1 hu; rfl) (by simp only [maxLen]; omega) (by omega) hB
  rcases hown.2 with ⟨rfl, h1⟩ | ⟨g2, cap, cur, rfl, hg1, hh, hcap, hcap2, hcur, htake⟩
  · exact absurd (hnil.1 rfl).1 (by simp)
  · simp only [Nat.mul_one] at htake
    have hbel : Below B w w' := ⟨hgr.os, hgr.tape, hgr.output, hgr.size, fun q hq => hgr.block q (by omega) (by simp [Value.ownBlock]; omega)⟩
    refine ⟨some ⟨g2, 0, none⟩, cap, w', hrun, ⟨by simp [hk, hlen], small_append.2 ⟨hL.1, hr.sm⟩, fun _ => ⟨g2, 0, rfl, ?_, fun q hq => ?_⟩⟩, hcap, by simpa [maxLen] using hcap2, hbel⟩
    · rcases Nat.lt_or_ge g2 w'.heap.size with h2 | h2
      · exact h2
      · rw [Array.getElem?_eq_none h2] at hh; cases hh
    · rw [Nat.zero_add, cell_of_row w' g2 q _ _ _ hh]
      have h3 := congrArg (fun l : List Value => l[q]?) htake
      simp only [List.getElem?_take, hq, if_true] at h3
      rw [Array.getElem?_toList] at h3
      rw [h3, ← List.map_append]
      have hql : q < (L ++ xs).length := by simp [hk, hlen]; omega
      simp only [List.getElem?_map, List.getElem?_eq_getElem hql, List.getD_eq_getElem?_getD]
      rfl

theorem wp_app_row {w : World} {o : Oper} {a : Act} {K : Act → World → Prop} {Q : Exit → Act → World → Prop} (s x : Operand)
    (ho : o.op = .call { callee := .builtin .append, args := #[s, x], argTypes := #[22, 22] })
    (g b of k m c : Nat) (L xs : List Nat) (hs : a.eval s = .slice (some ⟨g, 0, none⟩) k k) (hx : a.eval x = .slice (some ⟨b, of, none⟩) m c) (hL : Bk w g L) (hk : L.length = k) (hr : Rd w (some ⟨b, of, none⟩) m xs) (hm : k + m ≤ 35184372088832) (B : Nat) (hB : B ≤ w.heap.size) (hg : B ≤ g)
    (h : ∀ A' c' w', Rd w' A' (k + m) (L ++ xs) → k + m ≤ c' → c' ≤ 9223372036854775807 → Below B w w' → K (a.put o.dst (.slice A' (k + m) c')) w') : o.wp Try.prog a w K Q := by
  obtain ⟨A', c', w', hrun, h1, h2, h3, h4⟩ := run_app_row w o.type g b of k m c L xs hL hk hr hm B hB hg
  unfold Oper.wp execOp
  simp only [ho, resolve, invoke, builtin, Sem.run_bind, Sem.run_pure, Result.andThen_ok, List.map_toArray, List.map_cons, List.map_nil, hs, hx, hrun]
  exact h A' c' w' h1 h2 h3 h4
theorem step_app_row {w : World} {ops : Array Oper} {o : Oper} {a : Act} {K : Act → World → Prop} {Q : Exit → Act → World → Prop} {E : Prop} (hgd : o.guard = none) (s x : Operand)
    (ho : o.op = .call { callee := .builtin .append, args := #[s, x], argTypes := #[22, 22] })
    (g b of k m c : Nat) (L xs : List Nat) (hs : a.eval s = .slice (some ⟨g, 0, none⟩) k k) (hx : a.eval x = .slice (some ⟨b, of, none⟩) m c) (hL : Bk w g L) (hk : L.length = k) (hr : Rd w (some ⟨b, of, none⟩) m xs) (hm : k + m ≤ 35184372088832) (B : Nat) (hB : B ≤ w.heap.size) (hg : B ≤ g)
    (h : ∀ A' c' w', Rd w' A' (k + m) (L ++ xs) → k + m ≤ c' → c' ≤ 9223372036854775807 → Below B w w' → K (a.put o.dst (.slice A' (k + m) c')) w') :
    if Region.wanted o (yielded ops a.tmps) = true then Oper.wp Try.prog o a w K Q else E := by
  have hw : Region.wanted o (yielded ops a.tmps) = true := by simp [Region.wanted, hgd]
  rw [if_pos hw]
  exact wp_app_row s x ho g b of k m c L xs hs hx hL hk hr hm B hB hg h

set_option maxHeartbeats 1000000 in
set_option maxRecDepth 100000 in
/-- the reference's Shift by a number of places that is not negative -/
theorem refShift_up {w : World} {z : Int} {t : Bool} {A : Option Addr} {n c : Nat} (h : Is w z t A n c) (hn : n ≤ 8796093022208) (hz : z ≠ 0) (k : Nat) (hk : k ≤ 281474976710656) :
    Calls Try.prog 115 #[.agg #[.bool t, .slice A n c], .int .i64 (k : Int)] w (NumI w (shl z k)) := by
  have HI := Lib.hid h
  have hn0 : n ≠ 0 := by rw [h.2.1]; intro e; exact hz (by have := words_nil.1 (List.eq_nil_of_length_eq_zero e); omega)
  have E := Lib.hid (Env1r.start w t A n c)
  clear h
  have HM := Lib.hid (fun w => mk_words (k / 32) (by omega) w)
  go_enter Try.func115, Try.ntmps115
  go_wp2_with fail
  generalize (w.alloc (.cells #[.bool t, .slice A n c] 24)).alloc (.cells #[.bool false, .slice none 0 0] 24) = W at E ⊢
  have a0 := E.out.a0
  have a1 := E.out.a1
  refine (zero_c t A n c W).mono ?_
  rintro e w1 ⟨rfl, hb⟩
  rw [decide_eq_false hn0]
  replace E := Lib.hid (E.out.next hb)
  clear hb
  replace a0 := E.out.a0
  replace a1 := E.out.a1
  obtain ⟨p, hp⟩ : ∃ p, p = k / 32 := ⟨_, rfl⟩
  obtain ⟨q, hq⟩ : ∃ q, q = k % 32 := ⟨_, rfl⟩
  have hq1 : q < 32 := by omega
  have HKpq := Lib.hid (show k = 32 * p + q by omega)
  rw [← hp] at HM
  have hp1 : p ≤ 8796093022208 := by omega
  have R0 := Lib.hid HI.out.2.2.1
  have e1 : ((k : Int).tdiv 32) = (p : Int) := by rw [hp, Int.tdiv_eq_ediv_of_nonneg (by omega)]; omega
  have e2 : ((k : Int).tmod 32) = (q : Int) := by rw [hq, Int.tmod_eq_emod_of_nonneg (by omega)]; omega
  have e3 : ((k : Int) / 32) = (p : Int) := by omega
  have e4 : ((k : Int) % 32) = (q : Int) := by omega
  have e5 : IntKind.i64.wrap (p : Int) = (p : Int) := IntWalk.i64_in _ (by omega)
  clear hp hq
  have hmk := fun w => HM.out w
  clear HM
  go_wp2_with fail
  have hz1 := E.out.size
  have q1 : w.heap.size < w1.heap.size := by omega
  have q2 : n ≤ 17592186044416 := by omega
  have q3 : p + (n + 1) ≤ 35184372088832 := by omega
  have q4 : w1.heap.size < (w1.alloc (row (List.replicate p 0))).drew.heap.size := by simp
  have q5 : ¬ w.heap.size + 1 = w.heap.size := by omega
  have D1 := Lib.hid ((below_alloc w1 (row (List.replicate p 0))).drew)
  have b0 := (D1.out.cell (p := ⟨w.heap.size, 0, none⟩) (by simp; omega)).trans a0
  have b1 := (D1.out.cell (p := ⟨w.heap.size, 1, none⟩) (by simp; omega)).trans a1
  have L1 := Lib.hid ((Bk.new0 w1 p).drewN 1)
  have HZ := Lib.hid (show sgn t (val (List.replicate p 0) + pw p * (val (words z.natAbs) * 2 ^ q)) = shl z k by
    rw [val_replicate, Nat.zero_add, val_words, pw_two, shl_up, HKpq.out, Nat.mul_comm, Nat.mul_assoc, ← Nat.pow_add, Nat.add_comm q, sgn_mul_nat]
    congr 1
    rw [HI.out.1]
    exact sgn_self z)
  have HS1 := Lib.hid (show (w1.alloc (row (List.replicate p 0))).drew.heap.size = w1.heap.size + 1 by simp)
  have D2 := Lib.hid ((Below.refl w1.heap.size w1).drew)
  have HS2 := Lib.hid (show w1.drew.heap.size = w1.heap.size by simp)
  go_region_held3 (fun w' => w'.cell? ⟨w.heap.size, 0, none⟩ = some (.bool t) ∧ w'.cell? ⟨w.heap.size, 1, none⟩ = some (.slice A n c)) (first | exact ⟨a0, a1⟩ | exact ⟨b0, b1⟩ | exact ⟨z0, z1⟩ | exact ⟨cell_two q5 z0, cell_two q5 z1⟩ | exact ⟨((below_alloc y (row (List.replicate p 0))).cell (p := ⟨w.heap.size, 0, none⟩) q6).trans b0, ((below_alloc y (row (List.replicate p 0))).cell (p := ⟨w.heap.size, 1, none⟩) q6).trans b1⟩)
    (first
      | (go_at_call 116
         refine (shifted_c A n c q _ (w1.alloc (row (List.replicate p 0))).drew (R0.out.below (E.out.below.trans (D1.out.mono E.out.below.size))) q2 hq1).mono ?_
         rintro e y ⟨cs, rfl, l1, l2, l3, l4⟩
         have Y := Lib.hid (D1.out.trans (l4.mono D1.out.size))
         have b0 := (Y.out.cell (p := ⟨w.heap.size, 0, none⟩) q1).trans a0
         have b1 := (Y.out.cell (p := ⟨w.heap.size, 1, none⟩) q1).trans a1
         have L2 := Lib.hid (L1.out.below l4 q4)
         have R2 := Lib.hid l3.rd
         have HV := Lib.hid l2
         have hy := Y.out.size
         have q6 : w.heap.size < y.heap.size := by omega
         rw [l1, HS1.out] at R2
         clear l1 l2 l3 l4)
      | (go_at_call 116
         refine (shifted_c A n c q _ w1.drew (R0.out.below (E.out.below.trans (D2.out.mono E.out.below.size))) q2 hq1).mono ?_
         rintro e y ⟨cs, rfl, l1, l2, l3, l4⟩
         have Y := Lib.hid (D2.out.trans (l4.mono D2.out.size))
         have b0 := (Y.out.cell (p := ⟨w.heap.size, 0, none⟩) q1).trans a0
         have b1 := (Y.out.cell (p := ⟨w.heap.size, 1, none⟩) q1).trans a1
         have R2 := Lib.hid l3.rd
         have HV := Lib.hid l2
         have hy := Y.out.size
         have q6 : w.heap.size < y.heap.size := by omega
         rw [l1, HS2.out] at R2
         clear l1 l2 l3 l4)
      | (go_at_call 65
         refine (Make_i G1.out g2 g3 q3).mono ?_
         rw [val_append, List.length_replicate, HV.out, HZ.out]
         rintro e w4 ⟨t', B, m', d', rfl, hi, hb⟩
         replace E := Lib.hid (E.out.next hb)
         have HI4 := Lib.hid hi
         replace z0 := E.out.a0
         replace z1 := E.out.a1
         have r0 := E.out.res.r0
         have r1 := E.out.res.r1
         have f0 := E.out.res.f0
         have f1 := E.out.res.f1
         clear hi hb)
      | (refine step_app_row rfl (.tmp 17) (.tmp 22) rfl w1.heap.size (w1.heap.size + 1) 0 p (n + 1) (n + 1) (List.replicate p 0) cs rfl rfl L2.out (by simp) R2.out q3 w1.heap.size hy (Nat.le_refl _) ?_
         intro A' c' w3 g1 g2 g3 g4
         replace E := Lib.hid (E.out.next (Y.out.trans g4))
         have G1 := Lib.hid g1
         have z0 := E.out.a0
         have z1 := E.out.a1
         clear g1 g4)
      | (refine step_app_row rfl (.tmp 17) (.tmp 22) rfl y.heap.size w1.heap.size 0 p (n + 1) (n + 1) (List.replicate p 0) cs rfl rfl (Bk.new0 y p) (by simp) (R2.out.alloc _) q3 w1.heap.size (Nat.le_trans hy (below_alloc y _).size) hy ?_
         intro A' c' w3 g1 g2 g3 g4
         replace E := Lib.hid (E.out.next ((Y.out.trans ((below_alloc y (row (List.replicate p 0))).mono hy)).trans g4))
         have G1 := Lib.hid g1
         have z0 := E.out.a0
         have z1 := E.out.a1
         clear g1 g4)
      | fail "no arm")
  all_goals
    go_wp2
    refine bodyPost_ret (v := .agg #[.bool t', .slice B m' d']) (by simp [results, Try.results115, go_sem, r0, r1]) rfl ?_
    exact ⟨t', B, m', d', rfl, HI4.out.store r0 r1 _ _, below_store E.out.below (by omega) _ _⟩
end Go.Proofs.Ytbblckaplddggaa
