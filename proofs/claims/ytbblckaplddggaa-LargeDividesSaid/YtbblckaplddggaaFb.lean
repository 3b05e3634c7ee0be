import Derived.Test.YtbblckaplddggaaWa
import Derived.Test.YtbblckaplddggaaFa
set_option maxRecDepth 100000
namespace Go.Proofs.Ytbblckaplddggaa
open Go.RowKit
set_option maxHeartbeats 1000000 in
theorem at_w (A : Option Addr) (n c i : Nat) (xs : List Nat) (w : World) (h : Rd w A n xs) (hn : n ≤ 9223372036854775807) : Calls Try.prog 141 #[.slice A n c, .int .i64 (i : Int)] w fun e w' => e = .returned (.int .u64 ((xs.getD i 0 : Nat) : Int)) ∧ w' = w := by
  obtain ⟨x, hx⟩ : ∃ x, x = xs.getD i 0 := ⟨_, rfl⟩
  rw [← hx]
  by_cases hi : i < n
  · obtain ⟨b, q, rfl, _, hc⟩ := h.of (by omega)
    have hci := hc i hi
    have h1 := small_get h.sm i
    rw [← hx] at hci h1
    clear hc h hx
    go_enter Try.func141, Try.ntmps141
    go_wp2
    go_ret
    exact ⟨rfl, rfl⟩
  · have hx0 : x = 0 := by
      rw [hx, List.getD_eq_getElem?_getD, List.getElem?_eq_none (by rw [h.len]; omega)]
      rfl
    subst hx0
    clear h hx
    go_enter Try.func141, Try.ntmps141
    go_wp2
    go_ret
    exact ⟨rfl, rfl⟩
/-- u xs + v ys, or u xs - v ys, up to word i -/
structure MixAt (J : Bool) (u v : Nat) (xs ys : List Nat) (N i : Nat) (cs : List Nat) (o m k : Nat) : Prop where
  len : cs.length = N
  sm : small cs
  ho : o < 4294967296
  hm : m < 4294967296
  hk : k ≤ 1
  eq : ∃ S T, u * val (xs.take i) = S + pw i * o ∧ v * val (ys.take i) = T + pw i * m ∧ S < pw i ∧ T < pw i ∧ (if J then val (cs.take i) + pw i * k = S + T else val (cs.take i) + T = S + pw i * k)
theorem MixAt.start (J : Bool) (u v : Nat) (xs ys : List Nat) (N : Nat) : MixAt J u v xs ys N 0 (List.replicate N 0) 0 0 0 :=
  ⟨by simp, fun x hx => by have := List.eq_of_mem_replicate hx; omega, by omega, by omega, by omega, 0, 0, by simp [val], by simp [val], by rw [pw_zero]; omega, by rw [pw_zero]; omega, by cases J <;> simp [val]⟩
theorem MixAt.next {J : Bool} {u v : Nat} {xs ys : List Nat} {N i : Nat} {cs : List Nat} {o m k : Nat} (h : MixAt J u v xs ys N i cs o m k) (hi : i < N) {x y c k' : Nat} (hx : x = xs.getD i 0) (hy : y = ys.getD i 0) (hu : u * x + o < 18446744073709551616) (hv : v * y + m < 18446744073709551616) (hc : c < 4294967296) (hk' : k' ≤ 1)
    (hj : if J then c + 4294967296 * k' = (u * x + o) % 4294967296 + (v * y + m) % 4294967296 + k else c + (v * y + m) % 4294967296 + k = (u * x + o) % 4294967296 + 4294967296 * k') :
    MixAt J u v xs ys N (i + 1) (cs.set i c) ((u * x + o) / 4294967296) ((v * y + m) / 4294967296) k' := by
  obtain ⟨hl, hs, ho, hm, hk, S, T, e1, e2, l1, l2, e3⟩ := h
  have hp := pw_pos i
  have ps := pw_succ i
  have hd1 := Nat.div_add_mod (u * x + o) 4294967296
  have hd2 := Nat.div_add_mod (v * y + m) 4294967296
  have hr1 := Nat.mod_lt (u * x + o) (show 4294967296 > 0 by omega)
  have hr2 := Nat.mod_lt (v * y + m) (show 4294967296 > 0 by omega)
  refine ⟨by simp [hl], small_set hs i c hc, by omega, by omega, hk', S + pw i * ((u * x + o) % 4294967296), T + pw i * ((v * y + m) % 4294967296), ?_, ?_, ?_, ?_, ?_⟩
  · rw [val_take_step, ← hx, Nat.mul_add, e1, ps]
    have h5 : u * (pw i * x) = pw i * (u * x) := Nat.mul_left_comm _ _ _
    have h6 := congrArg (pw i * ·) hd1
    simp only [Nat.mul_add] at h6
    have h7 : 4294967296 * pw i * ((u * x + o) / 4294967296) = pw i * (4294967296 * ((u * x + o) / 4294967296)) := by rw [Nat.mul_comm 4294967296, Nat.mul_assoc]
    omega
  · rw [val_take_step, ← hy, Nat.mul_add, e2, ps]
    have h5 : v * (pw i * y) = pw i * (v * y) := Nat.mul_left_comm _ _ _
    have h6 := congrArg (pw i * ·) hd2
    simp only [Nat.mul_add] at h6
    have h7 : 4294967296 * pw i * ((v * y + m) / 4294967296) = pw i * (4294967296 * ((v * y + m) / 4294967296)) := by rw [Nat.mul_comm 4294967296, Nat.mul_assoc]
    omega
  · rw [ps]
    have := Nat.mul_le_mul_left (pw i) (show (u * x + o) % 4294967296 + 1 ≤ 4294967296 by omega)
    rw [Nat.mul_add] at this
    omega
  · rw [ps]
    have := Nat.mul_le_mul_left (pw i) (show (v * y + m) % 4294967296 + 1 ≤ 4294967296 by omega)
    rw [Nat.mul_add] at this
    omega
  · have hv' : val ((cs.set i c).take (i + 1)) = val (cs.take i) + pw i * c := by
      rw [val_take_step, List.take_set_of_le (Nat.le_refl i)]
      congr 2
      simp [hl, hi]
    rw [hv', ps]
    generalize (u * x + o) % 4294967296 = r1 at *
    generalize (v * y + m) % 4294967296 = r2 at *
    cases J
    · simp only [Bool.false_eq_true, if_false] at hj e3 ⊢
      have := congrArg (pw i * ·) hj
      simp only [Nat.mul_add] at this
      grind
    · simp only [if_true] at hj e3 ⊢
      have := congrArg (pw i * ·) hj
      simp only [Nat.mul_add] at this
      grind
theorem mix_top {u : Nat} {xs : List Nat} (hs : small xs) (hu : u < 4294967296) {N : Nat} (hN : xs.length + 2 ≤ N) : 2 * (u * val xs) < pw N ∧ u * val (xs.take N) = u * val xs := by
  have h1 := val_lt hs
  have h2 := pw_le (show xs.length + 1 + 1 ≤ N by omega)
  rw [pw_succ, pw_succ] at h2
  have h3 : u * val xs ≤ 4294967296 * pw xs.length := Nat.mul_le_mul (by omega) (by omega)
  rw [List.take_of_length_le (by omega)]
  have := pw_pos xs.length
  exact ⟨by omega, rfl⟩
theorem MixAt.add {u v : Nat} {xs ys : List Nat} {N : Nat} {cs : List Nat} {o m k : Nat} (h : MixAt true u v xs ys N N cs o m k) (hx : small xs) (hy : small ys) (hu : u < 4294967296) (hv : v < 4294967296) (h1 : xs.length + 2 ≤ N) (h2 : ys.length + 2 ≤ N) : val cs = u * val xs + v * val ys := by
  obtain ⟨hl, hs, ho, hm, hk, S, T, e1, e2, l1, l2, e3⟩ := h
  obtain ⟨t1, t2⟩ := mix_top hx hu h1
  obtain ⟨t3, t4⟩ := mix_top hy hv h2
  rw [t2] at e1
  rw [t4] at e2
  rw [List.take_of_length_le (by omega)] at e3
  simp only [if_true] at e3
  have o0 : o = 0 := by
    rcases Nat.eq_zero_or_pos o with h | h
    · exact h
    · have := Nat.le_mul_of_pos_right (pw N) h; omega
  have m0 : m = 0 := by
    rcases Nat.eq_zero_or_pos m with h | h
    · exact h
    · have := Nat.le_mul_of_pos_right (pw N) h; omega
  subst o0 m0
  have k0 : k = 0 := by
    rcases Nat.eq_zero_or_pos k with h | h
    · exact h
    · have := Nat.le_mul_of_pos_right (pw N) h; omega
  subst k0
  omega
theorem MixAt.sub {u v : Nat} {xs ys : List Nat} {N : Nat} {cs : List Nat} {o m k : Nat} (h : MixAt false u v xs ys N N cs o m k) (hx : small xs) (hy : small ys) (hu : u < 4294967296) (hv : v < 4294967296) (h1 : xs.length + 2 ≤ N) (h2 : ys.length + 2 ≤ N) (hle : v * val ys ≤ u * val xs) : val cs = u * val xs - v * val ys := by
  obtain ⟨hl, hs, ho, hm, hk, S, T, e1, e2, l1, l2, e3⟩ := h
  obtain ⟨t1, t2⟩ := mix_top hx hu h1
  obtain ⟨t3, t4⟩ := mix_top hy hv h2
  have t5 := val_lt hs
  rw [hl] at t5
  rw [t2] at e1
  rw [t4] at e2
  rw [List.take_of_length_le (by omega)] at e3
  simp only [Bool.false_eq_true, if_false] at e3
  have o0 : o = 0 := by
    rcases Nat.eq_zero_or_pos o with h | h
    · exact h
    · have := Nat.le_mul_of_pos_right (pw N) h; omega
  have m0 : m = 0 := by
    rcases Nat.eq_zero_or_pos m with h | h
    · exact h
    · have := Nat.le_mul_of_pos_right (pw N) h; omega
  subst o0 m0
  have k0 : k = 0 := by
    rcases Nat.eq_zero_or_pos k with h | h
    · exact h
    · have := Nat.le_mul_of_pos_right (pw N) h; omega
  subst k0
  omega
set_option maxHeartbeats 4000000 in
theorem mixed_add0 (A B : Option Addr) (n c m d u v : Nat) (xs ys : List Nat) (w : World) (ha : Rd w A n xs) (hb : Rd w B m ys) (hu : u < 4294967296) (hv : v < 4294967296) (hn : n < 35184372088832) (hm : m < 35184372088832) (hnm : m ≤ n) :
    Calls Try.prog 140 #[.slice A n c, .slice B m d, .int .u64 (u : Int), .int .u64 (v : Int), .func (.func 138) #[] #[]] w (Out w (u * val xs + v * val ys)) := by
  have HLN := Lib.hid (show xs.length ≤ n ∧ ys.length ≤ n by rw [ha.len, hb.len]; omega)
  have HSX := Lib.hid (And.intro ha.sm hb.sm)
  have HUV := Lib.hid (And.intro hu hv)
  skip
  skip
  obtain ⟨N, hN⟩ : ∃ N, N = n + 2 := ⟨_, rfl⟩
  have hmk : ∀ w : World, (Instr.makeSlice 22 (.int .i64 ((n : Int) + 2)) (.int .i64 ((n : Int) + 2))).run Try.prog w = .ok (.slice (some ⟨w.heap.size, 0, none⟩) N N) (w.alloc (row (List.replicate N 0))) := by subst hN; exact mk_words (n + 2) (by omega)
  have hNn : n + 2 ≤ N := by omega
  have hNb : N ≤ 35184372088840 := by omega
  have hbk := Bk.new0 w N
  have hx := ha.alloc (row (List.replicate N 0))
  have hy := hb.alloc (row (List.replicate N 0))
  have hoa : 0 < n → Off A w.heap.size := fun hp a e => by have := ha.blk hp a e; omega
  have hob : 0 < m → Off B w.heap.size := fun hp a e => by have := hb.blk hp a e; omega
  have m1 : (m : Int) ≤ n := by omega
  have FIN := Lib.hid (fun (w1 w' : World) (cs : List Nat) (e : Ending) (hg : (w.alloc (row (List.replicate N 0))).grownBy w1 (some w.heap.size)) (hl : cs.length = N) (hv : val cs = u * val xs + v * val ys) (hk : Bk w1 w.heap.size cs) (ht : TrimPost (some ⟨w.heap.size, 0, none⟩) (words (val cs)).length w1 e w') => out_of_trim hk (Nat.le_refl _) hv (below_new hg) (by omega) ht)
  clear ha hb hN hu hv
  go_enter Try.func140, Try.ntmps140
  go_wp2
  generalize w.alloc (row (List.replicate N 0)) = W at hbk hx hy FIN ⊢
  generalize w.heap.size = g at hbk hoa hob FIN ⊢
  go_loopw [12, 13, 14, 27] (fun vo vm vk vi wr => ∃ o mm k i : Nat, ∃ cs, vo = .int .u64 (o : Int) ∧ vm = .int .u64 (mm : Int) ∧ vk = .int .u32 (k : Int) ∧ vi = .int .i64 (i : Int) ∧ i ≤ N ∧ MixAt true u v xs ys N i cs o mm k ∧ Bk wr g cs ∧ W.grownBy wr (some g)) (fun _ _ _ i _ => N - (intOf i).toNat)
  case atStart => exact ⟨0, 0, 0, 0, _, rfl, rfl, rfl, rfl, Nat.zero_le _, MixAt.start _ _ _ _ _ _, hbk, ⟨rfl, rfl, rfl, Nat.le_refl _, fun _ _ _ => rfl⟩⟩
  case round =>
    obtain ⟨o, mm, k, i, cs, rfl, rfl, rfl, rfl, hi, hM, hB, hg⟩ := hrel
    by_cases hiN : i < N
    · have hk := hM.hk
      have ho := hM.ho
      have hmm := hM.hm
      have ra := hx.grown hg hoa
      have rb := hy.grown hg hob
      have hx1 := small_get HSX.out.1 i
      have hy1 := small_get HSX.out.2 i
      have hcl := hM.len
      have hcx := hB.cell i (by omega)
      have hfx := hB.frozen i
      have CA := Lib.hid (at_w A n c i xs wr ra (by omega))
      have CB := Lib.hid (at_w B m d i ys wr rb (by omega))
      have hnx := fun (x y cw k' : Nat) hx hy hu hv hc hk' hj => hM.next hiN (x := x) (y := y) (c := cw) (k' := k') hx hy hu hv hc hk' hj
      obtain ⟨x, hx2⟩ : ∃ x, x = xs.getD i 0 := ⟨_, rfl⟩
      obtain ⟨y, hy2⟩ : ∃ y, y = ys.getD i 0 := ⟨_, rfl⟩
      rw [← hx2] at hx1 CA
      rw [← hy2] at hy1 CB
      have p1 := mul_word_le HUV.out.1 hx1
      have p2 := mul_word_le HUV.out.2 hy1
      have hmul1 : ((u : Int) * (x : Int)) = ((u * x : Nat) : Int) := by simp
      have hmul2 : ((v : Int) * (y : Int)) = ((v * y : Nat) : Int) := by simp
      have hnx2 := fun cw k' => hnx x y cw k' hx2 hy2 (by omega) (by omega)
      clear hnx hx2 hy2
      obtain ⟨P, hP⟩ : ∃ P, P = u * x := ⟨_, rfl⟩
      obtain ⟨Q, hQ⟩ : ∃ Q, Q = v * y := ⟨_, rfl⟩
      rw [← hP] at p1 hmul1 hnx2
      rw [← hQ] at p2 hmul2 hnx2
      obtain ⟨sl, hsl⟩ : ∃ s, s = (P + o) % 4294967296 := ⟨_, rfl⟩
      obtain ⟨tl, htl⟩ : ∃ s, s = (Q + mm) % 4294967296 := ⟨_, rfl⟩
      obtain ⟨so, hso⟩ : ∃ s, s = (P + o) / 4294967296 := ⟨_, rfl⟩
      obtain ⟨to, hto⟩ : ∃ s, s = (Q + mm) / 4294967296 := ⟨_, rfl⟩
      rw [← hsl, ← htl, ← hso, ← hto] at hnx2
      have v1 : ((P : Int) + o) % 4294967296 = (sl : Int) := by omega
      have v2 : ((Q : Int) + mm) % 4294967296 = (tl : Int) := by omega
      have v3 : ((P : Int) + o) / 4294967296 = (so : Int) := by omega
      have v4 : ((Q : Int) + mm) / 4294967296 = (to : Int) := by omega
      have l1 : sl < 4294967296 := by omega
      have l2 : tl < 4294967296 := by omega
      have hC := fun w => add32_c sl tl k w (by omega) (by omega) hk
      have hjj : (sl + tl + k) % 4294967296 + 4294967296 * ((sl + tl + k) / 4294967296) = sl + tl + k := Nat.mod_add_div _ _
      obtain ⟨cw, hcw⟩ : ∃ cw, cw = (sl + tl + k) % 4294967296 := ⟨_, rfl⟩
      obtain ⟨k', hk'⟩ : ∃ k', k' = (sl + tl + k) / 4294967296 := ⟨_, rfl⟩
      have hk1 : k' ≤ 1 := by omega
      have hc1 : cw < 4294967296 := by omega
      rw [← hcw, ← hk'] at hC hjj
      have hnx := hnx2 cw k' hc1 hk1 (by simp only [if_true]; exact hjj)
      have hbn := hB.set_ i cw hc1
      have hgn := grown_setCell hg (p := ⟨g, i, none⟩) (.inl rfl) (.int .u32 (cw : Int))
      have H1 := Lib.hid hnx
      have H2 := Lib.hid hbn
      have H3 := Lib.hid hgn
      have HC := Lib.hid hC
      clear hnx hnx2 hbn hgn hC hjj hcw hk' hsl htl hso hto hP hQ hM hB hg ra rb hcl hx hy hoa hob hbk
      go_wp2_with fail
      refine CA.out.mono ?_
      rintro e w' ⟨rfl, rfl⟩
      go_wp2_with fail
      refine CB.out.mono ?_
      rintro e w' ⟨rfl, rfl⟩
      go_wp2_with (go_at_call 138; refine (HC.out _).mono ?_; rintro e w' ⟨rfl, rfl⟩)
      go_roundw
      case measure => simp [intOf]; omega
      case rel => exact ⟨so, to, k', i + 1, _, rfl, rfl, rfl, by go_num, by omega, H1.out, H2.out, H3.out⟩
    · obtain rfl : i = N := by omega
      have hval := hM.add HSX.out.1 HSX.out.2 HUV.out.1 HUV.out.2 (by have := HLN.out; omega) (by have := HLN.out; omega)
      have hl := hM.len
      have hr := hB.rd
      have T3 := Lib.hid (trim_c (some ⟨g, 0, none⟩) i i cs wr (by rw [← hl]; exact hr) (Nat.le_refl _) (by omega))
      have H := Lib.hid (FIN.out wr · cs · hg hl hval hB)
      clear hM hB hg hval hl hr FIN hx hy hoa hob hbk
      go_wp2_with fail
      refine T3.out.mono ?_
      rintro e w' ht
      obtain ⟨A', rfl, hA, kk, rfl⟩ := ht
      go_wp2
      go_ret
      exact H.out _ _ ⟨A', rfl, hA, kk, rfl⟩
set_option maxHeartbeats 4000000 in
theorem mixed_add1 (A B : Option Addr) (n c m d u v : Nat) (xs ys : List Nat) (w : World) (ha : Rd w A n xs) (hb : Rd w B m ys) (hu : u < 4294967296) (hv : v < 4294967296) (hn : n < 35184372088832) (hm : m < 35184372088832) (hnm : n < m) :
    Calls Try.prog 140 #[.slice A n c, .slice B m d, .int .u64 (u : Int), .int .u64 (v : Int), .func (.func 138) #[] #[]] w (Out w (u * val xs + v * val ys)) := by
  have HLN := Lib.hid (show xs.length ≤ m ∧ ys.length ≤ m by rw [ha.len, hb.len]; omega)
  have HSX := Lib.hid (And.intro ha.sm hb.sm)
  have HUV := Lib.hid (And.intro hu hv)
  skip
  skip
  obtain ⟨N, hN⟩ : ∃ N, N = m + 2 := ⟨_, rfl⟩
  have hmk : ∀ w : World, (Instr.makeSlice 22 (.int .i64 ((m : Int) + 2)) (.int .i64 ((m : Int) + 2))).run Try.prog w = .ok (.slice (some ⟨w.heap.size, 0, none⟩) N N) (w.alloc (row (List.replicate N 0))) := by subst hN; exact mk_words (m + 2) (by omega)
  have hNn : m + 2 ≤ N := by omega
  have hNb : N ≤ 35184372088840 := by omega
  have hbk := Bk.new0 w N
  have hx := ha.alloc (row (List.replicate N 0))
  have hy := hb.alloc (row (List.replicate N 0))
  have hoa : 0 < n → Off A w.heap.size := fun hp a e => by have := ha.blk hp a e; omega
  have hob : 0 < m → Off B w.heap.size := fun hp a e => by have := hb.blk hp a e; omega
  have m1 : (m : Int) > n := by omega
  have FIN := Lib.hid (fun (w1 w' : World) (cs : List Nat) (e : Ending) (hg : (w.alloc (row (List.replicate N 0))).grownBy w1 (some w.heap.size)) (hl : cs.length = N) (hv : val cs = u * val xs + v * val ys) (hk : Bk w1 w.heap.size cs) (ht : TrimPost (some ⟨w.heap.size, 0, none⟩) (words (val cs)).length w1 e w') => out_of_trim hk (Nat.le_refl _) hv (below_new hg) (by omega) ht)
  clear ha hb hN hu hv
  go_enter Try.func140, Try.ntmps140
  go_wp2
  generalize w.alloc (row (List.replicate N 0)) = W at hbk hx hy FIN ⊢
  generalize w.heap.size = g at hbk hoa hob FIN ⊢
  go_loopw [12, 13, 14, 27] (fun vo vm vk vi wr => ∃ o mm k i : Nat, ∃ cs, vo = .int .u64 (o : Int) ∧ vm = .int .u64 (mm : Int) ∧ vk = .int .u32 (k : Int) ∧ vi = .int .i64 (i : Int) ∧ i ≤ N ∧ MixAt true u v xs ys N i cs o mm k ∧ Bk wr g cs ∧ W.grownBy wr (some g)) (fun _ _ _ i _ => N - (intOf i).toNat)
  case atStart => exact ⟨0, 0, 0, 0, _, rfl, rfl, rfl, rfl, Nat.zero_le _, MixAt.start _ _ _ _ _ _, hbk, ⟨rfl, rfl, rfl, Nat.le_refl _, fun _ _ _ => rfl⟩⟩
  case round =>
    obtain ⟨o, mm, k, i, cs, rfl, rfl, rfl, rfl, hi, hM, hB, hg⟩ := hrel
    by_cases hiN : i < N
    · have hk := hM.hk
      have ho := hM.ho
      have hmm := hM.hm
      have ra := hx.grown hg hoa
      have rb := hy.grown hg hob
      have hx1 := small_get HSX.out.1 i
      have hy1 := small_get HSX.out.2 i
      have hcl := hM.len
      have hcx := hB.cell i (by omega)
      have hfx := hB.frozen i
      have CA := Lib.hid (at_w A n c i xs wr ra (by omega))
      have CB := Lib.hid (at_w B m d i ys wr rb (by omega))
      have hnx := fun (x y cw k' : Nat) hx hy hu hv hc hk' hj => hM.next hiN (x := x) (y := y) (c := cw) (k' := k') hx hy hu hv hc hk' hj
      obtain ⟨x, hx2⟩ : ∃ x, x = xs.getD i 0 := ⟨_, rfl⟩
      obtain ⟨y, hy2⟩ : ∃ y, y = ys.getD i 0 := ⟨_, rfl⟩
      rw [← hx2] at hx1 CA
      rw [← hy2] at hy1 CB
      have p1 := mul_word_le HUV.out.1 hx1
      have p2 := mul_word_le HUV.out.2 hy1
      have hmul1 : ((u : Int) * (x : Int)) = ((u * x : Nat) : Int) := by simp
      have hmul2 : ((v : Int) * (y : Int)) = ((v * y : Nat) : Int) := by simp
      have hnx2 := fun cw k' => hnx x y cw k' hx2 hy2 (by omega) (by omega)
      clear hnx hx2 hy2
      obtain ⟨P, hP⟩ : ∃ P, P = u * x := ⟨_, rfl⟩
      obtain ⟨Q, hQ⟩ : ∃ Q, Q = v * y := ⟨_, rfl⟩
      rw [← hP] at p1 hmul1 hnx2
      rw [← hQ] at p2 hmul2 hnx2
      obtain ⟨sl, hsl⟩ : ∃ s, s = (P + o) % 4294967296 := ⟨_, rfl⟩
      obtain ⟨tl, htl⟩ : ∃ s, s = (Q + mm) % 4294967296 := ⟨_, rfl⟩
      obtain ⟨so, hso⟩ : ∃ s, s = (P + o) / 4294967296 := ⟨_, rfl⟩
      obtain ⟨to, hto⟩ : ∃ s, s = (Q + mm) / 4294967296 := ⟨_, rfl⟩
      rw [← hsl, ← htl, ← hso, ← hto] at hnx2
      have v1 : ((P : Int) + o) % 4294967296 = (sl : Int) := by omega
      have v2 : ((Q : Int) + mm) % 4294967296 = (tl : Int) := by omega
      have v3 : ((P : Int) + o) / 4294967296 = (so : Int) := by omega
      have v4 : ((Q : Int) + mm) / 4294967296 = (to : Int) := by omega
      have l1 : sl < 4294967296 := by omega
      have l2 : tl < 4294967296 := by omega
      have hC := fun w => add32_c sl tl k w (by omega) (by omega) hk
      have hjj : (sl + tl + k) % 4294967296 + 4294967296 * ((sl + tl + k) / 4294967296) = sl + tl + k := Nat.mod_add_div _ _
      obtain ⟨cw, hcw⟩ : ∃ cw, cw = (sl + tl + k) % 4294967296 := ⟨_, rfl⟩
      obtain ⟨k', hk'⟩ : ∃ k', k' = (sl + tl + k) / 4294967296 := ⟨_, rfl⟩
      have hk1 : k' ≤ 1 := by omega
      have hc1 : cw < 4294967296 := by omega
      rw [← hcw, ← hk'] at hC hjj
      have hnx := hnx2 cw k' hc1 hk1 (by simp only [if_true]; exact hjj)
      have hbn := hB.set_ i cw hc1
      have hgn := grown_setCell hg (p := ⟨g, i, none⟩) (.inl rfl) (.int .u32 (cw : Int))
      have H1 := Lib.hid hnx
      have H2 := Lib.hid hbn
      have H3 := Lib.hid hgn
      have HC := Lib.hid hC
      clear hnx hnx2 hbn hgn hC hjj hcw hk' hsl htl hso hto hP hQ hM hB hg ra rb hcl hx hy hoa hob hbk
      go_wp2_with fail
      refine CA.out.mono ?_
      rintro e w' ⟨rfl, rfl⟩
      go_wp2_with fail
      refine CB.out.mono ?_
      rintro e w' ⟨rfl, rfl⟩
      go_wp2_with (go_at_call 138; refine (HC.out _).mono ?_; rintro e w' ⟨rfl, rfl⟩)
      go_roundw
      case measure => simp [intOf]; omega
      case rel => exact ⟨so, to, k', i + 1, _, rfl, rfl, rfl, by go_num, by omega, H1.out, H2.out, H3.out⟩
    · obtain rfl : i = N := by omega
      have hval := hM.add HSX.out.1 HSX.out.2 HUV.out.1 HUV.out.2 (by have := HLN.out; omega) (by have := HLN.out; omega)
      have hl := hM.len
      have hr := hB.rd
      have T3 := Lib.hid (trim_c (some ⟨g, 0, none⟩) i i cs wr (by rw [← hl]; exact hr) (Nat.le_refl _) (by omega))
      have H := Lib.hid (FIN.out wr · cs · hg hl hval hB)
      clear hM hB hg hval hl hr FIN hx hy hoa hob hbk
      go_wp2_with fail
      refine T3.out.mono ?_
      rintro e w' ht
      obtain ⟨A', rfl, hA, kk, rfl⟩ := ht
      go_wp2
      go_ret
      exact H.out _ _ ⟨A', rfl, hA, kk, rfl⟩
theorem mixed_add (A B : Option Addr) (n c m d u v : Nat) (xs ys : List Nat) (w : World) (ha : Rd w A n xs) (hb : Rd w B m ys) (hu : u < 4294967296) (hv : v < 4294967296) (hn : n < 35184372088832) (hm : m < 35184372088832) :
    Calls Try.prog 140 #[.slice A n c, .slice B m d, .int .u64 (u : Int), .int .u64 (v : Int), .func (.func 138) #[] #[]] w (Out w (u * val xs + v * val ys)) := by
  rcases Nat.lt_or_ge n m with h | h
  · exact mixed_add1 A B n c m d u v xs ys w ha hb hu hv hn hm h
  · exact mixed_add0 A B n c m d u v xs ys w ha hb hu hv hn hm h
set_option maxHeartbeats 4000000 in
theorem mixed_sub0 (A B : Option Addr) (n c m d u v : Nat) (xs ys : List Nat) (w : World) (ha : Rd w A n xs) (hb : Rd w B m ys) (hu : u < 4294967296) (hv : v < 4294967296) (hn : n < 35184372088832) (hm : m < 35184372088832) (hnm : m ≤ n) (hle : v * val ys ≤ u * val xs) :
    Calls Try.prog 140 #[.slice A n c, .slice B m d, .int .u64 (u : Int), .int .u64 (v : Int), .func (.func 129) #[] #[]] w (Out w (u * val xs - v * val ys)) := by
  have HLN := Lib.hid (show xs.length ≤ n ∧ ys.length ≤ n by rw [ha.len, hb.len]; omega)
  have HSX := Lib.hid (And.intro ha.sm hb.sm)
  have HUV := Lib.hid (And.intro hu hv)
  have HLE := Lib.hid hle
  clear hle
  obtain ⟨N, hN⟩ : ∃ N, N = n + 2 := ⟨_, rfl⟩
  have hmk : ∀ w : World, (Instr.makeSlice 22 (.int .i64 ((n : Int) + 2)) (.int .i64 ((n : Int) + 2))).run Try.prog w = .ok (.slice (some ⟨w.heap.size, 0, none⟩) N N) (w.alloc (row (List.replicate N 0))) := by subst hN; exact mk_words (n + 2) (by omega)
  have hNn : n + 2 ≤ N := by omega
  have hNb : N ≤ 35184372088840 := by omega
  have hbk := Bk.new0 w N
  have hx := ha.alloc (row (List.replicate N 0))
  have hy := hb.alloc (row (List.replicate N 0))
  have hoa : 0 < n → Off A w.heap.size := fun hp a e => by have := ha.blk hp a e; omega
  have hob : 0 < m → Off B w.heap.size := fun hp a e => by have := hb.blk hp a e; omega
  have m1 : (m : Int) ≤ n := by omega
  have FIN := Lib.hid (fun (w1 w' : World) (cs : List Nat) (e : Ending) (hg : (w.alloc (row (List.replicate N 0))).grownBy w1 (some w.heap.size)) (hl : cs.length = N) (hv : val cs = u * val xs - v * val ys) (hk : Bk w1 w.heap.size cs) (ht : TrimPost (some ⟨w.heap.size, 0, none⟩) (words (val cs)).length w1 e w') => out_of_trim hk (Nat.le_refl _) hv (below_new hg) (by omega) ht)
  clear ha hb hN hu hv
  go_enter Try.func140, Try.ntmps140
  go_wp2
  generalize w.alloc (row (List.replicate N 0)) = W at hbk hx hy FIN ⊢
  generalize w.heap.size = g at hbk hoa hob FIN ⊢
  go_loopw [12, 13, 14, 27] (fun vo vm vk vi wr => ∃ o mm k i : Nat, ∃ cs, vo = .int .u64 (o : Int) ∧ vm = .int .u64 (mm : Int) ∧ vk = .int .u32 (k : Int) ∧ vi = .int .i64 (i : Int) ∧ i ≤ N ∧ MixAt false u v xs ys N i cs o mm k ∧ Bk wr g cs ∧ W.grownBy wr (some g)) (fun _ _ _ i _ => N - (intOf i).toNat)
  case atStart => exact ⟨0, 0, 0, 0, _, rfl, rfl, rfl, rfl, Nat.zero_le _, MixAt.start _ _ _ _ _ _, hbk, ⟨rfl, rfl, rfl, Nat.le_refl _, fun _ _ _ => rfl⟩⟩
  case round =>
    obtain ⟨o, mm, k, i, cs, rfl, rfl, rfl, rfl, hi, hM, hB, hg⟩ := hrel
    by_cases hiN : i < N
    · have hk := hM.hk
      have ho := hM.ho
      have hmm := hM.hm
      have ra := hx.grown hg hoa
      have rb := hy.grown hg hob
      have hx1 := small_get HSX.out.1 i
      have hy1 := small_get HSX.out.2 i
      have hcl := hM.len
      have hcx := hB.cell i (by omega)
      have hfx := hB.frozen i
      have CA := Lib.hid (at_w A n c i xs wr ra (by omega))
      have CB := Lib.hid (at_w B m d i ys wr rb (by omega))
      have hnx := fun (x y cw k' : Nat) hx hy hu hv hc hk' hj => hM.next hiN (x := x) (y := y) (c := cw) (k' := k') hx hy hu hv hc hk' hj
      obtain ⟨x, hx2⟩ : ∃ x, x = xs.getD i 0 := ⟨_, rfl⟩
      obtain ⟨y, hy2⟩ : ∃ y, y = ys.getD i 0 := ⟨_, rfl⟩
      rw [← hx2] at hx1 CA
      rw [← hy2] at hy1 CB
      have p1 := mul_word_le HUV.out.1 hx1
      have p2 := mul_word_le HUV.out.2 hy1
      have hmul1 : ((u : Int) * (x : Int)) = ((u * x : Nat) : Int) := by simp
      have hmul2 : ((v : Int) * (y : Int)) = ((v * y : Nat) : Int) := by simp
      have hnx2 := fun cw k' => hnx x y cw k' hx2 hy2 (by omega) (by omega)
      clear hnx hx2 hy2
      obtain ⟨P, hP⟩ : ∃ P, P = u * x := ⟨_, rfl⟩
      obtain ⟨Q, hQ⟩ : ∃ Q, Q = v * y := ⟨_, rfl⟩
      rw [← hP] at p1 hmul1 hnx2
      rw [← hQ] at p2 hmul2 hnx2
      obtain ⟨sl, hsl⟩ : ∃ s, s = (P + o) % 4294967296 := ⟨_, rfl⟩
      obtain ⟨tl, htl⟩ : ∃ s, s = (Q + mm) % 4294967296 := ⟨_, rfl⟩
      obtain ⟨so, hso⟩ : ∃ s, s = (P + o) / 4294967296 := ⟨_, rfl⟩
      obtain ⟨to, hto⟩ : ∃ s, s = (Q + mm) / 4294967296 := ⟨_, rfl⟩
      rw [← hsl, ← htl, ← hso, ← hto] at hnx2
      have v1 : ((P : Int) + o) % 4294967296 = (sl : Int) := by omega
      have v2 : ((Q : Int) + mm) % 4294967296 = (tl : Int) := by omega
      have v3 : ((P : Int) + o) / 4294967296 = (so : Int) := by omega
      have v4 : ((Q : Int) + mm) / 4294967296 = (to : Int) := by omega
      have l1 : sl < 4294967296 := by omega
      have l2 : tl < 4294967296 := by omega
      have hC := fun w => sub32_c sl tl k w (by omega) (by omega) hk
      obtain ⟨cw, hcw⟩ : ∃ cw, cw = (sl + 4294967296 - tl - k) % 4294967296 := ⟨_, rfl⟩
      obtain ⟨k', hk'⟩ : ∃ k' : Nat, k' = (if sl < tl + k then 1 else 0 : Nat) := ⟨_, rfl⟩
      rw [← hcw, ← hk'] at hC
      have hk1 : k' ≤ 1 := by rw [hk']; split <;> omega
      have hc1 : cw < 4294967296 := by omega
      have hjj : cw + tl + k = sl + 4294967296 * k' := by rw [hk', hcw]; split <;> omega
      have hnx := hnx2 cw k' hc1 hk1 (by simp only [Bool.false_eq_true, if_false]; exact hjj)
      have hbn := hB.set_ i cw hc1
      have hgn := grown_setCell hg (p := ⟨g, i, none⟩) (.inl rfl) (.int .u32 (cw : Int))
      have H1 := Lib.hid hnx
      have H2 := Lib.hid hbn
      have H3 := Lib.hid hgn
      have HC := Lib.hid hC
      clear hnx hnx2 hbn hgn hC hjj hcw hk' hsl htl hso hto hP hQ hM hB hg ra rb hcl hx hy hoa hob hbk
      go_wp2_with fail
      refine CA.out.mono ?_
      rintro e w' ⟨rfl, rfl⟩
      go_wp2_with fail
      refine CB.out.mono ?_
      rintro e w' ⟨rfl, rfl⟩
      go_wp2_with (go_at_call 129; refine (HC.out _).mono ?_; rintro e w' ⟨rfl, rfl⟩)
      go_roundw
      case measure => simp [intOf]; omega
      case rel => exact ⟨so, to, k', i + 1, _, rfl, rfl, rfl, by go_num, by omega, H1.out, H2.out, H3.out⟩
    · obtain rfl : i = N := by omega
      have hval := hM.sub HSX.out.1 HSX.out.2 HUV.out.1 HUV.out.2 (by have := HLN.out; omega) (by have := HLN.out; omega) HLE.out
      have hl := hM.len
      have hr := hB.rd
      have T3 := Lib.hid (trim_c (some ⟨g, 0, none⟩) i i cs wr (by rw [← hl]; exact hr) (Nat.le_refl _) (by omega))
      have H := Lib.hid (FIN.out wr · cs · hg hl hval hB)
      clear hM hB hg hval hl hr FIN hx hy hoa hob hbk
      go_wp2_with fail
      refine T3.out.mono ?_
      rintro e w' ht
      obtain ⟨A', rfl, hA, kk, rfl⟩ := ht
      go_wp2
      go_ret
      exact H.out _ _ ⟨A', rfl, hA, kk, rfl⟩
set_option maxHeartbeats 4000000 in
theorem mixed_sub1 (A B : Option Addr) (n c m d u v : Nat) (xs ys : List Nat) (w : World) (ha : Rd w A n xs) (hb : Rd w B m ys) (hu : u < 4294967296) (hv : v < 4294967296) (hn : n < 35184372088832) (hm : m < 35184372088832) (hnm : n < m) (hle : v * val ys ≤ u * val xs) :
    Calls Try.prog 140 #[.slice A n c, .slice B m d, .int .u64 (u : Int), .int .u64 (v : Int), .func (.func 129) #[] #[]] w (Out w (u * val xs - v * val ys)) := by
  have HLN := Lib.hid (show xs.length ≤ m ∧ ys.length ≤ m by rw [ha.len, hb.len]; omega)
  have HSX := Lib.hid (And.intro ha.sm hb.sm)
  have HUV := Lib.hid (And.intro hu hv)
  have HLE := Lib.hid hle
  clear hle
  obtain ⟨N, hN⟩ : ∃ N, N = m + 2 := ⟨_, rfl⟩
  have hmk : ∀ w : World, (Instr.makeSlice 22 (.int .i64 ((m : Int) + 2)) (.int .i64 ((m : Int) + 2))).run Try.prog w = .ok (.slice (some ⟨w.heap.size, 0, none⟩) N N) (w.alloc (row (List.replicate N 0))) := by subst hN; exact mk_words (m + 2) (by omega)
  have hNn : m + 2 ≤ N := by omega
  have hNb : N ≤ 35184372088840 := by omega
  have hbk := Bk.new0 w N
  have hx := ha.alloc (row (List.replicate N 0))
  have hy := hb.alloc (row (List.replicate N 0))
  have hoa : 0 < n → Off A w.heap.size := fun hp a e => by have := ha.blk hp a e; omega
  have hob : 0 < m → Off B w.heap.size := fun hp a e => by have := hb.blk hp a e; omega
  have m1 : (m : Int) > n := by omega
  have FIN := Lib.hid (fun (w1 w' : World) (cs : List Nat) (e : Ending) (hg : (w.alloc (row (List.replicate N 0))).grownBy w1 (some w.heap.size)) (hl : cs.length = N) (hv : val cs = u * val xs - v * val ys) (hk : Bk w1 w.heap.size cs) (ht : TrimPost (some ⟨w.heap.size, 0, none⟩) (words (val cs)).length w1 e w') => out_of_trim hk (Nat.le_refl _) hv (below_new hg) (by omega) ht)
  clear ha hb hN hu hv
  go_enter Try.func140, Try.ntmps140
  go_wp2
  generalize w.alloc (row (List.replicate N 0)) = W at hbk hx hy FIN ⊢
  generalize w.heap.size = g at hbk hoa hob FIN ⊢
  go_loopw [12, 13, 14, 27] (fun vo vm vk vi wr => ∃ o mm k i : Nat, ∃ cs, vo = .int .u64 (o : Int) ∧ vm = .int .u64 (mm : Int) ∧ vk = .int .u32 (k : Int) ∧ vi = .int .i64 (i : Int) ∧ i ≤ N ∧ MixAt false u v xs ys N i cs o mm k ∧ Bk wr g cs ∧ W.grownBy wr (some g)) (fun _ _ _ i _ => N - (intOf i).toNat)
  case atStart => exact ⟨0, 0, 0, 0, _, rfl, rfl, rfl, rfl, Nat.zero_le _, MixAt.start _ _ _ _ _ _, hbk, ⟨rfl, rfl, rfl, Nat.le_refl _, fun _ _ _ => rfl⟩⟩
  case round =>
    obtain ⟨o, mm, k, i, cs, rfl, rfl, rfl, rfl, hi, hM, hB, hg⟩ := hrel
    by_cases hiN : i < N
    · have hk := hM.hk
      have ho := hM.ho
      have hmm := hM.hm
      have ra := hx.grown hg hoa
      have rb := hy.grown hg hob
      have hx1 := small_get HSX.out.1 i
      have hy1 := small_get HSX.out.2 i
      have hcl := hM.len
      have hcx := hB.cell i (by omega)
      have hfx := hB.frozen i
      have CA := Lib.hid (at_w A n c i xs wr ra (by omega))
      have CB := Lib.hid (at_w B m d i ys wr rb (by omega))
      have hnx := fun (x y cw k' : Nat) hx hy hu hv hc hk' hj => hM.next hiN (x := x) (y := y) (c := cw) (k' := k') hx hy hu hv hc hk' hj
      obtain ⟨x, hx2⟩ : ∃ x, x = xs.getD i 0 := ⟨_, rfl⟩
      obtain ⟨y, hy2⟩ : ∃ y, y = ys.getD i 0 := ⟨_, rfl⟩
      rw [← hx2] at hx1 CA
      rw [← hy2] at hy1 CB
      have p1 := mul_word_le HUV.out.1 hx1
      have p2 := mul_word_le HUV.out.2 hy1
      have hmul1 : ((u : Int) * (x : Int)) = ((u * x : Nat) : Int) := by simp
      have hmul2 : ((v : Int) * (y : Int)) = ((v * y : Nat) : Int) := by simp
      have hnx2 := fun cw k' => hnx x y cw k' hx2 hy2 (by omega) (by omega)
      clear hnx hx2 hy2
      obtain ⟨P, hP⟩ : ∃ P, P = u * x := ⟨_, rfl⟩
      obtain ⟨Q, hQ⟩ : ∃ Q, Q = v * y := ⟨_, rfl⟩
      rw [← hP] at p1 hmul1 hnx2
      rw [← hQ] at p2 hmul2 hnx2
      obtain ⟨sl, hsl⟩ : ∃ s, s = (P + o) % 4294967296 := ⟨_, rfl⟩
      obtain ⟨tl, htl⟩ : ∃ s, s = (Q + mm) % 4294967296 := ⟨_, rfl⟩
      obtain ⟨so, hso⟩ : ∃ s, s = (P + o) / 4294967296 := ⟨_, rfl⟩
      obtain ⟨to, hto⟩ : ∃ s, s = (Q + mm) / 4294967296 := ⟨_, rfl⟩
      rw [← hsl, ← htl, ← hso, ← hto] at hnx2
      have v1 : ((P : Int) + o) % 4294967296 = (sl : Int) := by omega
      have v2 : ((Q : Int) + mm) % 4294967296 = (tl : Int) := by omega
      have v3 : ((P : Int) + o) / 4294967296 = (so : Int) := by omega
      have v4 : ((Q : Int) + mm) / 4294967296 = (to : Int) := by omega
      have l1 : sl < 4294967296 := by omega
      have l2 : tl < 4294967296 := by omega
      have hC := fun w => sub32_c sl tl k w (by omega) (by omega) hk
      obtain ⟨cw, hcw⟩ : ∃ cw, cw = (sl + 4294967296 - tl - k) % 4294967296 := ⟨_, rfl⟩
      obtain ⟨k', hk'⟩ : ∃ k' : Nat, k' = (if sl < tl + k then 1 else 0 : Nat) := ⟨_, rfl⟩
      rw [← hcw, ← hk'] at hC
      have hk1 : k' ≤ 1 := by rw [hk']; split <;> omega
      have hc1 : cw < 4294967296 := by omega
      have hjj : cw + tl + k = sl + 4294967296 * k' := by rw [hk', hcw]; split <;> omega
      have hnx := hnx2 cw k' hc1 hk1 (by simp only [Bool.false_eq_true, if_false]; exact hjj)
      have hbn := hB.set_ i cw hc1
      have hgn := grown_setCell hg (p := ⟨g, i, none⟩) (.inl rfl) (.int .u32 (cw : Int))
      have H1 := Lib.hid hnx
      have H2 := Lib.hid hbn
      have H3 := Lib.hid hgn
      have HC := Lib.hid hC
      clear hnx hnx2 hbn hgn hC hjj hcw hk' hsl htl hso hto hP hQ hM hB hg ra rb hcl hx hy hoa hob hbk
      go_wp2_with fail
      refine CA.out.mono ?_
      rintro e w' ⟨rfl, rfl⟩
      go_wp2_with fail
      refine CB.out.mono ?_
      rintro e w' ⟨rfl, rfl⟩
      go_wp2_with (go_at_call 129; refine (HC.out _).mono ?_; rintro e w' ⟨rfl, rfl⟩)
      go_roundw
      case measure => simp [intOf]; omega
      case rel => exact ⟨so, to, k', i + 1, _, rfl, rfl, rfl, by go_num, by omega, H1.out, H2.out, H3.out⟩
    · obtain rfl : i = N := by omega
      have hval := hM.sub HSX.out.1 HSX.out.2 HUV.out.1 HUV.out.2 (by have := HLN.out; omega) (by have := HLN.out; omega) HLE.out
      have hl := hM.len
      have hr := hB.rd
      have T3 := Lib.hid (trim_c (some ⟨g, 0, none⟩) i i cs wr (by rw [← hl]; exact hr) (Nat.le_refl _) (by omega))
      have H := Lib.hid (FIN.out wr · cs · hg hl hval hB)
      clear hM hB hg hval hl hr FIN hx hy hoa hob hbk
      go_wp2_with fail
      refine T3.out.mono ?_
      rintro e w' ht
      obtain ⟨A', rfl, hA, kk, rfl⟩ := ht
      go_wp2
      go_ret
      exact H.out _ _ ⟨A', rfl, hA, kk, rfl⟩
theorem mixed_sub (A B : Option Addr) (n c m d u v : Nat) (xs ys : List Nat) (w : World) (ha : Rd w A n xs) (hb : Rd w B m ys) (hu : u < 4294967296) (hv : v < 4294967296) (hn : n < 35184372088832) (hm : m < 35184372088832) (hle : v * val ys ≤ u * val xs) :
    Calls Try.prog 140 #[.slice A n c, .slice B m d, .int .u64 (u : Int), .int .u64 (v : Int), .func (.func 129) #[] #[]] w (Out w (u * val xs - v * val ys)) := by
  rcases Nat.lt_or_ge n m with h | h
  · exact mixed_sub1 A B n c m d u v xs ys w ha hb hu hv hn hm h hle
  · exact mixed_sub0 A B n c m d u v xs ys w ha hb hu hv hn hm h hle
end Go.Proofs.Ytbblckaplddggaa
