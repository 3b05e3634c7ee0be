/- decimal texts: the reference's Text -/
import Derived.Laws.IdiomStrings
import Derived.Lib.OwnBridge
import Derived.Deep.LoopGhost
import Derived.Sort.WalkB12
import Derived.Lib.SlicesMore
import Derived.BigRegion
import Derived.Test.YthjdnidapbhdlaaDoorGa
import Derived.Test.YthjdnidapbhdlaaDoorTg
import Derived.Test.YthjdnidapbhdlaaDoorGm
import Derived.Maps.AppendAt
import Derived.Test.YthjdnidapbhdlaaDoorRd
set_option maxRecDepth 100000
namespace Go.Proofs.YthjdnidapbhdlaaDoor
open Go.RowKit Go.Sort
theorem info8 : (Tryd.prog.info? 5).map (fun i => (i.zero, i.size, i.bytes)) = some (some (.int .u8 0), 1, 1) := by kernel_rfl
abbrev enc8 : UInt8 → Value := fun b => .int .u8 (b.toNat : Int)
/-- the digits of what is left, none for 0 -/
def left10 (u : Nat) : List UInt8 := if u = 0 then [] else Lib.decDigits u
theorem left10_step {u : Nat} (hu : u ≠ 0) : left10 u = left10 (u / 10) ++ [UInt8.ofNat (48 + u % 10)] := by
  unfold left10
  rw [if_neg hu]
  by_cases h : u < 10
  · rw [if_pos (by omega), Lib.decDigits, dif_pos h, Nat.mod_eq_of_lt h]
    rfl
  · rw [if_neg (by omega), dd_big (by omega)]
/-- what Text keeps within a group: q words behind, k digits written, rest -/
theorem left10_in {q k rest : Nat} (hk : k < 9) (hr : rest < 10 ^ (9 - k)) :
    (q * 10 ^ (9 - k) + rest) / 10 = q * 10 ^ (9 - (k + 1)) + rest / 10 ∧ (q * 10 ^ (9 - k) + rest) % 10 = rest % 10 ∧ rest / 10 < 10 ^ (9 - (k + 1)) := by
  have e : 9 - k = (9 - (k + 1)) + 1 := by omega
  rw [e, Nat.pow_succ] at hr ⊢
  generalize 10 ^ (9 - (k + 1)) = z at hr ⊢
  have e2 : q * (z * 10) = (q * z) * 10 := by grind
  rw [e2]
  generalize q * z = y
  omega
/-- what the reference's Text keeps: the digits so far, the lowest first; what is left; the words at hand -/
structure TI (W1 wr : World) (V u : Nat) (sv : Value) (ds : List UInt8) (A : Option Addr) (m : Nat) (ws : List Nat) : Prop where
  own : wr.ownsRow W1.heap.size 5 1 sv ds.length (ds.map enc8)
  eq : Lib.decDigits V = left10 u ++ ds.reverse
  below : Below W1.heap.size W1 wr
  rd : Rd wr A m ws
  apart : 0 < m → ∀ a g, A = some a → sv.ownBlock = some g → a.block ≠ g
theorem TI.calls {W1 wr w' : World} {V u : Nat} {sv : Value} {ds : List UInt8} {A A' : Option Addr} {m m' : Nat} {ws ws' : List Nat} (h : TI W1 wr V u sv ds A m ws) (hb : Below wr.heap.size wr w') (rd : Rd w' A' m' ws') (hf : ∀ a, A' = some a → wr.heap.size ≤ a.block) : TI W1 w' V u sv ds A' m' ws' :=
  ⟨h.own.kept (row := none) ⟨hb.os, hb.tape, hb.output, hb.size, fun q hq _ => hb.block q hq⟩ (by
    rcases sv.ownBlock with _ | q
    · exact .inl rfl
    · exact .inr (by simp)), h.eq, h.below.trans (hb.mono h.below.size), rd, fun _ a g ha hg => by
    have h1 := hf a ha
    have h2 := (h.own.lt g hg).2
    omega⟩
theorem TI.push {W1 wr w' : World} {V u u' : Nat} {sv v' : Value} {ds : List UInt8} {A : Option Addr} {m : Nat} {ws : List Nat} (h : TI W1 wr V u sv ds A m ws) {o : Obj} {x : UInt8} (heq : left10 u = left10 u' ++ [x])
    (own : w'.ownsRow W1.heap.size 5 1 v' (ds.length + 1) (ds.map enc8 ++ [enc8 x])) (gr : (wr.alloc o).grownBy w' sv.ownBlock) (hat : v'.ownBlock = sv.ownBlock ∨ v'.ownBlock = some (wr.heap.size + 1)) :
    TI W1 w' V u' v' (ds ++ [x]) A m ws := by
  have gr' : wr.grownBy w' sv.ownBlock := ⟨gr.os, gr.tape, gr.output, Nat.le_trans (by simp) gr.size, fun q hq hne => (gr.block q (by simp; omega) hne).trans (Below.heap_alloc wr _ q hq)⟩
  refine ⟨?_, ?_, ?_, ?_, ?_⟩
  · rw [List.length_append, List.length_singleton, List.map_append]
    exact own
  · rw [h.eq, heq, List.reverse_append, List.append_assoc]
    rfl
  · refine ⟨gr'.os.trans h.below.os, gr'.tape.trans h.below.tape, gr'.output.trans h.below.output, Nat.le_trans h.below.size gr'.size, fun q hq => ?_⟩
    refine (gr'.block q (Nat.lt_of_lt_of_le hq h.below.size) (fun e => ?_)).trans (h.below.block q hq)
    have := (h.own.lt q e.symm).1
    omega
  · refine h.rd.keep gr'.size fun a ha hm => gr'.block _ (h.rd.blk hm a ha) (fun e => h.apart hm a a.block ha e.symm rfl)
  · intro hm a g ha hg
    rcases hat with hat | hat
    · rw [hat] at hg
      exact h.apart hm a g ha hg
    · rw [hat] at hg
      have := h.rd.blk hm a ha
      have e := Option.some.inj hg
      omega
theorem field_words (b : Bool) (A : Option Addr) (m c : Nat) (W : World) : (Instr.field 24 (.agg #[.bool b, .slice A m c]) 1).run Tryd.prog W = .ok (.slice A m c) W := by kernel_rfl
theorem arr_get {l : List UInt8} {k : Array UInt8} {j : Nat} (h : j < k.size) (hj : j < l.length) (e : k = l.toArray) : k[j]! = l[j] := by
  subst e
  rw [getElem!_pos _ j h]
  rfl
theorem below_app {W1 wr w' : World} {B n : Nat} {sv : Value} {xs : List Value} {e : TypeId} {o : Obj} (hb : Below B W1 wr) (hB : B ≤ W1.heap.size) (own : wr.ownsRow B e 1 sv n xs) (gr : (wr.alloc o).grownBy w' sv.ownBlock) : Below B W1 w' := by
  refine ⟨gr.os.trans hb.os, gr.tape.trans hb.tape, gr.output.trans hb.output, Nat.le_trans hb.size (Nat.le_trans (by simp) gr.size), fun q hq => ?_⟩
  have h1 : q < wr.heap.size := Nat.lt_of_lt_of_le (Nat.lt_of_lt_of_le hq hB) hb.size
  refine (gr.block q (by simp; omega) (fun e => ?_)).trans ((Below.heap_alloc wr _ q h1).trans (hb.block q hq))
  have := (own.lt q e.symm).1
  omega
theorem dd_len_le {V k : Nat} (h : V < 10 ^ k) (hk : 0 < k) : (Lib.decDigits V).length ≤ k := by
  have h1 := congrArg List.length (padded_dd k h hk)
  rw [padded_len, List.length_append, List.length_replicate] at h1
  omega
set_option maxHeartbeats 8000000 in
theorem refText_c (s : Bool) (A : Option Addr) (n c V : Nat) (w : World) (h : Rd w A n (words V)) (hn : n ≤ 4200) (hsV : s = true → V ≠ 0) :
    Calls Tryd.prog 20 #[.agg #[.bool s, .slice A n c]] w fun e w' => e = .returned (.string ⟨(Lib.itoa (sgn s V)).toArray⟩) ∧ Below w.heap.size w w' := by
  have hl := h.len
  have HI := Lib.hid (show Lib.itoa (sgn s V) = (if s then [45] else []) ++ Lib.decDigits V by
    cases s
    · simp [sgn, Lib.itoa]
    · have := hsV rfl
      simp only [sgn, if_true, Lib.itoa]
      rw [if_pos (by omega)]
      simp)
  have P := Lib.hid (below_alloc w (.cells #[.bool s, .slice A n c] 24))
  have HR := Lib.hid (h.below P.out)
  have HSV := Lib.hid hsV
  have HL := Lib.hid (show w.heap.size < (w.alloc (.cells #[.bool s, .slice A n c] 24)).heap.size by simp)
  clear h hsV
  go_enter Tryd.func20, Tryd.ntmps20
  go_upto_region 1 with (fail)
  have a0 : (w.alloc (.cells #[.bool s, .slice A n c] 24)).cell? ⟨w.heap.size, 0, none⟩ = some (.bool s) := by go_simp
  have a1 : (w.alloc (.cells #[.bool s, .slice A n c] 24)).cell? ⟨w.heap.size, 1, none⟩ = some (.slice A n c) := by go_simp
  generalize w.alloc (.cells #[.bool s, .slice A n c] 24) = W0 at P HR HL a0 a1 ⊢
  go_wp2_with fail
  refine (zero_c s A n c W0).mono ?_
  rintro e w1 ⟨rfl, hb⟩
  replace P := Lib.hid (P.out.trans (hb.mono P.out.size))
  replace HR := Lib.hid (HR.out.below hb)
  replace a0 := (hb.cell (p := ⟨w.heap.size, 0, none⟩) HL.out).trans a0
  replace a1 := (hb.cell (p := ⟨w.heap.size, 1, none⟩) HL.out).trans a1
  replace HL := Lib.hid (Nat.lt_of_lt_of_le HL.out hb.size)
  clear hb
  by_cases hn0 : n = 0
  · have hV0 : V = 0 := by
      have h1 := words_len_le.1 (Nat.le_of_eq (hl.trans hn0))
      rw [pw_zero] at h1
      omega
    have hs : s = false := by
      cases s
      · rfl
      · exact absurd hV0 (HSV.out rfl)
    have HF := Lib.hid (show Lib.itoa (sgn s V) = [48] by rw [HI.out, hs, hV0, Lib.decDigits, dif_pos (by omega)]; rfl)
    rw [decide_eq_true hn0]
    clear HI HR HSV hs hV0 hn0 hl a0 a1
    go_wp2
    go_ret
    rw [HF.out]
    exact ⟨rfl, P.out⟩
  · rw [decide_eq_false hn0]
    have hV0 : V ≠ 0 := by
      rintro rfl
      rw [words_zero] at hl
      exact hn0 hl.symm
    have HDL := Lib.hid (show (Lib.decDigits V).length ≤ 140000 by
      have h1 : V < pw n := by rw [← hl]; exact lt_pw_words V
      have h2 : pw n ≤ 10 ^ (10 * n) := by
        unfold pw
        rw [Nat.pow_mul]
        exact Nat.pow_le_pow_left (by decide) _
      have := dd_len_le (Nat.lt_of_lt_of_le h1 h2) (by omega)
      omega)
    have S0 := Lib.hid (show TI w1 w1 V V (.slice none 0 0) [] A n (words V) from
      ⟨⟨rfl, .inl ⟨rfl, rfl⟩⟩, by simp [left10, hV0], Below.refl _ _, HR.out, fun _ a g _ h => by simp [Value.ownBlock] at h⟩)
    have HVV := Lib.hid hV0
    clear HR HSV hV0 hn0
    go_wp2
    go_loopg [3, 4] V (fun k s3 s4 wr' => ∃ (v m c' : Nat) (A' : Option Addr) (sv : Value) (ds : List UInt8) (wr : World), wr = wr' ∧ v ≤ k ∧ v ≤ V ∧ m = (words v).length ∧ sv = s3 ∧ s4 = .slice A' m c' ∧ TI w1 wr V v sv ds A' m (words v))
    case atStart => exact ⟨V, n, c, A, _, [], _, rfl, Nat.le_refl _, Nat.le_refl _, hl.symm, rfl, rfl, S0.out⟩
    case round =>
      obtain ⟨v, m, c', A', sv, ds, wr, rfl, hk, hvV, hm, rfl, rfl, hS⟩ := hrel
      clear S0
      by_cases hv : v = 0
      · subst hv
        have hm0 : m = 0 := by rw [hm, words_zero]; rfl
        subst hm0
        have a0' := (hS.below.cell (p := ⟨w.heap.size, 0, none⟩) HL.out).trans a0
        have HDR := Lib.hid (show ds.reverse = Lib.decDigits V by
          have h := hS.eq
          rw [show left10 0 = [] from rfl, List.nil_append] at h
          exact h.symm)
        have hdl : ds.length ≤ 140000 := by
          have h1 := congrArg List.length HDR.out
          rw [List.length_reverse] at h1
          have h2 := HDL.out
          omega
        have hdp : 0 < ds.length := by
          have h1 := congrArg List.length HDR.out
          rw [List.length_reverse] at h1
          have h2 := dd_pos V
          omega
        have hnil : sv ≠ .slice none 0 0 := by
          rintro rfl
          rcases hS.own.2 with ⟨_, h⟩ | ⟨g, cap, cur, h, _⟩
          · omega
          · cases h
        clear hm a0 a1
        cases s
        · have hSo := hS.own
          have hSb := hS.below
          clear hS
          obtain ⟨g, cap, rfl, hBg, hlt, hc1, hc2, _, hH⟩ := Lib.holds_of_ownsRow (zs := ds) hSo hnil
          obtain ⟨N, hN⟩ : ∃ N, N = (ds).length := ⟨_, rfl⟩
          have HNL := Lib.hid hN
          rw [← hN] at hc1 ⊢
          obtain ⟨D, hD⟩ : ∃ D, D = (ds).toArray := ⟨_, rfl⟩
          have hDs : D.size = N := by rw [hD, hN]; simp
          rw [← hD] at hH
          have HDL2 := Lib.hid hD
          have hN6 : N ≤ 150000 := by rw [hN]; have := hdl; simp; omega
          have HH := Lib.hid hH
          have HB9 := Lib.hid (show Below w.heap.size w wr from P.out.trans (hSb.mono P.out.size))
          have HBG := Lib.hid (show w.heap.size ≤ g from Nat.le_trans P.out.size hBg)
          have HRV := Lib.hid (show (ds).reverse = Lib.itoa (sgn false V) from by rw [HI.out]; simp [HDR.out])
          have HDS := Lib.hid hDs
          clear hD hH hBg hlt hc1 hc2 hDs hN hdl
          go_wp2
          go_loopw [7] (fun iv wr' => ∃ (i q9 : Nat) (dk : Array UInt8) (w5 : World), w5 = wr' ∧ iv = .int .i64 (i : Int) ∧ i ≤ N / 2 ∧ dk.size = N ∧ w5 = putRow enc8 (Sort.ahead wr q9) g 0 dk ∧ reverseLoop i (N - 1 - i) dk = reverseLoop 0 (N - 1) D) (fun iv _ => (N - intOf iv).toNat)
          case atStart => exact ⟨0, 0, D, _, rfl, rfl, Nat.zero_le _, HDS.out, (putRow_self enc8 _ g 0 D HH.out).symm, rfl⟩
          case round =>
            obtain ⟨i, q9, dk, w5, rfl, rfl, hi, hds, hw, heq⟩ := hrel
            have hHk : Holds enc8 w5 g 0 dk := by rw [hw]; exact holds_putRow enc8 _ g 0 D dk (holds_ahead enc8 _ q9 g 0 D HH.out) (by rw [hds, HDS.out])
            rcases Nat.lt_or_ge i (N / 2) with him | him
            · obtain ⟨jn, hjn⟩ : ∃ jn, jn = N - 1 - i := ⟨_, rfl⟩
              have hij : i < jn := by omega
              have hjN : jn < N := by omega
              have hiN : i < N := by omega
              have ej : (N : Int) - 1 - (i : Int) = (jn : Int) := by omega
              obtain ⟨ci, fi⟩ := hHk i (by omega)
              obtain ⟨cj, fj⟩ := hHk jn (by omega)
              rw [Nat.zero_add] at ci fi cj fj
              rw [← hjn] at heq
              have hnx : N - 1 - (i + 1) = jn - 1 := by omega
              have HNX := Lib.hid hnx
              have HEQ := Lib.hid heq
              have Aw : Aside (w5 = putRow enc8 (Sort.ahead wr q9) g 0 dk) := hw
              have hid5 : i < dk.size := by omega
              have hjd5 : jn < dk.size := by omega
              clear hw hHk hjn hnx heq
              go_wp2_with fail
              go_region
              go_wp2
              go_roundw
              case measure => simp [intOf]; omega
              case rel =>
                have heq := HEQ.out
                rw [reverseLoop, if_pos hij] at heq
                have SW := swap_world enc8 (x := enc8 dk[jn]!) (y := enc8 dk[i]!) hid5 hjd5 Aw.out rfl rfl
                rw [Nat.zero_add, Nat.zero_add] at SW
                exact ⟨i + 1, q9 + 1, swp dk i jn, _, rfl, by simp, by omega, by rw [size_swp]; exact hds, by rw [← SW]; simp [enc8, getElem!_pos, hid5, hjd5], by rw [HNX.out]; exact heq⟩
            · have hdk : dk = ((ds).reverse).toArray := by
                rw [reverseLoop, if_neg (by omega)] at heq
                rw [heq, ← List.reverse_toArray, ← HDL2.out, ← Lib.reverseLoop_reverse, HDS.out]
              have hcv : (convert 80 9 (.slice (some ⟨g, 0, none⟩) N cap)).run Tryd.prog w5 = .ok (.string ⟨((ds).reverse).toArray⟩) w5 := by
                have h := run_convert_bytes_back (P := Tryd.prog) w5 80 9 5 ⟨g, 0, none⟩ cap (ds).reverse Tryd.underlying80 Tryd.underlying5 Tryd.underlying9 (fun j hj => by
                  have hj2 : j < dk.size := by rw [hdk]; simpa using hj
                  have h1 := (hHk j hj2).1
                  rw [Nat.zero_add] at h1
                  have ea : (⟨g, 0, none⟩ : Addr).add j = ⟨g, j, none⟩ := by unfold Addr.add; split <;> simp_all
                  rw [ea, h1, arr_get hj2 hj hdk])
                rw [List.length_reverse, ← HNL.out] at h
                exact h
              have HBF := Lib.hid (show Below w.heap.size w w5 by rw [hw]; exact Lib.below_putRow HB9.out HBG.out)
              rw [HRV.out] at hcv
              clear hw hHk hdk heq hds
              go_wp2
              go_ret
              exact ⟨rfl, HBF.out⟩
        · have hown := hS.own
          have HT := Lib.hid hS
          have HBW := Lib.hid hS.below.size
          obtain ⟨i0, hi0, hz0, hz1, hz2⟩ := info_parts info8
          clear hS
          go_wp2_with (at_builtin; refine wpList_append_own_at _ rfl _ _ 80 rfl w1.heap.size 5 i0 (.int .u8 0) 1 1 Tryd.underlying80 hi0 hz0 hz1 hz2 rfl (by decide) _ ds.length _ rfl (hown.alloc _) ⟨wr.heap.size, 0, none⟩ 1 1 [.int .u8 45] rfl rfl ?e1 ?e2 ?e3 ?e4 ?e5 ?_)
          case e2 => first | rfl | (intro u hu; simp at hu; subst hu; rfl)
          case e3 => simp only [maxLen]; omega
          case e4 => omega
          case e5 => have := HBW.out; simp; omega
          intro v' w4 own4 gr4 nil4 hat4
          have hSb := below_app HT.out.below (Nat.le_refl _) HT.out.own gr4
          have hSo : w4.ownsRow w1.heap.size 5 1 v' (ds ++ [45]).length ((ds ++ [45]).map enc8) := by
            rw [List.length_append, List.length_singleton, List.map_append]
            exact own4
          clear own4 gr4 hat4 hown hi0 hz0 hz1 hz2 HT hnil
          obtain ⟨g, cap, rfl, hBg, hlt, hc1, hc2, _, hH⟩ := Lib.holds_of_ownsRow (zs := ds ++ [45]) hSo nil4
          obtain ⟨N, hN⟩ : ∃ N, N = (ds ++ [45]).length := ⟨_, rfl⟩
          have HNL := Lib.hid hN
          rw [← hN] at hc1 ⊢
          obtain ⟨D, hD⟩ : ∃ D, D = (ds ++ [45]).toArray := ⟨_, rfl⟩
          have hDs : D.size = N := by rw [hD, hN]; simp
          rw [← hD] at hH
          have HDL2 := Lib.hid hD
          have hN6 : N ≤ 150000 := by rw [hN]; have := hdl; simp; omega
          have HH := Lib.hid hH
          have HB9 := Lib.hid (show Below w.heap.size w w4 from P.out.trans (hSb.mono P.out.size))
          have HBG := Lib.hid (show w.heap.size ≤ g from Nat.le_trans P.out.size hBg)
          have HRV := Lib.hid (show (ds ++ [45]).reverse = Lib.itoa (sgn true V) from by rw [HI.out]; simp [HDR.out])
          have HDS := Lib.hid hDs
          clear hD hH hBg hlt hc1 hc2 hDs hN hdl
          go_wp2
          go_loopw [7] (fun iv wr' => ∃ (i q9 : Nat) (dk : Array UInt8) (w5 : World), w5 = wr' ∧ iv = .int .i64 (i : Int) ∧ i ≤ N / 2 ∧ dk.size = N ∧ w5 = putRow enc8 (Sort.ahead w4 q9) g 0 dk ∧ reverseLoop i (N - 1 - i) dk = reverseLoop 0 (N - 1) D) (fun iv _ => (N - intOf iv).toNat)
          case atStart => exact ⟨0, 0, D, _, rfl, rfl, Nat.zero_le _, HDS.out, (putRow_self enc8 _ g 0 D HH.out).symm, rfl⟩
          case round =>
            obtain ⟨i, q9, dk, w5, rfl, rfl, hi, hds, hw, heq⟩ := hrel
            have hHk : Holds enc8 w5 g 0 dk := by rw [hw]; exact holds_putRow enc8 _ g 0 D dk (holds_ahead enc8 _ q9 g 0 D HH.out) (by rw [hds, HDS.out])
            rcases Nat.lt_or_ge i (N / 2) with him | him
            · obtain ⟨jn, hjn⟩ : ∃ jn, jn = N - 1 - i := ⟨_, rfl⟩
              have hij : i < jn := by omega
              have hjN : jn < N := by omega
              have hiN : i < N := by omega
              have ej : (N : Int) - 1 - (i : Int) = (jn : Int) := by omega
              obtain ⟨ci, fi⟩ := hHk i (by omega)
              obtain ⟨cj, fj⟩ := hHk jn (by omega)
              rw [Nat.zero_add] at ci fi cj fj
              rw [← hjn] at heq
              have hnx : N - 1 - (i + 1) = jn - 1 := by omega
              have HNX := Lib.hid hnx
              have HEQ := Lib.hid heq
              have Aw : Aside (w5 = putRow enc8 (Sort.ahead w4 q9) g 0 dk) := hw
              have hid5 : i < dk.size := by omega
              have hjd5 : jn < dk.size := by omega
              clear hw hHk hjn hnx heq
              go_wp2_with fail
              go_region
              go_wp2
              go_roundw
              case measure => simp [intOf]; omega
              case rel =>
                have heq := HEQ.out
                rw [reverseLoop, if_pos hij] at heq
                have SW := swap_world enc8 (x := enc8 dk[jn]!) (y := enc8 dk[i]!) hid5 hjd5 Aw.out rfl rfl
                rw [Nat.zero_add, Nat.zero_add] at SW
                exact ⟨i + 1, q9 + 1, swp dk i jn, _, rfl, by simp, by omega, by rw [size_swp]; exact hds, by rw [← SW]; simp [enc8, getElem!_pos, hid5, hjd5], by rw [HNX.out]; exact heq⟩
            · have hdk : dk = ((ds ++ [45]).reverse).toArray := by
                rw [reverseLoop, if_neg (by omega)] at heq
                rw [heq, ← List.reverse_toArray, ← HDL2.out, ← Lib.reverseLoop_reverse, HDS.out]
              have hcv : (convert 80 9 (.slice (some ⟨g, 0, none⟩) N cap)).run Tryd.prog w5 = .ok (.string ⟨((ds ++ [45]).reverse).toArray⟩) w5 := by
                have h := run_convert_bytes_back (P := Tryd.prog) w5 80 9 5 ⟨g, 0, none⟩ cap (ds ++ [45]).reverse Tryd.underlying80 Tryd.underlying5 Tryd.underlying9 (fun j hj => by
                  have hj2 : j < dk.size := by rw [hdk]; simpa using hj
                  have h1 := (hHk j hj2).1
                  rw [Nat.zero_add] at h1
                  have ea : (⟨g, 0, none⟩ : Addr).add j = ⟨g, j, none⟩ := by unfold Addr.add; split <;> simp_all
                  rw [ea, h1, arr_get hj2 hj hdk])
                rw [List.length_reverse, ← HNL.out] at h
                exact h
              have HBF := Lib.hid (show Below w.heap.size w w5 by rw [hw]; exact Lib.below_putRow HB9.out HBG.out)
              rw [HRV.out] at hcv
              clear hw hHk hdk heq hds
              go_wp2
              go_ret
              exact ⟨rfl, HBF.out⟩
      · have hmn : m ≤ n := by
          rw [hm, ← hl]
          exact words_len_le.2 (Nat.lt_of_le_of_lt hvV (lt_pw_words V))
        have hmp : 0 < m := by
          rw [hm, words_pos hv]
          simp
        have SH := Lib.hid (refShort_c A' m c' 1000000000 (words v) wr hS.rd (by omega) (by omega) (by omega))
        rw [val_words] at SH
        have HS := Lib.hid hS
        clear hS hm
        go_wp2_with fail
        refine SH.out.mono ?_
        rintro e w2 ⟨rfl, hb, qs, hql, hqv, hB2⟩
        clear SH
        obtain ⟨q, hq⟩ : ∃ q, q = v / 1000000000 := ⟨_, rfl⟩
        obtain ⟨r0, hr0⟩ : ∃ r0, r0 = v % 1000000000 := ⟨_, rfl⟩
        rw [← hq] at hqv
        rw [← hr0]
        have hr9 : r0 < 1000000000 := by omega
        have hqV : q ≤ V := by omega
        have hqlt : q < v := by omega
        have HU := Lib.hid (show q * 10 ^ (9 - 0) + r0 = v by
          rw [show (10 : Nat) ^ (9 - 0) = 1000000000 by decide]
          omega)
        have hrd2 : Rd w2 (some ⟨wr.heap.size, 0, none⟩) m qs := by
          have := hB2.rd
          rw [hql] at this
          exact this
        have MK := Lib.hid (Make2_c false (some ⟨wr.heap.size, 0, none⟩) m m qs w2 hrd2 (Nat.le_refl _) (by omega) (by omega))
        rw [show sgn false (val qs) = ((q : Nat) : Int) by rw [hqv]; rfl] at MK
        have HB := Lib.hid hb
        have HQ := Lib.hid hq
        clear hrd2 hB2 hql hqv hb hq hr0
        go_wp2_with fail
        refine MK.out.mono ?_
        rintro e w3 ⟨A3, c3, rfl, rd3, h3, h3', hb3, hf⟩
        rw [show ((q : Nat) : Int).natAbs = q by simp] at rd3 h3 ⊢
        clear MK
        have T3 := Lib.hid (HS.out.calls (HB.out.trans (hb3.mono HB.out.size)) rd3 (fun a ha => Nat.le_trans HB.out.size (hf a ha)))
        obtain ⟨m3, hm3⟩ : ∃ m3, m3 = (words q).length := ⟨_, rfl⟩
        rw [← hm3] at T3 h3 ⊢
        have HM3 := Lib.hid hm3
        have hm3n : m3 ≤ 4200 := by
          rw [hm3]
          have := words_len_le.2 (Nat.lt_of_le_of_lt hqV (lt_pw_words V))
          omega
        have hm3q : m3 = 0 ↔ q = 0 := by
          rw [hm3]
          constructor
          · intro h
            have h1 := words_len_le.1 (Nat.le_of_eq h)
            rw [pw_zero] at h1
            omega
          · rintro rfl
            rw [words_zero]
            rfl
        have HMQ := Lib.hid hm3q
        clear hm3 hm3q rd3 hb3 hf HB HS h3 h3'
        have hfld := field_words (decide ((q : Int) < 0)) A3 m3 c3
        go_wp2
        go_loopw [6, 5, 3] (fun s6 s5 s3 wr' => ∃ (k' rest : Nat) (sv : Value) (ds : List UInt8) (wr : World), wr = wr' ∧ s6 = .int .i64 (k' : Int) ∧ s5 = .int .u32 (rest : Int) ∧ sv = s3 ∧ k' ≤ 9 ∧ rest < 10 ^ (9 - k') ∧ rest < 1000000000 ∧ TI w1 wr V (q * 10 ^ (9 - k') + rest) sv ds A3 m3 (words q)) (fun s6 _ _ _ => (9 - intOf s6).toNat)
        case atStart => exact ⟨0, r0, _, _, _, rfl, rfl, rfl, rfl, by omega, by simpa using hr9, hr9, by rw [HU.out]; exact T3.out⟩
        case round =>
          obtain ⟨k', rest, sv, ds, wr, rfl, rfl, rfl, rfl, hk9, hrk, hr9', hT⟩ := hrel
          clear T3 HU
          have HT := Lib.hid hT
          have HRK := Lib.hid hrk
          clear hT hrk
          have hmq := HMQ.out
          by_cases hend : k' = 9 ∨ (m3 = 0 ∧ rest = 0)
          · have hu : q * 10 ^ (9 - k') + rest = q := by
              rcases hend with rfl | ⟨h1, h2⟩
              · have h3 := HRK.out
                simp at h3
                subst h3
                simp
              · have h3 := hmq.1 h1
                subst h3 h2
                simp
            have R := Lib.hid (show TI w1 wr V q sv ds A3 m3 (words q) by
              have := HT.out
              rw [hu] at this
              exact this)
            clear hu HT HRK hmq
            rcases Nat.lt_or_ge k' 9 with hk | hk
            · obtain ⟨hm0, hr0'⟩ := hend.resolve_left (by omega)
              clear hend HMQ
              subst hr0'
              subst hm0
              go_wp2
              go_roundg q
              case measure => omega
              case rel => exact ⟨q, 0, c3, A3, sv, ds, wr, rfl, Nat.le_refl _, hqV, HM3.out, rfl, rfl, R.out⟩
            · have e : k' = 9 := by omega
              clear hend HMQ
              subst e
              go_wp2
              go_roundg q
              case measure => omega
              case rel => exact ⟨q, m3, c3, A3, sv, ds, wr, rfl, Nat.le_refl _, hqV, HM3.out, rfl, rfl, R.out⟩
          · have hk : k' < 9 := by omega
            have hmr : m3 ≠ 0 ∨ rest ≠ 0 := by omega
            obtain ⟨e1, e2, e3⟩ := left10_in (q := q) hk HRK.out
            have hu : q * 10 ^ (9 - k') + rest ≠ 0 := by
              rcases hmr with h | h
              · have h1 : q ≠ 0 := fun e => h (hmq.2 e)
                have h2 : 0 < q * 10 ^ (9 - k') := Nat.mul_pos (by omega) (Nat.pow_pos (by omega))
                omega
              · omega
            obtain ⟨x, hx⟩ : ∃ x, x = UInt8.ofNat (48 + rest % 10) := ⟨_, rfl⟩
            obtain ⟨y, hy⟩ : ∃ y, y = 48 + rest % 10 := ⟨_, rfl⟩
            have HX := Lib.hid (show x.toNat = y by rw [hx, hy]; exact digit_nat (by omega))
            have HE := Lib.hid (show left10 (q * 10 ^ (9 - k') + rest) = left10 (q * 10 ^ (9 - (k' + 1)) + rest / 10) ++ [x] by rw [left10_step hu, e1, e2, hx])
            have HE3 := Lib.hid e3
            have hyi : 48 + (rest : Int) % 10 = (y : Int) := by omega
            have hy8 : y < 58 := by omega
            have hdl : ds.length ≤ 140000 := by
              have h1 := congrArg List.length HT.out.eq
              rw [List.length_append, List.length_reverse] at h1
              have h2 := HDL.out
              omega
            have hrd10 : ((rest / 10 : Nat) : Int) = (rest : Int) / 10 := by omega
            have hown := HT.out.own
            have HBW := Lib.hid HT.out.below.size
            obtain ⟨i0, hi0, hz0, hz1, hz2⟩ := info_parts info8
            clear hx hy e1 e2 e3 hu hend hmq
            rcases Nat.eq_zero_or_pos m3 with hm0 | hm0
            · have hr0' : 0 < rest := by omega
              clear hmr HMQ
              subst hm0
              go_wp2_with (at_builtin; refine wpList_append_own_at _ rfl _ _ 80 rfl w1.heap.size 5 i0 (.int .u8 0) 1 1 Tryd.underlying80 hi0 hz0 hz1 hz2 rfl (by decide) _ ds.length _ rfl (hown.alloc _) ⟨wr.heap.size, 0, none⟩ 1 1 [.int .u8 (y : Int)] rfl rfl ?c1 ?c2 ?c3 ?c4 ?c5 ?_)
              case c1 =>
                intro a u hj
                match a, hj with
                | 0, hj => simp at hj; subst hj; simp [Addr.add]
              case c2 => intro u hu; simp at hu; subst hu; rfl
              case c3 => simp only [maxLen]; omega
              case c4 => omega
              case c5 => have := HBW.out; simp; omega
              intro v' w4 own4 gr4 nil4 hat4
              have T4 := Lib.hid (HT.out.push HE.out (by
                rw [show enc8 x = .int .u8 (y : Int) by simp only [enc8]; rw [HX.out]]
                exact own4) gr4 hat4)
              clear own4 gr4 nil4 hat4 hown hi0 hz0 hz1 hz2 HT HRK
              go_wp2
              go_roundw
              case measure => simp [intOf]; omega
              case rel => exact ⟨k' + 1, rest / 10, v', _, _, rfl, by simp, by rw [← hrd10], rfl, by omega, HE3.out, by omega, T4.out⟩
            · clear hmr HMQ
              go_wp2_with (at_builtin; refine wpList_append_own_at _ rfl _ _ 80 rfl w1.heap.size 5 i0 (.int .u8 0) 1 1 Tryd.underlying80 hi0 hz0 hz1 hz2 rfl (by decide) _ ds.length _ rfl (hown.alloc _) ⟨wr.heap.size, 0, none⟩ 1 1 [.int .u8 (y : Int)] rfl rfl ?c1 ?c2 ?c3 ?c4 ?c5 ?_)
              case c1 =>
                intro a u hj
                match a, hj with
                | 0, hj => simp at hj; subst hj; simp [Addr.add]
              case c2 => intro u hu; simp at hu; subst hu; rfl
              case c3 => simp only [maxLen]; omega
              case c4 => omega
              case c5 => have := HBW.out; simp; omega
              intro v' w4 own4 gr4 nil4 hat4
              have T4 := Lib.hid (HT.out.push HE.out (by
                rw [show enc8 x = .int .u8 (y : Int) by simp only [enc8]; rw [HX.out]]
                exact own4) gr4 hat4)
              clear own4 gr4 nil4 hat4 hown hi0 hz0 hz1 hz2 HT HRK
              go_wp2
              go_roundw
              case measure => simp [intOf]; omega
              case rel => exact ⟨k' + 1, rest / 10, v', _, _, rfl, by simp, by rw [← hrd10], rfl, by omega, HE3.out, by omega, T4.out⟩
end Go.Proofs.YthjdnidapbhdlaaDoor
