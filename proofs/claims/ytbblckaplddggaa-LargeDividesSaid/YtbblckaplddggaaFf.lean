import Derived.Test.YtbblckaplddggaaFe
import Derived.Test.YtbblckaplddggaaTf
import Derived.Test.YtbblckaplddggaaRe
import Derived.Deep.LoopGhost
set_option maxRecDepth 100000
namespace Go.Proofs.Ytbblckaplddggaa
open Go.RowKit
/-- words of a number in a slice -/
structure Wd (W : World) (V : Nat) (A : Option Addr) (c : Nat) : Prop where
  rd : Rd W A (words V).length (words V)
  le : (words V).length ≤ c
  top : c ≤ 9223372036854775807
theorem Wd.below {W W' : World} {V : Nat} {A : Option Addr} {c : Nat} (h : Wd W V A c) (hb : Below W.heap.size W W') : Wd W' V A c := ⟨h.rd.below hb, h.le, h.top⟩
theorem Wd.nil (W : World) : Wd W 0 none 0 := by
  refine ⟨?_, by rw [words_zero]; simp, by omega⟩
  rw [words_zero]
  exact ⟨rfl, fun x hx => by simp at hx, fun h => absurd h (by simp)⟩
theorem len_pos {V : Nat} : 0 < (words V).length ↔ V ≠ 0 := by
  constructor
  · rintro h rfl
    rw [words_zero] at h
    simp at h
  · intro h
    rw [words_pos h]
    simp
theorem sum_len {x y k : Nat} (hx : (words x).length ≤ k) (hy : (words y).length ≤ k) : (words (x + y)).length ≤ k + 1 := by
  have h1 := words_len_le.1 hx
  have h2 := words_len_le.1 hy
  refine words_len_le.2 ?_
  rw [pw_succ]
  omega
theorem mul_len {x y k l : Nat} (hx : (words x).length ≤ k) (hy : (words y).length ≤ l) : (words (x * y)).length ≤ k + l := by
  have h1 := words_len_le.1 hx
  have h2 := words_len_le.1 hy
  refine words_len_le.2 ?_
  rw [pw_add]
  exact Nat.mul_lt_mul'' h1 h2
theorem Wd.store {W : World} {V : Nat} {A : Option Addr} {c : Nat} (h : Wd W V A c) {g : Nat} {x : Bool} {a : Option Addr} {i j : Nat} (h0 : W.cell? ⟨g, 0, none⟩ = some (.bool x)) (h1 : W.cell? ⟨g, 1, none⟩ = some (.slice a i j)) (u v : Value) : Wd ((W.setCell ⟨g, 0, none⟩ u).setCell ⟨g, 1, none⟩ v) V A c :=
  ⟨h.rd.store h0 h1 u v, h.le, h.top⟩
/-- what euclid returns -/
def EucPost (A B : Nat) (w : World) (e : Ending) (w' : World) : Prop :=
  ∃ (G : Option Addr) (c1 : Nat) (minus : Bool) (O : Option Addr) (c2 one : Nat), e = .returned (.tuple #[.slice G (words (Nat.gcd A B)).length c1, .agg #[.bool minus, .slice O (words one).length c2]]) ∧ Wd w' (Nat.gcd A B) G c1 ∧ Wd w' one O c2 ∧ one ≤ B ∧ (∃ k : Int, ((Nat.gcd A B : Nat) : Int) = tau minus * one * A + B * k) ∧ Below w.heap.size w w'
theorem EI.le {A B f s one two : Nat} {minus : Bool} (h : EI A B f s one two minus) (hB : 0 < B) : one ≤ B + B ∧ two ≤ B := by
  have d := h.det
  rcases h.ord with ⟨rfl, rfl⟩ | ⟨o1, o2⟩
  · omega
  · have := Nat.le_mul_of_pos_right two (show 0 < f by omega)
    omega
theorem many_le {a b u0 v0 u1 v1 : Nat} {odd : Bool} {a' b' : Nat} (g : StepsOf a b u0 v0 u1 v1 odd a' b') : a' ≤ b ∧ b' ≤ b := by
  have := g.eb
  have := g.lt
  have := Nat.le_mul_of_pos_left a' g.a5
  omega
/-- euclid's variables -/
structure EuR (w W : World) (g5 : Nat) (A B M f s one two : Nat) (minus : Bool) (F : Option Addr) (cf : Nat) (S : Option Addr) (cs : Nat) (O : Option Addr) (co : Nat) (T : Option Addr) (ct : Nat) : Prop where
  below : Below w.heap.size w W
  ei : EI A B f s one two minus
  wf : Wd W f F cf
  ws : Wd W s S cs
  wo : Wd W one O co
  wt : Wd W two T ct
  fM : f ≤ M
  sM : s ≤ M
  res : Res W g5
theorem EuR.next {w W W' : World} {g5 : Nat} {A B M f s one two : Nat} {minus : Bool} {F : Option Addr} {cf : Nat} {S : Option Addr} {cs : Nat} {O : Option Addr} {co : Nat} {T : Option Addr} {ct : Nat} (h : EuR w W g5 A B M f s one two minus F cf S cs O co T ct) (hb : Below W.heap.size W W') : EuR w W' g5 A B M f s one two minus F cf S cs O co T ct :=
  ⟨h.below.trans (hb.mono h.below.size), h.ei, h.wf.below hb, h.ws.below hb, h.wo.below hb, h.wt.below hb, h.fM, h.sM, h.res.next hb⟩
set_option maxHeartbeats 8000000 in
theorem euclid_c (A B : Option Addr) (n c m d : Nat) (xs ys : List Nat) (w : World) (ha : Rd w A n xs) (hb : Rd w B m ys) (cx : canon xs) (cy : canon ys) (hn : n ≤ 1000000) (hm : m ≤ 1000000) (h0 : 0 < m) :
    Calls Try.prog 114 #[.slice A n c, .slice B m d] w (EucPost (val xs) (val ys) w) := by
  have P := Lib.hid (below_alloc w (.cells #[.bool false, .slice none 0 0] 24))
  have R5 := Lib.hid (Res.new w)
  have RA := Lib.hid (ha.below P.out)
  have RB := Lib.hid (hb.below P.out)
  have HN := Lib.hid (And.intro hn hm)
  have HX := Lib.hid (And.intro (words_val cx) (words_val cy))
  have hBpos : 0 < val ys := by
    refine Nat.pos_of_ne_zero fun h => ?_
    have := words_val cy
    rw [h, words_zero] at this
    have := hb.len
    rw [← this] at h0
    simp_all
  have HBP := Lib.hid hBpos
  have hlx : (words (val xs)).length = n := by rw [words_val cx, ha.len]
  have hly : (words (val ys)).length = m := by rw [words_val cy, hb.len]
  have HL := Lib.hid (And.intro hlx hly)
  have hx0 := HX.out.1.symm
  have hy0 := HX.out.2.symm
  obtain ⟨X, hX⟩ : ∃ X, X = val xs := ⟨_, rfl⟩
  obtain ⟨Y, hY⟩ : ∃ Y, Y = val ys := ⟨_, rfl⟩
  rw [← hX] at HL HX hx0 ⊢
  rw [← hY] at HL HX HBP hy0 ⊢
  obtain ⟨M, hM⟩ : ∃ M, M = X + Y := ⟨_, rfl⟩
  have HM := Lib.hid (show X ≤ M ∧ Y ≤ M by omega)
  have HML := Lib.hid (show (words M).length ≤ 1000001 by rw [hM]; exact sum_len (k := 1000000) (by rw [hX]; omega) (by rw [hY]; omega))
  clear ha hb hn hm hX hY hM h0 hBpos hlx hly cx cy
  go_enter Try.func114, Try.ntmps114
  go_upto_region 1 with (fail)
  generalize w.alloc (.cells #[.bool false, .slice none 0 0] 24) = W0 at P R5 RA RB ⊢
  obtain ⟨g5, hg5⟩ : ∃ g, g = w.heap.size := ⟨_, rfl⟩
  rw [← hg5] at R5 ⊢
  have HG5 := Lib.hid (show w.heap.size ≤ g5 by omega)
  clear hg5
  go_wp2_with fail
  refine (clone_c A n c xs _ RA.out (by have := HN.out; omega)).mono ?_
  rintro e w1 ⟨g6, rfl, hg6, hk, hb⟩
  have hfr := hk.rd
  have hfl : xs.length = (words X).length := by rw [HX.out.1]
  rw [hfl] at hfr ⊢
  rw [hx0] at hfr
  have F6 := Lib.hid (show Wd w1 X (some ⟨g6, 0, none⟩) (words X).length from ⟨hfr, Nat.le_refl _, by have := HL.out; have := HN.out; omega⟩)
  replace P := Lib.hid (P.out.trans (hb.mono P.out.size))
  replace RB := Lib.hid (RB.out.below hb)
  replace R5 := Lib.hid (R5.out.next hb)
  clear hb hk hg6 hfr hfl RA
  go_wp2_with fail
  refine (clone_c B m d ys _ RB.out (by have := HN.out; omega)).mono ?_
  rintro e w2 ⟨g7, rfl, hg7, hk, hb⟩
  have hfr := hk.rd
  have hfl : ys.length = (words Y).length := by rw [HX.out.2]
  rw [hfl] at hfr ⊢
  rw [hy0] at hfr
  have F7 := Lib.hid (show Wd w2 Y (some ⟨g7, 0, none⟩) (words Y).length from ⟨hfr, Nat.le_refl _, by have := HL.out; have := HN.out; omega⟩)
  replace P := Lib.hid (P.out.trans (hb.mono P.out.size))
  replace R5 := Lib.hid (R5.out.next hb)
  replace F6 := Lib.hid (F6.out.below hb)
  clear hb hk hg7 hfr hfl RB hx0 hy0 HX
  have hw1 : words 1 = [1] := words_one (by omega) (by omega)
  have R1 : Rd (w2.alloc (row [1])) (some ⟨w2.heap.size, 0, none⟩) 1 [1] := (Bk.new w2 (xs := [1]) (small_one (by omega))).rd
  have hob : Obj.cells #[Value.int .u32 1] 60 = row [1] := rfl
  have F8 := Lib.hid (show Wd (w2.alloc (row [1])) 1 (some ⟨w2.heap.size, 0, none⟩) 1 from ⟨by rw [hw1]; exact R1, by rw [hw1]; simp, by omega⟩)
  have HO := Lib.hid hob
  have h1 : (words 1).length = 1 := by rw [hw1]; rfl
  have HW1 := Lib.hid h1
  have hb := below_alloc w2 (row [1])
  replace P := Lib.hid (P.out.trans (hb.mono P.out.size))
  replace R5 := Lib.hid (R5.out.next hb)
  replace F6 := Lib.hid (F6.out.below hb)
  replace F7 := Lib.hid (F7.out.below hb)
  clear hb R1 hob hw1 h1
  go_upto_region 3 with (fail)
  rw [HO.out]
  generalize w2.alloc (row [1]) = W2 at P R5 F6 F7 F8 ⊢
  generalize w2.heap.size = g8 at F8 ⊢
  have E := Lib.hid (show EuR w W2 g5 X Y M X Y 1 0 false (some ⟨g6, 0, none⟩) (words X).length (some ⟨g7, 0, none⟩) (words Y).length (some ⟨g8, 0, none⟩) 1 none 0 from ⟨P.out, EI.start X Y, F6.out, F7.out, F8.out, Wd.nil _, HM.out.1, HM.out.2, R5.out⟩)
  clear P R5 F6 F7 F8
  go_wp2
  go_loopg [6, 7, 8, 9, 10] Y (fun gk v6 v7 v8 v9 v10 wr => ∃ f s one two minus F cf S cs O co T ct, v6 = .slice F (words f).length cf ∧ v7 = .slice S (words s).length cs ∧ v8 = .slice O (words one).length co ∧ v9 = .slice T (words two).length ct ∧ v10 = .bool minus ∧ EuR w wr g5 X Y M f s one two minus F cf S cs O co T ct ∧ s ≤ gk)
  case atStart => exact ⟨X, Y, 1, 0, false, _, _, _, _, _, _, _, _, rfl, rfl, by rw [HW1.out], by rw [words_zero]; rfl, rfl, E.out, Nat.le_refl _⟩
  case round =>
    clear E
    obtain ⟨f, s, one, two, minus, F, cf, S, cs, O, co, T, ct, rfl, rfl, rfl, rfl, rfl, hE, hgk⟩ := hrel
    have E := Lib.hid hE
    clear hE
    have lf : (words f).length ≤ 1000001 := Nat.le_trans (words_mono E.out.fM) HML.out
    have ls : (words s).length ≤ 1000001 := Nat.le_trans (words_mono E.out.sM) HML.out
    have hle := E.out.ei.le HBP.out
    have lY : (words Y).length ≤ 1000001 := Nat.le_trans (words_mono HM.out.2) HML.out
    have lo : (words one).length ≤ 1000002 := Nat.le_trans (words_mono hle.1) (sum_len (k := 1000001) lY lY)
    have lt : (words two).length ≤ 1000001 := Nat.le_trans (words_mono hle.2) lY
    clear hle lY
    by_cases hs : s = 0
    · subst hs
      obtain ⟨rfl, h2, h3⟩ := E.out.ei.done HBP.out
      have HR := Lib.hid (And.intro h2 h3)
      rw [show (words 0).length = 0 by rw [words_zero]; rfl]
      have r0 := E.out.res.r0
      have r1 := E.out.res.r1
      have r2 := E.out.res.f0
      have r3 := E.out.res.f1
      clear h2 h3 lf ls lo lt
      go_wp2
      refine bodyPost_ret (v := .tuple #[.slice F (words (Nat.gcd X Y)).length cf, .agg #[.bool minus, .slice O (words one).length co]]) (by simp [results, Try.results114, go_sem, r0, r1]) rfl ?_
      exact ⟨F, cf, minus, O, co, one, rfl, E.out.wf.store r0 r1 _ _, E.out.wo.store r0 r1 _ _, HR.out.1, HR.out.2, below_store E.out.below HG5.out _ _⟩
    · have ls0 := len_pos.2 hs
      have HS := Lib.hid hs
      have HGK := Lib.hid hgk
      clear hs hgk
      go_wp2_with fail
      refine (stepsAtOnce_c F S _ cf _ cs (words f) (words s) wr E.out.wf.rd E.out.ws.rd (words_canon _) (words_canon _) (by omega) (by omega)).mono ?_
      rw [val_words, val_words]
      rintro e w1 ⟨u0, v0, u1, v1, odd, rfl, hb, b1, b2, b3, b4, hq⟩
      have HQ := Lib.hid hq
      have S11 := Lib.hid (St5.new w1 u0 v0 u1 v1 odd)
      have hb2 := hb.trans ((below_alloc w1 (.cells #[.int .u64 (u0 : Int), .int .u64 (v0 : Int), .int .u64 (u1 : Int), .int .u64 (v1 : Int), .bool odd] 127)).mono hb.size)
      replace E := Lib.hid (E.out.next hb2)
      clear hb hb2 hq
      go_upto_region 6 with (fail)
      generalize w1.alloc (.cells #[.int .u64 (u0 : Int), .int .u64 (v0 : Int), .int .u64 (u1 : Int), .int .u64 (v1 : Int), .bool odd] 127) = W1 at E S11 ⊢
      generalize w1.heap.size = g11 at S11 ⊢
      by_cases hv0 : v0 = 0
      · subst hv0
        have y1 := S11.out.c1
        rw [show ((0 : Nat) : Int) = 0 from rfl] at y1
        clear HQ S11
        go_wp2_with fail
        refine (divide_c F S _ cf _ cs (words f) (words s) _ E.out.wf.rd E.out.ws.rd (words_canon _) (words_canon _) (by omega) (by omega) ls0).mono ?_
        rw [val_words, val_words]
        rintro e w2 ⟨Q, cq, R, cr, rfl, q1, q2, q3, r1, r2, r3, hb⟩
        have WQ := Lib.hid (Wd.mk q1 q2 q3)
        have WR := Lib.hid (Wd.mk r1 r2 r3)
        replace E := Lib.hid (E.out.next hb)
        have lq : (words (f / s)).length ≤ 1000001 := Nat.le_trans (words_mono (Nat.div_le_self f s)) lf
        clear hb q1 q2 q3 r1 r2 r3 y1
        go_wp2_with fail
        refine (multiply_c Q T _ cq _ ct (words (f / s)) (words two) _ WQ.out.rd E.out.wt.rd (words_canon _) (words_canon _) (by omega) (by omega) WQ.out.le E.out.wt.le WQ.out.top E.out.wt.top).mono ?_
        rw [val_words, val_words]
        rintro e w3 ⟨A3, c3, rfl, p1, p2, p3, hb, -⟩
        replace E := Lib.hid (E.out.next hb)
        replace WR := Lib.hid (WR.out.below hb)
        have W3 := Lib.hid (Wd.mk p1 p2 p3)
        have lp := mul_len lq lt
        clear hb p1 p2 p3 WQ
        go_wp2_with fail
        refine (add_c O A3 _ co _ c3 (words one) (words (f / s * two)) _ E.out.wo.rd W3.out.rd (by omega) (by omega)).mono ?_
        rw [val_words, val_words]
        rintro e w4 ⟨A4, c4, rfl, s1, s2, s3, hb, -⟩
        replace E := Lib.hid (E.out.next hb)
        replace WR := Lib.hid (WR.out.below hb)
        have W4 := Lib.hid (Wd.mk s1 s2 s3)
        clear hb s1 s2 s3 W3 lp lq
        go_wp2
        go_roundg (f % s)
        case measure => have := HGK.out; have := Nat.mod_lt f (Nat.pos_of_ne_zero HS.out); omega
        case rel => exact ⟨s, f % s, two, one + f / s * two, !minus, S, cs, R, cr, T, ct, A4, c4, rfl, rfl, rfl, rfl, rfl, ⟨E.out.below, E.out.ei.div (Nat.pos_of_ne_zero HS.out), E.out.ws, WR.out, E.out.wt, W4.out, E.out.sM, Nat.le_trans (Nat.mod_le f s) E.out.fM, E.out.res⟩, Nat.le_refl _⟩
      · obtain ⟨a', b', hg⟩ := HQ.out.resolve_left hv0
        have HG := Lib.hid hg
        have t1 : ((v0 : Int) != 0) = true := by rw [bne_iff_ne]; omega
        have HM2 := Lib.hid (E.out.ei.many hg)
        have HML2 := Lib.hid (many_le hg)
        clear hg hv0 HQ
        have y0 := S11.out.c0
        have y1 := S11.out.c1
        have y2 := S11.out.c2
        have y3 := S11.out.c3
        have y4 := S11.out.c4
        go_wp2_with fail
        refine (rests_w (odd := odd) E.out.wf.rd E.out.ws.rd (by omega) (by omega) (by rw [val_words, val_words]; exact HG.out)).mono ?_
        rintro e w2 ⟨A2, c2, B2, d2, rfl, q1, q2, q3, r1, r2, r3, hb⟩
        have WA := Lib.hid (Wd.mk q1 q2 q3)
        have WB := Lib.hid (Wd.mk r1 r2 r3)
        replace E := Lib.hid (E.out.next hb)
        replace S11 := Lib.hid (S11.out.next hb)
        clear hb q1 q2 q3 r1 r2 r3 y0 y1 y2 y3 y4
        have y0 := S11.out.c0
        have y1 := S11.out.c1
        have y2 := S11.out.c2
        have y3 := S11.out.c3
        have y4 := S11.out.c4
        go_wp2_with fail
        refine (factors_c O T _ co _ ct (words one) (words two) u0 v0 u1 v1 _ E.out.wo.rd E.out.wt.rd (by omega) (by omega) HG.out.b1 HG.out.b2 HG.out.b3 HG.out.b4 odd).mono ?_
        rw [val_words, val_words]
        rintro e w3 ⟨A3, c3, B3, d3, rfl, q1, q2, q3, r1, r2, r3, hb⟩
        have WC := Lib.hid (Wd.mk q1 q2 q3)
        have WD := Lib.hid (Wd.mk r1 r2 r3)
        replace E := Lib.hid (E.out.next hb)
        replace S11 := Lib.hid (S11.out.next hb)
        replace WA := Lib.hid (WA.out.below hb)
        replace WB := Lib.hid (WB.out.below hb)
        clear hb q1 q2 q3 r1 r2 r3 y0 y1 y2 y3 y4
        have y4 := S11.out.c4
        go_wp2
        go_roundg b'
        case measure => have := HGK.out; have := HM2.out.2; omega
        case rel => exact ⟨a', b', u0 * one + v0 * two, u1 * one + v1 * two, minus != odd, A2, c2, B2, d2, A3, c3, B3, d3, rfl, rfl, rfl, rfl, rfl, ⟨E.out.below, HM2.out.1, WA.out, WB.out, WC.out, WD.out, Nat.le_trans HML2.out.1 E.out.sM, Nat.le_trans HML2.out.2 E.out.sM, E.out.res⟩, Nat.le_refl _⟩
end Go.Proofs.Ytbblckaplddggaa
