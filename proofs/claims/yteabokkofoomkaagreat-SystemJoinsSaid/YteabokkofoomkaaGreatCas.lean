import Derived.Test.YteabokkofoomkaaGreatCar
import Derived.Test.YteabokkofoomkaaGreatCao
import Derived.Test.YteabokkofoomkaaGreatCab
import Derived.Test.YteabokkofoomkaaGreatCag
import Derived.Test.YteabokkofoomkaaGreatCac
import Derived.Test.YteabokkofoomkaaGreatCaa
import Derived.Deep.Slices
import Derived.Deep.QuietTactic
import Derived.BigQuiet
set_option maxRecDepth 100000
namespace Go.Proofs.YteabokkofoomkaaGreat
open Go.RowKit Go.ChangeShapes Go.WideShapes Go.ChangeAt Go.Deep
theorem cells_int9 : Tryz.prog.cellsOf 3 = 1 := by kernel_rfl
theorem cells_term9 : Tryz.prog.cellsOf 70 = 3 := by kernel_rfl
theorem cells_poly9 : Tryz.prog.cellsOf 45 = 2 := by kernel_rfl
theorem cells_link9 : Tryz.prog.cellsOf 51 = 3 := by kernel_rfl
theorem cells_system9 : Tryz.prog.cellsOf 24 = 2 := by kernel_rfl
theorem cells_ints9 : Tryz.prog.cellsOf 48 = 1 := by kernel_rfl
theorem cells_words9 : Tryz.prog.cellsOf 56 = 1 := by kernel_rfl
theorem cells_bool9 : Tryz.prog.cellsOf 4 = 1 := by kernel_rfl
theorem cells_terms9 : Tryz.prog.cellsOf 43 = 1 := by kernel_rfl
theorem cells_polys9 : Tryz.prog.cellsOf 49 = 1 := by kernel_rfl
theorem choose_list {X : Type} (d : X) {n : Nat} {p : Nat → X → Prop} (h : ∀ i, i < n → ∃ x, p i x) : ∃ xs : List X, xs.length = n ∧ ∀ i, i < n → p i (xs.getD i d) := by
 classical
 refine ⟨(List.range n).map fun i => if h' : i < n then (h i h').choose else d, by simp, fun i hi => ?_⟩
 rw [List.getD_eq_getElem?_getD, List.getElem?_map, List.getElem?_range hi]
 simp only [Option.map_some, Option.getD_some, dif_pos hi]
 exact (h i hi).choose_spec
section
variable {H : Type} {enc : TypeId × Value → H} {W : World} {base fuel : Nat} {spare : Nat → Bool} {held : Bool} {v : Value} {y : DataW H × List MemPlace}
theorem open_row {t e : TypeId} {k : Nat} (ht : Tryz.prog.underlying t = some (.slice e)) (hk : Tryz.prog.cellsOf e = k) (hk0 : 0 < k) (h : DataW.trod enc Tryz.prog W base spare held fuel t [v] = some y) :
 ∃ A n c, v = .slice A n c ∧ n ≤ c ∧ c ≤ 9223372036854775807 ∧ (0 < n → ∃ b o, A = some ⟨b, o, none⟩ ∧ b < W.heap.size ∧ ∀ i, i < n → ∃ cs fuel' y', cs.length = k ∧ (∀ j, j < k → W.cell? ⟨b, o + i * k + j, none⟩ = cs[j]?) ∧ DataW.trod enc Tryz.prog W base spare held fuel' e cs = some y') := by
 rcases open_slice ht h with ⟨hcs, _⟩ | ⟨a, len, cap, m, n, D, Pl, hcs, _, hl, hm, hmm, _, hi⟩
 · injection hcs with hv
   exact ⟨none, 0, 0, hv, Nat.le_refl _, by omega, fun h => absurd h (by omega)⟩
 · injection hcs with hv
   rw [hk] at hi
   have hlen : len ≤ m := by rw [hmm]; split <;> omega
   refine ⟨some a, len, cap, hv, hl, by simpa [maxLen] using hm, fun h0 => ?_⟩
   obtain ⟨cs0, hc0, _⟩ := hi 0 (by omega)
   obtain ⟨_, hl0, hat0⟩ := World.cells?_some hc0
   have c0 := hat0 0 hk0
   rw [List.getElem?_eq_getElem (show 0 < cs0.length by omega)] at c0
   obtain ⟨pa, hb⟩ := plain_of_cell c0
   rw [show (a.add (0 * k)).add 0 = a by rw [Nat.zero_mul]; rfl] at pa hb
   refine ⟨a.block, a.off, by rw [← pa], hb, fun i hin => ?_⟩
   obtain ⟨cs, hc, ht⟩ := hi i (by omega)
   obtain ⟨_, hl1, hat⟩ := World.cells?_some hc
   refine ⟨cs, n, _, hl1, fun j hj => ?_, ht⟩
   have ea : ∀ q, a.add q = ⟨a.block, a.off + q, none⟩ := fun q => by
    unfold Addr.add
    split
    · rename_i h1; subst h1; exact pa
    · rfl
   have e1 := hat j hj
   rw [Go.Deep.add_add, ea, ← Nat.add_assoc] at e1
   exact e1
theorem open_ints9 (h : DataW.trod enc Tryz.prog W base spare held fuel 48 [v] = some y) : ∃ A n c zs, v = .slice A n c ∧ RdI W A n zs ∧ n ≤ c ∧ c ≤ 9223372036854775807 := by
 obtain ⟨A, n, c, hv, hn, hc, hi⟩ := open_row Tryz.underlying48 cells_int9 (by decide) h
 rcases Nat.eq_zero_or_pos n with rfl | h0
 · exact ⟨A, 0, c, [], hv, RdI.nil _ _, hn, hc⟩
 obtain ⟨b, o, rfl, hb, hi⟩ := hi h0
 obtain ⟨zs, hl, hz⟩ := choose_list (X := Int) 0 (p := fun i z => W.cell? ⟨b, o + i, none⟩ = some (.int .i64 z)) (n := n) (fun i hin => by
  obtain ⟨cs, f', y', hl, hcs, ht⟩ := hi i hin
  match cs, hl with
  | [u], _ =>
    obtain ⟨z, e, _⟩ := DataW.trod_int Tryz.underlying3 ht
    injection e with e
    subst e
    refine ⟨z, ?_⟩
    have := hcs 0 (by omega)
    rwa [Nat.mul_one] at this)
 exact ⟨_, n, c, zs, hv, ⟨hl, fun _ => ⟨b, o, rfl, hb, hz⟩⟩, hn, hc⟩
theorem open_num9 {cs : List Value} (h : DataW.trod enc Tryz.prog W base spare held fuel 58 cs = some y) :
 ∃ s A n c xs, cs = [.bool s, .slice A n c] ∧ Rd W A n xs ∧ n ≤ c ∧ c ≤ 9223372036854775807 := by
 obtain ⟨y0, y1, n, _, hl, h0, h1⟩ := trod_struct2 Tryz.underlying58 h
 rw [cells_number] at hl
 match cs, hl with
 | [v0, v1], _ =>
   dsimp only at h0 h1
   rw [cells_bool9] at h0
   rw [cells_words9] at h1
   obtain ⟨s, e0, _⟩ := DataW.trod_bool Tryz.underlying4 h0
   obtain ⟨A, n, c, xs, e1, hr, hn, hc⟩ := open_words (v := v1) h1
   have e0' : [v0] = [Value.bool s] := e0
   injection e0' with e0'
   subst e0' e1
   exact ⟨s, A, n, c, xs, rfl, hr, hn, hc⟩
theorem open_term9 {cs : List Value} (h : DataW.trod enc Tryz.prog W base spare held fuel 70 cs = some y) :
 ∃ (t : Trm) (A : Option Addr) (n c : Nat) (B : Option Addr) (m d : Nat), cs = [.bool t.s, .slice A n c, .slice B m d] ∧ Rd W A n t.xs ∧ n ≤ c ∧ c ≤ 9223372036854775807 ∧ RdI W B m t.es ∧ m ≤ d ∧ d ≤ 9223372036854775807 := by
 obtain ⟨y0, y1, n, _, hl, h0, h1⟩ := trod_struct2 Tryz.underlying70 h
 rw [cells_term9] at hl
 match cs, hl with
 | [v0, v1, v2], _ =>
   dsimp only at h0 h1
   rw [cells_number] at h0
   rw [cells_ints9] at h1
   obtain ⟨s, A, n, c, xs, e0, hr, hn, hc⟩ := open_num9 h0
   obtain ⟨B, m, d, es, e1, hr1, hm, hd⟩ := open_ints9 (v := v2) h1
   have e0' : [v0, v1] = [Value.bool s, .slice A n c] := e0
   injection e0' with e2 e3
   injection e3 with e3
   subst e2 e3 e1
   exact ⟨⟨s, xs, es⟩, A, n, c, B, m, d, rfl, hr, hn, hc, hr1, hm, hd⟩
theorem open_terms9 (h : DataW.trod enc Tryz.prog W base spare held fuel 43 [v] = some y) : ∃ A n c ts, v = .slice A n c ∧ RdT W A n ts ∧ n ≤ c ∧ c ≤ 9223372036854775807 := by
 obtain ⟨A, n, c, hv, hn, hc, hi⟩ := open_row Tryz.underlying43 cells_term9 (by decide) h
 rcases Nat.eq_zero_or_pos n with rfl | h0
 · exact ⟨A, 0, c, [], hv, RdT.nil _ _, hn, hc⟩
 obtain ⟨b, o, rfl, hb, hi⟩ := hi h0
 obtain ⟨ts, hl, hz⟩ := choose_list (X := Trm) ⟨false, [], []⟩ (p := fun i t => ∃ A1 n1 c1 B1 m1 d1, TrmIs W b (o + i * 3) t A1 n1 c1 B1 m1 d1) (n := n) (fun i hin => by
  obtain ⟨cs, f', y', hl, hcs, ht⟩ := hi i hin
  obtain ⟨t, A1, n1, c1, B1, m1, d1, rfl, q1, q2, q3, q4, q5, q6⟩ := open_term9 ht
  exact ⟨t, A1, n1, c1, B1, m1, d1, hcs 0 (by omega), hcs 1 (by omega), hcs 2 (by omega), q1, q2, q3, q4, q5, q6⟩)
 exact ⟨_, n, c, ts, hv, ⟨hl, fun _ => ⟨b, o, rfl, hb, hz⟩⟩, hn, hc⟩
theorem open_nums9 (h : DataW.trod enc Tryz.prog W base spare held fuel 25 [v] = some y) : ∃ A n c ns, v = .slice A n c ∧ RdN W A n ns ∧ n ≤ c ∧ c ≤ 9223372036854775807 := by
 obtain ⟨A, n, c, hv, hn, hc, hi⟩ := open_row Tryz.underlying25 cells_number (by decide) h
 rcases Nat.eq_zero_or_pos n with rfl | h0
 · exact ⟨A, 0, c, [], hv, ⟨rfl, fun h => absurd h (by omega)⟩, hn, hc⟩
 obtain ⟨b, o, rfl, hb, hi⟩ := hi h0
 obtain ⟨ts, hl, hz⟩ := choose_list (X := Nmr) ⟨false, []⟩ (p := fun i t => ∃ A1 n1 c1, NmIs W b (o + i * 2) t A1 n1 c1) (n := n) (fun i hin => by
  obtain ⟨cs, f', y', hl, hcs, ht⟩ := hi i hin
  obtain ⟨s, A1, n1, c1, xs, rfl, q1, q2, q3⟩ := open_num9 ht
  exact ⟨⟨s, xs⟩, A1, n1, c1, hcs 0 (by omega), hcs 1 (by omega), q1, q2, q3⟩)
 exact ⟨_, n, c, ts, hv, ⟨hl, fun _ => ⟨b, o, rfl, hb, hz⟩⟩, hn, hc⟩
theorem open_poly9 {cs : List Value} (h : DataW.trod enc Tryz.prog W base spare held fuel 45 cs = some y) :
 ∃ (p : Ply) (A : Option Addr) (n c : Nat), cs = [.int .i64 p.V, .slice A n c] ∧ RdT W A n p.ts ∧ n ≤ c ∧ c ≤ 9223372036854775807 := by
 obtain ⟨y0, y1, n, _, hl, h0, h1⟩ := trod_struct2 Tryz.underlying45 h
 rw [cells_poly9] at hl
 match cs, hl with
 | [v0, v1], _ =>
   dsimp only at h0 h1
   rw [cells_int9] at h0
   rw [cells_terms9] at h1
   obtain ⟨z, e0, _⟩ := DataW.trod_int Tryz.underlying3 h0
   obtain ⟨A, n, c, ts, e1, hr, hn, hc⟩ := open_terms9 (v := v1) h1
   have e0' : [v0] = [Value.int .i64 z] := e0
   injection e0' with e0'
   subst e0' e1
   exact ⟨⟨z, ts⟩, A, n, c, rfl, hr, hn, hc⟩
theorem open_polys9 (h : DataW.trod enc Tryz.prog W base spare held fuel 49 [v] = some y) : ∃ A n c ps, v = .slice A n c ∧ RdP W A n ps ∧ n ≤ c ∧ c ≤ 9223372036854775807 := by
 obtain ⟨A, n, c, hv, hn, hc, hi⟩ := open_row Tryz.underlying49 cells_poly9 (by decide) h
 rcases Nat.eq_zero_or_pos n with rfl | h0
 · exact ⟨A, 0, c, [], hv, ⟨rfl, fun h => absurd h (by omega)⟩, hn, hc⟩
 obtain ⟨b, o, rfl, hb, hi⟩ := hi h0
 obtain ⟨ps, hl, hz⟩ := choose_list (X := Ply) ⟨0, []⟩ (p := fun i t => ∃ A1 n1 c1, PlyIs W b (o + i * 2) t A1 n1 c1) (n := n) (fun i hin => by
  obtain ⟨cs, f', y', hl, hcs, ht⟩ := hi i hin
  obtain ⟨p, A1, n1, c1, rfl, q1, q2, q3⟩ := open_poly9 ht
  exact ⟨p, A1, n1, c1, hcs 0 (by omega), hcs 1 (by omega), q1, q2, q3⟩)
 exact ⟨_, n, c, ps, hv, ⟨hl, fun _ => ⟨b, o, rfl, hb, hz⟩⟩, hn, hc⟩
theorem open_link9 {cs : List Value} (h : DataW.trod enc Tryz.prog W base spare held fuel 51 cs = some y) :
 ∃ (l : Lnk) (B : Option Addr) (m d : Nat) (C : Option Addr) (p q : Nat), cs = [.int .i64 l.kind, .slice B m d, .slice C p q] ∧ RdI W B m l.vs ∧ RdP W C p l.ps ∧ m ≤ d ∧ d ≤ 9223372036854775807 ∧ p ≤ q ∧ q ≤ 9223372036854775807 := by
 obtain ⟨xs, n, _, _, hl, hxs, hf⟩ := DataW.trod_struct Tryz.underlying51 h
 rw [cells_link9] at hl
 match cs, hl with
 | [v0, v1, v2], _ =>
   have g : ∀ j : Nat, j < 3 → ∃ y, xs[j]? = some y := fun j hj => ⟨_, List.getElem?_eq_getElem (by rw [hxs]; exact hj)⟩
   obtain ⟨y0, e0⟩ := g 0 (by omega)
   obtain ⟨y1, e1⟩ := g 1 (by omega)
   obtain ⟨y2, e2⟩ := g 2 (by omega)
   have h0 : DataW.trod enc Tryz.prog W base spare held n 3 (([v0, v1, v2].drop 0).take (Tryz.prog.cellsOf 3)) = some y0 := (hf 0 _ rfl).trans e0
   have h1 : DataW.trod enc Tryz.prog W base spare held n 48 (([v0, v1, v2].drop 1).take (Tryz.prog.cellsOf 48)) = some y1 := (hf 1 _ rfl).trans e1
   have h2 : DataW.trod enc Tryz.prog W base spare held n 49 (([v0, v1, v2].drop 2).take (Tryz.prog.cellsOf 49)) = some y2 := (hf 2 _ rfl).trans e2
   rw [cells_int9] at h0
   rw [cells_ints9] at h1
   rw [cells_polys9] at h2
   obtain ⟨z, f0, _⟩ := DataW.trod_int Tryz.underlying3 h0
   obtain ⟨B, m, d, vs, f1, r1, m1, d1⟩ := open_ints9 (v := v1) h1
   obtain ⟨C, p, q, ps, f2, r2, m2, d2⟩ := open_polys9 (v := v2) h2
   have f0' : [v0] = [Value.int .i64 z] := f0
   injection f0' with f0'
   subst f0' f1 f2
   exact ⟨⟨z, vs, ps⟩, B, m, d, C, p, q, rfl, r1, r2, m1, d1, m2, d2⟩
theorem open_links9 (h : DataW.trod enc Tryz.prog W base spare held fuel 22 [v] = some y) : ∃ A n c ls, v = .slice A n c ∧ RdL W A n ls ∧ n ≤ c ∧ c ≤ 9223372036854775807 := by
 obtain ⟨A, n, c, hv, hn, hc, hi⟩ := open_row Tryz.underlying22 cells_link9 (by decide) h
 rcases Nat.eq_zero_or_pos n with rfl | h0
 · exact ⟨A, 0, c, [], hv, ⟨rfl, fun h => absurd h (by omega)⟩, hn, hc⟩
 obtain ⟨b, o, rfl, hb, hi⟩ := hi h0
 obtain ⟨ls, hl, hz⟩ := choose_list (X := Lnk) ⟨0, [], []⟩ (p := fun i t => ∃ B1 m1 d1 C1 p1 q1, LnkIs W b (o + i * 3) t B1 m1 d1 C1 p1 q1) (n := n) (fun i hin => by
  obtain ⟨cs, f', y', hl, hcs, ht⟩ := hi i hin
  obtain ⟨l, B, m, d, C, p, q, rfl, q1, q2, q3, q4, q5, q6⟩ := open_link9 ht
  exact ⟨l, B, m, d, C, p, q, hcs 0 (by omega), hcs 1 (by omega), hcs 2 (by omega), q1, q2, q3, q4, q5, q6⟩)
 exact ⟨_, n, c, ls, hv, ⟨hl, fun _ => ⟨b, o, rfl, hb, hz⟩⟩, hn, hc⟩
end
theorem open_system {H : Type} {enc : TypeId × Value → H} {W : World} {r : Reach} {b0 base : Nat} {spare : Nat → Bool} {held : Bool} {v : Value} {d : DataW H} {p : List MemPlace}
 (hv : Value.okWide Tryz.prog W r b0 24 v) (h : DataW.Trod enc Tryz.prog W base spare held 24 v d p) :
 ∃ V A n c ls, v = .agg #[.int .i64 V, .slice A n c] ∧ RdL W A n ls ∧ n ≤ c ∧ c ≤ 9223372036854775807 := by
 obtain ⟨c0, c1, y0, y1, m, rfl, rfl, rfl, hy0, hy1⟩ := Joins.open_agg2 Tryz.underlying24 (by kernel_rfl) cells_system9 hv h
 obtain ⟨V, e0, _⟩ := DataW.trod_int Tryz.underlying3 hy0
 obtain ⟨A, n, c, ls, rfl, hr, hn, hc⟩ := open_links9 hy1
 injection e0 with e0
 subst e0
 exact ⟨V, A, n, c, ls, rfl, hr, hn, hc⟩
theorem open_nums {H : Type} {enc : TypeId × Value → H} {W : World} {r : Reach} {b0 base : Nat} {spare : Nat → Bool} {held : Bool} {v : Value} {d : DataW H} {p : List MemPlace}
 (hv : Value.okWide Tryz.prog W r b0 25 v) (h : DataW.Trod enc Tryz.prog W base spare held 25 v d p) : ∃ A n c ns, v = .slice A n c ∧ RdN W A n ns ∧ n ≤ c ∧ c ≤ 9223372036854775807 := by
 obtain ⟨a, l, c, rfl⟩ := okWide_slice Tryz.underlying25 hv
 obtain ⟨fuel, hf⟩ := h
 exact open_nums9 hf
theorem keep_system {H : Type} {enc : TypeId × Value → H} {W W' : World} {sp : Nat → Bool} {v : Value} {d : DataW H} {p : List MemPlace} (h : DataW.Trod enc Tryz.prog W 0 (fun _ => true) true 24 v d p) (hb : Below W.heap.size W W') (hlt : ∀ x ∈ p, x.block < W.heap.size)
 (hs : ∀ x ∈ p, sp x.block = true) : DataW.Trod enc Tryz.prog W' 0 sp true 24 v d p :=
 WideElems.Trod_stays laid_out (by kernel_rfl) (of_decide_eq_true (by kernel_rfl)) h (fun x hx => hb.same (hlt x hx)) hs
theorem keep_nums {H : Type} {enc : TypeId × Value → H} {W W' : World} {sp : Nat → Bool} {v : Value} {d : DataW H} {p : List MemPlace} (h : DataW.Trod enc Tryz.prog W 0 (fun _ => true) true 25 v d p) (hb : Below W.heap.size W W') (hlt : ∀ x ∈ p, x.block < W.heap.size)
 (hs : ∀ x ∈ p, sp x.block = true) : DataW.Trod enc Tryz.prog W' 0 sp true 25 v d p :=
 WideElems.Trod_stays laid_out (by kernel_rfl) (of_decide_eq_true (by kernel_rfl)) h (fun x hx => hb.same (hlt x hx)) hs
end Go.Proofs.YteabokkofoomkaaGreat
set_option maxRecDepth 100000
namespace Go.Proofs.YteabokkofoomkaaGreat
open Go.RowKit
theorem words_split2 {V : Nat} (h : V < 18446744073709551616) : (V = 0 ∧ words V = []) ∨ (∃ x, x ≠ 0 ∧ x < 4294967296 ∧ V = x ∧ words V = [x]) ∨ (∃ x y, x < 4294967296 ∧ y < 4294967296 ∧ y ≠ 0 ∧ V = x + 4294967296 * y ∧ words V = [x, y]) := by
 by_cases h0 : V = 0
 · exact .inl ⟨h0, by rw [h0, words_zero]⟩
 · by_cases h1 : V < 4294967296
   · refine .inr (.inl ⟨V, h0, h1, rfl, ?_⟩)
     rw [words_pos h0, Nat.mod_eq_of_lt h1, Nat.div_eq_of_lt h1, words_zero]
   · refine .inr (.inr ⟨V % 4294967296, V / 4294967296, by omega, by omega, by omega, by omega, ?_⟩)
     rw [words_pos h0, words_pos (show V / 4294967296 ≠ 0 by omega), Nat.mod_eq_of_lt (show V / 4294967296 < 4294967296 by omega), Nat.div_eq_of_lt (show V / 4294967296 < 4294967296 by omega), words_zero]
theorem words_more {V : Nat} (h : 18446744073709551616 ≤ V) : 2 < (words V).length := by
 rw [words_len_lt, pw_succ, pw_one]
 omega
def smallB (s : Bool) (V : Nat) : Bool := if s then decide (V ≤ 9223372036854775808) else decide (V < 9223372036854775808)
theorem smallB_iff {s : Bool} {V : Nat} : smallB s V = true ↔ -9223372036854775808 ≤ sgn s V ∧ sgn s V < 9223372036854775808 := by
 cases s <;> simp [smallB, sgn] <;> omega
def SmallRes (w : World) (s : Bool) (V : Nat) (e : Ending) (w' : World) : Prop :=
 e = .returned (.tuple #[.int .i64 (if smallB s V = true then sgn s V else 0), .bool (smallB s V)]) ∧ Below w.heap.size w w'
theorem small_yes {w w' : World} {s : Bool} {V : Nat} (h : smallB s V = true) {z : Int} (hz : z = sgn s V) (hb : Below w.heap.size w w') : SmallRes w s V (.returned (.tuple #[.int .i64 z, .bool true])) w' := by
 subst hz
 exact ⟨by rw [h, if_pos rfl], hb⟩
theorem small_no {w w' : World} {s : Bool} {V : Nat} (h : smallB s V = false) (hb : Below w.heap.size w w') : SmallRes w s V (.returned (.tuple #[.int .i64 0, .bool false])) w' :=
 ⟨by rw [h, if_neg (by simp)], hb⟩
theorem neg_wrap {X : Int} (h0 : 0 < X) (h1 : X ≤ 9223372036854775808) : wrap64 (IntKind.u64.wrap (-X)) = -X := by
 have e : IntKind.u64.wrap (-X) = 18446744073709551616 - X := by
  show (-X) % 18446744073709551616 = _
  omega
 rw [e]
 unfold wrap64
 omega
set_option maxHeartbeats 4000000 in
theorem Small_bad (s : Bool) (A : Option Addr) (n c : Nat) (xs : List Nat) (w : World) (h : Rd w A n xs) (hv : validB s xs = false) :
 Calls Tryz.prog 77 #[.agg #[.bool s, .slice A n c]] w fun e w' => e = .returned (.tuple #[.int .i64 0, .bool false]) ∧ Below w.heap.size w w' := by
 have P := Lib.hid (below_alloc w (.cells #[.bool s, .slice A n c] 58))
 have HR := Lib.hid (h.below P.out)
 have HV := Lib.hid hv
 clear h hv
 go_enter Tryz.func77, Tryz.ntmps77
 go_upto_region 1 with (fail)
 have a0 : (w.alloc (.cells #[.bool s, .slice A n c] 58)).cell? ⟨w.heap.size, 0, none⟩ = some (.bool s) := by go_simp
 have a1 : (w.alloc (.cells #[.bool s, .slice A n c] 58)).cell? ⟨w.heap.size, 1, none⟩ = some (.slice A n c) := by go_simp
 generalize w.alloc (.cells #[.bool s, .slice A n c] 58) = W0 at P HR a0 a1 ⊢
 go_wp2_with fail
 refine (valid_c s A n c xs W0 HR.out).mono ?_
 rintro e w1 ⟨rfl, hb⟩
 replace P := Lib.hid (P.out.trans (hb.mono P.out.size))
 clear hb a0 a1
 rw [HV.out]
 go_wp2
 go_ret2
 exact ⟨rfl, P.out⟩
set_option maxHeartbeats 4000000 in
theorem Small_c (s : Bool) (A : Option Addr) (n c V : Nat) (w : World) (h : Rd w A n (words V)) (hv : validB s (words V) = true) :
 Calls Tryz.prog 77 #[.agg #[.bool s, .slice A n c]] w (SmallRes w s V) := by
 have hl := h.len
 have P := Lib.hid (below_alloc w (.cells #[.bool s, .slice A n c] 58))
 have HR := Lib.hid (h.below P.out)
 have HV := Lib.hid hv
 have HLT := Lib.hid (show w.heap.size < (w.alloc (.cells #[.bool s, .slice A n c] 58)).heap.size by simp)
 have hsV : s = true → V ≠ 0 := by
  rintro rfl rfl
  simp [validB, words_zero] at hv
 clear h hv
 go_enter Tryz.func77, Tryz.ntmps77
 go_upto_region 1 with (fail)
 have a0 : (w.alloc (.cells #[.bool s, .slice A n c] 58)).cell? ⟨w.heap.size, 0, none⟩ = some (.bool s) := by go_simp
 have a1 : (w.alloc (.cells #[.bool s, .slice A n c] 58)).cell? ⟨w.heap.size, 1, none⟩ = some (.slice A n c) := by go_simp
 generalize w.alloc (.cells #[.bool s, .slice A n c] 58) = W0 at P HR HLT a0 a1 ⊢
 have HL := Lib.hid hl
 have HSV := Lib.hid hsV
 clear hl hsV
 go_wp2_with fail
 refine (valid_c s A n c (words V) W0 HR.out).mono ?_
 rintro e w1 ⟨rfl, hb⟩
 replace P := Lib.hid (P.out.trans (hb.mono P.out.size))
 replace HR := Lib.hid (HR.out.below hb)
 replace a0 := (hb.cell (p := ⟨w.heap.size, 0, none⟩) HLT.out).trans a0
 replace a1 := (hb.cell (p := ⟨w.heap.size, 1, none⟩) HLT.out).trans a1
 clear hb
 rw [HV.out]
 rcases Nat.lt_or_ge V 18446744073709551616 with hV | hV
 · rcases words_split2 hV with ⟨rfl, hw⟩ | ⟨x, hx0, hx, hVx, hw⟩ | ⟨x, y, hx, hy, hy0, hxV, hw⟩
   · have hn : n = 0 := by have := HL.out; rw [hw] at this; exact this.symm
     subst hn
     have hs : s = false := by
      cases s
      · rfl
      · exact absurd rfl (HSV.out rfl)
     subst hs
     have b1 : wrap64 0 = 0 := by unfold wrap64; rfl
     have hf := Lib.hid (show smallB false 0 = true from rfl)
     clear HR hV hw HSV HL
     go_wp2
     go_loop [4, 19] (fun u i => u = .int .u64 0 ∧ i = .int .i64 0) (fun _ i => (1 - intOf i).toNat)
     case atStart => exact ⟨rfl, rfl⟩
     case round =>
      obtain ⟨rfl, rfl⟩ := hrel
      go_wp2
      go_ret2
      exact small_yes hf.out (by simp [sgn]) P.out
   · have hn : n = 1 := by have := HL.out; rw [hw] at this; exact this.symm
     subst hn hVx
     obtain ⟨b, o, rfl, _, hc⟩ := HR.out.of (by omega)
     have hc0 := hc 0 (by omega)
     rw [hw, Nat.add_zero, show ([V].getD 0 0 : Nat) = V from rfl] at hc0
     obtain ⟨X, hX⟩ : ∃ X : Int, X = (V : Int) := ⟨_, rfl⟩
     rw [← hX] at hc0
     have x0 : 0 < X := by omega
     have x1 : X < 4294967296 := by omega
     have HX := Lib.hid hX
     have o1 : bits BinOp.or IntKind.u64 0 X = X := by
      rw [hX, show (0 : Int) = ((0 : Nat) : Int) from rfl, u64_or_nat _ _ (by omega) (by omega)]; simp
     have b1 : wrap64 X = X := by unfold wrap64; omega
     clear HR hc hV hw HSV HL hX hx hx0
     cases s
     · have hf := Lib.hid (show smallB false V = true by have := HX.out; simp [smallB]; omega)
       have q1 : decide (X < 9223372036854775808) = true := decide_eq_true (by omega)
       go_wp2
       go_loop [4, 19] (fun u i => (u = .int .u64 0 ∧ i = .int .i64 0) ∨ (u = .int .u64 X ∧ i = .int .i64 1)) (fun _ i => (2 - intOf i).toNat)
       case atStart => exact .inl ⟨rfl, rfl⟩
       case round =>
        rcases hrel with ⟨rfl, rfl⟩ | ⟨rfl, rfl⟩
        · go_wp2
          go_round
          case rel => exact .inr ⟨rfl, rfl⟩
          case measure => simp [intOf]
        · go_wp2
          go_ret2
          exact small_yes hf.out (by rw [HX.out]; rfl) P.out
     · have hf := Lib.hid (show smallB true V = true by have := HX.out; simp [smallB]; omega)
       have q1 : decide (X ≤ 9223372036854775808) = true := decide_eq_true (by omega)
       go_wp2
       go_loop [4, 19] (fun u i => (u = .int .u64 0 ∧ i = .int .i64 0) ∨ (u = .int .u64 X ∧ i = .int .i64 1)) (fun _ i => (2 - intOf i).toNat)
       case atStart => exact .inl ⟨rfl, rfl⟩
       case round =>
        rcases hrel with ⟨rfl, rfl⟩ | ⟨rfl, rfl⟩
        · go_wp2
          go_round
          case rel => exact .inr ⟨rfl, rfl⟩
          case measure => simp [intOf]
        · go_wp2
          go_ret2
          exact small_yes hf.out (by rw [neg_wrap (by omega) (by omega), HX.out]; rfl) P.out
   · have hn : n = 2 := by have := HL.out; rw [hw] at this; exact this.symm
     subst hn
     obtain ⟨b, o, rfl, _, hc⟩ := HR.out.of (by omega)
     have o2 := shl_or x y hx hy
     rw [← hxV] at o2
     have hc0 := hc 0 (by omega)
     rw [hw, Nat.add_zero, show ([x, y].getD 0 0 : Nat) = x from rfl] at hc0
     have hc1 := hc 1 (by omega)
     rw [hw, show ([x, y].getD 1 0 : Nat) = y from rfl] at hc1
     obtain ⟨X, hX⟩ : ∃ X : Int, X = (x : Int) := ⟨_, rfl⟩
     obtain ⟨Y, hY⟩ : ∃ Y : Int, Y = (y : Int) := ⟨_, rfl⟩
     obtain ⟨Vi, hVi⟩ : ∃ Y : Int, Y = (V : Int) := ⟨_, rfl⟩
     have x1 : 0 ≤ X := by omega
     have x2 : X < 4294967296 := by omega
     have y1 : 0 ≤ Y := by omega
     have y2 : Y < 4294967296 := by omega
     have v1 : 0 < Vi := by omega
     have v2 : Vi < 18446744073709551616 := by omega
     have o1 : bits BinOp.or IntKind.u64 0 X = X := by
      rw [hX, show (0 : Int) = ((0 : Nat) : Int) from rfl, u64_or_nat _ _ (by omega) (by omega)]; simp
     rw [← hX] at hc0
     rw [← hY] at hc1
     rw [← hX, ← hY, ← hVi] at o2
     have HX := Lib.hid hVi
     clear HR hc hV hw HSV HL hX hY hVi hx hy hy0 hxV
     cases s
     · rcases Int.lt_or_le Vi 9223372036854775808 with hq | hq
       · have hf := Lib.hid (show smallB false V = true by have := HX.out; simp [smallB]; omega)
         have q1 : decide (Vi < 9223372036854775808) = true := decide_eq_true hq
         have b1 : wrap64 Vi = Vi := by unfold wrap64; omega
         go_wp2
         go_loop [4, 19] (fun u i => (u = .int .u64 0 ∧ i = .int .i64 0) ∨ (u = .int .u64 X ∧ i = .int .i64 1) ∨ (u = .int .u64 Vi ∧ i = .int .i64 2)) (fun _ i => (3 - intOf i).toNat)
         case atStart => exact .inl ⟨rfl, rfl⟩
         case round =>
          rcases hrel with ⟨rfl, rfl⟩ | ⟨rfl, rfl⟩ | ⟨rfl, rfl⟩
          · go_wp2
            go_round
            case rel => exact (by simp)
            case measure => simp [intOf]
          · go_wp2
            go_round
            case rel => exact (by simp)
            case measure => simp [intOf]
          · go_wp2
            go_ret2
            exact small_yes hf.out (by rw [HX.out]; rfl) P.out
       · have hf := Lib.hid (show smallB false V = false by have := HX.out; simp [smallB]; omega)
         have q1 : decide (Vi < 9223372036854775808) = false := decide_eq_false (by omega)
         go_wp2
         go_loop [4, 19] (fun u i => (u = .int .u64 0 ∧ i = .int .i64 0) ∨ (u = .int .u64 X ∧ i = .int .i64 1) ∨ (u = .int .u64 Vi ∧ i = .int .i64 2)) (fun _ i => (3 - intOf i).toNat)
         case atStart => exact .inl ⟨rfl, rfl⟩
         case round =>
          rcases hrel with ⟨rfl, rfl⟩ | ⟨rfl, rfl⟩ | ⟨rfl, rfl⟩
          · go_wp2
            go_round
            case rel => exact (by simp)
            case measure => simp [intOf]
          · go_wp2
            go_round
            case rel => exact (by simp)
            case measure => simp [intOf]
          · go_wp2
            go_ret2
            exact small_no hf.out P.out
     · rcases Int.lt_or_le 9223372036854775808 Vi with hq | hq
       · have hf := Lib.hid (show smallB true V = false by have := HX.out; simp [smallB]; omega)
         have q1 : decide (Vi ≤ 9223372036854775808) = false := decide_eq_false (by omega)
         go_wp2
         go_loop [4, 19] (fun u i => (u = .int .u64 0 ∧ i = .int .i64 0) ∨ (u = .int .u64 X ∧ i = .int .i64 1) ∨ (u = .int .u64 Vi ∧ i = .int .i64 2)) (fun _ i => (3 - intOf i).toNat)
         case atStart => exact .inl ⟨rfl, rfl⟩
         case round =>
          rcases hrel with ⟨rfl, rfl⟩ | ⟨rfl, rfl⟩ | ⟨rfl, rfl⟩
          · go_wp2
            go_round
            case rel => exact (by simp)
            case measure => simp [intOf]
          · go_wp2
            go_round
            case rel => exact (by simp)
            case measure => simp [intOf]
          · go_wp2
            go_ret2
            exact small_no hf.out P.out
       · have hf := Lib.hid (show smallB true V = true by have := HX.out; simp [smallB]; omega)
         have q1 : decide (Vi ≤ 9223372036854775808) = true := decide_eq_true hq
         go_wp2
         go_loop [4, 19] (fun u i => (u = .int .u64 0 ∧ i = .int .i64 0) ∨ (u = .int .u64 X ∧ i = .int .i64 1) ∨ (u = .int .u64 Vi ∧ i = .int .i64 2)) (fun _ i => (3 - intOf i).toNat)
         case atStart => exact .inl ⟨rfl, rfl⟩
         case round =>
          rcases hrel with ⟨rfl, rfl⟩ | ⟨rfl, rfl⟩ | ⟨rfl, rfl⟩
          · go_wp2
            go_round
            case rel => exact (by simp)
            case measure => simp [intOf]
          · go_wp2
            go_round
            case rel => exact (by simp)
            case measure => simp [intOf]
          · go_wp2
            go_ret2
            exact small_yes hf.out (by rw [neg_wrap (by omega) (by omega), HX.out]; rfl) P.out
 · have hn : 2 < n := by have := HL.out; rw [← this]; exact words_more hV
   have hf := Lib.hid (show smallB s V = false by cases s <;> simp [smallB] <;> omega)
   clear HR HSV HL hV
   go_wp2
   go_ret2
   exact small_no hf.out P.out
end Go.Proofs.YteabokkofoomkaaGreat
namespace Go.Proofs.YteabokkofoomkaaGreat
def psi (a : Int) : Nat → Int
 | 0 => 0
 | 1 => 1
 | n + 2 => 2 * a * psi a (n + 1) - psi a n
def chi (a : Int) : Nat → Int
 | 0 => 1
 | 1 => a
 | n + 2 => 2 * a * chi a (n + 1) - chi a n
theorem psi_two (a : Int) (n : Nat) : psi a (n + 2) = 2 * a * psi a (n + 1) - psi a n := by rw [psi]
theorem chi_two (a : Int) (n : Nat) : chi a (n + 2) = 2 * a * chi a (n + 1) - chi a n := by rw [chi]
theorem both_succ (a : Int) (n : Nat) : psi a (n + 1) = chi a n + a * psi a n ∧ chi a (n + 1) = a * chi a n + (a * a - 1) * psi a n := by
 induction n with
 | zero => simp [psi, chi]
 | succ n ih =>
   obtain ⟨h1, h2⟩ := ih
   rw [psi_two, chi_two, h1, h2]
   constructor <;> grind
theorem psi_succ (a : Int) (n : Nat) : psi a (n + 1) = chi a n + a * psi a n := (both_succ a n).1
theorem chi_succ (a : Int) (n : Nat) : chi a (n + 1) = a * chi a n + (a * a - 1) * psi a n := (both_succ a n).2
theorem both_add (a : Int) (m n : Nat) : psi a (m + n) = psi a m * chi a n + chi a m * psi a n ∧ chi a (m + n) = chi a m * chi a n + (a * a - 1) * (psi a m * psi a n) := by
 induction n with
 | zero => simp [psi, chi]
 | succ n ih =>
   obtain ⟨h1, h2⟩ := ih
   rw [← Nat.add_assoc, psi_succ, chi_succ, psi_succ, chi_succ, h1, h2]
   constructor <;> grind
theorem pell (a : Int) (n : Nat) : chi a n * chi a n - (a * a - 1) * (psi a n * psi a n) = 1 := by
 induction n with
 | zero => simp [psi, chi]
 | succ n ih => rw [psi_succ, chi_succ]; grind
theorem psi_even (a : Int) (m : Nat) : psi a (2 * m) = psi a m * (psi a (m + 1) - (2 * a * psi a m - psi a (m + 1))) := by
 rw [Nat.two_mul, (both_add a m m).1, psi_succ]; grind
theorem psi_odd (a : Int) (m : Nat) : psi a (2 * m + 1) = (psi a (m + 1) - psi a m) * (psi a (m + 1) + psi a m) := by
 have h := pell a m
 rw [show 2 * m + 1 = m + (m + 1) by omega, (both_add a m (m + 1)).1, psi_succ, chi_succ]; grind
theorem psi_dbl (a : Int) (m : Nat) : psi a (2 * m) = 2 * (chi a m * psi a m) := by
 rw [Nat.two_mul, (both_add a m m).1]; grind
theorem before_eq (a : Int) (k : Nat) : 2 * a * psi a (k + 1) - psi a (k + 2) = psi a k := by rw [psi_two]; omega
theorem diff_eq (a : Int) (k : Nat) : psi a (k + 1) - (2 * a * psi a k - psi a (k + 1)) = 2 * chi a k := by rw [psi_succ]; grind
section
variable {a : Int} (ha : 2 ≤ a)
include ha
theorem grow (n : Nat) : 0 ≤ psi a n ∧ 1 ≤ chi a n ∧ psi a n + 1 ≤ psi a (n + 1) ∧ psi a n + 1 ≤ chi a n ∧ chi a n + 1 ≤ chi a (n + 1) := by
 induction n with
 | zero => simp [psi, chi]; omega
 | succ n ih =>
   obtain ⟨h1, h2, h3, h4, h5⟩ := ih
   have s1 := psi_succ a n
   have s2 := chi_succ a n
   have s3 := psi_succ a (n + 1)
   have s4 := chi_succ a (n + 1)
   have e1 := Int.mul_nonneg (show (0 : Int) ≤ a - 2 by omega) h1
   have e2 := Int.mul_nonneg (show (0 : Int) ≤ a - 2 by omega) (show (0 : Int) ≤ chi a n - 1 by omega)
   have e3 := Int.mul_nonneg (show (0 : Int) ≤ (a - 2) * a by exact Int.mul_nonneg (by omega) (by omega)) h1
   have g1 : 0 ≤ psi a (n + 1) := by omega
   have g2 : 1 ≤ chi a (n + 1) := by omega
   have e4 := Int.mul_nonneg (show (0 : Int) ≤ a - 2 by omega) g1
   have e5 := Int.mul_nonneg (show (0 : Int) ≤ a - 2 by omega) (show (0 : Int) ≤ chi a (n + 1) - 1 by omega)
   have e6 := Int.mul_nonneg (show (0 : Int) ≤ (a - 2) * a by exact Int.mul_nonneg (by omega) (by omega)) g1
   refine ⟨g1, g2, ?_, ?_, ?_⟩ <;> grind
theorem psi_nn (n : Nat) : 0 ≤ psi a n := (grow ha n).1
theorem chi_ge (n : Nat) : 1 ≤ chi a n := (grow ha n).2.1
theorem psi_le {m n : Nat} (h : m ≤ n) : psi a m ≤ psi a n := by
 induction n with
 | zero => obtain rfl : m = 0 := by omega
           exact Int.le_refl _
 | succ n ih =>
   have := (grow ha n).2.2.1
   by_cases e : m = n + 1
   · subst e; exact Int.le_refl _
   · have := ih (by omega); omega
theorem chi_le {m n : Nat} (h : m ≤ n) : chi a m ≤ chi a n := by
 induction n with
 | zero => obtain rfl : m = 0 := by omega
           exact Int.le_refl _
 | succ n ih =>
   have := (grow ha n).2.2.2.2
   by_cases e : m = n + 1
   · subst e; exact Int.le_refl _
   · have := ih (by omega); omega
theorem psi_lt {m n : Nat} (h : m < n) : psi a m < psi a n := by
 have h1 := psi_le ha (show m + 1 ≤ n by omega)
 have h2 := (grow ha m).2.2.1
 omega
theorem psi_ge_one {n : Nat} (h : 1 ≤ n) : 1 ≤ psi a n := by
 have := psi_le ha h
 simpa [psi] using this
theorem chi_ge_a {n : Nat} (h : 1 ≤ n) : a ≤ chi a n := by
 have := chi_le ha h
 simpa [chi] using this
theorem psi_two_le (n : Nat) (h : 2 ≤ n) : 2 * a ≤ psi a n := by
 have := psi_le ha h
 simpa [psi] using this
theorem twice_le (k : Nat) : 2 * a * psi a k ≤ psi a (2 * k) := by
 rw [psi_dbl a]
 rcases Nat.eq_zero_or_pos k with h | h
 · subst h; simp [psi]
 · have := Int.mul_le_mul_of_nonneg_right (chi_ge_a ha h) (psi_nn ha k)
   grind
theorem before_le (k : Nat) : -1 ≤ 2 * a * psi a k - psi a (k + 1) ∧ 2 * a * psi a k - psi a (k + 1) ≤ psi a k := by
 rcases k with _ | k
 · simp [psi]
 · rw [before_eq a]
   have := psi_nn ha k
   have := psi_le ha (show k ≤ k + 1 by omega)
   omega
theorem diff_le {k n : Nat} (h : 2 * k ≤ n) (h2 : 2 ≤ n) : 2 * chi a k ≤ psi a n := by
 rcases Nat.eq_zero_or_pos k with h0 | h0
 · subst h0
   have := psi_two_le ha n h2
   simp [chi]; omega
 · have h1 := psi_le ha h
   rw [psi_dbl a] at h1
   have h3 := Int.mul_le_mul_of_nonneg_left (psi_ge_one ha h0) (show 0 ≤ chi a k by have := chi_ge ha k; omega)
   omega
theorem sum_le (k : Nat) : psi a (k + 1) + psi a k ≤ psi a (2 * k + 1) := by
 rw [psi_odd]
 have h1 := (grow ha k).2.2.1
 have h2 := psi_nn ha k
 have h3 := psi_nn ha (k + 1)
 have := Int.mul_le_mul_of_nonneg_right (show 1 ≤ psi a (k + 1) - psi a k by omega) (show 0 ≤ psi a (k + 1) + psi a k by omega)
 omega
end
end Go.Proofs.YteabokkofoomkaaGreat
set_option maxRecDepth 100000
namespace Go.Proofs.YteabokkofoomkaaGreat
theorem psi_up {a : Int} (ha : 2 ≤ a) {b : Nat} (hb : a.natAbs < 2 ^ b) : ∀ j : Nat, (psi a j).natAbs < 2 ^ ((b + 1) * j) ∧ (psi a (j + 1)).natAbs < 2 ^ ((b + 1) * (j + 1)) := by
 intro j
 induction j with
 | zero =>
   refine ⟨by show (0 : Int).natAbs < _; simp, ?_⟩
   show (1 : Int).natAbs < 2 ^ ((b + 1) * 1)
   rw [Nat.mul_one, Nat.pow_succ]
   have : 0 < 2 ^ b := Nat.pow_pos (by omega)
   show 1 < _
   omega
 | succ j ih =>
   refine ⟨ih.2, ?_⟩
   show (psi a (j + 2)).natAbs < 2 ^ ((b + 1) * (j + 2))
   have h2 := psi_two a j
   have h3 := psi_nn ha j
   have h4 := psi_nn ha (j + 1)
   have h5 := psi_nn ha (j + 2)
   have h6 : (psi a (j + 2)).natAbs ≤ (2 * a).natAbs * (psi a (j + 1)).natAbs := by
    rw [← Int.natAbs_mul]
    generalize 2 * a * psi a (j + 1) = q at *
    omega
   have h7 : (2 * a).natAbs < 2 ^ (b + 1) := by rw [Nat.pow_succ]; omega
   have h8 : (2 * a).natAbs * (psi a (j + 1)).natAbs < 2 ^ (b + 1) * 2 ^ ((b + 1) * (j + 1)) := Nat.mul_lt_mul'' h7 ih.2
   rw [← Nat.pow_add, show b + 1 + (b + 1) * (j + 1) = (b + 1) * (j + 2) by rw [show j + 2 = (j + 1) + 1 from rfl, Nat.mul_succ (b + 1) (j + 1)]; omega] at h8
   omega
theorem psi_dn {a : Int} (ha : 2 ≤ a) {b : Nat} (hb : 2 ^ b ≤ a.natAbs) : ∀ j : Nat, 2 ^ (b * j) ≤ (psi a (j + 1)).natAbs := by
 intro j
 induction j with
 | zero => show 2 ^ (b * 0) ≤ (1 : Int).natAbs; simp
 | succ j ih =>
   have h2 := psi_succ a (j + 1)
   have h3 := chi_ge ha (j + 1)
   have h4 := psi_nn ha (j + 1)
   have h5 : (0 : Int) ≤ a * psi a (j + 1) := Int.mul_nonneg (by omega) h4
   have h6 : a.natAbs * (psi a (j + 1)).natAbs ≤ (psi a (j + 1 + 1)).natAbs := by
    rw [← Int.natAbs_mul]
    generalize a * psi a (j + 1) = q at *
    omega
   have h7 := Nat.mul_le_mul hb ih
   rw [← Nat.pow_add, show b + b * j = b * (j + 1) by rw [Nat.mul_succ]; omega] at h7
   omega
theorem idx_low {a y : Int} (ha : 2 ≤ a) (hy : 0 ≤ y) {j : Nat} (h : j < (blen y.natAbs - 1) / (blen a.natAbs + 1)) : psi a j < y := by
 have h1 := (psi_up ha (blen_lt a.natAbs) j).1
 have h2 : (blen a.natAbs + 1) * (j + 1) ≤ blen y.natAbs - 1 := by
  have h3 : j + 1 ≤ (blen y.natAbs - 1) / (blen a.natAbs + 1) := h
  rw [Nat.mul_comm]
  exact (Nat.le_div_iff_mul_le (by omega)).1 h3
 have h3 : y.natAbs ≠ 0 := fun e => by
  rw [e] at h2
  have : blen 0 = 0 := rfl
  rw [this, Nat.mul_succ] at h2
  omega
 have h4 := blen_ge h3
 have h5 : (2 : Nat) ^ ((blen a.natAbs + 1) * j) ≤ 2 ^ (blen y.natAbs - 1) := Nat.pow_le_pow_right (by omega) (Nat.le_trans (Nat.mul_le_mul_left _ (by omega)) h2)
 have h6 := psi_nn ha j
 generalize (2 : Nat) ^ ((blen a.natAbs + 1) * j) = q1 at *
 generalize (2 : Nat) ^ (blen y.natAbs - 1) = q2 at *
 omega
theorem idx_high {a y : Int} (ha : 2 ≤ a) {n : Nat} (h : psi a n = y) : n ≤ blen y.natAbs / (blen a.natAbs - 1) + 1 := by
 rcases Nat.eq_zero_or_pos n with h0 | h0
 · rw [h0]; exact Nat.zero_le _
 obtain ⟨k, rfl⟩ : ∃ k, n = k + 1 := ⟨n - 1, by omega⟩
 have hb : 2 ≤ blen a.natAbs := by
  rcases Nat.lt_or_ge 1 (blen a.natAbs) with h1 | h1
  · exact h1
  · have := blen_le.1 h1
    omega
 have h1 := psi_dn ha (blen_ge (v := a.natAbs) (by omega)) k
 rw [h] at h1
 have h2 := blen_lt y.natAbs
 have h3 : (blen a.natAbs - 1) * k < blen y.natAbs := (Nat.pow_lt_pow_iff_right (by omega : 1 < 2)).1 (Nat.lt_of_le_of_lt h1 h2)
 have h4 : k ≤ blen y.natAbs / (blen a.natAbs - 1) := (Nat.le_div_iff_mul_le (by omega)).2 (by rw [Nat.mul_comm]; omega)
 omega
end Go.Proofs.YteabokkofoomkaaGreat
set_option maxRecDepth 100000
namespace Go.Proofs.YteabokkofoomkaaGreat
end Go.Proofs.YteabokkofoomkaaGreat
