/-
  Proved: for every machine and every string, valid or not, the law RegisterTexts of the thirteenth stage returns true and leaves its arguments as they were: where the machine has at most 100 instructions and the string at most 2000 bytes, Text and Parse of the package register return the documented results, or the documented errors, Parse of Text is the machine, and what Parse accepts is the text of what it returns; the example of the chapter holds. The listed tables and errors of the library hold what the text of the program lays there (the tie of the card); no other condition.
-/
import Derived.Deep.Slices
import Derived.Deep.Fields
import Derived.HandedShaped
import Derived.Handed
import Derived.SizedLaws
import Derived.Test.YthjdnidapbhdlaaDoorIv
import Derived.Test.YthjdnidapbhdlaaDoorArgs
import Derived.Test.YthjdnidapbhdlaaDoorCards
import Derived.Test.YthjdnidapbhdlaaDoorTie
import Derived.LaidMore
import Derived.Lay
import Derived.ChangeMaps5
import Derived.MakeChecks
import Derived.Lib.LaidTab
import Derived.Stop.LaidErr
import Derived.Stop.Joined
import Derived.SevenTiedAt
section
set_option maxRecDepth 100000
namespace Go.Proofs.YthjdnidapbhdlaaDoor
open Go.RowKit Go.ChangeShapes Go.WideShapes Go.ChangeAt Go.Deep
theorem cells_int : Tryd.prog.cellsOf 3 = 1 := by kernel_rfl
theorem cells_insn : Tryd.prog.cellsOf 70 = 4 := by kernel_rfl
theorem cells_machine : Tryd.prog.cellsOf 43 = 2 := by kernel_rfl
theorem cells_state : Tryd.prog.cellsOf 46 = 2 := by kernel_rfl
/-- a list of ints that came in -/
theorem open_zs {H : Type} {enc : TypeId × Value → H} {W : World} {base fuel : Nat} {spare : Nat → Bool} {held : Bool} {v : Value} {y : DataW H × List MemPlace}
    (h : DataW.trod enc Tryd.prog W base spare held fuel 44 [v] = some y) : ∃ A n c zs, v = .slice A n c ∧ RdI W A n zs ∧ n ≤ c ∧ c ≤ 9223372036854775807 := by
  rcases open_ints Tryd.underlying44 Tryd.underlying3 cells_int h with ⟨hcs, _⟩ | ⟨a, len, cap, zs, hcs, _, hl, hm, hz, _, hcell, _⟩
  · injection hcs with hv
    exact ⟨none, 0, 0, [], hv, RdI.nil _ _, Nat.le_refl _, by omega⟩
  · injection hcs with hv
    have hlen : len ≤ zs.length := by rw [hz]; split <;> omega
    refine ⟨some a, len, cap, zs.take len, hv, ⟨by simp; omega, fun h0 => ?_⟩, hl, by simpa [maxLen] using hm⟩
    have c0 := hcell 0 (by omega)
    obtain ⟨pa, hb⟩ := plain_of_cell c0
    rw [show a.add 0 = a from rfl] at pa hb
    refine ⟨a.block, a.off, by rw [← pa], hb, fun k hk => ?_⟩
    have ck := hcell k (by omega)
    have ea : a.add k = ⟨a.block, a.off + k, none⟩ := by
      unfold Addr.add
      split
      · rename_i h1; subst h1; exact pa
      · rfl
    rw [ea] at ck
    rw [ck]
    simp [List.getD_eq_getElem?_getD, hk]
/-- one instruction that came in -/
theorem open_insn {H : Type} {enc : TypeId × Value → H} {W : World} {base fuel : Nat} {spare : Nat → Bool} {held : Bool} {cs : List Value} {y : DataW H × List MemPlace}
    (h : DataW.trod enc Tryd.prog W base spare held fuel 70 cs = some y) : ∃ x : Ins, cs = [.int .i64 x.op, .int .i64 x.reg, .int .i64 x.nx, .int .i64 x.zr] := by
  obtain ⟨xs, n, _, _, hl, hxs, hf⟩ := DataW.trod_struct Tryd.underlying70 h
  rw [cells_insn] at hl
  match cs, hl with
  | [v0, v1, v2, v3], _ =>
    have g : ∀ j : Nat, j < 4 → ∃ y, xs[j]? = some y := fun j hj => ⟨_, List.getElem?_eq_getElem (by rw [hxs]; exact hj)⟩
    obtain ⟨y0, e0⟩ := g 0 (by omega)
    obtain ⟨y1, e1⟩ := g 1 (by omega)
    obtain ⟨y2, e2⟩ := g 2 (by omega)
    obtain ⟨y3, e3⟩ := g 3 (by omega)
    have h0 := (hf 0 _ rfl).trans e0
    have h1 := (hf 1 _ rfl).trans e1
    have h2 := (hf 2 _ rfl).trans e2
    have h3 := (hf 3 _ rfl).trans e3
    obtain ⟨z0, f0, _⟩ := DataW.trod_int Tryd.underlying3 h0
    obtain ⟨z1, f1, _⟩ := DataW.trod_int Tryd.underlying3 h1
    obtain ⟨z2, f2, _⟩ := DataW.trod_int Tryd.underlying3 h2
    obtain ⟨z3, f3, _⟩ := DataW.trod_int Tryd.underlying3 h3
    refine ⟨⟨z0, z1, z2, z3⟩, ?_⟩
    have k0 : [v0] = [Value.int .i64 z0] := f0
    have k1 : [v1] = [Value.int .i64 z1] := f1
    have k2 : [v2] = [Value.int .i64 z2] := f2
    have k3 : [v3] = [Value.int .i64 z3] := f3
    injection k0 with k0
    injection k1 with k1
    injection k2 with k2
    injection k3 with k3
    subst k0 k1 k2 k3
    rfl
/-- a list of instructions that came in -/
theorem open_code {H : Type} {enc : TypeId × Value → H} {W : World} {base fuel : Nat} {spare : Nat → Bool} {held : Bool} {v : Value} {y : DataW H × List MemPlace}
    (h : DataW.trod enc Tryd.prog W base spare held fuel 41 [v] = some y) : ∃ A n c cs, v = .slice A n c ∧ RdC W A n cs ∧ n ≤ c ∧ c ≤ 9223372036854775807 := by
  rcases open_slice Tryd.underlying41 h with ⟨hcs, _⟩ | ⟨a, len, cap, m, n, D, Pl, hcs, _, hl, hm, hmm, _, hi⟩
  · injection hcs with hv
    exact ⟨none, 0, 0, [], hv, ⟨rfl, fun h => absurd h (by omega)⟩, Nat.le_refl _, by omega⟩
  · injection hcs with hv
    rw [cells_insn] at hi
    have hlen : len ≤ m := by rw [hmm]; split <;> omega
    have hx : ∀ i, ∃ x : Ins, i < len → W.cell? (a.add (i * 4)) = some (.int .i64 x.op) ∧ W.cell? (a.add (i * 4 + 1)) = some (.int .i64 x.reg) ∧ W.cell? (a.add (i * 4 + 2)) = some (.int .i64 x.nx) ∧ W.cell? (a.add (i * 4 + 3)) = some (.int .i64 x.zr) := by
      intro i
      by_cases hin : i < len
      · obtain ⟨cs', hc, ht⟩ := hi i (by omega)
        obtain ⟨x, rfl⟩ := open_insn ht
        obtain ⟨_, _, hat⟩ := World.cells?_some hc
        have ad : ∀ j, (a.add (i * 4)).add j = a.add (i * 4 + j) := fun j => Go.Deep.add_add a (i * 4) j
        refine ⟨x, fun _ => ⟨?_, ?_, ?_, ?_⟩⟩
        · exact hat 0 (by omega)
        · rw [← ad]; exact hat 1 (by omega)
        · rw [← ad]; exact hat 2 (by omega)
        · rw [← ad]; exact hat 3 (by omega)
      · exact ⟨⟨0, 0, 0, 0⟩, fun h => absurd h hin⟩
    refine ⟨some a, len, cap, (List.range len).map (fun i => (hx i).choose), hv, ⟨by simp, fun h0 => ?_⟩, hl, by simpa [maxLen] using hm⟩
    have c0 := ((hx 0).choose_spec h0).1
    obtain ⟨pa, hb⟩ := plain_of_cell c0
    rw [show a.add (0 * 4) = a from rfl] at pa hb
    refine ⟨a.block, a.off, by rw [← pa], hb, fun k hk => ?_⟩
    have ea : ∀ q, a.add q = ⟨a.block, a.off + q, none⟩ := fun q => by
      unfold Addr.add
      split
      · rename_i h1; subst h1; exact pa
      · rfl
    have e : insAt ((List.range len).map (fun i => (hx i).choose)) k = (hx k).choose := by
      unfold insAt
      simp [List.getD_eq_getElem?_getD, hk]
    have hs := (hx k).choose_spec hk
    rw [e]
    generalize (hx k).choose = x at hs ⊢
    obtain ⟨c0, c1, c2, c3⟩ := hs
    rw [ea] at c0 c1 c2 c3
    exact ⟨c0, c1, c2, c3⟩
/-- a machine that came in -/
theorem open_machine {H : Type} {enc : TypeId × Value → H} {W : World} {r : Reach} {b0 base : Nat} {spare : Nat → Bool} {held : Bool} {v : Value} {d : DataW H} {p : List MemPlace}
    (hv : Value.okWide Tryd.prog W r b0 43 v) (h : DataW.Trod enc Tryd.prog W base spare held 43 v d p) :
    ∃ R A n c cs, v = .agg #[.int .i64 R, .slice A n c] ∧ RdC W A n cs ∧ n ≤ c ∧ c ≤ 9223372036854775807 := by
  obtain ⟨c0, c1, y0, y1, m, rfl, rfl, rfl, hy0, hy1⟩ := Joins.open_agg2 Tryd.underlying43 (by kernel_rfl) cells_machine hv h
  obtain ⟨R, e0, _⟩ := DataW.trod_int Tryd.underlying3 hy0
  obtain ⟨A, n, c, cs, rfl, hr, hn, hc⟩ := open_code hy1
  injection e0 with e0
  subst e0
  exact ⟨R, A, n, c, cs, rfl, hr, hn, hc⟩
/-- a state that came in -/
theorem open_state {H : Type} {enc : TypeId × Value → H} {W : World} {r : Reach} {b0 base : Nat} {spare : Nat → Bool} {held : Bool} {v : Value} {d : DataW H} {p : List MemPlace}
    (hv : Value.okWide Tryd.prog W r b0 46 v) (h : DataW.Trod enc Tryd.prog W base spare held 46 v d p) :
    ∃ z A n c zs, v = .agg #[.int .i64 z, .slice A n c] ∧ RdI W A n zs ∧ n ≤ c ∧ c ≤ 9223372036854775807 := by
  obtain ⟨c0, c1, y0, y1, m, rfl, rfl, rfl, hy0, hy1⟩ := Joins.open_agg2 Tryd.underlying46 (by kernel_rfl) cells_state hv h
  obtain ⟨R, e0, _⟩ := DataW.trod_int Tryd.underlying3 hy0
  obtain ⟨A, n, c, zs, rfl, hr, hn, hc⟩ := open_zs hy1
  injection e0 with e0
  subst e0
  exact ⟨R, A, n, c, zs, rfl, hr, hn, hc⟩
theorem keep_machine {H : Type} {enc : TypeId × Value → H} {W W' : World} {sp : Nat → Bool} {v : Value} {d : DataW H} {p : List MemPlace} (h : DataW.Trod enc Tryd.prog W 0 (fun _ => true) true 43 v d p) (hb : Below W.heap.size W W') (hlt : ∀ x ∈ p, x.block < W.heap.size)
    (hs : ∀ x ∈ p, sp x.block = true) : DataW.Trod enc Tryd.prog W' 0 sp true 43 v d p :=
  WideElems.Trod_stays laid_out (by kernel_rfl) (of_decide_eq_true (by kernel_rfl)) h (fun x hx => hb.same (hlt x hx)) hs
theorem keep_state {H : Type} {enc : TypeId × Value → H} {W W' : World} {sp : Nat → Bool} {v : Value} {d : DataW H} {p : List MemPlace} (h : DataW.Trod enc Tryd.prog W 0 (fun _ => true) true 46 v d p) (hb : Below W.heap.size W W') (hlt : ∀ x ∈ p, x.block < W.heap.size)
    (hs : ∀ x ∈ p, sp x.block = true) : DataW.Trod enc Tryd.prog W' 0 sp true 46 v d p :=
  WideElems.Trod_stays laid_out (by kernel_rfl) (of_decide_eq_true (by kernel_rfl)) h (fun x hx => hb.same (hlt x hx)) hs
theorem keep_zs {H : Type} {enc : TypeId × Value → H} {W W' : World} {sp : Nat → Bool} {v : Value} {d : DataW H} {p : List MemPlace} (h : DataW.Trod enc Tryd.prog W 0 (fun _ => true) true 44 v d p) (hb : Below W.heap.size W W') (hlt : ∀ x ∈ p, x.block < W.heap.size)
    (hs : ∀ x ∈ p, sp x.block = true) : DataW.Trod enc Tryd.prog W' 0 sp true 44 v d p :=
  WideElems.Trod_stays laid_out (by kernel_rfl) (of_decide_eq_true (by kernel_rfl)) h (fun x hx => hb.same (hlt x hx)) hs
theorem ml_of {W : World} (h : W.ShapedOpen Tryd.prog) : Ml W := by
  obtain ⟨m, hm⟩ := Tryd.laysM145.s1_3 W h
  exact ⟨(plain_of_cell hm).2, m, hm⟩
/-- a list of ints as an argument -/
theorem open_list {H : Type} {enc : TypeId × Value → H} {W : World} {r : Reach} {b0 base : Nat} {spare : Nat → Bool} {held : Bool} {v : Value} {d : DataW H} {p : List MemPlace}
    (hv : Value.okWide Tryd.prog W r b0 44 v) (h : DataW.Trod enc Tryd.prog W base spare held 44 v d p) : ∃ A n c zs, v = .slice A n c ∧ RdI W A n zs ∧ n ≤ c ∧ c ≤ 9223372036854775807 := by
  obtain ⟨a, l, c, rfl⟩ := okWide_slice Tryd.underlying44 hv
  obtain ⟨fuel, hf⟩ := h
  exact open_zs hf
/-- a row that lists variables, its contract over worlds of the program's shape -/
theorem returnsInHanded_and_shaped {H : Type} {enc : TypeId × Value → H} {a : Assume} {C : Checked} {os : Os} {f : FuncId} {fn : Func} {s : ChangeSpec} {conds : List PathCond} {apart fresh handsOn again : Bool} {X : World → Array Value → Prop}
    (hX : ∀ (w w' : World) (args : Array Value), w.heap = w'.heap → X w args → X w' args)
    (own : ownKnob C.prog.godebug = none) (started : os.Started) (noInit : C.prog.inits.idxOf? f = none) (hfn : C.prog.funcs[f]? = some fn)
    (witness : ∃ (w : World) (tape : Tape) (i : Input), w.os = os ∧ (w.forCall tape i).Shaped C.prog ∧ i.vars = [] ∧ Input.okWide C.prog (w.forCall tape i) .any w.heap.size f i ∧
      ((s.pre enc C.prog fn conds apart (w.forCall tape i).memory i.args ∧ X (w.forCall tape i).memory i.args) ∧ sizedMet enc C.prog fn (OpenSpec.ofChange s) apart (w.forCall tape i).memory i.args) ∧ a.holds C.prog (lone (Frame.enter C.prog f i.args .normal) [] (w.forCall tape i)))
    (contract : ∀ (W : World) (base : Nat) (args : Array Value) (ds gs : List (DataW H)) (before : List MemPlace),
      (∀ (j : Nat) t v, fn.params[j]? = some t → args[j]? = some v → Value.okWide C.prog W .any base t v) →
      DataW.Whole enc C.prog fn.params.toList s.vars apart W args.toList ds gs before →
      conds.all (PathCond.test C.prog ⟨fn.params.toList, ds, s.plain.varTypes C.prog, gs⟩) = true →
      (DataW.weightsEach C.prog (fn.params.toList ++ s.plain.varTypes C.prog) (ds ++ gs)).all (· ≤ reachBytes) = true → X W args → W.ShapedOpen C.prog →
      a.holds C.prog (lone (Frame.enter C.prog f args .normal) [] W) →
      Calls C.prog f args W fun e W' => ∃ v, e = .returned v ∧ s.post enc C.prog fn apart fresh handsOn again W args v W') :
    ReturnsInHanded a C os f .any (fun w args => (s.pre enc C.prog fn conds apart w args ∧ X w args) ∧ sizedMet enc C.prog fn (OpenSpec.ofChange s) apart w args) (s.post enc C.prog fn apart fresh handsOn again) :=
  returnsInHanded_of_calls own started noInit witness fun w tape i _ hshape _ hok hpre hholds => by
    obtain ⟨_, _, _, fn2, h2, _, _, _, _, hval⟩ := hok
    obtain rfl : fn2 = fn := Option.some.inj (h2.symm.trans hfn)
    obtain ⟨⟨⟨ds, gs, before, hw, hc⟩, hx⟩, hz⟩ := hpre
    refine (contract (w.forCall tape i) w.heap.size i.args ds gs before hval (DataW.Whole.of_heap (w' := w.forCall tape i) (by rfl) hw) hc (hz.weights hw) (hX _ _ _ (by rfl) hx) hshape hholds).mono ?_
    rintro e W' ⟨v, rfl, hp⟩
    exact ChangeSpec.post_blind hp
end Go.Proofs.YthjdnidapbhdlaaDoor
end
namespace Go.Proofs.YthjdnidapbhdlaaDoor.registerTexts
open Go.ChangeShapes Go.WideShapes Go.ChangeAt Go.RowKit Go.Stop Go.ChangeMaps

theorem own : ownKnob Tryd.prog.godebug = none := by kernel_rfl
abbrev laid : List (String × DataW Unit) := Rows.registerTextsRow.laid
theorem laid_iface {n nm : String} {d : DataW Unit} {r : List (String × DataW Unit)} {W : World} {g : Nat} {ti : TypeId} {ms : Array (String × TypeId)}
    (h : laidMet Tryd.prog ((n, .iface nm d) :: r) W) (hg : Tryd.prog.globalNamed n = some g) (ht : (Tryd.prog.globals[g]?).map (·.type) = some ti) (hi : Tryd.prog.underlying ti = some (.interface ms)) : ∃ u v, W.cell? ⟨g, 0, none⟩ = some (.iface u v) := by
  obtain ⟨ps, ⟨g0, t0, cs0, f0, p0, q0, hg0, ht0, hv0, hd0, _, e0⟩, _, hrows⟩ := h
  obtain rfl := Option.some.inj (hg.symm.trans hg0)
  obtain rfl := Option.some.inj (ht.symm.trans ht0)
  obtain ⟨l0⟩ := cs0
  obtain ⟨f1, u, v, e, hn, h1⟩ := iface_of_trod hi hd0
  have hc := World.var?_cell hg0 hv0 0
  have e2 : l0 = [.iface u v] := e
  rw [e2] at hc
  exact ⟨u, v, hc⟩
theorem mw_of {W : World} (h : laidMetH Tryd.prog laid W) (hSh : W.ShapedOpen Tryd.prog) : Mw W := by
  rw [MakeChecks.laidMetH_plain _ _ _ (by kernel_rfl)] at h
  have h2 := h.tail.tail
  have h4 := h2.tail.tail
  have h5 := h4.tail
  have e : Rows.laid_internal_strconv_uint64pow10 = Lib.tabData (H := Unit) .u64 Lib.pow10Tab := rfl
  rw [e] at h2
  refine ⟨ml_of hSh, Lib.tabBelow_of_tabIs (Lib.tabIs_of_head (g := 0) (t := 187) (e := 97) (n := 20) (by kernel_rfl) (by kernel_rfl) (by kernel_rfl) (by kernel_rfl) (by kernel_rfl) (by kernel_rfl) h2), ?_, ?_⟩
  · exact laid_iface (ti := 84) h5 (by kernel_rfl) (by kernel_rfl) Tryd.underlying84
  · exact laid_iface (ti := 84) h4 (by kernel_rfl) (by kernel_rfl) Tryd.underlying84
/-- a world in which the listed variables hold what the text lays -/
theorem world_met (os : Os) (args : Array Value) : laidMetH Tryd.prog laid ((World.laidAll Tryd.prog os laid).forCall (fun _ _ => 0) ⟨#[], args, []⟩).memory := by
  rw [MakeChecks.laidMetH_plain _ _ _ (by kernel_rfl)]
  exact laidMet_laidAll _ (by kernel_rfl) (by kernel_rfl)

set_option maxRecDepth 100000 in
theorem lifted (os : Os) (started : os.Started) (H : Type) (enc : TypeId × Value → H) :
    ReturnsInHanded {} Tryd.checked os 5 .any (fun w args => (Rows.registerTextsSpec.pre enc Tryd.prog Tryd.f5 [] false w args ∧ laidMetH Tryd.prog laid w) ∧ sizedMet enc Tryd.prog Tryd.f5 (OpenSpec.ofChange Rows.registerTextsSpec) false w args) (Rows.registerTextsSpec.post enc Tryd.prog Tryd.f5 false true false false) := by
  refine returnsInHanded_and_shaped (C := Tryd.checked) (X := fun w _ => laidMetH Tryd.prog laid w) (fun _ _ _ hh h => h.of_heap hh) own started (by kernel_rfl) Tryd.func5
    (ChangeSpec.witness_shaped (enc := enc) (C := Tryd.checked) (os := os) (X := fun w _ => laidMetH Tryd.prog laid w) false (World.laidAll Tryd.prog os laid) #[.agg #[.int .i64 0, .slice none 0 0], .string ⟨#[]⟩] 8 (World.laidAll_os _ _ _) (World.shaped_of_ZipB (by kernel_rfl) (by kernel_rfl)) (by kernel_rfl) (by kernel_rfl) (by kernel_rfl) (world_met os _)) ?_
  intro W base args ds gs before hval0 hW _ _ hL hSh _
  have hval : ∀ (j : Nat) t v, Tryd.f5.params[j]? = some t → args[j]? = some v → Value.okWide Tryd.prog W .any base t v := hval0
  have hW' := hW
  obtain ⟨p, q, hA0, hV, rfl, _, _⟩ := hW
  have hA : DataW.TrodAll enc Tryd.prog W 0 (fun _ => true) true Tryd.f5.params.toList args.toList ds p := hA0
  rw [Tryd.params5] at hA hval
  have hmw : Mw W := mw_of hL hSh
  obtain ⟨v0, vs0, d0, ds0, p0, q0, hargs, rfl, rfl, h0, r0⟩ := trodAll_cons hA
  obtain ⟨v1, vs1, d1, ds1, p1, q1, rfl, rfl, rfl, h1, r1⟩ := trodAll_cons r0
  obtain ⟨rfl, rfl, rfl⟩ := trodAll_nil r1
  obtain rfl : args = #[v0, v1] := by cases args; simp_all
  obtain ⟨rfl, rfl⟩ := trodVars_none hV
  simp only [List.append_nil] at hW'
  have lt := hW'.lt
  obtain ⟨z0, A0, n0, c0, xs0, rfl, rd0, nc0, cm0⟩ := open_machine (hval 0 43 v0 rfl rfl) h0
  obtain ⟨a1, rfl, rfl, rfl, w1⟩ := open_string Tryd.underlying9 (hval 1 9 v1 rfl rfl) h1
  clear hA0 hval0
  refine (RegisterTexts_c z0 A0 n0 c0 xs0 a1 W rd0 hmw).mono fun e W' ⟨he, hg⟩ => ?_
  subst he
  refine ⟨_, rfl, post_below (pv := []) hW' hg (fun _ _ _ => (trodAll_cons_mk (shut_bool Tryd.underlying4 _) trodAll_mk0)) (fun sp hs => (trodAll_cons_mk (keep_machine h0 hg (fun x hx => lt x (by simp [hx])) (fun x hx => hs x (by simp [hx]))) (trodAll_cons_mk (shut_string Tryd.underlying9 w1) trodAll_mk0))) (fun _ _ => rfl) ?_
    (ok_one (by kernel_rfl) rfl (okWide_bool_mk Tryd.underlying4 _))⟩
  simp

theorem over : Rows.RegisterTextsSaid :=
  OpenClaim.holds_of_wide 5 Tryd.f5 rfl rfl rfl rfl rfl rfl rfl ⟨rfl, rfl, rfl, rfl, rfl⟩ rfl rfl rfl rfl rfl (by kernel_rfl) Tryd.func5 (by kernel_rfl)
    (of_decide_eq_true (by kernel_rfl)) (by unfold Func.isWrapper; first | (rw [if_pos (by decide +kernel)]; kernel_rfl) | (rw [if_neg (by decide +kernel)]; exact ⟨rfl, rfl⟩))
    (fun os started H enc _ => lifted os started H enc)

/-- the statement: the tied card -/
theorem proved : Rows.RegisterTextsCardSaid :=
  Claim7.holds_tied_plain_at .later [] [.data, .data, .data, .data, .sentinel, .sentinel, .pinned] true (true, "125290f20126b9346a8a576e0848549504e4e0c10c7c10e769ebd0686dd2a9e5") true
    over (fun _ h => by cases h) (by kernel_rfl) (fun _ h => by cases h) registerTexts_row_tie rfl ⟨rfl, rfl⟩ (by kernel_rfl) rfl
    (fun f fn hf hfn => by
      obtain rfl : f = 5 := Option.some.inj ((show Tryd.prog.funcNamed "arithmancy/arithmancylaw13.RegisterTexts" = some 5 by kernel_rfl).symm.trans hf) |>.symm
      obtain rfl : fn = Tryd.f5 := (Option.some.inj (Tryd.func5.symm.trans hfn)).symm
      exact ⟨by kernel_rfl, fun j t ht => by
        rw [Tryd.params5] at ht
        match j, ht with
        | 0, ht =>
          obtain rfl : t = 43 := by simpa using ht.symm
          exact (show Tryd.prog.wantsStandIn 43 = false by kernel_rfl)
        | 1, ht =>
          obtain rfl : t = 9 := by simpa using ht.symm
          exact (show Tryd.prog.wantsStandIn 9 = false by kernel_rfl)
        | j + 2, ht => simp at ht⟩)
    (by kernel_rfl)
#print axioms proved
end Go.Proofs.YthjdnidapbhdlaaDoor.registerTexts
