import Derived.Test.YteabokkofoomkaaEbi
import Derived.Test.YteabokkofoomkaaEas
import Derived.Test.YteabokkofoomkaaEbj
set_option maxRecDepth 100000
namespace Go.Proofs.Yteabokkofoomkaa
open Go.RowKit Go.ChangeShapes Go.WideShapes Go.ChangeAt Go.Deep
theorem cells_byte9 : Try.prog.cellsOf 5 = 1 := by kernel_rfl
theorem wf_u8 {z : Int} (h : (Lit.int .u8 z).wf = true) : ∃ n : Nat, z = (n : Int) ∧ n < 256 := by
 simp only [Lit.wf, Bool.and_eq_true, decide_eq_true_eq] at h
 have h1 : IntKind.min .u8 = 0 := rfl
 have h2 : IntKind.max .u8 = 255 := rfl
 exact ⟨z.toNat, by omega, by omega⟩
theorem open_bytes9 {H : Type} {enc : TypeId × Value → H} {W : World} {base fuel : Nat} {spare : Nat → Bool} {held : Bool} {v : Value} {y : DataW H × List MemPlace} (h : DataW.trod enc Try.prog W base spare held fuel 50 [v] = some y) :
 ∃ A n c bs, v = .slice A n c ∧ RdU W A n bs ∧ n ≤ c ∧ c ≤ 9223372036854775807 := by
 rcases open_ints Try.underlying50 Try.underlying5 cells_byte9 h with ⟨hcs, _⟩ | ⟨a, len, cap, zs, hcs, _, hl, hm, hz, _, hcell, hwz⟩
 · injection hcs with hv
   exact ⟨none, 0, 0, [], hv, ⟨rfl, fun k => by simp, fun h => absurd h (by omega)⟩, Nat.le_refl _, by omega⟩
 · injection hcs with hv
   have hlen : len ≤ zs.length := by rw [hz]; split <;> omega
   have hget : ∀ k, k < len → ((zs.take len).map Int.toNat).getD k 0 = (zs.getD k 0).toNat := fun k hk => by
    simp [List.getD_eq_getElem?_getD, List.getElem?_map, hk, List.getElem?_eq_getElem (show k < zs.length by omega)]
   have hbyte : ∀ k, k < len → ∃ n : Nat, zs.getD k 0 = (n : Int) ∧ n < 256 := fun k hk => by
    have hkz : k < zs.length := by omega
    exact wf_u8 (hwz (zs.getD k 0) (by rw [List.getD_eq_getElem?_getD, List.getElem?_eq_getElem hkz]; exact List.getElem_mem hkz))
   refine ⟨some a, len, cap, (zs.take len).map Int.toNat, hv, ⟨by simp; omega, fun k => ?_, fun h0 => ?_⟩, hl, by simpa [maxLen] using hm⟩
   · by_cases hk : k < len
     · obtain ⟨n, e, hn⟩ := hbyte k hk
       rw [hget k hk, e]
       simpa using hn
     · rw [List.getD_eq_getElem?_getD, List.getElem?_eq_none (by simp; omega)]
       decide
   · have c0 := hcell 0 (by omega)
     obtain ⟨pa, hb⟩ := plain_of_cell c0
     rw [show a.add 0 = a from rfl] at pa hb
     refine ⟨a.block, a.off, by rw [← pa], hb, fun k hk => ?_⟩
     have ck := hcell k (by omega)
     have ea : a.add k = ⟨a.block, a.off + k, none⟩ := by
      unfold Addr.add
      split
      · rename_i h1; subst h1; exact pa
      · rfl
     rw [ea] at ck
     obtain ⟨n, e, _⟩ := hbyte k hk
     rw [ck, hget k hk, e]
     rfl
theorem open_bytes {H : Type} {enc : TypeId × Value → H} {W : World} {r : Reach} {b0 base : Nat} {spare : Nat → Bool} {held : Bool} {v : Value} {d : DataW H} {p : List MemPlace}
 (hv : Value.okWide Try.prog W r b0 50 v) (h : DataW.Trod enc Try.prog W base spare held 50 v d p) : ∃ A n c bs, v = .slice A n c ∧ RdU W A n bs ∧ n ≤ c ∧ c ≤ 9223372036854775807 := by
 obtain ⟨a, l, c, rfl⟩ := okWide_slice Try.underlying50 hv
 obtain ⟨fuel, hf⟩ := h
 exact open_bytes9 hf
theorem keep_bytes {H : Type} {enc : TypeId × Value → H} {W W' : World} {sp : Nat → Bool} {v : Value} {d : DataW H} {p : List MemPlace} (h : DataW.Trod enc Try.prog W 0 (fun _ => true) true 50 v d p) (hb : Below W.heap.size W W') (hlt : ∀ x ∈ p, x.block < W.heap.size)
 (hs : ∀ x ∈ p, sp x.block = true) : DataW.Trod enc Try.prog W' 0 sp true 50 v d p :=
 WideElems.Trod_stays laid_out (by kernel_rfl) (of_decide_eq_true (by kernel_rfl)) h (fun x hx => hb.same (hlt x hx)) hs
end Go.Proofs.Yteabokkofoomkaa
/-
 Proved: for every system, every list of numbers and every list of bytes, valid or not, the law SystemOrder of the ninth stage returns true and leaves its arguments as they were: where there are at most 60 links and the values are not too great, Holds of the links in another order returns the same error of form or of arguments, and, where there is no error, the same answer; the example of the chapter holds. No condition.
-/
namespace Go.Proofs.Yteabokkofoomkaa.systemOrder
open Go.ChangeShapes Go.WideShapes Go.ChangeAt Go.RowKit
theorem own : ownKnob Try.prog.godebug = none := by kernel_rfl
set_option maxRecDepth 100000 in
theorem lifted (os : Os) (started : os.Started) (H : Type) (enc : TypeId × Value → H) :
 ReturnsInHanded {} Try.checked os 4 .any (Rows.systemOrderSpec.pre6 enc Try.prog Try.f4 Rows.systemOrderRow.domain false) (Rows.systemOrderSpec.post enc Try.prog Try.f4 false true false false) := by
 refine returnsInHanded_of_change (C := Try.checked) own started (by kernel_rfl) Try.func4
  (ChangeSpec.witness6 (enc := enc) (C := Try.checked) false ⟨#[], #[.agg #[.int .i64 0, .slice none 0 0], .slice none 0 0, .slice none 0 0], []⟩ 8 (by kernel_rfl) (by kernel_rfl) (by kernel_rfl) (by kernel_rfl)) ?_
 intro W base args ds gs before hval0 hW _ _
 have hval : ∀ (j : Nat) t v, Try.f4.params[j]? = some t → args[j]? = some v → Value.okWide Try.prog W .any base t v := hval0
 have hW' := hW
 obtain ⟨p, q, hA0, hV, rfl, _, _⟩ := hW
 have hA : DataW.TrodAll enc Try.prog W 0 (fun _ => true) true Try.f4.params.toList args.toList ds p := hA0
 rw [Try.params4] at hA hval
 obtain ⟨v0, vs0, d0, ds0, p0, q0, hargs, rfl, rfl, h0, r0⟩ := trodAll_cons hA
 obtain ⟨v1, vs1, d1, ds1, p1, q1, rfl, rfl, rfl, h1, r1⟩ := trodAll_cons r0
 obtain ⟨v2, vs2, d2, ds2, p2, q2, rfl, rfl, rfl, h2, r2⟩ := trodAll_cons r1
 obtain ⟨rfl, rfl, rfl⟩ := trodAll_nil r2
 obtain rfl : args = #[v0, v1, v2] := by cases args; simp_all
 obtain ⟨rfl, rfl⟩ := trodVars_none hV
 simp only [List.append_nil] at hW'
 have lt := hW'.lt
 obtain ⟨V0, A0, n0, c0, ls0, rfl, rd0, nc0, cm0⟩ := open_system (hval 0 42 v0 rfl rfl) h0
 obtain ⟨A1, n1, c1, ns1, rfl, rd1, nc1, cm1⟩ := open_nums (hval 1 35 v1 rfl rfl) h1
 obtain ⟨A2, n2, c2, bs2, rfl, rd2, nc2, cm2⟩ := open_bytes (hval 2 50 v2 rfl rfl) h2
 clear hA0 hval0
 refine (SystemOrder_c V0 A0 n0 c0 ls0 A1 n1 c1 ns1 A2 n2 c2 bs2 W rd0 nc0 cm0 rd1 nc1 cm1 rd2 (by omega)).mono fun e W' ⟨he, hg⟩ => ?_
 subst he
 refine ⟨_, rfl, post_below (pv := []) hW' hg (fun _ _ _ => (trodAll_cons_mk (shut_bool Try.underlying4 _) trodAll_mk0)) (fun sp hs => (trodAll_cons_mk (keep_system h0 hg (fun x hx => lt x (by simp [hx])) (fun x hx => hs x (by simp [hx]))) (trodAll_cons_mk (keep_nums h1 hg (fun x hx => lt x (by simp [hx])) (fun x hx => hs x (by simp [hx]))) (trodAll_cons_mk (keep_bytes h2 hg (fun x hx => lt x (by simp [hx])) (fun x hx => hs x (by simp [hx]))) trodAll_mk0)))) (fun _ _ => rfl) ?_
  (ok_one (by kernel_rfl) rfl (okWide_bool_mk Try.underlying4 _))⟩
 simp
theorem over : Rows.systemOrderRow.holds Try.pinned (OpenSpec.ofChange Rows.systemOrderSpec) :=
 OpenClaim.holds_of_wide 4 Try.f4 rfl rfl rfl rfl rfl rfl rfl ⟨rfl, rfl, rfl, rfl, rfl⟩ rfl rfl rfl rfl rfl (by kernel_rfl) Try.func4 (by kernel_rfl)
  (of_decide_eq_true (by kernel_rfl)) (by unfold Func.isWrapper; first | (rw [if_pos (by decide +kernel)]; kernel_rfl) | (rw [if_neg (by decide +kernel)]; exact ⟨rfl, rfl⟩))
  (fun os started H enc _ => lifted os started H enc)
/-- the statement -/
theorem proved : Rows.SystemOrderSaid :=
 over
#print axioms proved
end Go.Proofs.Yteabokkofoomkaa.systemOrder
