import Derived.Test.YteabokkofoomkaaCbm
import Derived.Test.YteabokkofoomkaaCab
set_option maxRecDepth 100000
namespace Go.Proofs.Yteabokkofoomkaa
open Go.RowKit Go.Shelf Go.Deep
theorem u32_nat {a1 : Int} (w1 : (Lit.int .u32 a1).wf = true) : ∃ x : Nat, a1 = (x : Int) ∧ x < 4294967296 := by
 simp only [Lit.wf, Bool.and_eq_true, decide_eq_true_eq] at w1
 have h1 : IntKind.min .u32 = 0 := rfl
 have h2 : IntKind.max .u32 = 4294967295 := rfl
 exact ⟨a1.toNat, by omega, by omega⟩
theorem SystemBig_i (s : Bool) (A : Option Addr) (n c : Nat) (xs : List Nat) (s' : Bool) (A' : Option Addr) (n' c' : Nat) (ys : List Nat) (a1 : Int) (w1 : (Lit.int .u32 a1).wf = true) (w : World) (h : Rd w A n xs) (hn : n ≤ c) (hc : c ≤ 9223372036854775807) (h' : Rd w A' n' ys) (hn' : n' ≤ c') (hc' : c' ≤ 9223372036854775807) :
 Calls Try.prog 3 #[.agg #[.bool s, .slice A n c], .agg #[.bool s', .slice A' n' c'], .int .u32 a1] w (IsB true w) := by
 obtain ⟨x, rfl, hx⟩ := u32_nat w1
 exact SystemBig_c s A n c xs s' A' n' c' ys x hx w h hn hc h' hn' hc'
end Go.Proofs.Yteabokkofoomkaa
/-
 Proved: for all numbers a and b (any words whatever) and every q the law SystemBig of the ninth stage returns true and leaves its arguments as they were: Holds returns ErrSize for a product of a and b exactly where it would not be valid, and otherwise says whether it is 0; for psi and for powers at q + 200000 there is no error, and the answer is no, but for 1 to this power and 1. No condition.
-/
namespace Go.Proofs.Yteabokkofoomkaa.systemBig
open Go.ChangeShapes Go.WideShapes Go.ChangeAt Go.RowKit
theorem own : ownKnob Try.prog.godebug = none := by kernel_rfl
set_option maxRecDepth 100000 in
theorem lifted (os : Os) (started : os.Started) (H : Type) (enc : TypeId × Value → H) :
 ReturnsInHanded {} Try.checked os 3 .any (Rows.systemBigSpec.pre6 enc Try.prog Try.f3 Rows.systemBigRow.domain false) (Rows.systemBigSpec.post enc Try.prog Try.f3 false true false false) := by
 refine returnsInHanded_of_change (C := Try.checked) own started (by kernel_rfl) Try.func3
  (ChangeSpec.witness6 (enc := enc) (C := Try.checked) false ⟨#[], #[.agg #[.bool false, .slice none 0 0], .agg #[.bool false, .slice none 0 0], .int .u32 0], []⟩ 8 (by kernel_rfl) (by kernel_rfl) (by kernel_rfl) (by kernel_rfl)) ?_
 intro W base args ds gs before hval0 hW _ _
 have hval : ∀ (j : Nat) t v, Try.f3.params[j]? = some t → args[j]? = some v → Value.okWide Try.prog W .any base t v := hval0
 have hW' := hW
 obtain ⟨p, q, hA0, hV, rfl, _, _⟩ := hW
 have hA : DataW.TrodAll enc Try.prog W 0 (fun _ => true) true Try.f3.params.toList args.toList ds p := hA0
 rw [Try.params3] at hA hval
 obtain ⟨v0, vs0, d0, ds0, p0, q0, hargs, rfl, rfl, h0, r0⟩ := trodAll_cons hA
 obtain ⟨v1, vs1, d1, ds1, p1, q1, rfl, rfl, rfl, h1, r1⟩ := trodAll_cons r0
 obtain ⟨v2, vs2, d2, ds2, p2, q2, rfl, rfl, rfl, h2, r2⟩ := trodAll_cons r1
 obtain ⟨rfl, rfl, rfl⟩ := trodAll_nil r2
 obtain rfl : args = #[v0, v1, v2] := by cases args; simp_all
 obtain ⟨rfl, rfl⟩ := trodVars_none hV
 simp only [List.append_nil] at hW'
 have lt := hW'.lt
 have o0 := open_number (hval 0 24 v0 rfl rfl) h0
 obtain ⟨s0, A0, n0, c0, xs0, rfl, rd0, nc0, cm0⟩ := o0
 have o1 := open_number (hval 1 24 v1 rfl rfl) h1
 obtain ⟨s1, A1, n1, c1, xs1, rfl, rd1, nc1, cm1⟩ := o1
 obtain ⟨a2, rfl, rfl, rfl, w2⟩ := open_int Try.underlying25 (hval 2 25 v2 rfl rfl) h2
 clear hA0 hval0
 refine (SystemBig_i s0 A0 n0 c0 xs0 s1 A1 n1 c1 xs1 a2 w2 W rd0 nc0 cm0 rd1 nc1 cm1).mono fun e W' ⟨he, hg⟩ => ?_
 subst he
 refine ⟨_, rfl, post_below (pv := []) hW' hg (fun _ _ _ => (trodAll_cons_mk (shut_bool Try.underlying4 _) trodAll_mk0)) (fun sp hs => (trodAll_cons_mk (keep_number h0 hg (fun x hx => lt x (by simp [hx])) (fun x hx => hs x (by simp [hx]))) (trodAll_cons_mk (keep_number h1 hg (fun x hx => lt x (by simp [hx])) (fun x hx => hs x (by simp [hx]))) (trodAll_cons_mk (shut_int Try.underlying25 w2) trodAll_mk0)))) (fun _ _ => rfl) ?_
  (ok_one (by kernel_rfl) rfl (okWide_bool_mk Try.underlying4 _))⟩
 simp
theorem over : Rows.systemBigRow.holds Try.pinned (OpenSpec.ofChange Rows.systemBigSpec) :=
 OpenClaim.holds_of_wide 3 Try.f3 rfl rfl rfl rfl rfl rfl rfl ⟨rfl, rfl, rfl, rfl, rfl⟩ rfl rfl rfl rfl rfl (by kernel_rfl) Try.func3 (by kernel_rfl)
  (of_decide_eq_true (by kernel_rfl)) (by unfold Func.isWrapper; first | (rw [if_pos (by decide +kernel)]; kernel_rfl) | (rw [if_neg (by decide +kernel)]; exact ⟨rfl, rfl⟩))
  (fun os started H enc _ => lifted os started H enc)
/-- the statement -/
theorem proved : Rows.SystemBigSaid :=
 over
#print axioms proved
end Go.Proofs.Yteabokkofoomkaa.systemBig
