import Derived.Test.YtmgkgomecakoiaaEnd
import Derived.Lib.SmallJoins
import Derived.ChangeSlices
import Derived.Carry
import Derived.WideKeyArgs
namespace Go.Proofs.Ytmgkgomecakoiaa
open Go.RowKit Go.ChangeShapes Go.WideShapes Go.ChangeAt

theorem cells_word : Try.prog.cellsOf 66 = 1 := by kernel_rfl
theorem cells_number : Try.prog.cellsOf 24 = 2 := by kernel_rfl
theorem laid_out : laidOutB Try.prog = true := by kernel_rfl

/-- an address at which something reads is a plain one -/
theorem plain_of_cell {w : World} {a : Addr} {v : Value} (h : w.cell? a = some v) : a = ⟨a.block, a.off, none⟩ ∧ a.block < w.heap.size := by
  obtain ⟨b, o, s⟩ := a
  unfold World.cell? at h
  have hb : b < w.heap.size := by
    rcases Nat.lt_or_ge b w.heap.size with h1 | h1
    · exact h1
    · simp [Array.getElem?_eq_none h1] at h
  refine ⟨?_, hb⟩
  cases s with
  | none => rfl
  | some k =>
    simp only at h
    split at h <;> simp_all

theorem wf_u32 {z : Int} (h : (Lit.int .u32 z).wf = true) : ∃ n : Nat, z = (n : Int) ∧ n < 4294967296 := by
  simp only [Lit.wf, Bool.and_eq_true, decide_eq_true_eq] at h
  have h1 : IntKind.min .u32 = 0 := rfl
  have h2 : IntKind.max .u32 = 4294967295 := rfl
  exact ⟨z.toNat, by omega, by omega⟩

/-- a slice of words that came in -/
theorem open_words {H : Type} {enc : TypeId × Value → H} {W : World} {base fuel : Nat} {spare : Nat → Bool} {held : Bool} {v : Value} {y : DataW H × List MemPlace}
    (h : DataW.trod enc Try.prog W base spare held fuel 22 [v] = some y) : ∃ A n c xs, v = .slice A n c ∧ Rd W A n xs ∧ n ≤ c ∧ c ≤ 9223372036854775807 := by
  rcases open_ints Try.underlying22 Try.underlying66 cells_word h with ⟨hcs, _⟩ | ⟨a, len, cap, zs, hcs, _, hl, hm, hz, _, hcell, hwz⟩
  · injection hcs with hv
    exact ⟨none, 0, 0, [], hv, Rd.nil _, Nat.le_refl _, by omega⟩
  · injection hcs with hv
    have hlen : len ≤ zs.length := by rw [hz]; split <;> omega
    refine ⟨some a, len, cap, (zs.take len).map Int.toNat, hv, ⟨by simp; omega, ?_, fun h0 => ?_⟩, hl, hm⟩
    · intro x hx
      obtain ⟨z, hz1, rfl⟩ := List.mem_map.1 hx
      obtain ⟨n, rfl, hn⟩ := wf_u32 (hwz z (List.mem_of_mem_take hz1))
      simpa using hn
    · have c0 := hcell 0 (by omega)
      obtain ⟨pa, hb⟩ := plain_of_cell c0
      rw [show a.add 0 = a from rfl] at pa hb
      refine ⟨a.block, a.off, by rw [← pa], hb, fun k hk => ?_⟩
      have ck := hcell k (by omega)
      have ea : a.add k = ⟨a.block, a.off + k, none⟩ := by
        unfold Addr.add
        split
        · rename_i h1; subst h1; exact pa
        · rfl
      rw [ea] at ck
      rw [ck]
      have hkz : k < zs.length := by omega
      obtain ⟨n, hn, _⟩ := wf_u32 (hwz (zs.getD k 0) (by rw [List.getD_eq_getElem?_getD, List.getElem?_eq_getElem hkz]; exact List.getElem_mem hkz))
      have e2 : ((zs.take len).map Int.toNat).getD k 0 = (zs.getD k 0).toNat := by
        simp [List.getD_eq_getElem?_getD, List.getElem?_map, hk, List.getElem?_eq_getElem hkz]
      rw [e2, hn]
      rfl

/-- a number that came in -/
theorem open_number {H : Type} {enc : TypeId × Value → H} {W : World} {r : Reach} {b0 base : Nat} {spare : Nat → Bool} {held : Bool} {v : Value} {d : DataW H} {p : List MemPlace}
    (hv : Value.okWide Try.prog W r b0 24 v) (h : DataW.Trod enc Try.prog W base spare held 24 v d p) :
    ∃ s A n c xs, v = .agg #[.bool s, .slice A n c] ∧ Rd W A n xs ∧ n ≤ c ∧ c ≤ 9223372036854775807 := by
  obtain ⟨c0, c1, y0, y1, m, rfl, rfl, rfl, hy0, hy1⟩ := Joins.open_agg2 Try.underlying24 (by kernel_rfl) cells_number hv h
  obtain ⟨s, e0, rfl⟩ := DataW.trod_bool Try.underlying4 hy0
  obtain ⟨A, n, c, xs, rfl, hr, hn, hc⟩ := open_words hy1
  injection e0 with e0
  subst e0
  exact ⟨s, A, n, c, xs, rfl, hr, hn, hc⟩
/-- and reads so behind the call -/
theorem keep_number {H : Type} {enc : TypeId × Value → H} {W W' : World} {sp : Nat → Bool} {v : Value} {d : DataW H} {p : List MemPlace} (h : DataW.Trod enc Try.prog W 0 (fun _ => true) true 24 v d p) (hb : Below W.heap.size W W') (hlt : ∀ x ∈ p, x.block < W.heap.size)
    (hs : ∀ x ∈ p, sp x.block = true) : DataW.Trod enc Try.prog W' 0 sp true 24 v d p :=
  WideElems.Trod_stays laid_out (by kernel_rfl) (of_decide_eq_true (by kernel_rfl)) h (fun x hx => hb.same (hlt x hx)) hs
end Go.Proofs.Ytmgkgomecakoiaa
