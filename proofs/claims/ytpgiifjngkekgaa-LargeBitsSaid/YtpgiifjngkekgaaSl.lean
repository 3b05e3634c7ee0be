import Derived.Test.YtpgiifjngkekgaaSk
import Derived.Test.YtpgiifjngkekgaaRf
import Derived.Outline
namespace Go.Proofs.Ytpgiifjngkekgaa
open Go.RowKit

theorem u32_or (x y : Nat) (hx : x < 4294967296) (hy : y < 4294967296) : bits BinOp.or IntKind.u32 (x : Int) (y : Int) = ((x ||| y : Nat) : Int) := by
  show IntKind.u32.wrap ((BitVec.ofInt 32 (x : Int) ||| BitVec.ofInt 32 (y : Int)).toNat : Int) = _
  rw [BitVec.toNat_or, BitVec.toNat_ofInt, BitVec.toNat_ofInt]
  rw [show (((x : Int) % ((2 ^ 32 : Nat) : Int)).toNat) = x by omega, show (((y : Int) % ((2 ^ 32 : Nat) : Int)).toNat) = y by omega]
  have h : x ||| y < 2 ^ 32 := Nat.or_lt_two_pow hx hy
  show ((x ||| y : Nat) : Int) % 4294967296 = _
  omega

/-- a new block of n words with the value v -/
theorem shifted_c (A : Option Addr) (n c q : Nat) (xs : List Nat) (w : World) (ha : Rd w A n xs) (hn : n ≤ 17592186044416) (hq : q < 32) :
    Calls Try.prog 71 #[.slice A n c, .int .i64 (q : Int)] w (Made w (n + 1) (val xs * 2 ^ q)) := by
  have hmk := mk_words (n + 1) (by omega)
  rw [show ((n + 1 : Nat) : Int) = (n : Int) + 1 from rfl] at hmk
  have HL := Lib.hid ha.len
  have HA := Lib.hid ha.at_
  have hs := ha.sm
  have S0 := Lib.hid (show ShAt xs q 0 (List.replicate (n + 1) 0) by rw [← ha.len]; exact ShAt.start xs q)
  clear ha
  go_enter Try.func71, Try.ntmps71
  go_wp2
  clear hmk
  go_loopw [6, 7] (fun i _ wr => ∃ j : Nat, ∃ L, i = .int .i64 j ∧ j ≤ n ∧ ShAt xs q j L ∧ Bk wr w.heap.size L ∧ Below w.heap.size w wr) (fun i _ _ => n - (intOf i).toNat)
  case atStart => exact ⟨0, _, rfl, by omega, S0.out, Bk.new0 _ _, (Below.refl _ _).alloc (Nat.le_refl _) _⟩
  case round =>
    obtain ⟨j, L, rfl, hj, hU, hB, hW⟩ := hrel
    clear S0
    have hlen := hU.len
    rw [HL.out] at hlen
    by_cases hjn : j < n
    · obtain ⟨b, o, rfl, hb, hcell⟩ := HA.out (by omega)
      have hcj := (hW.cell (p := ⟨b, o + j, none⟩) hb).trans (hcell j hjn)
      have hcx := hB.cell j (by omega)
      have hfx := hB.frozen j
      have hfy := hB.frozen (j + 1)
      have hnx := hU.next hs hq (by rw [HL.out]; exact hjn)
      have hx1 := small_get hs j
      have ho1 := hU.or_eq hq
      have ho2 := hU.low_lt hq
      obtain ⟨x, hx2⟩ : ∃ x, x = xs.getD j 0 := ⟨_, rfl⟩
      obtain ⟨l, hl⟩ : ∃ l, l = L.getD j 0 := ⟨_, rfl⟩
      rw [← hx2] at hcj hx1 hnx ho1 ho2
      rw [← hl] at hcx hnx ho1 ho2
      have hxq := mul_two_lt hx1 hq
      have e3 : IntKind.u64.wrap ((x : Int) * 2 ^ q) = ((x * 2 ^ q : Nat) : Int) := by
        have e4 : ((x : Int) * 2 ^ q) = ((x * 2 ^ q : Nat) : Int) := by push_cast; rfl
        rw [e4, IntKind.wrap_u64]; omega
      obtain ⟨X, hX⟩ : ∃ X, X = x * 2 ^ q := ⟨_, rfl⟩
      rw [← hX] at e3 hnx ho1 ho2 hxq
      obtain ⟨R, hR⟩ : ∃ R, R = X % 4294967296 := ⟨_, rfl⟩
      rw [← hR] at hnx ho1 ho2
      have hR1 : R < 4294967296 := by omega
      have hmask : bits .and .u64 (X : Int) 4294967295 = (R : Int) := by rw [u64_mask (by omega) (by omega), hR]; omega
      have hor : bits .or .u32 (l : Int) (R : Int) = ((l + R : Nat) : Int) := by rw [u32_or _ _ (by omega) hR1, ho1]
      obtain ⟨v, hv⟩ : ∃ v, v = l + R := ⟨_, rfl⟩
      rw [← hv] at hor hnx ho2
      obtain ⟨u, hu⟩ : ∃ u, u = X / 4294967296 := ⟨_, rfl⟩
      rw [← hu] at hnx
      have hu2 : ((X : Int) / 4294967296) = (u : Int) := by omega
      have hu1 : u < 4294967296 := by omega
      have hbn := hB.set_ j v ho2
      have hcy := hbn.cell (j + 1) (by rw [List.length_set]; omega)
      have hbn2 := hbn.set_ (j + 1) u hu1
      have hwn := (hW.setCell (p := ⟨w.heap.size, j, none⟩) (Nat.le_refl _) (.int .u32 (v : Int))).setCell (p := ⟨w.heap.size, j + 1, none⟩) (Nat.le_refl _) (.int .u32 (u : Int))
      have H1 := Lib.hid hnx
      have H2 := Lib.hid hbn2
      have H3 := Lib.hid hwn
      clear hnx hbn hbn2 hwn hx2 hl hX hR hv hu hU hB hW hlen hs hcell ho1
      go_wp2
      go_roundw
      case measure => simp [intOf]; omega
      case rel => exact ⟨j + 1, _, by go_num, by omega, H1.out, H2.out, H3.out⟩
    · obtain rfl : j = n := by omega
      have hd := Lib.hid (show val L = val xs * 2 ^ q by rw [← HL.out] at hU; exact hU.done)
      have HLen := Lib.hid hlen
      have H2 := Lib.hid hB
      have H3 := Lib.hid hW
      clear hU hB hW hlen hs
      go_wp2
      go_ret
      exact ⟨L, rfl, HLen.out, hd.out, H2.out, H3.out⟩
end Go.Proofs.Ytpgiifjngkekgaa
