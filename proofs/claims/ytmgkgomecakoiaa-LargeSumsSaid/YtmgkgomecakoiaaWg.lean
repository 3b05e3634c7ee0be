import Derived.Test.YtmgkgomecakoiaaWf
import Derived.Lib.Tables
import Derived.Lib.BitFns
import Derived.Deep.Light
namespace Go.Proofs.Ytmgkgomecakoiaa
open Go.RowKit
theorem tab_size : (Lib.len8tab.size : Int) = 256 := by rw [Lib.len8tab_size]; rfl
theorem tab_at (y : Int) (h : y.toNat < Lib.len8tab.size) (h0 : 0 ≤ y) (h1 : y ≤ 255) : ((Lib.len8tab[y.toNat]'h).toNat : Int) = (Lib.bitLen y.toNat : Int) ∧ Lib.bitLen y.toNat ≤ 8 := by
  refine ⟨?_, Lib.bitLen_le8' y h0 h1⟩
  rw [← Lib.len8_of y h0 h1]
  unfold Lib.len8
  rw [getElem?_pos Lib.len8tab y.toNat h]
  rfl
theorem tab_sum (c : Int) (y : Int) (h : y.toNat < Lib.len8tab.size) (h0 : 0 ≤ y) (h1 : y ≤ 255) (c0 : 0 ≤ c) (c1 : c ≤ 56) : wrap64 (c + wrap64 ((Lib.len8tab[y.toNat]'h).toNat : Int)) = c + (Lib.bitLen y.toNat : Int) := by
  obtain ⟨e, l⟩ := tab_at y h h0 h1
  rw [e, IntWalk.wrap64_in ((Lib.bitLen y.toNat : Nat) : Int) (by omega), IntWalk.wrap64_in _ (by omega)]
theorem tab_one (y : Int) (h : y.toNat < Lib.len8tab.size) (h0 : 0 ≤ y) (h1 : y ≤ 255) : wrap64 (wrap64 ((Lib.len8tab[y.toNat]'h).toNat : Int)) = (Lib.bitLen y.toNat : Int) := by
  obtain ⟨e, l⟩ := tab_at y h h0 h1
  rw [e, IntWalk.wrap64_in ((Lib.bitLen y.toNat : Nat) : Int) (by omega), IntWalk.wrap64_in _ (by omega)]
set_option maxHeartbeats 4000000 in
set_option maxRecDepth 100000 in
theorem len32_i (x : Int) (w : World) (h0 : 0 ≤ x) (h1 : x ≤ 4294967295) : Calls Try.prog 84 #[.int .u32 x] w fun e w' => e = .returned (.int .i64 (Lib.bitLen x.toNat)) ∧ w' = w := by
  have hs := tab_size
  go_enter Try.func84, Try.ntmps84
  go_wp2
  all_goals first
    | (go_ret; refine ⟨congrArg Ending.returned (congrArg (Value.int IntKind.i64) ?_), rfl⟩; go_light)
    | (exfalso; go_light; omega)
  all_goals first
    | (rw [tab_sum 24 (x / 65536 / 256) _ (by omega) (by omega) (by omega) (by omega)]
       have s := Lib.bitLen_shift24 x.toNat (by omega) (by omega)
       rw [show (x / 65536 / 256).toNat = x.toNat / 16777216 by omega]; omega)
    | (rw [tab_sum 16 (x / 65536) _ (by omega) (by omega) (by omega) (by omega)]
       have s := Lib.bitLen_shift16 x.toNat (by omega) (by omega)
       rw [show (x / 65536).toNat = x.toNat / 65536 by omega]; omega)
    | (rw [tab_sum 8 (x / 256) _ (by omega) (by omega) (by omega) (by omega)]
       have s := Lib.bitLen_shift8 x.toNat (by omega) (by omega)
       rw [show (x / 256).toNat = x.toNat / 256 by omega]; omega)
    | exact tab_one x _ (by omega) (by omega)
set_option maxHeartbeats 8000000 in
set_option maxRecDepth 100000 in
theorem len64_i (x : Int) (w : World) (h0 : 0 ≤ x) (h1 : x ≤ 18446744073709551615) : Calls Try.prog 85 #[.int .u64 x] w fun e w' => e = .returned (.int .i64 (Lib.bitLen x.toNat)) ∧ w' = w := by
  have hs := tab_size
  go_enter Try.func85, Try.ntmps85
  go_wp2
  all_goals first
    | (go_ret; refine ⟨congrArg Ending.returned (congrArg (Value.int IntKind.i64) ?_), rfl⟩; go_light)
    | (exfalso; go_light; omega)
  all_goals first
    | (rw [tab_sum 56 (x / 4294967296 / 65536 / 256) _ (by omega) (by omega) (by omega) (by omega)]
       have s := Lib.bitLen_shift56 x.toNat (by omega) (by omega)
       rw [show (x / 4294967296 / 65536 / 256).toNat = x.toNat / 72057594037927936 by omega]; omega)
    | (rw [tab_sum 48 (x / 4294967296 / 65536) _ (by omega) (by omega) (by omega) (by omega)]
       have s := Lib.bitLen_shift48 x.toNat (by omega) (by omega)
       rw [show (x / 4294967296 / 65536).toNat = x.toNat / 281474976710656 by omega]; omega)
    | (rw [tab_sum 40 (x / 4294967296 / 256) _ (by omega) (by omega) (by omega) (by omega)]
       have s := Lib.bitLen_shift40 x.toNat (by omega) (by omega)
       rw [show (x / 4294967296 / 256).toNat = x.toNat / 1099511627776 by omega]; omega)
    | (rw [tab_sum 32 (x / 4294967296) _ (by omega) (by omega) (by omega) (by omega)]
       have s := Lib.bitLen_shift32 x.toNat (by omega) (by omega)
       rw [show (x / 4294967296).toNat = x.toNat / 4294967296 by omega]; omega)
    | (rw [tab_sum 24 (x / 65536 / 256) _ (by omega) (by omega) (by omega) (by omega)]
       have s := Lib.bitLen_shift24 x.toNat (by omega) (by omega)
       rw [show (x / 65536 / 256).toNat = x.toNat / 16777216 by omega]; omega)
    | (rw [tab_sum 16 (x / 65536) _ (by omega) (by omega) (by omega) (by omega)]
       have s := Lib.bitLen_shift16 x.toNat (by omega) (by omega)
       rw [show (x / 65536).toNat = x.toNat / 65536 by omega]; omega)
    | (rw [tab_sum 8 (x / 256) _ (by omega) (by omega) (by omega) (by omega)]
       have s := Lib.bitLen_shift8 x.toNat (by omega) (by omega)
       rw [show (x / 256).toNat = x.toNat / 256 by omega]; omega)
    | exact tab_one x _ (by omega) (by omega)
end Go.Proofs.Ytmgkgomecakoiaa
