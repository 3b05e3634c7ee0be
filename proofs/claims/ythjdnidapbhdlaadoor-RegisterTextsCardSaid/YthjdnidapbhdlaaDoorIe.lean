/- the first example: its machine -/
import Derived.Test.YthjdnidapbhdlaaDoorId
set_option maxRecDepth 100000
namespace Go.Proofs.YthjdnidapbhdlaaDoor
open Go.RowKit
def s13 : ByteArray := ⟨#[50, 32, 106, 48, 62, 49, 58, 51, 32, 100, 48, 62, 50, 32, 105, 49, 62, 48, 32, 104]⟩
def cs13 : List Ins := [⟨2, 0, 1, 3⟩, ⟨1, 0, 2, 0⟩, ⟨0, 1, 0, 0⟩, ⟨3, 0, 0, 0⟩]
theorem itoa_small (i : Nat) (h : i < 10) : Lib.itoa (i : Int) = [UInt8.ofNat (48 + i)] := by
  unfold Lib.itoa
  rw [if_neg (by omega), Int.toNat_natCast, dd_one i h]
theorem scan13 : scanT s13 (s13.size + 1) = ⟨21, false, 2, cs13⟩ := by kernel_rfl
theorem valid13 : validM 2 cs13 = true := by decide
theorem text13 : txt8 (textM 2 cs13) = s13 := by
  have h0 := itoa_small 0 (by omega)
  have h1 := itoa_small 1 (by omega)
  have h2 := itoa_small 2 (by omega)
  have h3 := itoa_small 3 (by omega)
  show txt8 (Lib.itoa ((2 : Nat) : Int) ++ (32 :: ((106 :: (Lib.itoa ((0 : Nat) : Int) ++ 62 :: (Lib.itoa ((1 : Nat) : Int) ++ 58 :: Lib.itoa ((3 : Nat) : Int)))) ++ 32 :: ((100 :: (Lib.itoa ((0 : Nat) : Int) ++ 62 :: Lib.itoa ((2 : Nat) : Int))) ++ 32 :: ((105 :: (Lib.itoa ((1 : Nat) : Int) ++ 62 :: Lib.itoa ((0 : Nat) : Int))) ++ 32 :: ([104] ++ [])))))) = s13
  rw [h0, h1, h2, h3]
  rfl
theorem run13 : runM cs13 100 0 [2, 3] = ⟨3, [0, 5], 7, false⟩ := by kernel_rfl
theorem refParse13_ex (w : World) : Calls Tryd.prog 31 #[.string s13] w fun e w' => ∃ A c, e = .returned (.tuple #[.agg #[.int .i64 2, .slice A 4 c], .bool true]) ∧ RdC w' A 4 cs13 ∧ Below w.heap.size w w' ∧ (∀ a, A = some a → w.heap.size ≤ a.block) := by
  refine (refParse13_ok s13 w (by decide)).mono ?_
  intro e w' h
  unfold RParse at h
  rw [scan13] at h
  rw [if_pos ⟨by decide, valid13, text13⟩] at h
  obtain ⟨A, c, he, hr, _, _, hb, hf⟩ := h
  exact ⟨A, c, he, hr, hb, hf⟩
theorem parse13_ex (m : Int) (w : World) (hm : w.cell? ⟨1, 0, none⟩ = some (.int .i64 m)) (hw : 1 < w.heap.size) : Calls Tryd.prog 30 #[.string s13] w fun e w' => ∃ A c, e = .returned (.tuple #[.agg #[.int .i64 2, .slice A 4 c], .int .i64 0]) ∧ RdC w' A 4 cs13 ∧ Below w.heap.size w w' ∧ (∀ a, A = some a → w.heap.size ≤ a.block) := by
  have h0 := dd_one 0 (by omega)
  have h1 := dd_one 1 (by omega)
  have h2 := dd_one 2 (by omega)
  have h3 := dd_one 3 (by omega)
  refine (Parse_y m s13 2 [⟨#[106, 48, 62, 49, 58, 51]⟩, ⟨#[100, 48, 62, 50]⟩, ⟨#[105, 49, 62, 48]⟩, ⟨#[104]⟩] cs13 w hm hw (by decide) ?_ (by omega) rfl ?_ valid13).mono ?_
  · rw [h2]; kernel_rfl
  · intro i hi
    match i, hi with
    | 0, _ => exact fun W hW hM => insn_j m _ 0 1 3 (by omega) (by omega) (by omega) W hM hW (by rw [ByteArray.toList_eq]; rfl) (by rw [ByteArray.toList_eq]; rfl) (by decide) rfl (by rw [h0, h1, h3]; rfl)
    | 1, _ => exact fun W hW hM => insn_y m _ 1 0 2 (by omega) (by omega) (by omega) W hM hW (by rw [ByteArray.toList_eq]; rfl) (by rw [ByteArray.toList_eq]; rfl) (by decide) rfl (by rw [h0, h2]; rfl)
    | 2, _ => exact fun W hW hM => insn_y m _ 0 1 0 (by omega) (by omega) (by omega) W hM hW (by rw [ByteArray.toList_eq]; rfl) (by rw [ByteArray.toList_eq]; rfl) (by decide) rfl (by rw [h1, h0]; rfl)
    | 3, _ => exact fun W hW hM => insn_h W
  · rintro e w' ⟨A, c, he, hr, _, _, hb, hf⟩
    exact ⟨A, c, he, hr, hb, hf⟩
set_option maxHeartbeats 2000000 in
theorem adder_c (w : World) : Calls Tryd.prog 57 #[] w fun e w' => ∃ A c, e = .returned (.agg #[.int .i64 2, .slice A 4 c]) ∧ RdC w' A 4 cs13 ∧ Below w.heap.size w w' ∧ (∀ a, A = some a → w.heap.size ≤ a.block) := by
  have P := Lib.hid (bel_alloc w (.cells #[.int .i64 0, .slice none 0 0] 43))
  have X := Lib.hid (BxM.new w 0 none 0 0)
  have HP := Lib.hid (refParse13_ex (w.alloc (.cells #[.int .i64 0, .slice none 0 0] 43)))
  go_enter Tryd.func57, Tryd.ntmps57
  go_wp2_with fail
  generalize w.alloc (.cells #[.int .i64 0, .slice none 0 0] 43) = W0 at P X HP ⊢
  obtain ⟨g, hg⟩ : ∃ g, g = w.heap.size := ⟨_, rfl⟩
  rw [← hg] at X ⊢
  have HG := Lib.hid (Nat.le_of_eq hg.symm)
  clear hg
  refine HP.out.mono ?_
  rintro e w1 ⟨A, c, rfl, hr, hb, hf⟩
  have HF := Lib.hid (show ∀ a, A = some a → g < a.block ∧ w.heap.size ≤ a.block from fun a h => by have h1 := hf a h; have h2 := X.out.lt; have h3 := P.out.size; omega)
  clear hf
  replace P := Lib.hid (P.out.trans (hb.mono P.out.size))
  replace X := Lib.hid (X.out.next hb)
  clear HP hb
  have hb := bel_alloc w1 (.cells #[.int .i64 2, .slice A 4 c] 43)
  have P2 := Lib.hid (P.out.trans (hb.mono P.out.size))
  have X2 := Lib.hid (X.out.next hb)
  have R2 := Lib.hid (hr.below hb)
  have Y2 := Lib.hid (BxM.new w1 2 A 4 c)
  have hl := X.out.lt
  clear hb hr X P
  go_upto_region 2 with (fail)
  generalize w1.alloc (.cells #[.int .i64 2, .slice A 4 c] 43) = W2 at P2 X2 R2 Y2 ⊢
  generalize w1.heap.size = g2 at Y2 hl ⊢
  have hne : g ≠ g2 := by omega
  have hne2 : g2 ≠ g := by omega
  have x0 := X2.out.c0
  have x1 := X2.out.c1
  have f0 := X2.out.fr 0
  have f1 := X2.out.fr 1
  have y0 := Y2.out.c0
  have y1 := Y2.out.c1
  go_wp2
  have Q := (X2.out.put0 2).put1 A 4 c
  have z0 := Q.c0
  have z1 := Q.c1
  refine bodyPost_ret (v := .agg #[.int .i64 2, .slice A 4 c]) (by simp [results, Tryd.results57, go_sem, z0, z1]) rfl ?_
  exact ⟨A, c, rfl, (R2.out.far (p := ⟨g, 0, none⟩) (fun a h => by have := (HF.out a h).1; show a.block ≠ g; omega) _).far (p := ⟨g, 1, none⟩) (fun a h => by have := (HF.out a h).1; show a.block ≠ g; omega) _, bel_set (bel_set P2.out (p := ⟨g, 0, none⟩) HG.out _) (p := ⟨g, 1, none⟩) HG.out _, fun a h => (HF.out a h).2⟩
end Go.Proofs.YthjdnidapbhdlaaDoor
