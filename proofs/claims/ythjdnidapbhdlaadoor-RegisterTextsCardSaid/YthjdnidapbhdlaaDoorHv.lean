/- the machine's instruction of a text -/
import Derived.Test.YthjdnidapbhdlaaDoorHu
import Derived.Test.YthjdnidapbhdlaaDoorHn
set_option maxRecDepth 100000
namespace Go.Proofs.YthjdnidapbhdlaaDoor
open Go.RowKit
theorem indexByte_app (c : UInt8) (r : List UInt8) : ∀ l : List UInt8, c ∉ l → Lib.indexByte (l ++ c :: r) c = (l.length : Int)
  | [], _ => by simp [Lib.indexByte]
  | b :: l, h => by
    have h1 : ¬ b = c := fun e => h (by simp [e])
    have h2 := indexByte_app c r l (fun e => h (by simp [e]))
    show (if b == c then 0 else if Lib.indexByte (l ++ c :: r) c == -1 then -1 else Lib.indexByte (l ++ c :: r) c + 1) = _
    rw [if_neg (by simpa using h1), h2, if_neg (by simp only [beq_iff_eq]; omega)]
    simp
theorem cut_app (c : UInt8) (l r : List UInt8) (h : c ∉ l) : Lib.cut (l ++ c :: r) [c] = (l, r, true) := by
  unfold Lib.cut
  rw [Lib.index_one, indexByte_app c r l h, if_pos (by omega)]
  simp
theorem dd_sdigits (i : Nat) (h : i < 100) : ∀ b ∈ Lib.decDigits i, 48 ≤ b.toNat ∧ b.toNat ≤ 57 := by
  intro b hb
  by_cases h1 : i < 10
  · rw [dd_one i h1] at hb
    simp only [List.mem_singleton] at hb
    subst hb
    have a : ∀ k : Fin 10, 48 ≤ (UInt8.ofNat (48 + k.1)).toNat ∧ (UInt8.ofNat (48 + k.1)).toNat ≤ 57 := by decide
    exact a ⟨i, h1⟩
  · rw [dd_two i h1 h] at hb
    have a : ∀ k : Fin 10, 48 ≤ (UInt8.ofNat (48 + k.1)).toNat ∧ (UInt8.ofNat (48 + k.1)).toNat ≤ 57 := by decide
    simp only [List.mem_cons, List.not_mem_nil, or_false] at hb
    rcases hb with rfl | rfl
    · exact a ⟨i / 10, by omega⟩
    · exact a ⟨i % 10, by omega⟩
theorem dd_no (i : Nat) (h : i < 100) (c : UInt8) (hc : 57 < c.toNat ∨ c.toNat < 48) : c ∉ Lib.decDigits i := fun hb => by
  have := dd_sdigits i h c hb; omega
abbrev celI (x : Ins) : Obj := .cells #[.int .i64 x.op, .int .i64 x.reg, .int .i64 x.nx, .int .i64 x.zr] 70
theorem letter_at (k : Nat) (hk : k < 3) (b : UInt8) (hb : b = UInt8.ofNat ([105, 100, 106].getD k 0)) (W : World) :
    Calls Tryd.prog 101 #[.string ((⟨#[105, 100, 106, 104]⟩ : ByteArray).extract 0 3), .int .u8 (b.toNat : Int)] W fun e w' => e = .returned (.int .i64 (k : Int)) ∧ w' = W := by
  have h := Tryd.strings_IndexByte ((⟨#[105, 100, 106, 104]⟩ : ByteArray).extract 0 3) (b.toNat : Int) W
  have e : Lib.indexByte ((⟨#[105, 100, 106, 104]⟩ : ByteArray).extract 0 3).data.toList (b.toNat : Int).toNat.toUInt8 = (k : Int) := by
    rw [Lib.byte_back, hb]
    have a : ∀ k : Fin 3, Lib.indexByte [105, 100, 106] (UInt8.ofNat ([105, 100, 106].getD k.1 0)) = (k.1 : Int) := by decide
    exact a ⟨k, hk⟩
  rw [e] at h
  exact h
theorem cut_at (m : Int) (s l r : List UInt8) (c : UInt8) (hc : c ∉ l) (hs : s = l ++ c :: r) (hz : s.length < 4294967281) (a : ByteArray) (ha : a.data.toList = s) (W : World) (hm : W.cell? ⟨1, 0, none⟩ = some (.int .i64 m)) :
    Calls Tryd.prog 102 #[.string a, .string ⟨#[c]⟩] W fun e w' => e = .returned (.tuple #[.string (tx l), .string (tx r), .bool true]) ∧ ∃ n, w' = W.drewN n := by
  have h := Tryd.strings_Cut a ⟨#[c]⟩ m W (by show a.data.size < 4294967281; rw [← Array.length_toList, ha]; exact hz) hm
  rw [ha, show (⟨#[c]⟩ : ByteArray).data.toList = [c] from rfl, hs, cut_app c l r hc] at h
  exact h
set_option maxHeartbeats 2000000 in
theorem insn_h (w : World) :
    Calls Tryd.prog 72 #[.string (tx [104])] w fun e w' => e = .returned (aggI ⟨3, 0, 0, 0⟩) ∧ Below w.heap.size w w' := by
  go_enter Tryd.func72, Tryd.ntmps72
  go_wp2
  refine bodyPost_ret (v := aggI ⟨3, 0, 0, 0⟩) (by simp [results, Tryd.results72, go_sem]) rfl ?_
  exact ⟨rfl, bel_alloc w _⟩
set_option maxHeartbeats 4000000 in
theorem insn_y (m : Int) (s : ByteArray) (k r n : Nat) (hk : k < 2) (hr : r < 100) (hn : n < 100) (w : World) (hm : w.cell? ⟨1, 0, none⟩ = some (.int .i64 m)) (hw : 1 < w.heap.size) (e1 : (s.toList == [104]) = false) (e2 : s.toList.isEmpty = false) (hs : 0 < s.size) (hb : s[0] = UInt8.ofNat ([105, 100, 106].getD k 0)) (hl : (s.extract 1 s.size).data.toList = Lib.decDigits r ++ 62 :: Lib.decDigits n) :
    Calls Tryd.prog 72 #[.string s] w fun e w' => e = .returned (aggI ⟨k, r, n, 0⟩) ∧ Below w.heap.size w w' := by
  have HB := Lib.hid (bel_alloc w (celI ⟨0, 0, 0, 0⟩))
  have BX := Lib.hid (BxI.new w ⟨0, 0, 0, 0⟩)
  have HK := Lib.hid hk
  have HI := Lib.hid (letter_at k (by omega) s[0] hb)
  have HN := Lib.hid (number_y n hn)
  have HR := Lib.hid (number_y r hr)
  have hz : (Lib.decDigits r ++ 62 :: Lib.decDigits n).length < 4294967281 := by
    have h1 := (atoi_dd r hr).2
    have h2 := (atoi_dd n hn).2
    simp only [List.length_append, List.length_cons]
    omega
  have HC := Lib.hid (cut_at m _ _ _ 62 (dd_no r hr 62 (by decide)) rfl hz (s.extract 1 s.size) hl)
  have HM := Lib.hid hm
  have HW := Lib.hid hw
  generalize Lib.decDigits r = dr at *
  generalize Lib.decDigits n = dn at *
  clear hk hb hr hn hl hm hw hz
  go_enter Tryd.func72, Tryd.ntmps72
  go_upto_region 5 with (fail)
  generalize w.alloc (celI ⟨0, 0, 0, 0⟩) = W0 at HB BX ⊢
  obtain ⟨g, hg⟩ : ∃ g, g = w.heap.size := ⟨_, rfl⟩
  rw [← hg] at BX ⊢
  have HG := Lib.hid hg
  have X0 := Lib.hid ((BxI.new W0 ⟨k, 0, 0, 0⟩).next ((Below.refl (W0.alloc (celI ⟨k, 0, 0, 0⟩)).heap.size (W0.alloc (celI ⟨k, 0, 0, 0⟩))).drew))
  have B0 := Lib.hid ((bel_alloc W0 (celI ⟨k, 0, 0, 0⟩)).drew)
  clear hg
  go_cut [3] (fun v3 W => ∃ gi, v3 = .pointer (some ⟨gi, 0, none⟩) ∧ BxI W gi ⟨k, 0, 0, 0⟩ ∧ W0.heap.size ≤ gi ∧ Below W0.heap.size W0 W)
  case first =>
    go_region_with (go_at_call 101; refine (HI.out _).mono ?_; rintro e w1 ⟨rfl, rfl⟩)
    all_goals (go_wp2; go_meet; exact ⟨W0.heap.size, rfl, X0.out, Nat.le_refl _, B0.out⟩)
  case rest =>
    obtain ⟨gi, rfl, hx, hgi, hb1⟩ := hcut
    clear X0 B0 HI
    have X1 := Lib.hid hx
    have B1 := Lib.hid (HB.out.trans (hb1.mono HB.out.size))
    have hne : gi ≠ g := by have h2 := BX.out.lt; omega
    have HGW := Lib.hid (show w.heap.size ≤ gi from Nat.le_trans HB.out.size hgi)
    have BX := Lib.hid (BX.out.next hb1)
    have hne2 : g ≠ gi := fun e => hne e.symm
    clear hx hgi hb1 HB
    have hm := B1.out.cell (p := ⟨1, 0, none⟩) HW.out
    rw [HM.out] at hm
    go_wp2_with fail
    refine (HC.out _ hm).mono ?_
    rintro e w2 ⟨rfl, j, rfl⟩
    have B2 := Lib.hid (bel_drew B1.out j)
    have X2 := Lib.hid (X1.out.next (bel_drew (Below.refl _ _) j))
    have Y2 := Lib.hid (BX.out.next (bel_drew (Below.refl _ _) j))
    clear X1 BX B1 hm
    generalize wc.drewN j = W2 at B2 X2 Y2 ⊢
    have x0 := X2.out.c0
    have t1 : decide ((k : Int) < 0) = false := decide_eq_false (by omega)
    have t2 : ((k : Int) == 2) = false := by have := HK.out; simp; omega
    go_wp2_with fail
    refine (HR.out _).mono ?_
    rintro e w3 ⟨rfl, hb⟩
    have B3 := Lib.hid (B2.out.trans (hb.mono B2.out.size))
    have X3 := Lib.hid (X2.out.next hb)
    have Y3 := Lib.hid (Y2.out.next hb)
    clear X2 Y2 B2 hb x0 t1 t2
    go_wp2_with fail
    refine (HN.out _).mono ?_
    rintro e w4 ⟨rfl, hb⟩
    have B4 := Lib.hid (B3.out.trans (hb.mono B3.out.size))
    have X4 := Lib.hid (X3.out.next hb)
    have Y4 := Lib.hid (Y3.out.next hb)
    clear X3 Y3 B3 hb
    have x0 := X4.out.c0
    have x1 := X4.out.c1
    have x2 := X4.out.c2
    have x3 := X4.out.c3
    have f1 := X4.out.fr 1
    have f2 := X4.out.fr 2
    have y0 := Y4.out.fr 0
    have y1 := Y4.out.fr 1
    have y2 := Y4.out.fr 2
    have y3 := Y4.out.fr 3
    have z0 := Y4.out.c0
    have z1 := Y4.out.c1
    have z2 := Y4.out.c2
    have z3 := Y4.out.c3
    go_wp2
    have Z := ((Y4.out.off (p := ⟨gi, 1, none⟩) hne (.int .i64 (r : Int))).off (p := ⟨gi, 2, none⟩) hne (.int .i64 (n : Int))).put ⟨k, r, n, 0⟩
    have v0 := Z.c0
    have v1 := Z.c1
    have v2 := Z.c2
    have v3 := Z.c3
    clear x0 x1 x2 x3 f1 f2 y0 y1 y2 y3 z0 z1 z2 z3
    refine bodyPost_ret (v := aggI ⟨k, r, n, 0⟩) (by simp [results, Tryd.results72, go_sem, v0, v1, v2, v3]) rfl ?_
    have hg : w.heap.size ≤ g := Nat.le_of_eq HG.out.symm
    exact ⟨rfl, bel_set (bel_set (bel_set (bel_set (bel_set (bel_set B4.out HGW.out _) HGW.out _) hg _) hg _) hg _) hg _⟩
end Go.Proofs.YthjdnidapbhdlaaDoor
