import Derived.Test.YteabokkofoomkaaGreatCbc
import Derived.Test.YteabokkofoomkaaGreatCbj
import Derived.Lib.AppendZerosOnto
set_option maxRecDepth 100000
namespace Go.Proofs.YteabokkofoomkaaGreat
open Go.RowKit Go.Shelf Go.Deep
def CRw (w0 : World) (_ : World) (v : List Value) (l : Lnk) : Prop := ∃ r : RawL, v = [r.at 0, r.at 1, r.at 2] ∧ LnkR w0 r l
theorem CRw.chg {w0 : World} {T : TypeId} : ∀ W W' v x, ChgR T W W' → CRw w0 W v x → CRw w0 W' v x := fun _ _ _ _ _ h => h
theorem RawL.noW (r : RawL) (j : Nat) : (r.at j).oneCell' = true ∧ noW (r.at j) := by
 unfold RawL.at
 split
 · exact ⟨rfl, noW_i _⟩
 · split
   · exact ⟨rfl, noW_s _ _ _⟩
   · exact ⟨rfl, noW_s _ _ _⟩
theorem rdL_el {w0 W : World} {A : Option Addr} {n : Nat} {ls : List Lnk} (h : RdL w0 A n ls) (h0 : 0 < n) (hb : Below w0.heap.size w0 W) : ∃ b o, A = some ⟨b, o, none⟩ ∧ ElG 3 (CRw w0) W b o n ls := by
 obtain ⟨b, o, F, e, hlt, hrow, hR⟩ := rdL_raw h h0
 have hrow2 := hrow.below hlt hb
 refine ⟨b, o, e, h.len, fun k => [(F k).at 0, (F k).at 1, (F k).at 2], fun k hk => ⟨rfl, fun u hu => ?_, ⟨lnkAt ls k, ?_, F k, rfl, hR k hk⟩, fun x u hu => ?_⟩⟩
 · simp at hu
   rcases hu with rfl | rfl | rfl <;> exact (F k).noW _
 · have hl := h.len
   unfold lnkAt
   rw [List.getD_eq_getElem?_getD, List.getElem?_eq_getElem (by omega)]; rfl
 · match x, hu with
   | 0, hu => injection hu with hu; subst hu; exact hrow2 k hk 0 (by omega)
   | 1, hu => injection hu with hu; subst hu; exact hrow2 k hk 1 (by omega)
   | 2, hu => injection hu with hu; subst hu; exact hrow2 k hk 2 (by omega)
theorem own_rdL {w0 W : World} {B : Nat} {A : Option Addr} {j c : Nat} {ls : List Lnk} (h : OwG 51 3 (CRw w0) W B A j c ls) (hb : Below w0.heap.size w0 W) : RdL W A j ls := by
 refine ⟨h.len, fun h0 => ?_⟩
 obtain ⟨g, cur, e, hg, hk⟩ := h.at_ h0
 refine ⟨g, 0, e, lt_of_some hg, fun k hk2 => ?_⟩
 obtain ⟨v, x, h1, h2, ⟨r, rfl, hr⟩, h4⟩ := hk k hk2
 have ex : lnkAt ls k = x := getD_of h2
 have hr2 := hr.below hb
 have c0 := h4 0 _ rfl
 rw [ex, Nat.zero_add]
 refine ⟨r.B, r.m, r.d, r.C, r.p, r.q, ?_, h4 1 _ rfl, h4 2 _ rfl, hr2.ri, hr2.rp, hr2.md, hr2.dm, hr2.pq, hr2.qm⟩
 rw [← hr.k]
 exact c0
theorem zeros_len (z : Array Value) (n : Nat) : (Builtin.zeroCells z n).size = n * z.size := by
 unfold Builtin.zeroCells
 simp
set_option maxHeartbeats 2000000 in
theorem growK_c {α : Type} {C : World → List Value → α → Prop} (N : Nat) (w : World) (hN : N ≤ 1000000) :
 Calls Tryz.prog 91 #[.slice none 0 0, .int .i64 (N : Int)] w
  (fun e w' => ∃ A c, e = .returned (.slice A 0 c) ∧ OwG 51 3 C w' w.heap.size A 0 c [] ∧ Below w.heap.size w w') := by
 have h1 : ¬ ((N : Int) < 0) := by omega
 by_cases h0 : N = 0
 · subst h0
   go_enter Tryz.func91, Tryz.ntmps91
   go_wp2
   go_ret
   exact ⟨none, 0, rfl, OwG.nil _ _, Below.refl _ _⟩
 · obtain ⟨i, hi, hz, hs, hb⟩ := info_parts infoK9
   have h4 : (N : Int) > 0 := by omega
   have h5 : wrap64 (N : Int) = (N : Int) := by unfold wrap64; omega
   have hrz : ∀ ty, (Builtin.append_ #[22, 3] ty #[.slice none 0 0, .int .i64 (N : Int)]).run Tryz.prog w =
    .ok (.slice (some ⟨w.heap.size, 0, none⟩) N (grownCap w N 0 51)) (w.drew.alloc (.cells (Builtin.zeroCells #[.int .i64 0, .slice none 0 0, .slice none 0 0] N ++ Builtin.zeroCells #[.int .i64 0, .slice none 0 0, .slice none 0 0] (grownCap w N 0 51 - N)) 51)) := fun ty => by
    have h := Lib.run_append_grow_zeros (P := Tryz.prog) w 22 3 ty 51 i _ .i64 .i64 Tryz.underlying22 Tryz.underlying3 hi hz none 0 0 [] (run_firstCells_none w.drew i.size 0 0 0) N (by omega) (by omega) (by omega) (by omega) (by rw [hb]; omega)
     (by rw [Nat.zero_add]; exact growslice_fits (by omega) (by rw [hb]; omega))
    rw [Nat.zero_add] at h
    simpa [Value.cells] using h
   have hGn : N ≤ grownCap w N 0 51 := grownCap_ge w _ _ _
   have hG63 : grownCap w N 0 51 ≤ maxLen := grownCap_le_maxLen w N 0 51 (by unfold maxLen; omega)
   obtain ⟨G, hG⟩ : ∃ G, G = grownCap w N 0 51 := ⟨_, rfl⟩
   rw [← hG] at hrz hGn hG63
   have hG9 : G ≤ 9223372036854775807 := by unfold maxLen at hG63; omega
   have HO := Lib.hid (show OwG 51 3 C (w.drew.alloc (.cells (Builtin.zeroCells #[.int .i64 0, .slice none 0 0, .slice none 0 0] N ++ Builtin.zeroCells #[.int .i64 0, .slice none 0 0, .slice none 0 0] (G - N)) 51)) w.heap.size (some ⟨w.heap.size, 0, none⟩) 0 G [] from
    ⟨rfl, (fun g n cap cur e hv hg u hu => by
     injection hv with q1 q2 q3
     injection q1 with q1
     injection q1 with q1
     subst q1
     rw [show w.heap.size = w.drew.heap.size from rfl, Go.heap_alloc_new] at hg
     injection hg with hg
     injection hg with hg
     subst hg
     have hzz : ∀ u ∈ (#[.int .i64 0, .slice none 0 0, .slice none 0 0] : Array Value).toList, noW u := fun u hu => by
      simp at hu
      rcases hu with rfl | rfl
      · exact noW_i _
      · exact noW_s _ _ _
     simp only [Array.toList_append, List.mem_append] at hu
     rcases hu with hu | hu
     · exact mem_zeros _ hzz _ u hu
     · exact mem_zeros _ hzz _ u hu), fun _ => [], ⟨by simp [rowF], .inr ⟨w.heap.size, G, _, rfl, Nat.le_refl _, Go.heap_alloc_new w.drew _, Nat.zero_le _, hG63, by rw [Array.size_append, zeros_len, zeros_len]; show N * 3 + (G - N) * 3 = G * 3; omega, by simp [rowF]⟩⟩, fun k hk => absurd hk (by omega)⟩)
   have HP := Lib.hid (((Below.refl w.heap.size w).drew).trans (bel_alloc w.drew (.cells (Builtin.zeroCells #[.int .i64 0, .slice none 0 0, .slice none 0 0] N ++ Builtin.zeroCells #[.int .i64 0, .slice none 0 0, .slice none 0 0] (G - N)) 51)))
   clear hG hG63 hi hz hs hb
   generalize (w.drew.alloc (.cells (Builtin.zeroCells #[.int .i64 0, .slice none 0 0, .slice none 0 0] N ++ Builtin.zeroCells #[.int .i64 0, .slice none 0 0, .slice none 0 0] (G - N)) 51)) = W9 at hrz HO HP
   go_enter Tryz.func91, Tryz.ntmps91
   go_wp2_with (at_builtin; refine Lib.wpList_append_run _ rfl _ _ _ _ rfl _ _ rfl rfl _ _ (hrz _) ?_)
   all_goals (go_ret; exact ⟨_, _, rfl, HO.out, HP.out⟩)
def ConcP (w0 : World) (ls : List Lnk) (n : Nat) (w : World) (e : Ending) (w' : World) : Prop :=
 ∃ L c, e = .returned (.slice L n c) ∧ RowG 51 3 (CRw w0) w' L n ls ∧ (∀ a, L = some a → w.heap.size ≤ a.block) ∧ Below w.heap.size w w'
def sumK (n n' k : Nat) : Nat := if k = 0 then 0 else if k = 1 then n else n + n'
def lsK (ls ls' : List Lnk) (k : Nat) : List Lnk := if k = 0 then [] else if k = 1 then ls else ls ++ ls'
set_option maxHeartbeats 4000000 in
theorem concK_c (b : Nat) (A : Option Addr) (n c : Nat) (ls : List Lnk) (A' : Option Addr) (n' c' : Nat) (ls' : List Lnk) (w0 w : World) (hlow : Below w0.heap.size w0 w) (h0 : w.cell? ⟨b, 0, none⟩ = some (.slice A n c)) (h1 : w.cell? ⟨b, 1, none⟩ = some (.slice A' n' c')) (hr : RdL w0 A n ls) (hr' : RdL w0 A' n' ls') (hn : n + n' ≤ 100000) :
 Calls Tryz.prog 47 #[.slice (some ⟨b, 0, none⟩) 2 2] w (ConcP w0 (ls ++ ls') (n + n') w) := by
 have hlb := World.block_lt_of_cell? w _ h0
 have HI := Lib.hid (And.intro hr hr')
 have HP := Lib.hid hlow
 have HC := Lib.hid (show ∀ W, Below w.heap.size w W → W.cell? ⟨b, 0, none⟩ = some (.slice A n c) ∧ W.cell? ⟨b, 1, none⟩ = some (.slice A' n' c') from fun W hb => ⟨(hb.cell (p := ⟨b, 0, none⟩) hlb).trans h0, (hb.cell (p := ⟨b, 1, none⟩) hlb).trans h1⟩)
 have HL := Lib.hid (And.intro hr.len hr'.len)
 clear hlow hr hr' hlb h0 h1
 go_enter Tryz.func47, Tryz.ntmps47
 go_wp2
 go_loopw [3, 5, 11] (fun v3 _ v11 wr => ∃ k : Nat, v11 = .int .i64 (k : Int) ∧ k ≤ 2 ∧ v3 = .int .i64 ((sumK n n' k : Nat) : Int) ∧ Below w.heap.size w wr) (fun _ _ v _ => 2 - (intOf v).toNat)
 case atStart => exact ⟨0, rfl, by omega, rfl, Below.refl _ _⟩
 case round =>
  obtain ⟨k, rfl, hk, rfl, hb⟩ := hrel
  have P := Lib.hid hb
  have c0 := (HC.out _ hb).1
  have c1 := (HC.out _ hb).2
  clear hb
  rcases (show k = 0 ∨ k = 1 ∨ k = 2 by omega) with rfl | rfl | rfl
  · have e0 : sumK n n' 0 = 0 := rfl
    rw [e0]
    go_wp2
    refine ⟨⟨1, rfl, by omega, ?_, P.out⟩, by simp [intOf]⟩
    show _ = Value.int .i64 (n : Int)
    go_num
  · have e1 : sumK n n' 1 = n := rfl
    rw [e1]
    go_wp2
    refine ⟨⟨2, rfl, by omega, ?_, P.out⟩, by simp [intOf]⟩
    show _ = Value.int .i64 ((n + n' : Nat) : Int)
    go_num
  · have e2 : sumK n n' 2 = n + n' := rfl
    rw [e2]
    clear c0 c1
    have hnn : ¬ (((n + n' : Nat) : Int) < 0) := by omega
    go_wp2_with fail
    refine (growK_c (C := CRw w0) (n + n') _ (by omega)).mono ?_
    rintro e w1 ⟨G, cG, rfl, hO, hb⟩
    have OW := Lib.hid (hO.base P.out.size)
    have P2 := Lib.hid (P.out.trans (hb.mono P.out.size))
    clear hO hb hnn P e2
    go_wp2
    go_loopw [6, 8, 27] (fun v6 _ v27 wr => ∃ (k cL : Nat) (L : Option Addr), v27 = .int .i64 (k : Int) ∧ k ≤ 2 ∧ v6 = .slice L (sumK n n' k) cL ∧ Below w.heap.size w wr ∧ OwG 51 3 (CRw w0) wr w.heap.size L (sumK n n' k) cL (lsK ls ls' k)) (fun _ _ v _ => 2 - (intOf v).toNat)
    case atStart => exact ⟨0, _, _, rfl, by omega, rfl, P2.out, OW.out⟩
    case round =>
     obtain ⟨k, cL, L, rfl, hk, rfl, hp, ho⟩ := hrel
     clear OW P2
     have P := Lib.hid hp
     have OW := Lib.hid ho
     have c0 := (HC.out _ hp).1
     have c1 := (HC.out _ hp).2
     clear hp ho
     rcases (show k = 0 ∨ k = 1 ∨ k = 2 by omega) with rfl | rfl | rfl
     · by_cases q0 : n = 0
       · have HZ := Lib.hid (And.intro q0 (show ls = [] from List.length_eq_zero_iff.1 (HL.out.1.trans q0)))
         have HJ := Lib.hid OW.out.cap.1
         clear q0
         go_wp2_with (at_builtin; refine wpList_app_0n rfl infK (.tmp 31) (.tmp 32) rfl A n c HZ.out.1 rfl rfl HJ.out ?_)
         go_wp2
         go_roundw
         case measure => simp [intOf]
         case rel =>
          have e1 : sumK n n' 1 = sumK n n' 0 := by simp [sumK, HZ.out.1]
          refine ⟨1, cL, L, rfl, by omega, by rw [e1], P.out, ?_⟩
          have h := OW.out
          rw [show lsK ls ls' 1 = lsK ls ls' 0 by unfold lsK; rw [if_pos rfl, if_neg (by decide), if_pos rfl, HZ.out.2], e1]
          exact h
       · obtain ⟨b1, o1, e1, el⟩ := rdL_el HI.out.1 (by omega) (HP.out.trans (P.out.mono HP.out.size))
         subst e1
         have EL := Lib.hid el
         clear el
         go_wp2_with (at_builtin; refine wpList_app_g rfl infK CRw.chg (.tmp 31) (.tmp 32) rfl b1 o1 n c ls rfl rfl OW.out P.out.size (by omega) EL.out (by show sumK n n' 0 ≤ 1000000; simp [sumK]) (by omega) ?_)
         intro g' c9 w' h1 hb hch hot
         clear hch hot
         have P2 := Lib.hid (P.out.trans hb)
         have OW2 := Lib.hid h1
         clear h1 hb OW P EL c0 c1
         go_wp2
         refine ⟨⟨1, c9, some ⟨g', 0, none⟩, rfl, by omega, ?_, P2.out, ?_⟩, by simp [intOf]⟩
         · simp [sumK]
         · have h := OW2.out
           simpa [sumK, lsK] using h
     · by_cases q0 : n' = 0
       · have HZ := Lib.hid (And.intro q0 (show ls' = [] from List.length_eq_zero_iff.1 (HL.out.2.trans q0)))
         have HJ := Lib.hid OW.out.cap.1
         clear q0
         go_wp2_with (at_builtin; refine wpList_app_0n rfl infK (.tmp 31) (.tmp 32) rfl A' n' c' HZ.out.1 rfl rfl HJ.out ?_)
         go_wp2
         go_roundw
         case measure => simp [intOf]
         case rel =>
          have e1 : sumK n n' 2 = sumK n n' 1 := by simp [sumK, HZ.out.1]
          refine ⟨2, cL, L, rfl, by omega, by rw [e1], P.out, ?_⟩
          have h := OW.out
          rw [show lsK ls ls' 2 = lsK ls ls' 1 by unfold lsK; rw [if_neg (by decide), if_neg (by decide), if_neg (by decide), if_pos rfl, HZ.out.2, List.append_nil], e1]
          exact h
       · obtain ⟨b1, o1, e1, el⟩ := rdL_el HI.out.2 (by omega) (HP.out.trans (P.out.mono HP.out.size))
         subst e1
         have EL := Lib.hid el
         clear el
         go_wp2_with (at_builtin; refine wpList_app_g rfl infK CRw.chg (.tmp 31) (.tmp 32) rfl b1 o1 n' c' ls' rfl rfl OW.out P.out.size (by omega) EL.out (by show sumK n n' 1 ≤ 1000000; simp [sumK]; omega) (by omega) ?_)
         intro g' c9 w' h1 hb hch hot
         clear hch hot
         have P2 := Lib.hid (P.out.trans hb)
         have OW2 := Lib.hid h1
         clear h1 hb OW P EL c0 c1
         go_wp2
         refine ⟨⟨2, c9, some ⟨g', 0, none⟩, rfl, by omega, ?_, P2.out, ?_⟩, by simp [intOf]⟩
         · simp [sumK]
         · have h := OW2.out
           simpa [sumK, lsK] using h
     · clear c0 c1
       go_wp2
       go_ret
       have h := OW.out
       have h2 : OwG 51 3 (CRw w0) wr w.heap.size L (n + n') cL (ls ++ ls') := by simpa [sumK, lsK] using h
       exact ⟨L, cL, by simp [sumK], h2.row, fun a ha => (h2.cap.2.2 a ha).1, P.out⟩
end Go.Proofs.YteabokkofoomkaaGreat
