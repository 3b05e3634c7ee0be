/- what the machine's reading of a word says of the word; the machine's Parse: what it says when it reads; panics; the machine's Parse: what it reads is the text of a valid machine, or it says ErrParse -/
import Derived.Test.YthjdnidapbhdlaaDoorIq
import Derived.Test.YthjdnidapbhdlaaDoorGu
import Derived.Test.YthjdnidapbhdlaaDoorIf
import Derived.Lib.AtoiAllCases
import Derived.Lib.AtoiErrMem
import Derived.WalkLawsBesides
set_option maxRecDepth 100000
namespace Go.Proofs.YthjdnidapbhdlaaDoor
open Go.RowKit
/-- the words of memory that the library's functions look at -/
structure Mw (w : World) : Prop where
  ml : Ml w
  tb : Lib.TabBelow Tryd.prog w.heap.size w "internal/strconv.uint64pow10" .u64 Lib.pow10Tab
  es : ∃ t p, w.cell? ⟨2, 0, none⟩ = some (.iface t p)
  er : ∃ t p, w.cell? ⟨3, 0, none⟩ = some (.iface t p)
theorem Mw.next {w w' : World} (h : Mw w) (hb : Below w.heap.size w w') : Mw w' := by
  obtain ⟨t1, p1, h1⟩ := h.es
  obtain ⟨t2, p2, h2⟩ := h.er
  exact ⟨h.ml.next hb, fun w2 h2 => h.tb w2 (hb.trans (h2.mono hb.size)), ⟨t1, p1, (hb.cell (p := ⟨2, 0, none⟩) (Lib.lt_of_cell h1)).trans h1⟩, ⟨t2, p2, (hb.cell (p := ⟨3, 0, none⟩) (Lib.lt_of_cell h2)).trans h2⟩⟩
theorem Mw.tab {w : World} (h : Mw w) : Lib.TabIs Tryd.prog w "internal/strconv.uint64pow10" .u64 Lib.pow10Tab := h.tb w (Below.refl _ _)
/-- a panic -/
def Pan (e : Ending) : Prop := ∃ u pv, e = .panicked [{ v := .iface u pv, recovered := false }]
def NumS (s : ByteArray) (w : World) (e : Ending) (w' : World) : Prop :=
  ((∃ v : Int, e = .returned (.int .i64 v) ∧ s.data.toList = Lib.itoa v) ∨ Pan e) ∧ Below w.heap.size w w'
theorem bel_bw (w w' : World) (h : w' = w ∨ ∃ t, w' = Lib.bytesWorld w 5 t) : Below w.heap.size w w' := by
  rcases h with rfl | ⟨t, rfl⟩
  · exact Below.refl _ _
  · exact Joins.below_bytesWorld w.heap.size w 5 t (Nat.le_refl _)
set_option maxHeartbeats 4000000 in
theorem number_s (s : ByteArray) (hs : s.size ≤ 100000) (w : World) (hw : Mw w) : Calls Tryd.prog 71 #[.string s] w (NumS s w) := by
  rcases ha : Lib.atoiAll s.data.toList with v | _ | _
  · have hv := Lib.atoiAll_bounds ha
    have H1 := Lib.hid (Tryd.strconv_Atoi_ok s (by omega) v ha w)
    have HI := Lib.hid (fun (W : World) (h : Mw W) => Tryd.strconv_Itoa v hv.1 hv.2 W h.tab)
    have HW := Lib.hid hw
    obtain ⟨l, hl⟩ : ∃ l, l = Lib.itoa v := ⟨_, rfl⟩
    rw [← hl] at HI
    have HL := Lib.hid hl
    clear ha hv hw hl
    go_enter Tryd.func71, Tryd.ntmps71
    go_wp2_with fail
    refine H1.out.mono ?_
    rintro e w1 ⟨rfl, h⟩
    have HB := Lib.hid (bel_bw w w1 h)
    replace HW := Lib.hid (HW.out.next HB.out)
    clear h H1
    go_wp2_with fail
    refine (HI.out _ HW.out).mono ?_
    rintro e w2 ⟨rfl, k, os, hw2⟩
    have hb : Below w1.heap.size w1 w2 := by rw [hw2]; exact Lib.below_grow _ _ (Nat.le_refl _) _ _
    replace HB := Lib.hid (HB.out.trans (hb.mono HB.out.size))
    clear hb hw2 HI
    by_cases he : (⟨l.toArray⟩ : ByteArray) = s
    · have t1 : ((⟨l.toArray⟩ : ByteArray).toList == s.toList) = true := by rw [he]; simp
      have HE := Lib.hid (show s.data.toList = Lib.itoa v by rw [← he, HL.out])
      clear he HL
      generalize (⟨l.toArray⟩ : ByteArray) = tt at t1 ⊢
      go_wp2
      go_ret
      exact ⟨.inl ⟨v, rfl, HE.out⟩, HB.out⟩
    · have t1 := beq_bytes_no he
      clear he HL
      generalize (⟨l.toArray⟩ : ByteArray) = tt at t1 ⊢
      go_wp2
      exact ⟨rfl, .inr ⟨_, _, rfl⟩, HB.out⟩
  · obtain ⟨te, pe, hc⟩ := hw.es
    have H1 := Lib.hid (Tryd.strconv_Atoi_syntax s (by omega) ha (.iface te pe) w hc (.inr ⟨te, pe, rfl⟩))
    clear ha hc hw
    go_enter Tryd.func71, Tryd.ntmps71
    go_wp2_with fail
    refine H1.out.mono ?_
    rintro e w1 ⟨N, rfl, _, _, hb⟩
    have HB := Lib.hid hb
    clear hb H1
    go_wp2
    exact ⟨rfl, .inr ⟨_, _, rfl⟩, HB.out⟩
  · obtain ⟨te, pe, hc⟩ := hw.er
    have H1 := Lib.hid (Tryd.strconv_Atoi_range s (by omega) ha (.iface te pe) w hc (.inr ⟨te, pe, rfl⟩))
    clear ha hc hw
    go_enter Tryd.func71, Tryd.ntmps71
    go_wp2_with fail
    refine H1.out.mono ?_
    rintro e w1 ⟨N, rfl, _, _, hb⟩
    have HB := Lib.hid hb
    clear hb H1
    go_wp2
    exact ⟨rfl, .inr ⟨_, _, rfl⟩, HB.out⟩
theorem let_op (b : UInt8) : (Lib.indexByte [105, 100, 106] b = 0 ∧ b = 105) ∨ (Lib.indexByte [105, 100, 106] b = 1 ∧ b = 100) ∨ (Lib.indexByte [105, 100, 106] b = 2 ∧ b = 106) ∨ Lib.indexByte [105, 100, 106] b = -1 := by
  by_cases h1 : b = 105
  · subst h1; exact .inl ⟨rfl, rfl⟩
  · by_cases h2 : b = 100
    · subst h2; exact .inr (.inl ⟨rfl, rfl⟩)
    · by_cases h3 : b = 106
      · subst h3; exact .inr (.inr (.inl ⟨rfl, rfl⟩))
      · refine .inr (.inr (.inr (ib_none b _ ?_)))
        simp [h1, h2, h3]
theorem letter_g (b : UInt8) (W : World) :
    Calls Tryd.prog 101 #[.string ((⟨#[105, 100, 106, 104]⟩ : ByteArray).extract 0 3), .int .u8 (b.toNat : Int)] W fun e w' => e = .returned (.int .i64 (Lib.indexByte [105, 100, 106] b)) ∧ w' = W := by
  have h := Tryd.strings_IndexByte ((⟨#[105, 100, 106, 104]⟩ : ByteArray).extract 0 3) (b.toNat : Int) W
  rw [Lib.byte_back] at h
  exact h
theorem cut_g (a : ByteArray) (c : UInt8) (hz : a.size ≤ 100000) : ∃ p q : List UInt8, ∃ ok : Bool, p.length ≤ 100000 ∧ q.length ≤ 100000 ∧ (ok = true → a.data.toList = p ++ c :: q) ∧
    ∀ W : World, Ml W → Calls Tryd.prog 102 #[.string a, .string ⟨#[c]⟩] W fun e w' => e = .returned (.tuple #[.string (tx p), .string (tx q), .bool ok]) ∧ ∃ n, w' = W.drewN n := by
  have hl : a.data.toList.length = a.size := Array.length_toList
  refine ⟨(Lib.cut a.data.toList [c]).1, (Lib.cut a.data.toList [c]).2.1, (Lib.cut a.data.toList [c]).2.2, ?_, ?_, ?_, fun W hW => ?_⟩
  · unfold Lib.cut; split
    · simp only [List.length_take]; omega
    · simp only; omega
  · unfold Lib.cut; split
    · simp only [List.length_drop]; omega
    · simp
  · unfold Lib.cut; split
    · rename_i h
      intro _
      obtain ⟨i, hi⟩ := Int.eq_ofNat_of_zero_le h
      rw [hi]
      rw [Lib.index_one] at hi
      exact (ib_some c _ i hi).1
    · intro h; cases h
  · obtain ⟨m, hm⟩ := hW.at_
    exact Tryd.strings_Cut a ⟨#[c]⟩ m W (by omega) hm
def InsS (s : ByteArray) (w : World) (e : Ending) (w' : World) : Prop :=
  ((∃ x : Ins, e = .returned (aggI x) ∧ s.data.toList = wordT x) ∨ Pan e) ∧ Below w.heap.size w w'
theorem ba_cons (s : ByteArray) (hs : 0 < s.size) : s.data.toList = s[0] :: (s.extract 1 s.size).data.toList := by
  rw [Lib.extract_to_end]
  have h1 : s[0] = s.data[0]'hs := rfl
  rw [h1, ← Array.getElem_toList]
  have hl : 0 < s.data.toList.length := by rw [Array.length_toList]; exact hs
  exact List.drop_eq_getElem_cons (i := 0) hl
set_option maxHeartbeats 8000000 in
theorem insn_s (s : ByteArray) (hs : s.size ≤ 2000) (w : World) (hw : Mw w) : Calls Tryd.prog 72 #[.string s] w (InsS s w) := by
  have HW := Lib.hid hw
  by_cases h1 : s = tx [104]
  · subst h1
    refine (insn_h w).mono ?_
    rintro e w' ⟨rfl, hb⟩
    exact ⟨.inl ⟨_, rfl, rfl⟩, hb⟩
  · have e1 : (s.toList == [104]) = false := by
      rw [beq_eq_false_iff_ne, ByteArray.toList_eq]
      intro e
      exact h1 (ByteArray.ext (Array.toList_inj.1 e))
    have HB := Lib.hid (bel_alloc w (celI ⟨0, 0, 0, 0⟩))
    have BX := Lib.hid (BxI.new w ⟨0, 0, 0, 0⟩)
    by_cases h2 : s.size = 0
    · have e2 : s.toList.isEmpty = true := by
        rw [ByteArray.toList_eq]
        have : s.data.toList.length = 0 := by rw [Array.length_toList]; exact h2
        rw [List.length_eq_zero_iff.1 this]; rfl
      clear hs hw h1 h2
      go_enter Tryd.func72, Tryd.ntmps72
      go_wp2
      exact ⟨rfl, .inr ⟨_, _, rfl⟩, HB.out⟩
    · have hs0 : 0 < s.size := by omega
      have e2 : s.toList.isEmpty = false := by
        rw [ByteArray.toList_eq]
        have : s.data.toList.length = s.size := Array.length_toList
        cases hl : s.data.toList with
        | nil => rw [hl] at this; simp at this; omega
        | cons a b => rfl
      have HS := Lib.hid (ba_cons s hs0)
      have HI := Lib.hid (letter_g s[0])
      have HOP := Lib.hid (let_op s[0])
      obtain ⟨p, q, ok, hp, hq, hok, hcut⟩ := cut_g (s.extract 1 s.size) 62 (by rw [ByteArray.size_extract]; omega)
      have HC := Lib.hid hcut
      have HOK := Lib.hid hok
      have HP := Lib.hid hp
      have HQ := Lib.hid hq
      generalize Lib.indexByte [105, 100, 106] s[0] = op at HI HOP
      clear hs hw h1 h2 hcut hok hp hq
      go_enter Tryd.func72, Tryd.ntmps72
      go_upto_region 5 with (fail)
      generalize w.alloc (celI ⟨0, 0, 0, 0⟩) = W0 at HB BX ⊢
      obtain ⟨g, hg⟩ : ∃ g, g = w.heap.size := ⟨_, rfl⟩
      rw [← hg] at BX ⊢
      have HG := Lib.hid hg
      have X0 := Lib.hid ((BxI.new W0 ⟨op, 0, 0, 0⟩).next ((Below.refl (W0.alloc (celI ⟨op, 0, 0, 0⟩)).heap.size (W0.alloc (celI ⟨op, 0, 0, 0⟩))).drew))
      have B0 := Lib.hid ((bel_alloc W0 (celI ⟨op, 0, 0, 0⟩)).drew)
      clear hg
      go_cut [3] (fun v3 W => ∃ gi, v3 = .pointer (some ⟨gi, 0, none⟩) ∧ BxI W gi ⟨op, 0, 0, 0⟩ ∧ W0.heap.size ≤ gi ∧ Below W0.heap.size W0 W)
      case first =>
        go_region_with (go_at_call 101; refine (HI.out _).mono ?_; rintro e w1 ⟨rfl, rfl⟩)
        all_goals (go_wp2; go_meet; exact ⟨W0.heap.size, rfl, X0.out, Nat.le_refl _, B0.out⟩)
      case rest =>
        obtain ⟨gi, rfl, hx, hgi, hb1⟩ := hcut
        clear X0 B0 HI
        have X2 := Lib.hid hx
        have B2 := Lib.hid (HB.out.trans (hb1.mono HB.out.size))
        have hne : gi ≠ g := by have h2 := BX.out.lt; omega
        have HGW := Lib.hid (show w.heap.size ≤ gi from Nat.le_trans HB.out.size hgi)
        have Y2 := Lib.hid (BX.out.next hb1)
        have hne2 : g ≠ gi := fun e => hne e.symm
        clear hx hgi hb1 HB BX e1 e2
        go_wp2_with fail
        refine (HC.out _ (HW.out.next B2.out).ml).mono ?_
        rintro e w2 ⟨rfl, j, rfl⟩
        have hbd := bel_drew (Below.refl wc.heap.size wc) j
        have B2 := Lib.hid (B2.out.trans (hbd.mono B2.out.size))
        have X2 := Lib.hid (X2.out.next hbd)
        have Y2 := Lib.hid (Y2.out.next hbd)
        clear hbd HC
        generalize wc.drewN j = W2 at B2 X2 Y2 ⊢
        have x0 := X2.out.c0
        cases ok with
        | false =>
          go_wp2
          exact ⟨rfl, .inr ⟨_, _, rfl⟩, B2.out⟩
        | true =>
          have HR := Lib.hid (HOK.out rfl)
          have HNP := Lib.hid (number_s (tx p) (by show p.toArray.size ≤ 100000; simpa using HP.out))
          have HNQ := Lib.hid (number_s (tx q) (by show q.toArray.size ≤ 100000; simpa using HQ.out))
          clear HOK
          rcases HOP.out with ⟨rfl, hb⟩ | ⟨rfl, hb⟩ | ⟨rfl, hb⟩ | rfl
          · have HBY := Lib.hid hb
            clear hb HOP
            go_wp2_with fail
            refine (HNP.out _ (HW.out.next B2.out)).mono ?_
            rintro e w3 ⟨h | ⟨u, pv, rfl⟩, hb⟩
            case' inr => exact ⟨rfl, .inr ⟨_, _, rfl⟩, B2.out.trans (hb.mono B2.out.size)⟩
            obtain ⟨v3, rfl, hv3⟩ := h
            have HV3 := Lib.hid hv3
            clear hv3
            have B2 := Lib.hid (B2.out.trans (hb.mono B2.out.size))
            have X2 := Lib.hid (X2.out.next hb)
            have Y2 := Lib.hid (Y2.out.next hb)
            clear hb HNP
            clear x0
            go_wp2_with fail
            refine (HNQ.out _ (HW.out.next B2.out)).mono ?_
            rintro e w4 ⟨h | ⟨u, pv, rfl⟩, hb⟩
            case' inr => exact ⟨rfl, .inr ⟨_, _, rfl⟩, B2.out.trans (hb.mono B2.out.size)⟩
            obtain ⟨v4, rfl, hv4⟩ := h
            have HV4 := Lib.hid hv4
            clear hv4
            have B2 := Lib.hid (B2.out.trans (hb.mono B2.out.size))
            have X2 := Lib.hid (X2.out.next hb)
            have Y2 := Lib.hid (Y2.out.next hb)
            clear hb HNQ
            have x0 := X2.out.c0
            have x1 := X2.out.c1
            have x2 := X2.out.c2
            have x3 := X2.out.c3
            have f1 := X2.out.fr 1
            have f2 := X2.out.fr 2
            have y0 := Y2.out.fr 0
            have y1 := Y2.out.fr 1
            have y2 := Y2.out.fr 2
            have y3 := Y2.out.fr 3
            have z0 := Y2.out.c0
            have z1 := Y2.out.c1
            have z2 := Y2.out.c2
            have z3 := Y2.out.c3
            go_wp2
            have Z := ((Y2.out.off (p := ⟨gi, 1, none⟩) hne (.int .i64 v3)).off (p := ⟨gi, 2, none⟩) hne (.int .i64 v4)).put ⟨0, v3, v4, 0⟩
            have k0 := Z.c0
            have k1 := Z.c1
            have k2 := Z.c2
            have k3 := Z.c3
            clear x0 x1 x2 x3 f1 f2 y0 y1 y2 y3 z0 z1 z2 z3
            refine bodyPost_ret (v := aggI ⟨0, v3, v4, 0⟩) (by simp [results, Tryd.results72, go_sem, k0, k1, k2, k3]) rfl ?_
            have hg : w.heap.size ≤ g := Nat.le_of_eq HG.out.symm
            refine ⟨.inl ⟨_, rfl, ?_⟩, bel_set (bel_set (bel_set (bel_set (bel_set (bel_set B2.out HGW.out _) HGW.out _) hg _) hg _) hg _) hg _⟩
            rw [HS.out, HBY.out, HR.out, show p = Lib.itoa v3 from HV3.out, show q = Lib.itoa v4 from HV4.out]
            rfl
          · have HBY := Lib.hid hb
            clear hb HOP
            go_wp2_with fail
            refine (HNP.out _ (HW.out.next B2.out)).mono ?_
            rintro e w3 ⟨h | ⟨u, pv, rfl⟩, hb⟩
            case' inr => exact ⟨rfl, .inr ⟨_, _, rfl⟩, B2.out.trans (hb.mono B2.out.size)⟩
            obtain ⟨v3, rfl, hv3⟩ := h
            have HV3 := Lib.hid hv3
            clear hv3
            have B2 := Lib.hid (B2.out.trans (hb.mono B2.out.size))
            have X2 := Lib.hid (X2.out.next hb)
            have Y2 := Lib.hid (Y2.out.next hb)
            clear hb HNP
            clear x0
            go_wp2_with fail
            refine (HNQ.out _ (HW.out.next B2.out)).mono ?_
            rintro e w4 ⟨h | ⟨u, pv, rfl⟩, hb⟩
            case' inr => exact ⟨rfl, .inr ⟨_, _, rfl⟩, B2.out.trans (hb.mono B2.out.size)⟩
            obtain ⟨v4, rfl, hv4⟩ := h
            have HV4 := Lib.hid hv4
            clear hv4
            have B2 := Lib.hid (B2.out.trans (hb.mono B2.out.size))
            have X2 := Lib.hid (X2.out.next hb)
            have Y2 := Lib.hid (Y2.out.next hb)
            clear hb HNQ
            have x0 := X2.out.c0
            have x1 := X2.out.c1
            have x2 := X2.out.c2
            have x3 := X2.out.c3
            have f1 := X2.out.fr 1
            have f2 := X2.out.fr 2
            have y0 := Y2.out.fr 0
            have y1 := Y2.out.fr 1
            have y2 := Y2.out.fr 2
            have y3 := Y2.out.fr 3
            have z0 := Y2.out.c0
            have z1 := Y2.out.c1
            have z2 := Y2.out.c2
            have z3 := Y2.out.c3
            go_wp2
            have Z := ((Y2.out.off (p := ⟨gi, 1, none⟩) hne (.int .i64 v3)).off (p := ⟨gi, 2, none⟩) hne (.int .i64 v4)).put ⟨1, v3, v4, 0⟩
            have k0 := Z.c0
            have k1 := Z.c1
            have k2 := Z.c2
            have k3 := Z.c3
            clear x0 x1 x2 x3 f1 f2 y0 y1 y2 y3 z0 z1 z2 z3
            refine bodyPost_ret (v := aggI ⟨1, v3, v4, 0⟩) (by simp [results, Tryd.results72, go_sem, k0, k1, k2, k3]) rfl ?_
            have hg : w.heap.size ≤ g := Nat.le_of_eq HG.out.symm
            refine ⟨.inl ⟨_, rfl, ?_⟩, bel_set (bel_set (bel_set (bel_set (bel_set (bel_set B2.out HGW.out _) HGW.out _) hg _) hg _) hg _) hg _⟩
            rw [HS.out, HBY.out, HR.out, show p = Lib.itoa v3 from HV3.out, show q = Lib.itoa v4 from HV4.out]
            rfl
          · have HBY := Lib.hid hb
            obtain ⟨nx, zr, ok, hnx, hzr, hok, hcut⟩ := cut_g (tx q) 58 (by show q.toArray.size ≤ 100000; simpa using HQ.out)
            have HC := Lib.hid hcut
            have HOK := Lib.hid hok
            have HNX := Lib.hid (number_s (tx nx) (by show nx.toArray.size ≤ 100000; simpa using hnx))
            have HNZ := Lib.hid (number_s (tx zr) (by show zr.toArray.size ≤ 100000; simpa using hzr))
            clear hb HOP hcut hok hnx hzr HNQ
            go_wp2_with fail
            refine (HC.out _ (HW.out.next B2.out).ml).mono ?_
            rintro e w2 ⟨rfl, j, rfl⟩
            have hbd := bel_drew (Below.refl W2.heap.size W2) j
            have B2 := Lib.hid (B2.out.trans (hbd.mono B2.out.size))
            have X2 := Lib.hid (X2.out.next hbd)
            have Y2 := Lib.hid (Y2.out.next hbd)
            clear hbd HC x0
            generalize W2.drewN j = W2 at B2 X2 Y2 ⊢
            cases ok with
            | false =>
              go_wp2
              exact ⟨rfl, .inr ⟨_, _, rfl⟩, B2.out⟩
            | true =>
              have HR2 := Lib.hid (HOK.out rfl)
              clear HOK
              go_wp2_with fail
              refine (HNZ.out _ (HW.out.next B2.out)).mono ?_
              rintro e w5 ⟨h | ⟨u, pv, rfl⟩, hb⟩
              case' inr => exact ⟨rfl, .inr ⟨_, _, rfl⟩, B2.out.trans (hb.mono B2.out.size)⟩
              obtain ⟨v5, rfl, hv5⟩ := h
              have HV5 := Lib.hid hv5
              clear hv5
              have B2 := Lib.hid (B2.out.trans (hb.mono B2.out.size))
              have X2 := Lib.hid (X2.out.next hb)
              have Y2 := Lib.hid (Y2.out.next hb)
              clear hb HNZ
              have x3 := X2.out.c3
              have f3 := X2.out.fr 3
              go_wp2_with fail
              have B2 := Lib.hid (bel_set B2.out HGW.out (p := ⟨gi, 3, none⟩) (.int .i64 v5))
              have X2 := Lib.hid (X2.out.put3 v5)
              have Y2 := Lib.hid (Y2.out.off (p := ⟨gi, 3, none⟩) hne (.int .i64 v5))
              clear x3 f3
              generalize w5.setCell ⟨gi, 3, none⟩ (.int .i64 v5) = W2 at B2 X2 Y2 ⊢
              refine (HNP.out _ (HW.out.next B2.out)).mono ?_
              rintro e w3 ⟨h | ⟨u, pv, rfl⟩, hb⟩
              case' inr => exact ⟨rfl, .inr ⟨_, _, rfl⟩, B2.out.trans (hb.mono B2.out.size)⟩
              obtain ⟨v3, rfl, hv3⟩ := h
              have HV3 := Lib.hid hv3
              clear hv3
              have B2 := Lib.hid (B2.out.trans (hb.mono B2.out.size))
              have X2 := Lib.hid (X2.out.next hb)
              have Y2 := Lib.hid (Y2.out.next hb)
              clear hb HNP
              go_wp2_with fail
              refine (HNX.out _ (HW.out.next B2.out)).mono ?_
              rintro e w4 ⟨h | ⟨u, pv, rfl⟩, hb⟩
              case' inr => exact ⟨rfl, .inr ⟨_, _, rfl⟩, B2.out.trans (hb.mono B2.out.size)⟩
              obtain ⟨v4, rfl, hv4⟩ := h
              have HV4 := Lib.hid hv4
              clear hv4
              have B2 := Lib.hid (B2.out.trans (hb.mono B2.out.size))
              have X2 := Lib.hid (X2.out.next hb)
              have Y2 := Lib.hid (Y2.out.next hb)
              clear hb HNX
              have x0 := X2.out.c0
              have x1 := X2.out.c1
              have x2 := X2.out.c2
              have x3 := X2.out.c3
              have f1 := X2.out.fr 1
              have f2 := X2.out.fr 2
              have y0 := Y2.out.fr 0
              have y1 := Y2.out.fr 1
              have y2 := Y2.out.fr 2
              have y3 := Y2.out.fr 3
              have z0 := Y2.out.c0
              have z1 := Y2.out.c1
              have z2 := Y2.out.c2
              have z3 := Y2.out.c3
              go_wp2
              have Z := ((Y2.out.off (p := ⟨gi, 1, none⟩) hne (.int .i64 v3)).off (p := ⟨gi, 2, none⟩) hne (.int .i64 v4)).put ⟨2, v3, v4, v5⟩
              have k0 := Z.c0
              have k1 := Z.c1
              have k2 := Z.c2
              have k3 := Z.c3
              clear x0 x1 x2 x3 f1 f2 y0 y1 y2 y3 z0 z1 z2 z3
              refine bodyPost_ret (v := aggI ⟨2, v3, v4, v5⟩) (by simp [results, Tryd.results72, go_sem, k0, k1, k2, k3]) rfl ?_
              have hg : w.heap.size ≤ g := Nat.le_of_eq HG.out.symm
              refine ⟨.inl ⟨_, rfl, ?_⟩, bel_set (bel_set (bel_set (bel_set (bel_set (bel_set B2.out HGW.out _) HGW.out _) hg _) hg _) hg _) hg _⟩
              rw [HS.out, HBY.out, HR.out, show p = Lib.itoa v3 from HV3.out, show q = nx ++ 58 :: zr from HR2.out, show nx = Lib.itoa v4 from HV4.out, show zr = Lib.itoa v5 from HV5.out]
              rfl
          · have t1 : decide ((-1 : Int) < 0) = true := rfl
            go_wp2
            exact ⟨rfl, .inr ⟨_, _, rfl⟩, B2.out⟩
end Go.Proofs.YthjdnidapbhdlaaDoor
namespace Go.Proofs.YthjdnidapbhdlaaDoor
open Go
/-- A region whose last operations come last: a panic's post may look at the slots. -/
theorem wp_region_tailq {P : Program} {ops : Array Oper} {Q : Exit → Act → World → Prop} {id : Nat} {a : Act} {w : World} {S : World → Prop} (n : Nat) (hm : P.follows .mixedOrders = true) (ht : tailOk .any ops n = true) (hS : S w.drew)
    (h : ∀ QT : Exit → Act → World → Prop, (∀ a w, wpList P ops Q (ops.toList.drop n) a w → QT .normal a w) → (∀ c (a : Act) w, QT (.panic c) a w = Q (.panic c) a w) → S w.drew → wpAnyH P .any (ops.extract 0 n) QT S n (Array.replicate n false) a w.drew) : (Code.region id ops true).wp P Q a w := by
  have hs := tailOk_spec ht
  have hle := hs.le
  refine wp_region_any hm ?_
  have h1 := head_run hs (hd := ops.extract 0 n) (fun i hi => by simp [Array.getElem?_extract]; omega) (by simp; omega) n (Array.replicate n false) (Array.replicate ops.size false) a w.drew (by simp) ?_ ?_ ?_ (wpAny_of_held _ _ _ _ (h (thenTail P ops Q n) (fun a w h => by
    have e := wpOps_eq_wpList (P := P) (Q := Q) (ops := ops) (ops.toList.drop n) n (fun j => by simp)
    rw [List.length_drop, Array.length_toList] at e
    show wpOps P ops Q (List.range' n (ops.size - n)) a w
    rw [e]; exact h) (fun _ _ _ => rfl) hS))
  · rw [show n + (ops.size - n) = ops.size by omega] at h1
    exact h1
  · intro j o ho hj
    have := (Array.getElem?_eq_some_iff.1 ho).1
    simp [Array.getD, this] at hj
  · intro i b hi
    have : i < ops.size := by omega
    simp [Array.getD, hi, this]
  · intro i hi hi2
    simp [Array.getD, hi2]
theorem callsD_mono2 {P : Program} {f : FuncId} {args : Array Value} {u : FrameMode} {w : World} {R R' : Ending → FrameMode → World → Prop} (h : CallsD P f args u w R) (hr : ∀ e u w, R e u w → R' e u w) : CallsD P f args u w R' := h.mono hr
theorem leaves_cong {P : Program} {fn : Func} {t t' : Array Value} {R : Ending → World → Prop} (h : ∀ w, (results fn t').run P w = (results fn t).run P w) : ∀ (ds : List Deferred) (u : FrameMode) (w : World), Leaves P fn t R ds u w → Leaves P fn t' R ds u w
  | [], .returning, w, hl => by
    obtain ⟨v, h1, h2⟩ := hl
    exact ⟨v, (h w).trans h1, h2⟩
  | [], .panicking chain, w, hl => hl
  | [], .run, _, hl => hl
  | d :: ds, u, w, hl => by
    obtain ⟨h1, fv, cap, f, args, h2, h3, h4⟩ := hl
    refine ⟨h1, fv, cap, f, args, h2, h3, callsD_mono2 h4 fun e u' w' he => ?_⟩
    cases e with
    | returned v => exact leaves_cong h ds _ _ he
    | panicked chain => exact leaves_cong h ds _ _ he
    | outgrown => exact he
end Go.Proofs.YthjdnidapbhdlaaDoor
namespace Go.Proofs.YthjdnidapbhdlaaDoor
open Go.RowKit Go
theorem parse_put {R : Ending → World → Prop} {c : List PanicEntry} {a : Act} {d : Nat} {v : Value} {w : World} (h2 : d ≠ 2) (h3 : d ≠ 3) (h : bodyPostD Tryd.prog Tryd.f30 R (.panic c) (a.put (some d) v) w) : bodyPostD Tryd.prog Tryd.f30 R (.panic c) a w := by
  refine leaves_cong (fun w => ?_) _ _ _ h
  have key : ∀ k, d ≠ k → (a.tmps.setIfInBounds d v).getD k undef = a.tmps.getD k undef := fun k hk => by
    simp only [Array.getD, Array.size_setIfInBounds]
    split
    · rename_i h
      exact Array.getElem_setIfInBounds_ne h hk
    · rfl
  have e2 := key 2 h2
  have e3 := key 3 h3
  simp only [results, Tryd.results30, Act.put, List.mapM_toArray, List.mapM_cons, List.mapM_nil, e2, e3]
theorem catch_panicking (g h : Nat) (u : TypeId) (pv : Value) (older : List PanicEntry) (R : Int) (A : Option Addr) (n c : Nat) (z : Int) (w : World) (hx : BxM w g R A n c) (he : BxE w h z) (hne : g ≠ h) :
    CallsD Tryd.prog 69 #[.pointer (some ⟨g, 0, none⟩), .pointer (some ⟨h, 0, none⟩)] (.panicking ({ v := .iface u pv, recovered := false } :: older)) w fun e u' w' =>
      e = .returned (.tuple #[]) ∧ u' = .panicking ({ v := .iface u pv, recovered := true } :: older) ∧ w' = ((w.setCell ⟨g, 0, none⟩ (.int .i64 0)).setCell ⟨g, 1, none⟩ (.slice none 0 0)).setCell ⟨h, 0, none⟩ (.int .i64 3) := by
  have c0 := hx.c0
  have c1 := hx.c1
  have f0 := hx.fr 0
  have f1 := hx.fr 1
  have e0 := he.c0
  have g0 := he.fr 0
  refine callsD_of_wpS Tryd.func69 rfl fun c₀ cs hu => ?_
  apply wpS_seq
  apply wpS_region
  simp [wpOpsS, go_sem, recoverD, hu, Tryd.ntmps69, Exit.thenS]
  refine wpS_cond (t := true) (by simp [Act.eval, Array.replicate]) ?_
  simp only [if_true]
  apply wpS_region
  simp [wpOpsS, go_sem, c0, c1, f0, f1, e0, g0, bodyPostS, results, Tryd.results69]
end Go.Proofs.YthjdnidapbhdlaaDoor
namespace Go.Proofs.YthjdnidapbhdlaaDoor
open Go.RowKit Go
def ParS (s : ByteArray) (w : World) (e : Ending) (w' : World) : Prop :=
  ((∃ (R : Int) (cs : List Ins) (A : Option Addr) (c : Nat), e = .returned (.tuple #[.agg #[.int .i64 R, .slice A cs.length c], .int .i64 0]) ∧ RdC w' A cs.length cs ∧ validM R cs = true ∧ s.data.toList = textM R cs) ∨ e = .returned (.tuple #[.agg #[.int .i64 0, .slice none 0 0], .int .i64 3])) ∧ Below w.heap.size w w'
theorem tx_map {L : List ByteArray} {M : List (List UInt8)} (h : L.map (·.data.toList) = M) : L = M.map tx := by
  rw [← h, List.map_map]
  conv => lhs; rw [← List.map_id L]
  refine List.map_congr_left fun b _ => ?_
  show b = tx b.data.toList
  apply ByteArray.ext
  simp
theorem joinF_len : ∀ (ws : List (List UInt8)) (x : List UInt8), x ∈ ws → x.length ≤ (joinF ws).length
  | w :: t, x, h => by
    simp only [joinF, List.length_cons, List.length_append]
    rcases List.mem_cons.1 h with rfl | h
    · omega
    · have := joinF_len t x h; omega
theorem split_tx (s : ByteArray) : ∃ w0 ws, Lib.splitB ⟨#[32]⟩ 0 (Lib.countB s ⟨#[32]⟩) s = (tx w0) :: ws.map tx ∧ s.data.toList = w0 ++ joinF ws ∧ Lib.countB s ⟨#[32]⟩ = ws.length := by
  obtain ⟨w0, ws, e1, e2⟩ := split_join (Lib.countB s ⟨#[32]⟩) s.data.toList
  have h := Lib.splitB_data ⟨#[32]⟩ 0 (Lib.countB s ⟨#[32]⟩) s
  have h2 := tx_map (h.trans e1)
  have h3 := Lib.splitB_all ⟨#[32]⟩ (by decide) 0 (Lib.countB s ⟨#[32]⟩) s rfl
  rw [h2] at h3
  exact ⟨w0, ws, h2, e2, by simp at h3; omega⟩
set_option maxHeartbeats 8000000 in
theorem Parse_s (s : ByteArray) (hs : s.size ≤ 2000) (w : World) (hw : Mw w) : Calls Tryd.prog 30 #[.string s] w (ParS s w) := by
  have hmf : ∀ (fn : Fn) (first cap : Array Value) (w : World), (Instr.makeFunc fn first cap).run Tryd.prog w = .ok (.func fn first cap) w := fun _ _ _ _ => rfl
  obtain ⟨w0, ws, hsp, hj, hcn⟩ := split_tx s
  have HSP := Lib.hid (fun (W : World) (m : Int) (hm : W.cell? ⟨1, 0, none⟩ = some (.int .i64 m)) => Tryd.strings_Split s ⟨#[32]⟩ m W (by omega) hm (by decide))
  rw [hsp, hcn] at HSP
  have hsl : s.data.toList.length = s.size := Array.length_toList
  have HJ := Lib.hid hj
  have HN0 := Lib.hid (number_s (tx w0) (by show w0.toArray.size ≤ 100000; rw [hj, List.length_append] at hsl; simp; omega))
  have HINS := Lib.hid (fun x (hx : x ∈ ws) => insn_s (tx x) (by show x.toArray.size ≤ 2000; rw [hj, List.length_append] at hsl; have := joinF_len ws x hx; simp; omega))
  have HW := Lib.hid hw
  have HWL := Lib.hid (show ws.length ≤ 2000 by
    have h : ∀ l : List (List UInt8), l.length ≤ (joinF l).length := fun l => by
      induction l with
      | nil => simp
      | cons a t ih => simp only [joinF, List.length_cons, List.length_append]; omega
    rw [hj, List.length_append] at hsl
    have := h ws; omega)
  clear hw hsp hj hcn hsl hs
  go_enter_defers Tryd.func30, Tryd.ntmps30
  go_wp2_with fail
  have P := Lib.hid ((bel_alloc w (.cells #[.int .i64 0, .slice none 0 0] 43)).trans ((bel_alloc (w.alloc (.cells #[.int .i64 0, .slice none 0 0] 43)) (.cells #[.int .i64 0] 26)).mono (bel_alloc w (.cells #[.int .i64 0, .slice none 0 0] 43)).size))
  have X := Lib.hid ((BxM.new w 0 none 0 0).next (bel_alloc (w.alloc (.cells #[.int .i64 0, .slice none 0 0] 43)) (.cells #[.int .i64 0] 26)))
  have XE := Lib.hid (BxE.new (w.alloc (.cells #[.int .i64 0, .slice none 0 0] 43)) 0)
  rw [World.size_alloc] at XE
  generalize (w.alloc (.cells #[.int .i64 0, .slice none 0 0] 43)).alloc (.cells #[.int .i64 0] 26) = W0 at P X XE ⊢
  obtain ⟨gm, hgm⟩ : ∃ g, g = w.heap.size := ⟨_, rfl⟩
  rw [← hgm] at X XE ⊢
  have HGM := Lib.hid (Nat.le_of_eq hgm.symm)
  clear hgm
  have HB0 := Lib.hid (show gm + 1 < W0.heap.size from XE.out.lt)
  obtain ⟨m, hm⟩ := (HW.out.next P.out).ml.at_
  refine (HSP.out W0 m hm).mono ?_
  rintro e w1 ⟨rfl, rfl⟩
  have WD := Lib.hid (WdP.new W0 (tx w0 :: ws.map tx) 9)
  have hb := bel_alloc W0 (.cells ((tx w0 :: ws.map tx).map Value.string).toArray 9)
  replace P := Lib.hid (P.out.trans (hb.mono P.out.size))
  replace X := Lib.hid (X.out.next hb)
  replace XE := Lib.hid (XE.out.next hb)
  clear hb hm HSP
  generalize W0.alloc (.cells ((tx w0 :: ws.map tx).map Value.string).toArray 9) = W1 at P X XE WD ⊢
  obtain ⟨gs, hgs⟩ : ∃ g, g = W0.heap.size := ⟨_, rfl⟩
  rw [← hgs] at WD HB0 ⊢
  clear hgs
  have d0 := WD.out.at_ 0 (by simp)
  have x0 := X.out.c0
  have f0 := X.out.fr 0
  go_wp2_with fail
  refine (HN0.out _ (HW.out.next P.out)).mono ?_
  rintro e w2 ⟨h | ⟨u, pv, rfl⟩, hb⟩
  case inr =>
    replace P := Lib.hid (P.out.trans (hb.mono P.out.size))
    replace X := Lib.hid (X.out.next hb)
    replace XE := Lib.hid (XE.out.next hb)
    clear hb x0 f0 d0
    refine (show Leaves _ _ _ _ _ _ _ from ?_)
    refine leaves_cons (f := 69) (args := #[.pointer (some ⟨gm, 0, none⟩), .pointer (some ⟨gm + 1, 0, none⟩)]) (by simp) (by simp [go_sem]) ?_
    refine (catch_panicking gm (gm + 1) _ _ [] _ _ _ _ _ _ X.out XE.out (by omega)).mono ?_
    rintro e u' w9 ⟨rfl, rfl, rfl⟩
    have h1 : gm ≠ gm + 1 := by omega
    have Y := ((X.out.put0 0).put1 none 0 0).off (p := ⟨gm + 1, 0, none⟩) (show gm + 1 ≠ gm by omega) (.int .i64 3)
    have y0 := Y.c0
    have y1 := Y.c1
    have Q := (((XE.out.off (p := ⟨gm, 0, none⟩) h1 (.int .i64 0)).off (p := ⟨gm, 1, none⟩) h1 (.slice none 0 0))).put 3
    have y2 := Q.c0
    refine (show Leaves _ _ _ _ [] _ _ from ?_)
    simp [Leaves, settle, results, Tryd.results30, go_sem, y0, y1, y2]
    exact ⟨.inr rfl, bel_set (bel_set (bel_set P.out (p := ⟨gm, 0, none⟩) HGM.out _) (p := ⟨gm, 1, none⟩) HGM.out _) (p := ⟨gm + 1, 0, none⟩) (Nat.le_succ_of_le HGM.out) _⟩
  obtain ⟨R, rfl, hR⟩ := h
  have HR := Lib.hid (show w0 = Lib.itoa R from hR)
  replace P := Lib.hid (P.out.trans (hb.mono P.out.size))
  replace X := Lib.hid (X.out.next hb)
  replace XE := Lib.hid (XE.out.next hb)
  replace WD := Lib.hid (WD.out.next hb)
  clear hb x0 f0 d0 hR HN0
  have x0 := X.out.c0
  have f0 := X.out.fr 0
  go_upto_region 4 with (fail)
  clear x0 f0
  have hgs2 : gm ≠ gs := by have := HB0.out; omega
  replace P := Lib.hid (bel_set P.out (p := ⟨gm, 0, none⟩) HGM.out (.int .i64 R))
  replace X := Lib.hid (X.out.put0 R)
  replace XE := Lib.hid (XE.out.off (p := ⟨gm, 0, none⟩) (show gm ≠ gm + 1 by omega) (.int .i64 R))
  replace WD := Lib.hid (WD.out.off (p := ⟨gm, 0, none⟩) hgs2 (.int .i64 R))
  generalize w2.setCell ⟨gm, 0, none⟩ (.int .i64 R) = W3 at P X XE WD ⊢
  have HN2 := Lib.hid hgs2
  clear hgs2
  obtain ⟨B, hB⟩ : ∃ B, B = W3.heap.size := ⟨_, rfl⟩
  have HBS := Lib.hid (show gm < B ∧ gm + 1 < B ∧ gs < B ∧ w.heap.size ≤ B ∧ B ≤ W3.heap.size by have h1 := XE.out.lt; have h2 := WD.out.lt; have h3 := P.out.size; omega)
  have OC := Lib.hid (OwC.nil W3 B)
  clear hB
  skip
  by_cases hne : ws = []
  ·
    go_wp2
    have HNE := Lib.hid hne
    clear hne
    go_loopw [18] (fun v wr => ∃ (k c : Nat) (A : Option Addr) (cs : List Ins), v = .int .i64 (k : Int) ∧ k ≤ ws.length ∧ cs.length = k ∧ BxM wr gm R A k c ∧ OwC wr B A k c cs ∧ BxE wr (gm + 1) 0 ∧ WdP wr gs (tx w0 :: ws.map tx) ∧ Below w.heap.size w wr ∧ B ≤ wr.heap.size ∧ ws.take k = cs.map wordT ∧ k ≤ 15) (fun v _ => ws.length - (intOf v).toNat)
    case atStart => exact ⟨0, 0, none, [], rfl, Nat.zero_le _, rfl, X.out, OC.out, XE.out, WD.out, P.out, HBS.out.2.2.2.2, rfl, by omega⟩
    case round =>
      obtain ⟨k, c, A, cs, rfl, hk, hcl, hx, hoc, hxe, hwd, hp, hB, htk, hk15⟩ := hrel
      clear X OC XE WD P
      have X := Lib.hid hx
      have OC := Lib.hid hoc
      have XE := Lib.hid hxe
      have WD := Lib.hid hwd
      have P := Lib.hid hp
      have HSZ := Lib.hid (SzP.mk hB)
      have HTK := Lib.hid htk
      clear hx hoc hxe hwd hp hB htk
      rcases Nat.lt_or_ge k ws.length with hkn | hkn
      · exfalso
        rw [HNE.out] at hkn
        simp at hkn
      · have e : k = ws.length := by omega
        have t1 : decide ((k : Int) < (ws.length : Int)) = false := decide_eq_false (by omega)
        have htk := HTK.out
        rw [e, List.take_length] at htk
        have HTW := Lib.hid htk
        clear WD HTK htk e
        have x0 := X.out.c0
        have x1 := X.out.c1
        go_wp2_with fail
        refine (Valid_c R A k c cs wr OC.out.rd).mono ?_
        rintro e w8 ⟨rfl, hb⟩
        replace P := Lib.hid (P.out.trans (hb.mono P.out.size))
        replace X := Lib.hid (X.out.next hb)
        replace XE := Lib.hid (XE.out.next hb)
        replace OC := Lib.hid (OC.out.keep hb)
        clear hb x0 x1 HSZ
        obtain ⟨v, hv⟩ : ∃ v, v = validM R cs := ⟨_, rfl⟩
        rw [← hv]
        have HV := Lib.hid hv
        clear hv
        cases v with
        | false =>
          go_wp2
          refine (show Leaves _ _ _ _ _ _ _ from ?_)
          refine leaves_cons (f := 69) (args := #[.pointer (some ⟨gm, 0, none⟩), .pointer (some ⟨gm + 1, 0, none⟩)]) (by simp) (by simp [go_sem]) ?_
          refine (catch_panicking gm (gm + 1) _ _ [] _ _ _ _ _ _ X.out XE.out (by omega)).mono ?_
          rintro e u' w9 ⟨rfl, rfl, rfl⟩
          have h1 : gm ≠ gm + 1 := by omega
          have Y := ((X.out.put0 0).put1 none 0 0).off (p := ⟨gm + 1, 0, none⟩) (show gm + 1 ≠ gm by omega) (.int .i64 3)
          have y0 := Y.c0
          have y1 := Y.c1
          have Q := (((XE.out.off (p := ⟨gm, 0, none⟩) h1 (.int .i64 0)).off (p := ⟨gm, 1, none⟩) h1 (.slice none 0 0))).put 3
          have y2 := Q.c0
          refine (show Leaves _ _ _ _ [] _ _ from ?_)
          simp [Leaves, settle, results, Tryd.results30, go_sem, y0, y1, y2]
          exact ⟨.inr rfl, bel_set (bel_set (bel_set P.out (p := ⟨gm, 0, none⟩) HGM.out _) (p := ⟨gm, 1, none⟩) HGM.out _) (p := ⟨gm + 1, 0, none⟩) (Nat.le_succ_of_le HGM.out) _⟩
        | true =>
          have x0 := X.out.c0
          have x1 := X.out.c1
          have f0 := X.out.fr 0
          have f1 := X.out.fr 1
          have e0 := XE.out.c0
          have g0 := XE.out.fr 0
          go_wp2
          clear x0 x1 f0 f1 e0 g0
          have h1 : gm ≠ gm + 1 := by omega
          have Y := (((X.out.put0 R).put1 A k c).off (p := ⟨gm + 1, 0, none⟩) (show gm + 1 ≠ gm by omega) (.int .i64 0))
          have y0 := Y.c0
          have y1 := Y.c1
          have Q := (((XE.out.off (p := ⟨gm, 0, none⟩) h1 (.int .i64 R)).off (p := ⟨gm, 1, none⟩) h1 (.slice A k c))).put 0
          have y2 := Q.c0
          refine leaves_cons (f := 69) (args := #[.pointer (some ⟨gm, 0, none⟩), .pointer (some ⟨gm + 1, 0, none⟩)]) (by simp) (by simp [go_sem]) ?_
          refine (catch_idle ⟨gm, 0, none⟩ ⟨gm + 1, 0, none⟩ _).mono ?_
          rintro e u' w9 ⟨rfl, rfl, rfl⟩
          refine (show Leaves _ _ _ _ [] _ _ from ?_)
          simp only [Leaves, settle, results, Tryd.results30]
          simp [go_sem, y0, y1, y2]
          subst hcl
          refine ⟨.inl ⟨R, cs, A, c, rfl, ((OC.out.far (p := ⟨gm, 0, none⟩) HBS.out.1 _).far (p := ⟨gm, 1, none⟩) HBS.out.1 _).far (p := ⟨gm + 1, 0, none⟩) HBS.out.2.1 _ |>.rd, HV.out.symm, ?_⟩, bel_set (bel_set (bel_set P.out (p := ⟨gm, 0, none⟩) HGM.out _) (p := ⟨gm, 1, none⟩) HGM.out _) (p := ⟨gm + 1, 0, none⟩) (Nat.le_succ_of_le HGM.out) _⟩
          rw [HJ.out, HR.out, HTW.out]
          unfold textM
          rw [wordsT_joinF]
  ·
    go_wp2
    have HNE := Lib.hid hne
    clear hne
    go_loopw [18] (fun v wr => ∃ (k c : Nat) (A : Option Addr) (cs : List Ins), v = .int .i64 (k : Int) ∧ k ≤ ws.length ∧ cs.length = k ∧ BxM wr gm R A k c ∧ OwC wr B A k c cs ∧ BxE wr (gm + 1) 0 ∧ WdP wr gs (tx w0 :: ws.map tx) ∧ Below w.heap.size w wr ∧ B ≤ wr.heap.size ∧ ws.take k = cs.map wordT ∧ k ≤ 15) (fun v _ => ws.length - (intOf v).toNat)
    case atStart => exact ⟨0, 0, none, [], rfl, Nat.zero_le _, rfl, X.out, OC.out, XE.out, WD.out, P.out, HBS.out.2.2.2.2, rfl, by omega⟩
    case round =>
      obtain ⟨k, c, A, cs, rfl, hk, hcl, hx, hoc, hxe, hwd, hp, hB, htk, hk15⟩ := hrel
      clear X OC XE WD P
      have X := Lib.hid hx
      have OC := Lib.hid hoc
      have XE := Lib.hid hxe
      have WD := Lib.hid hwd
      have P := Lib.hid hp
      have HSZ := Lib.hid (SzP.mk hB)
      have HTK := Lib.hid htk
      clear hx hoc hxe hwd hp hB htk
      rcases Nat.lt_or_ge k ws.length with hkn | hkn
      · have t1 : decide ((k : Int) < (ws.length : Int)) = true := decide_eq_true (by omega)
        have hkI : (k : Int) < (ws.length : Int) := by omega
        have dk := WD.out.at_ (k + 1) (by simp; omega)
        rw [List.getD_cons_succ, Nat.add_comm k 1] at dk
        obtain ⟨wd, hwd⟩ : ∃ x, x = ws[k] := ⟨_, rfl⟩
        have hgd : (ws.map tx).getD k ⟨#[]⟩ = tx wd := by rw [hwd]; simp [List.getD_eq_getElem?_getD, List.getElem?_eq_getElem hkn]
        rw [hgd] at dk
        have HI := Lib.hid (HINS.out wd (by rw [hwd]; exact List.getElem_mem hkn))
        have HGW := Lib.hid (show ws[k]? = some wd by rw [hwd]; exact List.getElem?_eq_getElem hkn)
        clear hgd hwd
        have x1 := X.out.c1
        by_cases h15 : k = 15
        · have t2 : ((k : Int) == 15) = true := by simp; omega
          clear h15
          go_wp2
          refine (show Leaves _ _ _ _ _ _ _ from ?_)
          refine leaves_cons (f := 69) (args := #[.pointer (some ⟨gm, 0, none⟩), .pointer (some ⟨gm + 1, 0, none⟩)]) (by simp) (by simp [go_sem]) ?_
          refine (catch_panicking gm (gm + 1) _ _ [] _ _ _ _ _ _ X.out XE.out (by omega)).mono ?_
          rintro e u' w9 ⟨rfl, rfl, rfl⟩
          have h1 : gm ≠ gm + 1 := by omega
          have Y := ((X.out.put0 0).put1 none 0 0).off (p := ⟨gm + 1, 0, none⟩) (show gm + 1 ≠ gm by omega) (.int .i64 3)
          have y0 := Y.c0
          have y1 := Y.c1
          have Q := (((XE.out.off (p := ⟨gm, 0, none⟩) h1 (.int .i64 0)).off (p := ⟨gm, 1, none⟩) h1 (.slice none 0 0))).put 3
          have y2 := Q.c0
          refine (show Leaves _ _ _ _ [] _ _ from ?_)
          simp [Leaves, settle, results, Tryd.results30, go_sem, y0, y1, y2]
          exact ⟨.inr rfl, bel_set (bel_set (bel_set P.out (p := ⟨gm, 0, none⟩) HGM.out _) (p := ⟨gm, 1, none⟩) HGM.out _) (p := ⟨gm + 1, 0, none⟩) (Nat.le_succ_of_le HGM.out) _⟩
        · have t2 : ((k : Int) == 15) = false := by simp; omega
          go_upto_region 9 with (fail)
          clear dk x1 t1 t2 hkI
          have x1 := X.out.c1
          refine wp_region_tailq (S := (fun w' => w'.cell? ⟨gm, 1, none⟩ = some (.slice A k c))) 6 (by kernel_rfl) (by kernel_rfl) (cell_dr x1) (fun QT hT hP hHeld => ?_)
          simp only [List.extract_toArray, List.extract_eq_take_drop, List.drop_zero, Nat.sub_zero, List.take_succ_cons, List.take_zero]
          have HT := Lib.hid hT
          clear hT
          replace X := Lib.hid (X.out.next (Below.refl wr.heap.size wr).drew)
          replace XE := Lib.hid (XE.out.next (Below.refl wr.heap.size wr).drew)
          replace WD := Lib.hid (WD.out.next (Below.refl wr.heap.size wr).drew)
          replace P := Lib.hid (P.out.trans ((Below.refl wr.heap.size wr).drew.mono P.out.size))
          replace OC := Lib.hid (OC.out.keep (Below.refl wr.heap.size wr).drew)
          replace HSZ := Lib.hid (HSZ.out.next (Below.refl wr.heap.size wr).drew)
          generalize wr.drew = D1 at X XE WD P OC HSZ hHeld ⊢
          refine take_on (i := 0) (d := (some 28)) (v := ?v1) rfl rfl (by kernel_rfl) (by kernel_rfl) (by kernel_rfl) (fun c a w h => (hP c a w).mpr (parse_put (d := 28) (by decide) (by decide) ((hP c _ w).mp h))) (by rfl) ?h1 (by assumption) ?r1
          case h1 => intro w hSw; have h0 := hSw; go_simp; rfl
          simp only [Act.put, List.setIfInBounds_toArray, List.set_cons_zero, List.set_cons_succ]
          refine take_on (i := 1) (d := (some 29)) (v := ?v2) rfl rfl (by kernel_rfl) (by kernel_rfl) (by kernel_rfl) (fun c a w h => (hP c a w).mpr (parse_put (d := 29) (by decide) (by decide) ((hP c _ w).mp h))) (by rfl) ?h2 (by assumption) ?r2
          case h2 => intro w hSw; have h0 := hSw; go_simp; rfl
          simp only [Act.put, List.setIfInBounds_toArray, List.set_cons_zero, List.set_cons_succ]
          refine take_on (i := 2) (d := (some 30)) (v := ?v3) rfl rfl (by kernel_rfl) (by kernel_rfl) (by kernel_rfl) (fun c a w h => (hP c a w).mpr (parse_put (d := 30) (by decide) (by decide) ((hP c _ w).mp h))) (by rfl) ?h3 (by assumption) ?r3
          case h3 => intro w hSw; have h0 := hSw; go_simp; rfl
          simp only [Act.put, List.setIfInBounds_toArray, List.set_cons_zero, List.set_cons_succ]
          refine wpAnyH_ready (rs := [3]) (by kernel_rfl) (by simp) ?_
          refine AllReadyH.cons rfl (fun K hK => ?_) AllReadyH.nil
          go_simp
          refine (HI.out D1 (HW.out.next P.out)).mono ?_
          rintro e v2 ⟨h | ⟨u, pv, rfl⟩, hb⟩
          case inr =>
            replace X := Lib.hid (X.out.next hb)
            replace XE := Lib.hid (XE.out.next hb)
            replace P := Lib.hid (P.out.trans (hb.mono P.out.size))
            clear hb hHeld
            refine (show Leaves _ _ _ _ _ _ _ from ?_)
            refine leaves_cons (f := 69) (args := #[.pointer (some ⟨gm, 0, none⟩), .pointer (some ⟨gm + 1, 0, none⟩)]) (by simp) (by simp [go_sem]) ?_
            refine (catch_panicking gm (gm + 1) _ _ [] _ _ _ _ _ _ X.out XE.out (by omega)).mono ?_
            rintro e u' w9 ⟨rfl, rfl, rfl⟩
            have h1 : gm ≠ gm + 1 := by omega
            have Y := ((X.out.put0 0).put1 none 0 0).off (p := ⟨gm + 1, 0, none⟩) (show gm + 1 ≠ gm by omega) (.int .i64 3)
            have y0 := Y.c0
            have y1 := Y.c1
            have Q := (((XE.out.off (p := ⟨gm, 0, none⟩) h1 (.int .i64 0)).off (p := ⟨gm, 1, none⟩) h1 (.slice none 0 0))).put 3
            have y2 := Q.c0
            refine (show Leaves _ _ _ _ [] _ _ from ?_)
            simp [Leaves, settle, results, Tryd.results30, go_sem, y0, y1, y2]
            exact ⟨.inr rfl, bel_set (bel_set (bel_set P.out (p := ⟨gm, 0, none⟩) HGM.out _) (p := ⟨gm, 1, none⟩) HGM.out _) (p := ⟨gm + 1, 0, none⟩) (Nat.le_succ_of_le HGM.out) _⟩
          obtain ⟨x, rfl, hx⟩ := h
          have HWX := Lib.hid (show wd = wordT x from hx)
          replace X := Lib.hid (X.out.next hb)
          replace XE := Lib.hid (XE.out.next hb)
          replace WD := Lib.hid (WD.out.next hb)
          replace P := Lib.hid (P.out.trans (hb.mono P.out.size))
          replace OC := Lib.hid (OC.out.keep hb)
          replace HSZ := Lib.hid (HSZ.out.next hb)
          have x1 := X.out.c1
          clear hb hHeld hx
          refine hK.out _ _ (x1) (fun hHeld => ?_)
          clear hK K
          refine wpAnyH_ready (rs := [4]) (by kernel_rfl) (by simp) ?_
          refine AllReadyH.cons rfl (fun K hK => ?_) AllReadyH.nil
          go_simp
          have hb := bel_alloc v2 (.cells #[.int .i64 x.op, .int .i64 x.reg, .int .i64 x.nx, .int .i64 x.zr] 70)
          have XB := Lib.hid (BxI.new v2 x)
          replace X := Lib.hid (X.out.next hb)
          replace XE := Lib.hid (XE.out.next hb)
          replace WD := Lib.hid (WD.out.next hb)
          replace P := Lib.hid (P.out.trans (hb.mono P.out.size))
          replace OC := Lib.hid (OC.out.keep hb)
          replace HSZ := Lib.hid (HSZ.out.next hb)
          clear hb hHeld x1
          generalize v2.alloc (.cells #[.int .i64 x.op, .int .i64 x.reg, .int .i64 x.nx, .int .i64 x.zr] 70) = Y3 at X XE WD P OC HSZ XB ⊢
          generalize v2.heap.size = gb at XB ⊢
          have x1 := X.out.c1
          refine hK.out _ _ (x1) (fun hHeld => ?_)
          clear hK K
          refine wpAnyH_ready (rs := [5]) (by kernel_rfl) (by simp) ?_
          refine AllReadyH.cons rfl (fun K hK => ?_) AllReadyH.nil
          refine step_app_ins rfl (.tmp 29) (.tmp 32) rfl B A k c cs x gb 1 rfl rfl OC.out HSZ.out.le XB.out (by omega) ?_
          intro g' c' w9 h1 hb
          have OC2 := Lib.hid h1
          have hsz : B ≤ w9.heap.size := Nat.le_trans HSZ.out.le hb.size
          have X2 := Lib.hid (X.out.low HBS.out.1 hb)
          have XE2 := Lib.hid (XE.out.low HBS.out.2.1 hb)
          have WD2 := Lib.hid (WD.out.low HBS.out.2.2.1 hb)
          have P2 := Lib.hid (P.out.trans (hb.mono HBS.out.2.2.2.1))
          clear x1 h1 hHeld XB X XE WD P OC HI HSZ
          have HSZ := Lib.hid hsz
          clear hb hsz
          have x1 := X2.out.c1
          refine hK.out _ _ (x1) (fun hHeld => ?_)
          clear hK K
          clear hHeld
          refine wpAnyH_done (by kernel_rfl) ?_ _
          refine HT.out _ _ ?_
          clear HT hP QT
          have f1 := X2.out.fr 1
          refine wpList_step fun K hK => ?_
          go_simp
          refine hK _ _ ?_
          clear hK K
          refine wpList_step fun K hK => ?_
          go_simp
          refine hK _ _ ?_
          clear hK K
          refine wpList_nil ?_
          clear f1 x1
          have h1 : gm ≠ gm + 1 := by omega
          have h2 := HN2.out
          go_wp2
          go_roundw
          case measure => simp [intOf]; omega
          case rel => exact ⟨k + 1, c', some ⟨g', 0, none⟩, cs ++ [x], by go_num, by omega, by simp; omega, X2.out.put1 _ _ _, OC2.out.far (p := ⟨gm, 1, none⟩) HBS.out.1 _, XE2.out.off (p := ⟨gm, 1, none⟩) h1 _, WD2.out.off (p := ⟨gm, 1, none⟩) h2 _, bel_set P2.out (p := ⟨gm, 1, none⟩) HGM.out _, by rw [World.size_setCell]; exact HSZ.out, by rw [List.take_add_one, HTK.out, HGW.out, HWX.out]; simp, by omega⟩
      · have e : k = ws.length := by omega
        have t1 : decide ((k : Int) < (ws.length : Int)) = false := decide_eq_false (by omega)
        have htk := HTK.out
        rw [e, List.take_length] at htk
        have HTW := Lib.hid htk
        clear WD HTK htk e
        have x0 := X.out.c0
        have x1 := X.out.c1
        go_wp2_with fail
        refine (Valid_c R A k c cs wr OC.out.rd).mono ?_
        rintro e w8 ⟨rfl, hb⟩
        replace P := Lib.hid (P.out.trans (hb.mono P.out.size))
        replace X := Lib.hid (X.out.next hb)
        replace XE := Lib.hid (XE.out.next hb)
        replace OC := Lib.hid (OC.out.keep hb)
        clear hb x0 x1 HSZ
        obtain ⟨v, hv⟩ : ∃ v, v = validM R cs := ⟨_, rfl⟩
        rw [← hv]
        have HV := Lib.hid hv
        clear hv
        cases v with
        | false =>
          go_wp2
          refine (show Leaves _ _ _ _ _ _ _ from ?_)
          refine leaves_cons (f := 69) (args := #[.pointer (some ⟨gm, 0, none⟩), .pointer (some ⟨gm + 1, 0, none⟩)]) (by simp) (by simp [go_sem]) ?_
          refine (catch_panicking gm (gm + 1) _ _ [] _ _ _ _ _ _ X.out XE.out (by omega)).mono ?_
          rintro e u' w9 ⟨rfl, rfl, rfl⟩
          have h1 : gm ≠ gm + 1 := by omega
          have Y := ((X.out.put0 0).put1 none 0 0).off (p := ⟨gm + 1, 0, none⟩) (show gm + 1 ≠ gm by omega) (.int .i64 3)
          have y0 := Y.c0
          have y1 := Y.c1
          have Q := (((XE.out.off (p := ⟨gm, 0, none⟩) h1 (.int .i64 0)).off (p := ⟨gm, 1, none⟩) h1 (.slice none 0 0))).put 3
          have y2 := Q.c0
          refine (show Leaves _ _ _ _ [] _ _ from ?_)
          simp [Leaves, settle, results, Tryd.results30, go_sem, y0, y1, y2]
          exact ⟨.inr rfl, bel_set (bel_set (bel_set P.out (p := ⟨gm, 0, none⟩) HGM.out _) (p := ⟨gm, 1, none⟩) HGM.out _) (p := ⟨gm + 1, 0, none⟩) (Nat.le_succ_of_le HGM.out) _⟩
        | true =>
          have x0 := X.out.c0
          have x1 := X.out.c1
          have f0 := X.out.fr 0
          have f1 := X.out.fr 1
          have e0 := XE.out.c0
          have g0 := XE.out.fr 0
          go_wp2
          clear x0 x1 f0 f1 e0 g0
          have h1 : gm ≠ gm + 1 := by omega
          have Y := (((X.out.put0 R).put1 A k c).off (p := ⟨gm + 1, 0, none⟩) (show gm + 1 ≠ gm by omega) (.int .i64 0))
          have y0 := Y.c0
          have y1 := Y.c1
          have Q := (((XE.out.off (p := ⟨gm, 0, none⟩) h1 (.int .i64 R)).off (p := ⟨gm, 1, none⟩) h1 (.slice A k c))).put 0
          have y2 := Q.c0
          refine leaves_cons (f := 69) (args := #[.pointer (some ⟨gm, 0, none⟩), .pointer (some ⟨gm + 1, 0, none⟩)]) (by simp) (by simp [go_sem]) ?_
          refine (catch_idle ⟨gm, 0, none⟩ ⟨gm + 1, 0, none⟩ _).mono ?_
          rintro e u' w9 ⟨rfl, rfl, rfl⟩
          refine (show Leaves _ _ _ _ [] _ _ from ?_)
          simp only [Leaves, settle, results, Tryd.results30]
          simp [go_sem, y0, y1, y2]
          subst hcl
          refine ⟨.inl ⟨R, cs, A, c, rfl, ((OC.out.far (p := ⟨gm, 0, none⟩) HBS.out.1 _).far (p := ⟨gm, 1, none⟩) HBS.out.1 _).far (p := ⟨gm + 1, 0, none⟩) HBS.out.2.1 _ |>.rd, HV.out.symm, ?_⟩, bel_set (bel_set (bel_set P.out (p := ⟨gm, 0, none⟩) HGM.out _) (p := ⟨gm, 1, none⟩) HGM.out _) (p := ⟨gm + 1, 0, none⟩) (Nat.le_succ_of_le HGM.out) _⟩
          rw [HJ.out, HR.out, HTW.out]
          unfold textM
          rw [wordsT_joinF]
end Go.Proofs.YthjdnidapbhdlaaDoor
