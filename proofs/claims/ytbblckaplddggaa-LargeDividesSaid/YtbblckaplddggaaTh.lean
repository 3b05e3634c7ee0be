import Derived.Test.YtbblckaplddggaaTg
import Derived.Test.YtbblckaplddggaaTa
import Derived.Test.YtbblckaplddggaaSk
set_option maxRecDepth 100000
namespace Go.Proofs.Ytbblckaplddggaa
open Go.RowKit Go.Deep

/-- block g begins with these words, and may be written -/
def Bop (w : World) (g : Nat) (L : List Nat) : Prop := small L ∧ ∃ cur : Array Value, w.heap[g]? = some (.cells cur 60 (0, 0)) ∧ L.length ≤ cur.size ∧ cur.toList.take L.length = L.map wd
section
variable {w w' : World} {g : Nat} {L : List Nat}
theorem Bop.lt (h : Bop w g L) : g < w.heap.size := by
  obtain ⟨_, cur, h1, _⟩ := h
  rcases Nat.lt_or_ge g w.heap.size with hlt | hge
  · exact hlt
  · rw [Array.getElem?_eq_none hge] at h1; cases h1
theorem Bop.cell (h : Bop w g L) (i : Nat) (hi : i < L.length) : w.cell? ⟨g, i, none⟩ = some (.int .u32 ((L.getD i 0 : Nat) : Int)) := by
  obtain ⟨_, cur, h1, h2, h3⟩ := h
  rw [cell_of_row w g i _ _ _ h1]
  have h4 := congrArg (fun l : List Value => l[i]?) h3
  simp only [List.getElem?_take, hi, if_true] at h4
  rw [Array.getElem?_toList] at h4
  rw [h4]
  simp [List.getElem?_eq_getElem hi, wd, List.getD_eq_getElem?_getD]
theorem Bop.frozen (h : Bop w g L) (i : Nat) : w.frozen? ⟨g, i, none⟩ = false := by
  obtain ⟨_, cur, h1, _⟩ := h
  simp [World.frozen?, h1]
theorem Bop.set_ (h : Bop w g L) (i v : Nat) (hv : v < 4294967296) : Bop (w.setCell ⟨g, i, none⟩ (.int .u32 (v : Int))) g (L.set i v) := by
  obtain ⟨h0, cur, h1, h2, h3⟩ := h
  refine ⟨small_set h0 i v hv, cur.set! i (.int .u32 (v : Int)), ?_, by simpa using h2, ?_⟩
  · simp [World.setCell, Array.getElem?_modify, h1]
  · rw [List.length_set, List.map_set, ← h3]
    simp [List.take_set, wd]
theorem Bop.keep (h : Bop w g L) (hk : w'.heap[g]? = w.heap[g]?) : Bop w' g L := by
  obtain ⟨h0, cur, h1, h2, h3⟩ := h
  exact ⟨h0, cur, hk.trans h1, h2, h3⟩
theorem Bop.below {B : Nat} (h : Bop w g L) (hb : Below B w w') (hg : g < B) : Bop w' g L := h.keep (hb.block g hg)
theorem Bop.drewN (h : Bop w g L) (n : Nat) : Bop (w.drewN n) g L := h
theorem Bop.alloc (h : Bop w g L) (o : Obj) : Bop (w.alloc o) g L := h.keep (Below.heap_alloc w o g h.lt)
theorem Bop.far (h : Bop w g L) {p : Addr} (hp : g ≠ p.block) (u : Value) : Bop (w.setCell p u) g L := h.keep (Below.heap_setCell w p u g hp)
theorem Bop.rd (h : Bop w g L) : Rd w (some ⟨g, 0, none⟩) L.length L :=
  ⟨rfl, h.1, fun _ => ⟨g, 0, rfl, h.lt, fun k hk => by rw [Nat.zero_add]; exact h.cell k hk⟩⟩
end

/-- append of words to words of the call's own: where the result lies -/
theorem run_app_open (w : World) (ty : TypeId) (g b o k m c : Nat) (L xs : List Nat) (hL : Bk w g L) (hk : L.length = k) (hr : Rd w (some ⟨b, o, none⟩) m xs) (h0 : 0 < k) (hm : k + m ≤ 35184372088832) (B : Nat) (hB : B ≤ w.heap.size) (hg : B ≤ g) :
    ∃ g' c' w', (Builtin.append_ #[22, 22] ty #[.slice (some ⟨g, 0, none⟩) k k, .slice (some ⟨b, o, none⟩) m c]).run Try.prog w = .ok (.slice (some ⟨g', 0, none⟩) (k + m) c') w' ∧ B ≤ g' ∧ Bop w' g' (L ++ xs) ∧ k + m ≤ c' ∧ c' ≤ 9223372036854775807 ∧ Below B w w' := by
  obtain ⟨i, hi, hz, hs, hb⟩ := info_parts info32
  have hlen := hr.len
  have hown0 : w.ownsRow B 60 1 (.slice (some ⟨g, 0, none⟩) k k) k (L.map wd) :=
    ⟨by simp [hk], .inr ⟨g, k, (L.map wd).toArray, rfl, hg, hL.2, Nat.le_refl _, by simp only [maxLen]; omega, by simp [hk], by rw [Nat.mul_one, ← hk, ← List.length_map (f := wd)]; exact List.take_length⟩⟩
  obtain ⟨v', w', hrun, hown, hgr, hnil, hat⟩ := run_append_own_at (P := Try.prog) w B 22 ty 60 i (.int .u32 0) 1 4 Try.underlying22 hi hz hs hb rfl (by omega) (.slice (some ⟨g, 0, none⟩) k k) k (L.map wd) hown0 ⟨b, o, none⟩ m c (xs.map wd) (by simp [hlen])
    (fun j u hu => by
      have hj : j < xs.length := by
        rcases Nat.lt_or_ge j xs.length with h1 | h1
        · exact h1
        · rw [List.getElem?_eq_none (by simpa using h1)] at hu; cases hu
      obtain ⟨b2, o2, e, hlt, hc⟩ := hr.at_ (by omega)
      injection e with e
      injection e with e1 e2
      subst e1 e2
      have ea : (⟨b, o, none⟩ : Addr).add j = ⟨b, o + j, none⟩ := by unfold Addr.add; split <;> simp_all
      rw [ea, hc j (by omega), ← hu]
      simp [wd, List.getElem?_eq_getElem hj])
    (fun u hu => by obtain ⟨x, _, rfl⟩ := List.mem_map.1 hu; rfl) (by simp only [maxLen]; omega) (by omega) hB
  rcases hown.2 with ⟨rfl, h1⟩ | ⟨g2, cap, cur, rfl, hg1, hh, hcap, hcap2, hcur, htake⟩
  · omega
  · simp only [Nat.mul_one] at htake hcur
    have hbel : Below B w w' := ⟨hgr.os, hgr.tape, hgr.output, hgr.size, fun q hq => hgr.block q (by omega) (by simp [Value.ownBlock]; omega)⟩
    refine ⟨g2, cap, w', hrun, hg1, ⟨small_append.2 ⟨hL.1, hr.sm⟩, cur, hh, by simp [hk, hlen]; omega, ?_⟩, hcap, by simpa [maxLen] using hcap2, hbel⟩
    rw [List.length_append, hk, hlen, List.map_append]
    exact htake

/-- the divisor, shifted by any number of places that makes its highest digit 1 -/
theorem norm_any {ys : List Nat} {m s : Nat} (hs : small ys) (hl : ys.length = m + 2) (h1 : s < 32) (h2 : 2147483648 ≤ ys.getD (m + 1) 0 * 2 ^ s) (h3 : ys.getD (m + 1) 0 * 2 ^ s < 4294967296) :
    val ys * 2 ^ s < pw (m + 2) ∧ pw (m + 2) ≤ 2 * (val ys * 2 ^ s) := by
  have hv := val_take_step ys (m + 1)
  rw [take_of_len (by omega)] at hv
  have ht := val_lt (small_take hs (m + 1))
  rw [List.length_take, hl, Nat.min_eq_left (by omega)] at ht
  have hp := pw_succ (m + 1)
  generalize ys.getD (m + 1) 0 = y at *
  have hs1 := two_pos s
  have e1 : val ys * 2 ^ s = val (ys.take (m + 1)) * 2 ^ s + pw (m + 1) * (y * 2 ^ s) := by rw [hv, Nat.add_mul, Nat.mul_assoc]
  have e2 : val (ys.take (m + 1)) * 2 ^ s < pw (m + 1) * 2 ^ s := Nat.mul_lt_mul_of_pos_right ht hs1
  have e3 : pw (m + 1) * (y * 2 ^ s + 2 ^ s) ≤ pw (m + 1) * 4294967296 := Nat.mul_le_mul_left _ (by
    have : (y + 1) * 2 ^ s ≤ 4294967296 := by
      have e4 : 4294967296 = 2 ^ (32 - s) * 2 ^ s := two_split s h1
      rw [e4]
      rw [e4] at h3
      exact Nat.mul_le_mul_right _ (Nat.lt_of_mul_lt_mul_right h3)
    rw [Nat.add_mul, Nat.one_mul] at this
    exact this)
  have e5 : pw (m + 1) * 2147483648 ≤ pw (m + 1) * (y * 2 ^ s) := Nat.mul_le_mul_left _ h2
  rw [Nat.mul_add] at e3
  rw [show m + 1 + 1 = m + 2 from rfl] at hp
  exact ⟨by omega, by omega⟩

theorem wpList_app_open {w : World} {ops : Array Oper} {rest : List Oper} {o : Oper} {a : Act} {Q : Exit → Act → World → Prop} (hgd : o.guard = none) (s x : Operand)
    (ho : o.op = .call { callee := .builtin .append, args := #[s, x], argTypes := #[22, 22] })
    (g b of k m c : Nat) (L xs : List Nat) (hs : a.eval s = .slice (some ⟨g, 0, none⟩) k k) (hx : a.eval x = .slice (some ⟨b, of, none⟩) m c) (hL : Bk w g L) (hk : L.length = k) (hr : Rd w (some ⟨b, of, none⟩) m xs) (h0 : 0 < k) (hm : k + m ≤ 35184372088832) (B : Nat) (hB : B ≤ w.heap.size) (hg : B ≤ g)
    (h : ∀ g' c' w', B ≤ g' → Bop w' g' (L ++ xs) → k + m ≤ c' → c' ≤ 9223372036854775807 → Below B w w' → wpList Try.prog ops Q rest (a.put o.dst (.slice (some ⟨g', 0, none⟩) (k + m) c')) w') :
    wpList Try.prog ops Q (o :: rest) a w := by
  refine wpList_plain hgd fun K hK => ?_
  obtain ⟨g', c', w', hr2, h1, h2, h3, h4, h5⟩ := run_app_open w o.type g b of k m c L xs hL hk hr h0 hm B hB hg
  unfold Oper.wp execOp
  simp only [ho, resolve, invoke, builtin, Sem.run_bind, Sem.run_pure, Result.andThen_ok, List.map_toArray, List.map_cons, List.map_nil, hs, hx, hr2]
  exact hK _ _ (h g' c' w' h1 h2 h3 h4 h5)
end Go.Proofs.Ytbblckaplddggaa
set_option maxRecDepth 100000
namespace Go.Proofs.Ytbblckaplddggaa
open Go.RowKit Go.Deep

/-- a multiple taken away over all words, the last one too -/
structure MulAll (xs ys : List Nat) (F m k : Nat) (cs : List Nat) (y u : Nat) : Prop where
  len : cs.length = m + 3
  sm : small cs
  lt : y < 4294967296
  bo : u ≤ 1
  rest : cs.drop k = xs.drop k
  mid : k ≤ m + 2 → MulSub xs ys F k cs y u
  fin : k = m + 3 → val cs + F * val ys = val xs + pw (m + 3) * u
theorem MulAll.start {xs ys : List Nat} {F m : Nat} (hx : small xs) (hl : xs.length = m + 3) : MulAll xs ys F m 0 xs 0 0 :=
  ⟨hl, hx, by omega, by omega, rfl, fun _ => MulSub.start ys F hx, fun h => by omega⟩
theorem MulAll.next {xs ys cs : List Nat} {F m k y u : Nat} (h : MulAll xs ys F m k cs y u) (hF : F < 4294967296) (hx : small xs) (hxl : xs.length = m + 3) (hy : small ys) (hyl : ys.length = m + 2) (hk : k < m + 2) :
    MulAll xs ys F m (k + 1) (cs.set k ((xs.getD k 0 + 4294967296 - (F * ys.getD k 0 + y) % 4294967296 - u) % 4294967296)) ((F * ys.getD k 0 + y) / 4294967296) (if xs.getD k 0 < (F * ys.getD k 0 + y) % 4294967296 + u then 1 else 0) := by
  have h1 := (h.mid (by omega)).next hF hx hy (by omega) (by omega)
  exact ⟨h1.len.trans hxl, h1.sm, h1.lt, h1.bo, h1.rest, fun _ => h1, fun h2 => by omega⟩
theorem MulAll.last {xs ys cs : List Nat} {F m y u : Nat} (h : MulAll xs ys F m (m + 2) cs y u) (hx : small xs) (hxl : xs.length = m + 3) (hyl : ys.length = m + 2) :
    MulAll xs ys F m (m + 3) (cs.set (m + 2) ((xs.getD (m + 2) 0 + 4294967296 - y - u) % 4294967296)) 0 (if xs.getD (m + 2) 0 < y + u then 1 else 0) := by
  have h0 := h.mid (Nat.le_refl _)
  rw [← hyl] at h0
  have h1 := h0.top hx (by omega)
  rw [hyl, hxl] at h1
  have hl := h.len
  refine ⟨by rw [List.length_set]; exact hl, small_set h.sm _ _ (by omega), by omega, by split <;> omega, ?_, fun h2 => by omega, fun _ => h1⟩
  rw [List.drop_eq_nil_of_le (by rw [List.length_set]; omega), List.drop_eq_nil_of_le (by omega)]

/-- words added to all words, the last one too -/
structure AddAll (c b : List Nat) (m k : Nat) (cs : List Nat) (y : Nat) : Prop where
  len : cs.length = m + 3
  sm : small cs
  le : y ≤ 1
  rest : cs.drop k = c.drop k
  mid : k ≤ m + 2 → AddAt c b k cs y
  fin : k = m + 3 → val cs = val c + val b - pw (m + 3)
theorem AddAll.start {c b : List Nat} {m : Nat} (hc : small c) (hl : c.length = m + 3) : AddAll c b m 0 c 0 :=
  ⟨hl, hc, by omega, rfl, fun _ => AddAt.start b hc, fun h => by omega⟩
theorem AddAll.next {c b cs : List Nat} {m k y : Nat} (h : AddAll c b m k cs y) (hc : small c) (hcl : c.length = m + 3) (hb : small b) (hk : k < m + 2) :
    AddAll c b m (k + 1) (cs.set k ((c.getD k 0 + y + b.getD k 0) % 4294967296)) ((c.getD k 0 + y + b.getD k 0) / 4294967296) := by
  have h1 := (h.mid (by omega)).next hc hb (by omega)
  exact ⟨h1.len.trans hcl, h1.sm, h1.le, h1.rest, fun _ => h1, fun h2 => by omega⟩
theorem AddAll.last {c b cs : List Nat} {m y : Nat} (h : AddAll c b m (m + 2) cs y) (hc : small c) (hcl : c.length = m + 3) (hbl : b.length = m + 2) (hge : pw (m + 3) ≤ val c + val b) :
    AddAll c b m (m + 3) (cs.set (m + 2) ((c.getD (m + 2) 0 + y) % 4294967296)) ((c.getD (m + 2) 0 + y) / 4294967296) := by
  have h1 := (h.mid (Nat.le_refl _)).over hbl hcl hc hge
  have hl := h.len
  have hx := small_get hc (m + 2)
  have hy := h.le
  refine ⟨by rw [List.length_set]; exact hl, small_set h.sm _ _ (by omega), by omega, ?_, fun h2 => by omega, fun _ => h1⟩
  rw [List.drop_eq_nil_of_le (by rw [List.length_set]; omega), List.drop_eq_nil_of_le (by omega)]

/-- the words at work, some of them written anew -/
structure LongIn (w W : World) (gU gV gO m j : Nat) (U cs Q vs : List Nat) : Prop where
  below : Below w.heap.size w W
  bu : Bop W gU (splice U j cs)
  rv : Rd W (some ⟨gV, 0, none⟩) (m + 2) vs
  bo : Bk W gO Q
  len : cs.length = m + 3
  fits : j + (m + 3) ≤ U.length
section
variable {w W : World} {gU gV gO m j : Nat} {U cs Q vs : List Nat}
theorem LongIn.start (h1 : Below w.heap.size w W) (h2 : Bop W gU U) (h3 : Rd W (some ⟨gV, 0, none⟩) (m + 2) vs) (h4 : Bk W gO Q) (h5 : j + (m + 3) ≤ U.length) : LongIn w W gU gV gO m j U ((U.drop j).take (m + 3)) Q vs :=
  ⟨h1, by rw [splice_self h5]; exact h2, h3, h4, by rw [List.length_take, List.length_drop]; omega, h5⟩
theorem LongIn.drewN (h : LongIn w W gU gV gO m j U cs Q vs) (q : Nat) : LongIn w (W.drewN q) gU gV gO m j U cs Q vs :=
  ⟨below_drewN h.below q, h.bu.drewN q, h.rv.drewN q, h.bo.drewN q, h.len, h.fits⟩
theorem LongIn.cell (h : LongIn w W gU gV gO m j U cs Q vs) (k : Nat) (hk : k < m + 3) : W.cell? ⟨gU, j + k, none⟩ = some (.int .u32 ((cs.getD k 0 : Nat) : Int)) := by
  have h1 := h.len
  have h2 := h.fits
  rw [h.bu.cell _ (by rw [splice_len (by omega)]; omega), splice_get (by omega) (by omega)]
theorem LongIn.cv (h : LongIn w W gU gV gO m j U cs Q vs) (k : Nat) (hk : k < m + 2) : W.cell? ⟨gV, k, none⟩ = some (.int .u32 ((vs.getD k 0 : Nat) : Int)) := by
  obtain ⟨g, o, e, _, hc⟩ := h.rv.of (by omega)
  injection e with e
  injection e with e1 e2
  subst e1 e2
  have := hc k hk
  rwa [Nat.zero_add] at this
theorem LongIn.set_ (h : LongIn w W gU gV gO m j U cs Q vs) (hU : w.heap.size ≤ gU) (hV : gU ≠ gV) (hO : gU ≠ gO) (k v : Nat) (hk : k < m + 3) (hv : v < 4294967296) :
    LongIn w (W.setCell ⟨gU, j + k, none⟩ (.int .u32 (v : Int))) gU gV gO m j U (cs.set k v) Q vs := by
  have h1 := h.len
  have h2 := h.fits
  have h3 := h.bu.set_ (j + k) v hv
  rw [splice_set (by omega) (by omega)] at h3
  exact ⟨h.below.setCell (p := ⟨gU, j + k, none⟩) hU _, h3, h.rv.keep (by simp) (fun a ha _ => Below.heap_setCell W ⟨gU, j + k, none⟩ _ a.block (fun e => by injection ha with ha; subst ha; exact hV e.symm)), h.bo.far (p := ⟨gU, j + k, none⟩) (Ne.symm hO) _, by rw [List.length_set]; exact h1, h2⟩
end
end Go.Proofs.Ytbblckaplddggaa
