import Derived.Test.YtbblckaplddggaaNe
set_option maxRecDepth 100000
namespace Go.Proofs.Ytbblckaplddggaa
open Go.RowKit Go.Shelf
section
variable {w W W' : World} {T b f : Nat} {caps : Array Value} {g : Int → Int} {Ev : World → Prop} {k k' zt zx zy za z : Int} {ta : Bool} {Aa : Option Addr} {na ca : Nat} {tt : Bool} {At : Option Addr} {nt ct : Nat} {t : Bool} {A : Option Addr} {n c : Nat} {t' : Bool} {A' : Option Addr} {n' c' : Nat} {e : Ending}
variable {p q : Nat} {z1 z2 : Int} {t1 : Bool} {A1 : Option Addr} {n1 c1 : Nat} {t2 : Bool} {A2 : Option Addr} {n2 c2 : Nat}
/-- what a region leaves that makes one variable, or writes one made since w -/
structure Rp1 (b : Nat) (k : Int) (w W : World) (p : Nat) (z : Int) (t : Bool) (A : Option Addr) (n c : Nat) : Prop where
  stp : Stp b w W
  cc : Cc W b k
  vb : Vb w W p t A n c
  vn : Vn W k z t A n c
theorem Vn.alloc {W : World} {k z : Int} {t : Bool} {A : Option Addr} {n c : Nat} (h : Vn W k z t A n c) (o : Obj) : Vn (W.alloc o) k z t A n c := h.below (below_alloc _ _)
theorem Rp1.late (hs : Stp b w W) (hc : Cc W b k) (hv : Vn W k z t A n c) : Rp1 b k w (W.alloc (ob2 t A n c)) W.heap.size z t A n c :=
  ⟨hs.trans (Stp.of_below hc.lt (below_alloc _ _)), hc.alloc _, Vb.new w W t A n c hs.size, hv.alloc _⟩
theorem Rp1.early (hs : Stp b w W) (hc : Cc W b k) (hv : Vn W k z t A n c) (hb : b < w.heap.size) {x : Bool} {a : Option Addr} {i j : Nat} (v : Vb w W p x a i j) : Rp1 b k w (st2 W p t A n c) p z t A n c := by
  have hg := v.ge
  exact ⟨hs.two hg (by omega) _ _, hc.two (by omega) _ _, v.put _ _ _ _, hv.two v.c0 v.c1 _ _⟩
/-- and two of them -/
structure Rp2 (b : Nat) (k : Int) (w W : World) (p q : Nat) (z1 : Int) (t1 : Bool) (A1 : Option Addr) (n1 c1 : Nat) (z2 : Int) (t2 : Bool) (A2 : Option Addr) (n2 c2 : Nat) : Prop where
  ne : p ≠ q
  stp : Stp b w W
  cc : Cc W b k
  vp : Vb w W p t1 A1 n1 c1
  vq : Vb w W q t2 A2 n2 c2
  v1 : Vn W k z1 t1 A1 n1 c1
  v2 : Vn W k z2 t2 A2 n2 c2
theorem Rp2.dd (hs : Stp b w W) (hc : Cc W b k) (v1 : Vn W k z1 t1 A1 n1 c1) (v2 : Vn W k z2 t2 A2 n2 c2) : Rp2 b k w ((W.alloc (ob2 t1 A1 n1 c1)).alloc (ob2 t2 A2 n2 c2)) W.heap.size (W.heap.size + 1) z1 t1 A1 n1 c1 z2 t2 A2 n2 c2 :=
  ⟨by omega, (hs.trans (Stp.of_below hc.lt (below_alloc _ _))).trans (Stp.of_below (hc.alloc _).lt (below_alloc _ _)), (hc.alloc _).alloc _, (Vb.new w W t1 A1 n1 c1 hs.size).below (below_alloc _ _), Vb.new1 w W _ t2 A2 n2 c2 hs.size, (v1.alloc _).alloc _, (v2.alloc _).alloc _⟩
theorem Rp2.dd2 (hs : Stp b w W) (hc : Cc W b k) (v1 : Vn W k z1 t1 A1 n1 c1) (v2 : Vn W k z2 t2 A2 n2 c2) : Rp2 b k w ((W.alloc (ob2 t2 A2 n2 c2)).alloc (ob2 t1 A1 n1 c1)) (W.heap.size + 1) W.heap.size z1 t1 A1 n1 c1 z2 t2 A2 n2 c2 :=
  ⟨by omega, (hs.trans (Stp.of_below hc.lt (below_alloc _ _))).trans (Stp.of_below (hc.alloc _).lt (below_alloc _ _)), (hc.alloc _).alloc _, Vb.new1 w W _ t1 A1 n1 c1 hs.size, (Vb.new w W t2 A2 n2 c2 hs.size).below (below_alloc _ _), (v1.alloc _).alloc _, (v2.alloc _).alloc _⟩
theorem Rp2.de (hs : Stp b w W) (hc : Cc W b k) (v1 : Vn W k z1 t1 A1 n1 c1) (v2 : Vn W k z2 t2 A2 n2 c2) (hb : b < w.heap.size) {x : Bool} {a : Option Addr} {i j : Nat} (v : Vb w W p x a i j) : Rp2 b k w ((st2 W p t1 A1 n1 c1).alloc (ob2 t2 A2 n2 c2)) p W.heap.size z1 t1 A1 n1 c1 z2 t2 A2 n2 c2 := by
  have h := Rp1.early hs hc v1 hb v
  have h2 := Rp1.late h.stp h.cc (v2.two v.c0 v.c1 (.bool t1) (.slice A1 n1 c1))
  have e := size_pair W p (.bool t1) (.slice A1 n1 c1)
  have hl := v.lt
  have vb := h2.vb
  rw [e] at vb
  exact ⟨by omega, h2.stp, h2.cc, h.vb.below (below_alloc _ _), vb, h.vn.alloc _, h2.vn⟩
theorem Rp2.ed (hs : Stp b w W) (hc : Cc W b k) (v1 : Vn W k z1 t1 A1 n1 c1) (v2 : Vn W k z2 t2 A2 n2 c2) (hb : b < w.heap.size) {x : Bool} {a : Option Addr} {i j : Nat} (v : Vb w W q x a i j) : Rp2 b k w ((st2 W q t2 A2 n2 c2).alloc (ob2 t1 A1 n1 c1)) W.heap.size q z1 t1 A1 n1 c1 z2 t2 A2 n2 c2 := by
  have h := Rp2.de hs hc v2 v1 hb v
  exact ⟨Ne.symm h.ne, h.stp, h.cc, h.vq, h.vp, h.v2, h.v1⟩
theorem Rp2.ee (hs : Stp b w W) (hc : Cc W b k) (v1 : Vn W k z1 t1 A1 n1 c1) (v2 : Vn W k z2 t2 A2 n2 c2) (hb : b < w.heap.size) (hne : p ≠ q) {x : Bool} {a : Option Addr} {i j : Nat} (v : Vb w W p x a i j) {x' : Bool} {a' : Option Addr} {i' j' : Nat} (v' : Vb w W q x' a' i' j') : Rp2 b k w (st2 (st2 W p t1 A1 n1 c1) q t2 A2 n2 c2) p q z1 t1 A1 n1 c1 z2 t2 A2 n2 c2 := by
  have h := Rp1.early hs hc v1 hb v
  have hg := v'.ge
  have w' := v'.far hne (.bool t1) (.slice A1 n1 c1)
  have h2 := Rp1.early h.stp h.cc (v2.two v.c0 v.c1 (.bool t1) (.slice A1 n1 c1)) hb w'
  exact ⟨hne, h2.stp, h2.cc, h.vb.far (Ne.symm hne) _ _, h2.vb, h.vn.two w'.c0 w'.c1 _ _, h2.vn⟩
theorem Rp2.ee2 (hs : Stp b w W) (hc : Cc W b k) (v1 : Vn W k z1 t1 A1 n1 c1) (v2 : Vn W k z2 t2 A2 n2 c2) (hb : b < w.heap.size) (hne : p ≠ q) {x : Bool} {a : Option Addr} {i j : Nat} (v : Vb w W p x a i j) {x' : Bool} {a' : Option Addr} {i' j' : Nat} (v' : Vb w W q x' a' i' j') : Rp2 b k w (st2 (st2 W q t2 A2 n2 c2) p t1 A1 n1 c1) p q z1 t1 A1 n1 c1 z2 t2 A2 n2 c2 := by
  have h := Rp2.ee hs hc v2 v1 hb (Ne.symm hne) v' v
  exact ⟨hne, h.stp, h.cc, h.vq, h.vp, h.v2, h.v1⟩
end
end Go.Proofs.Ytbblckaplddggaa
