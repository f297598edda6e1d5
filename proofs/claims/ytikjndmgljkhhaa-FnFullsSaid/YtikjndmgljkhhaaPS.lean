/- Chapter 5: a pool in memory, as laws hand it on. -/
import Derived.Test.YtikjndmgljkhhaaYG
import Derived.Test.YtikjndmgljkhhaaYI
import Derived.Test.YtikjndmgljkhhaaLW
import Derived.Test.YtikjndmgljkhhaaNP
namespace Go.Proofs.Ytikjndmgljkhhaa
open Go.RowKit

/-- a pool that lies in blocks from lo on -/
structure PoS (W : World) (lo hi : Nat) (an : Option Addr) (nn cn : Nat) (ab : Option Addr) (nb cb : Nat) (av : Option Addr) (nv cv : Nat) (f : Fo) (vs : List Vo) : Prop where
  ex : ∃ l u l2 u2 K, FoAt W true l u an nn cn ab nb cb K f ∧ RowAt W true l2 u2 3 av nv cv (trips vs) ∧ (∀ i, i < nn → (K i).2.1 ≤ 1048576) ∧ (lo ≤ l ∧ u ≤ hi) ∧ (lo ≤ l2 ∧ u2 ≤ hi)
  hn : nn ≤ 1048576
  hb : nb ≤ 1048576
  hv : nv ≤ 1048576
  hs : hi ≤ W.heap.size
theorem PoS.below {W W' : World} {lo hi : Nat} {an : Option Addr} {nn cn : Nat} {ab : Option Addr} {nb cb : Nat} {av : Option Addr} {nv cv : Nat} {f : Fo} {vs : List Vo} (h : PoS W lo hi an nn cn ab nb cb av nv cv f vs) (B : Below W.heap.size W W') : PoS W' lo hi an nn cn ab nb cb av nv cv f vs := by
  obtain ⟨l, u, l2, u2, K, F, V, k, a, b⟩ := h.ex
  exact ⟨⟨l, u, l2, u2, K, F.below B, V.below B, k, a, b⟩, h.hn, h.hb, h.hv, Nat.le_trans h.hs B.size⟩
theorem PoS.set {W W' : World} {lo hi : Nat} {an : Option Addr} {nn cn : Nat} {ab : Option Addr} {nb cb : Nat} {av : Option Addr} {nv cv : Nat} {f : Fo} {vs : List Vo} (h : PoS W lo hi an nn cn ab nb cb av nv cv f vs) {b : Nat} {cs : List Value} (S : SetB W W' b cs) (hb : hi ≤ b ∨ b < lo) : PoS W' lo hi an nn cn ab nb cb av nv cv f vs := by
  obtain ⟨l, u, l2, u2, K, F, V, k, a, c⟩ := h.ex
  exact ⟨⟨l, u, l2, u2, K, F.kept S.kept (by omega), V.kept S.kept (by omega), k, a, c⟩, h.hn, h.hb, h.hv, Nat.le_trans h.hs S.kept.size⟩
theorem fo_kids {w : World} {o : Bool} {l u : Nat} {an : Option Addr} {nn cn : Nat} {ab : Option Addr} {nb cb : Nat} {K : Nat → KS} {f : Fo} (h : FoAt w o l u an nn cn ab nb cb K f) (hI : Inv f) : ∀ i, i < nn → (K i).2.1 ≤ 1048576 := fun i hi => by
  have a := (h.nodes.kids i hi).len
  have b := ints_length (f.1.getD i nd0).2.2
  by_cases c : (nodeOf f i).1 = 0
  · have e := (hI.nd i).z c
    have e' : (f.1.getD i nd0).2.2 = [] := congrArg (fun nd : Nd => nd.2.2) e
    have b' : (f.1.getD i nd0).2.2.length = 0 := by rw [e']; rfl
    omega
  · have e := (hI.nd i).kl c
    have e' : (f.1.getD i nd0).2.2.length = 4 := e
    omega
theorem PoS.of {w W : World} {an : Option Addr} {nn cn : Nat} {ab : Option Addr} {nb cb : Nat} {av : Option Addr} {nv cv l1 u1 l2 u2 : Nat} {K : Nat → KS} {f : Fo} {vs : List Vo} (P : PoIs w W an nn cn ab nb cb av nv cv l1 u1 l2 u2 K f vs) (ok : PoolOk f vs) : PoS W w.heap.size W.heap.size an nn cn ab nb cb av nv cv f vs := by
  have h1 := P.fo.nodes.len
  have h2 := ok.right.inv.nn
  have h3 := P.fo.blocks.nPairs
  have h4 := ok.right.inv.nb
  have h5 := P.vol.nTrips
  have h6 := ok.few
  exact ⟨⟨_, _, _, _, K, P.fo, P.vol, fo_kids P.fo ok.right.inv, ⟨P.lo1, P.hi1⟩, ⟨P.lo2, P.hi2⟩⟩, by omega, by omega, by omega, Nat.le_refl _⟩
/-- what an operation answers with no code -/
def ApS (W w' : World) (e : Ending) (r v : Int) (f : Fo) (vs : List Vo) : Prop := ∃ an nn cn ab nb cb av nv cv, e = .returned (.agg #[.int .i64 0, .int .i64 r, .int .i64 v, .slice an nn cn, .slice ab nb cb, .slice av nv cv]) ∧ PoS w' W.heap.size w'.heap.size an nn cn ab nb cb av nv cv f vs ∧ Below W.heap.size W w'
theorem applyS {W : World} {lo hi : Nat} {an : Option Addr} {nn cn : Nat} {ab : Option Addr} {nb cb : Nat} {av : Option Addr} {nv cv : Nat} {f : Fo} {vs : List Vo} (h : PoS W lo hi an nn cn ab nb cb av nv cv f vs) (k v a x : Int) (r vl : Int) (g : Fo) (us : List Vo) (hc : applyC f vs k v a x = 0) (hd : applyA f vs k v a x = (r, vl, g, us)) (ok : PoolOk g us) :
    Calls Try.prog 12 #[.agg #[.slice an nn cn, .slice ab nb cb, .slice av nv cv], .agg #[.int .i64 k, .int .i64 v, .int .i64 a, .int .i64 x]] W fun e w' => ApS W w' e r vl g us := by
  obtain ⟨l, u, l2, u2, K, F, V, hk, _, _⟩ := h.ex
  refine (implApply_is an nn cn ab nb cb av nv cv K f vs W F V h.hn h.hb hk h.hv k v a x 0 _ hc hd).mono ?_
  rintro e w' ⟨pa, pn, pc, pb, qn, qc, va, vn, vc, l1, u1, l2, u2, K', rfl, P, BB⟩
  exact ⟨pa, pn, pc, pb, qn, qc, va, vn, vc, rfl, PoS.of P ok, BB⟩
theorem newS (n : Nat) (hn : n ≤ 24) (W : World) : Calls Try.prog 13 #[.int .i64 (n : Int)] W fun e w' => ApS W w' e 0 0 (newFoList n) [] := by
  refine (implNewP_is (n : Int) W 0 (newFoList n) (by unfold newBCode; rw [if_pos (by omega)]) rfl).mono ?_
  rintro e w' ⟨an, nn, cn, ab, nb, cb, lo, mid, K, rfl, F, h1, h2, B⟩
  have R := right_of (new_right hn)
  have q1 := F.nodes.len
  have q2 := R.inv.nn
  have q3 := F.blocks.nPairs
  have q4 := R.inv.nb
  exact ⟨_, _, _, _, _, _, _, _, _, rfl, ⟨⟨lo, mid, W.heap.size, W.heap.size, K, F, RowAt.nil _ _ _ _ _, fo_kids F R.inv, ⟨h1, h2⟩, ⟨Nat.le_refl _, B.size⟩⟩, by omega, by omega, by omega, Nat.le_refl _⟩, B⟩

theorem lwAt_of {o : Bool} {lo hi : Nat} (ac : Option Addr) (nc cc : Nat) (bs : List Nat) (i n : Nat) (x y : Int) (hx : x = (i : Int)) (hy : y = (n : Int)) (w : World) (hr : RowAt w o lo hi 1 ac nc cc (bys bs)) (hb : ∀ i, bs.getD i 0 < 256) (hi : i ≤ 100000) (hc : nc ≤ 1048576) (hn : n ≤ 200) (d : Nat) (hd : lwN bs i n = d) :
    Calls Try.prog 11 #[.slice ac nc cc, .int .i64 x, .int .i64 y] w fun e w' => e = .returned (.int .i64 (d : Int)) ∧ Below w.heap.size w w' := by
  subst hx hy
  exact lwAt_is ac nc cc bs i n w hr hb hi hc hn d hd
theorem newS_of (n : Nat) (hn : n ≤ 24) (x : Int) (hx : x = (n : Int)) (W : World) : Calls Try.prog 13 #[.int .i64 x] W fun e w' => ApS W w' e 0 0 (newFoList n) [] := by
  subst hx
  exact newS n hn W
theorem poolField (c r v : Int) (a0 : Option Addr) (n0 c0 : Nat) (a1 : Option Addr) (n1 c1 : Nat) (a2 : Option Addr) (n2 c2 : Nat) (w : World) : (Instr.field 33 (.agg #[.int .i64 c, .int .i64 r, .int .i64 v, .slice a0 n0 c0, .slice a1 n1 c1, .slice a2 n2 c2]) 3).run Try.prog w = .ok (.agg #[.slice a0 n0 c0, .slice a1 n1 c1, .slice a2 n2 c2]) w := by kernel_rfl
theorem intField (c v : Int) (w : World) : (Instr.field 40 (.agg #[.int .i64 c, .int .i64 v]) 1).run Try.prog w = .ok (.int .i64 v) w := by kernel_rfl
/-- box b holds a pool of one volume whose first k places have a block -/
def QAt (w wr : World) (b : Nat) (q : Int) (k n : Nat) : Prop := ∃ an nn cn ab nb cb av nv cv f R lo hi, wr.cell? ⟨b, 0, none⟩ = some (.slice an nn cn) ∧ wr.cell? ⟨b, 1, none⟩ = some (.slice ab nb cb) ∧ wr.cell? ⟨b, 2, none⟩ = some (.slice av nv cv) ∧ wr.frozen? ⟨b, 0, none⟩ = false ∧ wr.frozen? ⟨b, 1, none⟩ = false ∧ wr.frozen? ⟨b, 2, none⟩ = false ∧ b < wr.heap.size ∧ PoS wr lo hi an nn cn ab nb cb av nv cv f [(1, q, R)] ∧ (hi ≤ b ∨ b < lo) ∧ One f q R k n ∧ Below w.heap.size w wr

/-- box xb holds what an operation answered with no code -/
def ApBox (W wx : World) (xb : Nat) (r v : Int) (g : Fo) (us : List Vo) : Prop := ∃ an nn cn ab nb cb av nv cv lo hi, wx.cell? ⟨xb, 0, none⟩ = some (.int .i64 0) ∧ wx.cell? ⟨xb, 1, none⟩ = some (.int .i64 r) ∧ wx.cell? ⟨xb, 2, none⟩ = some (.int .i64 v) ∧ wx.cell? ⟨xb, 3, none⟩ = some (.slice an nn cn) ∧ wx.cell? ⟨xb, 4, none⟩ = some (.slice ab nb cb) ∧ wx.cell? ⟨xb, 5, none⟩ = some (.slice av nv cv) ∧ PoS wx lo hi an nn cn ab nb cb av nv cv g us ∧ Below W.heap.size W wx
theorem ApBox.new {W w6 : World} {r v : Int} {g : Fo} {us : List Vo} {an : Option Addr} {nn cn : Nat} {ab : Option Addr} {nb cb : Nat} {av : Option Addr} {nv cv lo hi : Nat} (P : PoS w6 lo hi an nn cn ab nb cb av nv cv g us) (B : Below W.heap.size W w6) : ApBox W (w6.alloc (.cells #[.int .i64 0, .int .i64 r, .int .i64 v, .slice an nn cn, .slice ab nb cb, .slice av nv cv] 33)) w6.heap.size r v g us := by
  have N := newB_mk w6 #[.int .i64 0, .int .i64 r, .int .i64 v, .slice an nn cn, .slice ab nb cb, .slice av nv cv] 33
  exact ⟨_, _, _, _, _, _, _, _, _, _, _, N.cell 0 _ rfl, N.cell 1 _ rfl, N.cell 2 _ rfl, N.cell 3 _ rfl, N.cell 4 _ rfl, N.cell 5 _ rfl, P.below N.below, below_next B N.below⟩
theorem ApBox.set {W w6 W6 : World} {xb : Nat} {r v : Int} {g : Fo} {us : List Vo} {an : Option Addr} {nn cn : Nat} {ab : Option Addr} {nb cb : Nat} {av : Option Addr} {nv cv lo hi : Nat} (P : PoS w6 lo hi an nn cn ab nb cb av nv cv g us) (B : Below W.heap.size W w6) (S : SetB w6 W6 xb [.int .i64 0, .int .i64 r, .int .i64 v, .slice an nn cn, .slice ab nb cb, .slice av nv cv]) (h1 : xb < lo) (h2 : W.heap.size ≤ xb) : ApBox W W6 xb r v g us :=
  ⟨_, _, _, _, _, _, _, _, _, _, _, S.cell 0 _ rfl, S.cell 1 _ rfl, S.cell 2 _ rfl, S.cell 3 _ rfl, S.cell 4 _ rfl, S.cell 5 _ rfl, P.set S (Or.inr h1), B.trans (S.kept.below _ h2 B.size)⟩

end Go.Proofs.Ytikjndmgljkhhaa
