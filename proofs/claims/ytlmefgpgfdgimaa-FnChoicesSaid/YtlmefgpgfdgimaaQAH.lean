/- Short names for what a walk says again and again. No program is named here. -/
import Derived.Test.YtlmefgpgfdgimaaWA
import Derived.Deep.RegionHeld
set_option maxRecDepth 20000
set_option maxHeartbeats 16000000
namespace Go.Proofs.Ytlmefgpgfdgimaa
open Go.RowKit
theorem Bx.kp {w W : World} {b lo hi : Nat} {vs : List Value} (h : Bx w b vs) (hk : Kept lo hi w W) (hd : b < lo ∨ hi ≤ b := by omega) : Bx W b vs := h.kept hk hd
theorem bkp {w W W' : World} {b u : Nat} (B : Below w.heap.size w W) (hk : Kept b u W W') (h : w.heap.size ≤ b := by omega) : Below w.heap.size w W' := B.trans (hk.below _ h B.size)
theorem ltl {a b c : Nat} (h : a < b) (k : b ≤ c) : a < c := Nat.lt_of_lt_of_le h k
theorem rd1 {P : Program} {ops : Array Oper} {Q : Exit → Act → World → Prop} {md : Region.Mode} {S : World → Prop} (i : Nat) {o : Oper} {fuel : Nat} {listed : Array Bool} {a : Act} {w : World}
  (h : ∀ K' : Act → World → Prop, Shut (∀ a w, S w → (S w → wpAnyH P md ops Q S fuel (listed.setIfInBounds i true) a w) → K' a w) → if Region.wanted o (yielded ops a.tmps) = true then Oper.wp P o a w K' Q else K' (a.put o.dst undef) w)
  (hr : Region.ready md ops listed = [i] := by kernel_rfl) (ho : ops[i]? = some o := by rfl) : wpAnyH P md ops Q S (fuel + 1) listed a w := wpAnyH_ready hr (by simp) (AllReadyH.cons ho h AllReadyH.nil)
theorem NewX.o {w0 w W : World} {b n : Nat} {vs : List Value} (N : NewX w W b vs) (B : Below n w0 w) : w0.heap.size ≤ b := Nat.le_trans B.size N.ge
theorem NewX.u {w W : World} {b c : Nat} {us vs : List Value} (N : NewX w W b vs) (X : Bx w c us) : c < b := Nat.lt_of_lt_of_le X.lt N.ge
theorem NewX.n {w0 w W : World} {b : Nat} {vs : List Value} (N : NewX w W b vs) (B : Below w0.heap.size w0 w) : Below w0.heap.size w0 W := below_next B N.below
theorem NewX.r {w W : World} {b c : Nat} {us vs : List Value} (N : NewX w W b vs) (X : Bx w c us) : Bx W c us := X.below N.below
theorem NewX.a {w W : World} {b : Nat} {vs : List Value} (N : NewX w W b vs) : Bx W b vs ∧ (∀ k, W.cell? ⟨b, k, none⟩ = vs[k]?) ∧ (∀ k, W.frozen? ⟨b, k, none⟩ = false) := ⟨N.bx, N.bx.cell, N.bx.froz⟩
theorem NewX.c {w W : World} {b : Nat} {vs : List Value} (N : NewX w W b vs) : Bx W b vs ∧ (∀ k, W.cell? ⟨b, k, none⟩ = vs[k]?) := ⟨N.bx, N.bx.cell⟩
theorem sm {P : Program} {ops : Array Oper} {rest : List Oper} {dst : Option Tmp} {type : TypeId} {pos : String} {after : Array Edge} {a : Act} {w : World} {Q : Exit → Act → World → Prop} (ty : TypeId) {x y : Operand} {b : Nat} {vs : List Value} (X : Bx w b vs) (k : Nat) (us : List Value) (h : ∀ W : World, PutX w W b (vs.take k ++ us ++ vs.drop (k + us.length)) → wpList P ops Q rest (a.put dst undef) W)
  (hk : k + us.length ≤ vs.length := by simp) (hi : (P.info? ty).map (·.size) = some us.length := by kernel_rfl) (h1 : ∀ v ∈ us, v.oneCell' = true := by simp [Value.oneCell']) (hx : a.eval x = .pointer (some ⟨b, k, none⟩) := by with_unfolding_all rfl) (hy : a.eval y = .agg us.toArray := by with_unfolding_all rfl) : wpList P ops Q (⟨dst, .store ty x y, type, pos, after, none⟩ :: rest) a w := store_midX ty X k us hk hi h1 hx hy h
theorem so {P : Program} {ops : Array Oper} {rest : List Oper} {dst : Option Tmp} {type : TypeId} {pos : String} {after : Array Edge} {a : Act} {w : World} {Q : Exit → Act → World → Prop} (ty : TypeId) {x y : Operand} {b : Nat} {vs : List Value} (X : Bx w b vs) (k : Nat) (v : Value) (h : ∀ W : World, PutX w W b (vs.set k v) → wpList P ops Q rest (a.put dst undef) W)
  (hk : k < vs.length := by simp) (hi : (P.info? ty).map (·.size) = some 1 := by kernel_rfl) (hv : v.oneCell' = true := by with_unfolding_all rfl) (hx : a.eval x = .pointer (some ⟨b, k, none⟩) := by with_unfolding_all rfl) (hy : a.eval y = v := by with_unfolding_all rfl) : wpList P ops Q (⟨dst, .store ty x y, type, pos, after, none⟩ :: rest) a w := store_oneX ty X k v hk hi hv hx hy h
theorem al {P : Program} {ops : Array Oper} {rest : List Oper} {dst : Option Tmp} {type : TypeId} {pos : String} {after : Array Edge} {a : Act} {w : World} {Q : Exit → Act → World → Prop} (ty : TypeId) (cs : List Value) (h : ∀ (b : Nat) (W : World), NewX w W b cs → wpList P ops Q rest (a.put dst (.pointer (some ⟨b, 0, none⟩))) W) (hz : ∀ w, (zeroValue ty).run P w = .ok (.agg cs.toArray) w := by (intro _; kernel_rfl)) : wpList P ops Q (⟨dst, .alloc ty, type, pos, after, none⟩ :: rest) a w := alloc_newX ty cs hz h
theorem ElsAt.newLog {sz : Nat} {w : World} {lo hi : Nat} {ao : Option Addr} {n cap : Nat} {F : Nat → Nat → Value} {K : Nat → Hd} {L : Nat → List En} (h : ElsAt sz w true lo hi ao n cap F K L) (i : Nat) (hd : Hd) (xs : List En) (hr : RowAt w true lo hi 6 hd.1 hd.2.1 hd.2.2 (sixs xs)) (hs : hd.2.1 ≠ 0 → ∀ k, inE ao n K k → k ≠ sb hd.1) :
  ElsAt sz w true lo hi ao n cap F (fun j => if j = i then hd else K j) (fun j => if j = i then xs else L j) := by
 refine ⟨h.row, fun q hq => ?_, fun _ q hq h0 => ?_⟩
 ·by_cases e : q = i
  ·subst e; simp only [if_true]; exact hr
  ·simp only [if_neg e]; exact h.logs q hq
 ·by_cases e : q = i
  ·subst e
   simp only [if_true] at h0 ⊢
   refine ⟨fun e => hs h0 _ (Or.inl ⟨by omega, rfl⟩) e.symm, fun j hj hne h1 => ?_⟩
   rw [if_neg hne] at h1 ⊢
   exact hs h0 _ (Or.inr ⟨j, hj, h1, rfl⟩)
  ·simp only [if_neg e] at h0 ⊢
   refine ⟨(h.sep rfl q hq h0).1, fun j hj hne h1 => ?_⟩
   by_cases e2 : j = i
   ·subst e2
    simp only [if_true] at h1 ⊢
    exact fun x => hs h1 _ (Or.inr ⟨q, hq, h0, rfl⟩) x.symm
   ·simp only [if_neg e2] at h1 ⊢
    exact (h.sep rfl q hq h0).2 j hj hne h1
def paL (ds : List Dr) (k i : Nat) : List En := if i < k then drL ds i else []
def kd0 : Nat → Hd := fun _ => (none, 0, 0)
theorem Try.infoDoer : (Try.prog.info? 39).map (fun i => (i.zero, i.size, i.bytes)) = some (some (.agg #[.bool false, .int .i64 0, .slice none 0 0, .int .i64 0]), 4, 48) := by kernel_rfl
end Go.Proofs.Ytlmefgpgfdgimaa
