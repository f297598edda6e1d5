/- Chapter 11: slices.Delete of one mail out of a row that is the call's own; a live cluster without one mail. -/
import Derived.Test.YtclghfoinologaaGreatQBA
set_option maxRecDepth 20000
set_option maxHeartbeats 16000000
namespace Go.Proofs.YtclghfoinologaaGreat
open Go.RowKit
def DelAt (w w' : World) (e : Ending) (base : Nat) (s : Value) (n : Nat) (xs : List Value) : Prop := ∃ g cap, s = .slice (some ⟨g, 0, none⟩) n cap ∧ e = .returned (.slice (some ⟨g, 0, none⟩) (n - 1) cap) ∧ w'.ownsRow base 96 15 (.slice (some ⟨g, 0, none⟩) (n - 1) cap) (n - 1) xs ∧ w.grownBy w' (some g)
theorem flat_erase {α : Type} {k : Kd α} (K : KdOk k) (xs : List α) (m : Nat) : (xs.eraseIdx m).flatMap k.cells = (xs.flatMap k.cells).take (m * k.sz) ++ (xs.flatMap k.cells).drop ((m + 1) * k.sz) := by
 have T : ∀ j, (xs.flatMap k.cells).take (j * k.sz) = (xs.take j).flatMap k.cells := fun j => by
  have e : xs.flatMap k.cells = (xs.take j).flatMap k.cells ++ (xs.drop j).flatMap k.cells := by rw [← List.flatMap_append, List.take_append_drop]
  by_cases h : j ≤ xs.length
  ·rw [e, List.take_left' (by rw [flatMap_len K, List.length_take, Nat.min_eq_left h])]
  ·rw [List.take_of_length_le (by rw [flatMap_len K];exact Nat.mul_le_mul_right _ (by omega)), List.take_of_length_le (by omega)]
 have D : ∀ j, (xs.flatMap k.cells).drop (j * k.sz) = (xs.drop j).flatMap k.cells := fun j => by
  have e : xs.flatMap k.cells = (xs.take j).flatMap k.cells ++ (xs.drop j).flatMap k.cells := by rw [← List.flatMap_append, List.take_append_drop]
  by_cases h : j ≤ xs.length
  ·rw [e, List.drop_left' (by rw [flatMap_len K, List.length_take, Nat.min_eq_left h])]
  ·rw [List.drop_of_length_le (by rw [flatMap_len K];exact Nat.mul_le_mul_right _ (by omega)), List.drop_of_length_le (by omega)];rfl
 rw [T, D, List.eraseIdx_eq_take_drop_succ, List.flatMap_append]
theorem erase_at {α : Type} {xs : List α} {m i : Nat} {a : α} (e : (xs.eraseIdx m)[i]? = some a) : xs[if i < m then i else i + 1]? = some a := by
 rw [List.getElem?_eraseIdx] at e
 split at e
 ·rw [if_pos ‹_›];exact e
 ·rw [if_neg ‹_›];exact e
theorem GrowL.del {α : Type} {k : Kd α} (K : KdOk k) {w w' : World} {base : Nat} {T : TypeId} {n c g : Nat} {xs : List α} (h : GrowL k w base T (.slice (some ⟨g, 0, none⟩) n c) n xs) {m : Nat} (hm : m < n) (hk : KeptS (fun q => q = g) w w') (ho : w'.ownsRow base T k.sz (.slice (some ⟨g, 0, none⟩) (n - 1) c) (n - 1) ((xs.flatMap k.cells).take (m * k.sz) ++ (xs.flatMap k.cells).drop ((m + 1) * k.sz))) :
  GrowL k w' base T (.slice (some ⟨g, 0, none⟩) (n - 1) c) (n - 1) (xs.eraseIdx m) := by
 refine ⟨by rw [List.length_eraseIdx_of_lt (by rw [h.len];exact hm), h.len], by rw [flat_erase K];exact ho, fun i a e => ?_, fun i a e q hq => ?_, fun i j a b e1 e2 hne => ?_⟩
 ·exact K.widen (K.keptS (h.each _ a (erase_at e)) hk fun q hq e2 => h.far _ a (erase_at e) q hq (by rw [e2];rfl)) (Nat.le_refl _) hk.size
 ·exact h.far _ a (erase_at e) q hq
 ·exact h.sep _ _ a b (erase_at e1) (erase_at e2) (by split <;> split <;> omega)
theorem LiveAt.del {W W2 W3 : World} {T : TypeId} {base b : Nat} {N S : Hd} {xs : List Nod} {ys : List Mal} {es : List En} {g n c : Nat} (x : LiveAt W T base b N (some ⟨g, 0, none⟩, n, c) S xs ys es) {m : Nat} (hm : m < n) (KS : KeptS (fun q => q = g) W W2) (ho : W2.ownsRow base T 15 (.slice (some ⟨g, 0, none⟩) (n - 1) c) (n - 1) ((ys.flatMap mailK.cells).take (m * 15) ++ (ys.flatMap mailK.cells).drop ((m + 1) * 15)))
  (Pt : PutX W2 W3 b [.slice N.1 N.2.1 N.2.2, .slice (some ⟨g, 0, none⟩) (n - 1) c, .slice S.1 S.2.1 S.2.2]) : LiveAt W3 T base b N (some ⟨g, 0, none⟩, n - 1, c) S xs (ys.eraseIdx m) es := by
 have K3 := KeptS.one Pt.kept;have hs3 := Pt.kept.size;have hsz2 := KS.size
 have G : GrowL mailK W2 base T (.slice (some ⟨g, 0, none⟩) (n - 1) c) (n - 1) (ys.eraseIdx m) := GrowL.del mailOk x.mails.gr hm KS ho
 have inM : ∀ q, inV (some ⟨g, 0, none⟩, n - 1, c) (ys.eraseIdx m) q → inV (some ⟨g, 0, none⟩, n, c) ys q := fun q hq => by
  rcases hq with h | ⟨i, a, e, h⟩
  ·exact Or.inl h
  ·exact Or.inr ⟨_, a, erase_at e, h⟩
 have hg : ∀ q, q = g → inV (some ⟨g, 0, none⟩, n, c) ys q := fun q e => Or.inl (by rw [e];rfl)
 have MG : MGr W2 T base W2.heap.size (some ⟨g, 0, none⟩, n - 1, c) (ys.eraseIdx m) := ⟨G, fun q hq => by
  rcases hq with h | ⟨i, a, e, h⟩
  ·exact (G.own.lt q h).2
  ·exact (mailOk.inB (G.each i a e) h).2.2⟩
 have N2 : NAt W2 true base W2.heap.size N xs := (LAt.keptS nodeOk x.nodes KS fun q hq e => x.sNM q hq (hg q e)).widen nodeOk (Nat.le_refl _) hsz2
 have S2 : RowAt W2 true base W2.heap.size 6 S.1 S.2.1 S.2.2 (sixs es) := (x.slog.keptR KS fun q hq e => x.sMS q (hg q e) hq).widen (Nat.le_refl _) hsz2
 have hmn := x.sz.m
 exact ⟨Pt.bx, x.bb, (LAt.keptS nodeOk N2 K3 fun q hq e => x.bN (e ▸ hq)).widen nodeOk (Nat.le_refl _) hs3, (MG.keptS K3 fun q hq e => x.bM (e ▸ inM q hq)).mono hs3, (S2.keptR K3 fun q hq e => x.bS (e ▸ hq)).widen (Nat.le_refl _) hs3, fun q a d => x.sNM q a (inM q d), x.sNS, fun q a d => x.sMS q (inM q a) d, x.bN, fun h => x.bM (inM b h), x.bS, ⟨x.sz.n, by show n - 1 ≤ 1048576;have : n ≤ 1048576 := hmn;omega, x.sz.s, x.sz.nodes, fun i a e => x.sz.mails _ a (erase_at e)⟩⟩
theorem deleteM_is {base n : Nat} {cs : List Value} {w : World} (h1 : ∀ u ∈ cs, u.oneCell' = true) (hn : n ≤ 1048576) (s : Value) (hown : w.ownsRow base 96 15 s n cs) (m : Nat) (hm : m < n) : Calls Tryz.prog 81 #[s, .int .i64 (m : Int), .int .i64 ((m : Int) + 1)] w fun e w' => DelAt w w' e base s n (cs.take (m * 15) ++ cs.drop ((m + 1) * 15)) := by
 obtain ⟨j0, hj0, hy0, hy1, hy2⟩ := info_parts Tryz.infMail
 have hcl := hown.1
 rcases hown.2 with ⟨rfl, rfl⟩ | ⟨g, cap, cur, rfl, hg, hgb, hcap, hc63, hcs, hct⟩
 ·omega
 obtain ⟨L, hL0⟩ : ∃ L, cur.toList = L := ⟨_, rfl⟩
 have hL : Blk w g 96 L := by unfold Blk;rw [← hL0, Array.toArray_toList];exact hgb
 have hLl : L.length = cap * 15 := by rw [← hL0];simpa using hcs
 have hLt : L.take (n * 15) = cs := by rw [← hL0];exact hct
 clear hL0 hct hcs hgb hown
 have hc63' := hc63
 unfold maxLen at hc63';obtain ⟨M1, hM1⟩ : ∃ M1, L.take (m * 15) ++ cs.drop ((m + 1) * 15) ++ L.drop (m * 15 + (cs.drop ((m + 1) * 15)).length) = M1 := ⟨_, rfl⟩
 have hdl : (cs.drop ((m + 1) * 15)).length = (n - (m + 1)) * 15 := by rw [List.length_drop, hcl];omega
 have hap : ∀ (a : Addr) ty sc k c, n - (m + 1) = k → cap = c → (n - (m + 1) ≠ 0 → a = ⟨g, (m + 1) * 15, none⟩) → (Builtin.append_ #[33, 33] ty #[.slice (some ⟨g, 0, none⟩) m c, .slice (some a) k sc]).run Tryz.prog w.drew = .ok (.slice (some ⟨g, 0, none⟩) (n - 1) c) (w.drew.setRow g M1.toArray) := fun a ty sc k c hk hc ha => by
  subst hk;subst hc
  have hs : Src Tryz.prog j0.size 33 (.slice (some a) (n - (m + 1)) sc) (n - (m + 1)) (cs.drop ((m + 1) * 15)) w.drew := by
   rw [hy1]
   refine Src.ofSlice w.drew Tryz.underlying33 a (n - (m + 1)) sc (cs.drop ((m + 1) * 15)) hdl (fun j u hj => ?_) (fun v hv => h1 v (List.mem_of_mem_drop hv))
   have hjl : j < (cs.drop ((m + 1) * 15)).length := by
    rcases Nat.lt_or_ge j (cs.drop ((m + 1) * 15)).length with h' | h'
    ·exact h'
    ·rw [List.getElem?_eq_none h'] at hj;cases hj
   rw [ha (by omega), Addr.add_lit]
   rw [List.getElem?_drop, ← hLt, List.getElem?_take] at hj
   split at hj
   ·exact hL.drew.cell hj
   ·cases hj
  have := run_append_in w.drew 33 33 ty 96 j0 Tryz.underlying33 hj0 g m cap _ _ _ hs (by omega) L hL.drew (by rw [hy1, hdl];omega)
  rw [hy1, hM1, show m + (n - (m + 1)) = n - 1 by omega] at this
  exact this
 have hM1l : M1.length = cap * 15 := by rw [← hM1];simp;omega
 have hM1t : M1.take ((n - 1) * 15) = cs.take (m * 15) ++ cs.drop ((m + 1) * 15) := by
  have e0 : L.take (m * 15) = cs.take (m * 15) := by rw [← hLt, List.take_take];congr 1;omega
  rw [← hM1, e0]
  exact List.take_left' (by simp [hcl];omega)
 obtain ⟨M2, hM2⟩ : ∃ M2, M1.take ((n - 1) * 15) ++ [.int .i64 0, .int .i64 0, .int .i64 0, .int .i64 0, .int .i64 0, .bool false, .int .i64 0, .int .i64 0, .int .i64 0, .int .i64 0, .int .i64 0, .int .i64 0, .int .i64 0, .slice none 0 0, .int .i64 0] ++ M1.drop ((n - 1) * 15 + [Value.int .i64 0, .int .i64 0, .int .i64 0, .int .i64 0, .int .i64 0, .bool false, .int .i64 0, .int .i64 0, .int .i64 0, .int .i64 0, .int .i64 0, .int .i64 0, .int .i64 0, .slice none 0 0, .int .i64 0].length) = M2 := ⟨_, rfl⟩
 have hclr : ∀ ty sc, (Builtin.clear_ #[33] ty #[.slice (some ⟨g, (n - 1) * 15, none⟩) 1 sc]).run Tryz.prog (w.drew.setRow g M1.toArray) = .ok (.tuple #[]) ((w.drew.setRow g M1.toArray).setRow g M2.toArray) := fun ty sc => by
  have := run_clear_wide (w.drew.setRow g M1.toArray) 33 96 ty (.agg #[.int .i64 0, .int .i64 0, .int .i64 0, .int .i64 0, .int .i64 0, .bool false, .int .i64 0, .int .i64 0, .int .i64 0, .int .i64 0, .int .i64 0, .int .i64 0, .int .i64 0, .slice none 0 0, .int .i64 0]) Tryz.underlying33 (fun _ => by kernel_rfl) [.int .i64 0, .int .i64 0, .int .i64 0, .int .i64 0, .int .i64 0, .bool false, .int .i64 0, .int .i64 0, .int .i64 0, .int .i64 0, .int .i64 0, .int .i64 0, .int .i64 0, .slice none 0 0, .int .i64 0] g ((n - 1) * 15) 1 sc (by decide) (by simp [Builtin.zeroCells, Value.cells, Array.range]) (by simp [Value.oneCell']) M1 (Blk.set hL.drew) (by rw [hM1l];simp;omega)
  rw [hM2] at this;exact this
 have hM2l : M2.length = cap * 15 := by rw [← hM2];simp;omega
 have hM2t : M2.take ((n - 1) * 15) = cs.take (m * 15) ++ cs.drop ((m + 1) * 15) := by
  rw [← hM2, hM1t]
  exact (congrArg _ (List.append_assoc _ _ _)).trans (List.take_left' (by simp [hcl];omega))
 have hw1 : (m : Int) ≤ (m : Int) + 1 := by omega
 have hw2 : (m : Int) + 1 ≤ (n : Int) := by omega
 have hw3 : (n : Int) ≤ (cap : Int) := by omega
 have hw4 : (0 : Int) ≤ (m : Int) + 1 := by omega
 have hw5 : ¬ (m : Int) = (m : Int) + 1 := by omega
 have ht1 : ((m : Int) + 1).toNat = m + 1 := by omega
 have hnm : ¬ n = m := by omega
 have hcm : ¬ cap = m := by omega
 have hq1 : ((n - 1 : Nat) : Int) ≤ (n : Int) := by omega
 have hq2 : n - (n - 1) = 1 := by omega
 have hq3 : ¬ cap = n - 1 := by omega
 have hq4 : (m : Int) ≤ (cap : Int) := by omega
 by_cases hcc : cap = m + 1
 ·have HCC : Hid (n - (m + 1) = 0) := by show _ = _;omega
  go_enter Tryz.func81, Tryz.ntmps81
  go_wp2_with fail
  go_region_law (refine step_append_run rfl _ _ 33 33 rfl _ _ rfl rfl _ _ (hap ⟨g, 0, none⟩ _ 0 (n - (m + 1)) (m + 1) rfl hcc (fun h => absurd HCC.out h)) ?_)
  go_wp2;go_ret;subst hcc
  exact ⟨g, m + 1, rfl, rfl, ⟨by simp [hcl];omega, Or.inr ⟨g, m + 1, M2.toArray, rfl, hg, Blk.set (Blk.set hL.drew), by omega, hc63, by simpa using hM2l, by simpa using hM2t⟩⟩, grown_setRow (grown_setRow (grown_drew _ _))⟩
 ·go_enter Tryz.func81, Tryz.ntmps81
  go_wp2_with fail
  go_region_law (refine step_append_run rfl _ _ 33 33 rfl (.slice (some ⟨g, 0, none⟩) m cap) (.slice (some ⟨g, (m + 1) * 15, none⟩) (n - (m + 1)) (cap - (m + 1))) (by simp [Act.eval, Act.put]) (by simp [Act.eval, Act.put]) _ _ (hap ⟨g, (m + 1) * 15, none⟩ _ (cap - (m + 1)) (n - (m + 1)) cap rfl rfl (fun _ => rfl)) ?_)
  go_wp2;go_ret
  exact ⟨g, cap, rfl, rfl, ⟨by simp [hcl];omega, Or.inr ⟨g, cap, M2.toArray, rfl, hg, Blk.set (Blk.set hL.drew), by omega, hc63, by simpa using hM2l, by simpa using hM2t⟩⟩, grown_setRow (grown_setRow (grown_drew _ _))⟩
def loC (rs : List Rep) (ms : List Ml) (es : List En) (v : Int) : Int := nplC (cluF rs ms es) ms.length v
def loN (rs : List Rep) (ms : List Ml) (es : List En) (v : Int) : List Rep := if loC rs ms es v = 0 then rs else []
def loM (rs : List Rep) (ms : List Ml) (es : List En) (v : Int) : List Ml := if loC rs ms es v = 0 then ms.eraseIdx v.toNat else []
def loE (rs : List Rep) (ms : List Ml) (es : List En) (v : Int) : List En := if loC rs ms es v = 0 then es else []
theorem lo_bad {rs : List Rep} {ms : List Ml} {es : List En} {v d : Int} (h : loC rs ms es v = d) (hd : d ≠ 0) : loN rs ms es v = [] ∧ loM rs ms es v = [] ∧ loE rs ms es v = [] := by
 unfold loN loM loE;rw [h, if_neg hd, if_neg hd, if_neg hd];exact ⟨rfl, rfl, rfl⟩
theorem lo_ok {rs : List Rep} {ms : List Ml} {es : List En} {v : Int} (h : loC rs ms es v = 0) : loN rs ms es v = rs ∧ loM rs ms es v = ms.eraseIdx v.toNat ∧ loE rs ms es v = es := by
 unfold loN loM loE;rw [h, if_pos rfl, if_pos rfl, if_pos rfl];exact ⟨rfl, rfl, rfl⟩
theorem map_erase {β γ : Type} (xs : List (β × γ)) (i : Nat) : (xs.eraseIdx i).map (·.1) = (xs.map (·.1)).eraseIdx i := by
 rw [List.eraseIdx_eq_take_drop_succ, List.eraseIdx_eq_take_drop_succ, List.map_append, List.map_take, List.map_drop]
theorem lo_few (rs : List Rep) (ms : List Ml) (es : List En) (v : Int) : nlen (loN rs ms es v) ≤ 1280 := by
 unfold loN
 split
 ·rename_i h
  have h1 := (npl_ok h).1
  obtain ⟨h2, _, h3, _⟩ := clu_parts h1
  have := nlen_small rs fun r hr => by
   obtain ⟨i, hi, rfl⟩ := List.mem_iff_getElem.1 hr
   have h4 := (nodesF_all h3 i hi).1;rw [List.getD_eq_getElem?_getD, List.getElem?_eq_getElem hi, Option.getD_some] at h4;exact small_of h4
  omega
 ·exact Nat.zero_le _
theorem mail_one (ys : List Mal) : ∀ u ∈ ys.flatMap mailK.cells, u.oneCell' = true := fun u h => by
 obtain ⟨a, _, h⟩ := List.mem_flatMap.1 h
 simp only [mailK, mlV, hv, List.mem_cons, List.not_mem_nil, or_false] at h
 rcases h with rfl | rfl | rfl | rfl | rfl | rfl | rfl | rfl | rfl | rfl | rfl | rfl | rfl | rfl | rfl <;> rfl
theorem loseMail_is {base b0 : Nat} (N M Sd : Hd) (xs : List Nod) (ys : List Mal) (es : List En) (m : Nat) (w : World) (x : LiveAt w 96 base b0 N M Sd xs ys es) (hm : m < M.2.1) (h120 : M.2.1 ≤ 120) (hbw : base ≤ w.heap.size) :
  Calls Tryz.prog 42 #[.pointer (some ⟨b0, 0, none⟩), .int .i64 (m : Int)] w fun e w' => e = .returned (.tuple #[]) ∧ (∃ M' : Hd, LiveAt w' 96 base b0 N M' Sd xs (ys.eraseIdx m) es) ∧ Below base w w' := by
 obtain ⟨ma, mn, mc⟩ := M
 simp only at hm h120
 have X0 := x.bx;have c0 := X0.cell
 have HX : Hid _ := x
 clear x
 go_enter Tryz.func42, Tryz.ntmps42
 go_wp2_with fail
 refine (deleteM_is (n := mn) (mail_one ys) (by omega) _ HX.out.mails.gr.own m hm).mono ?_
 rintro e W2 ⟨g, cap, hs, rfl, ho, hgb⟩
 have hs' : Value.slice ma mn mc = .slice (some ⟨g, 0, none⟩) mn cap := hs
 simp only [Value.slice.injEq, true_and] at hs'
 obtain ⟨rfl, rfl⟩ := hs'
 have KS : KeptS (fun q => q = g) w W2 := ⟨hgb.os, hgb.tape, hgb.output, hgb.size, fun q hq hne => hgb.block q hq (fun e => hne (Option.some.inj e))⟩
 have hgM : inV (some ⟨g, 0, none⟩, mn, mc) ys g := Or.inl rfl
 have hbg : base ≤ g := (HX.out.mails.inB hgM).1
 replace X0 := X0.keptS KS (fun e => HX.out.bM (by rw [e];exact hgM))
 replace c0 := X0.cell;have f0 := X0.froz
 have BL : Hid (Below base w W2) := KS.low base (fun k hk => by rw [hk];exact hbg) hbw
 have HO : Hid _ := ho
 have HK : Hid _ := KS
 have hb0 := HX.out.bb;have hsz := KS.size;clear ho KS hgb hs
 go_wp2_with (first | ((with_reducible refine so 33 X0 1 (.slice (some ⟨g, 0, none⟩) (mn - 1) mc) ?_);intro W3 S) | fail)
 go_end0
 exact ⟨rfl, ⟨_, HX.out.del hm HK.out HO.out S⟩, BL.out.trans (S.kept.below _ hb0 (by omega))⟩
theorem implLoseMail_is {own : Bool} {lo hi : Nat} (N M Sl : Hd) (xs : List Nod) (ms : List Mal) (es : List En) (v : Int) (w : World) (x : ClAt w own lo hi N M Sl xs ms es) (hs : ClSz N M Sl xs ms 1048576) (rs : List Rep) (ns : List Ml) (hrs : xs.map (·.1) = rs) (hns : ms.map (·.1) = ns) (cd : Int) (R' : List Rep) (M' : List Ml) (E' : List En) (hc : loC rs ns es v = cd) (hR : loN rs ns es v = R') (hM : loM rs ns es v = M') (hE : loE rs ns es v = E') :
  Calls Tryz.prog 16 #[.agg #[.slice N.1 N.2.1 N.2.2, .slice M.1 M.2.1 M.2.2, .slice Sl.1 Sl.2.1 Sl.2.2], .int .i64 v] w fun e w' => ClRes true w w' e cd R' M' E' := by
 have hlen : ns.length = M.2.1 := by rw [← hns];simpa using x.mails.len
 have HRS : Hid _ := hrs
 have HNS : Hid _ := hns
 have HLEN : Hid _ := hlen
 have HCD : Hid _ := hc
 have HR : Hid _ := hR
 have HM : Hid _ := hM
 have HE : Hid _ := hE
 have HD : Hid (nplC (cluF rs ns es) M.2.1 v = cd) := by show _ = _;rw [← hc, ← hlen];rfl
 have HS : Hid _ := hs
 clear hc hR hM hE hs hrs hns hlen
 go_enter Tryz.func16, Tryz.ntmps16
 go_wp2_with (first | ((have g := ob0);clear g;(with_reducible refine al 38 [.int .i64 0, .slice none 0 0, .slice none 0 0, .slice none 0 0] ?_);intro b1 W1 N1;have ob1 := N1.o B;have o0_b1 := N1.u X0;replace X0 := N1.r X0;replace c0 := X0.cell;replace f0 := X0.froz;replace B := N1.n B;obtain ⟨X1, c1, f1⟩ := N1.a;clear N1) | ((with_reducible refine box_newX 36 [.slice N.1 N.2.1 N.2.2, .slice M.1 M.2.1 M.2.2, .slice Sl.1 Sl.2.1 Sl.2.2] rfl ?_);intro b0 W0 N0;have ob0 := N0.ge;have B := N0.below;obtain ⟨X0, c0, f0⟩ := N0.a;clear N0) | fail)
 refine (mailPl_is N M Sl xs ms es v _ (x.below B) HS.out _ rfl cd (by rw [HRS.out, HNS.out];exact HD.out)).mono ?_
 rintro e w1 ⟨rfl, BB⟩;replace X0 := X0.below BB;replace c0 := X0.cell;replace f0 := X0.froz;replace X1 := X1.below BB;replace c1 := X1.cell;replace f1 := X1.froz;replace B := below_next B BB;clear BB
 by_cases q2 : cd = 0
 rotate_left 1
 ·have q2' : (cd != 0) = true := by simp [q2]
  go_wp2_with (first | ((with_reducible refine sm 38 X1 0 [.int .i64 cd, .slice none 0 0, .slice none 0 0, .slice none 0 0] ?_);intro V1 S;replace X0 := X0.kp S.kept;replace c0 := X0.cell;replace f0 := X0.froz;replace X1 : Bx V1 b1 [.int .i64 cd, .slice none 0 0, .slice none 0 0, .slice none 0 0] := S.bx;replace c1 := X1.cell;replace f1 := X1.froz;replace B := bkp B S.kept;clear S))
  refine bodyPost_ret (v := .agg #[.int .i64 cd, .slice none 0 0, .slice none 0 0, .slice none 0 0]) (by simp [results, Tryz.results16, go_sem, *]) rfl ?_
  obtain ⟨e1, e2, e3⟩ := lo_bad HCD.out q2
  rw [← HR.out, ← HM.out, ← HE.out, e1, e2, e3];exact ClRes.nix cd B
 subst q2
 obtain ⟨hF, hv0, hv1⟩ := npl_ok HD.out
 have HF : Hid _ := hF
 obtain ⟨i, hiv⟩ : ∃ i : Nat, v = (i : Int) := ⟨v.toNat, by omega⟩
 subst hiv
 have hin : i < M.2.1 := by omega
 clear hF hv0 hv1;go_wp2_with fail;refine (liveOf_is N M Sl xs ms es _ (x.below B) HS.out).mono ?_;rintro e w2 ⟨b, N', M2, S', xa, ya, rfl, L, e1, e2, BB⟩;obtain ⟨base, hbase⟩ : ∃ z, z = w1.heap.size := ⟨_, rfl⟩;rw [← hbase] at L
 have lb1 : b1 < base := by rw [hbase];exact X1.lt
 have lwb : w.heap.size ≤ base := by rw [hbase];exact B.size
 have hb2 : base ≤ w2.heap.size := by rw [hbase];exact BB.size
 clear hbase;replace X0 := X0.below BB;replace c0 := X0.cell;replace f0 := X0.froz;replace X1 := X1.below BB;replace c1 := X1.cell;replace f1 := X1.froz;replace B := below_next B BB;clear BB
 have HL : Hid _ := L
 have HE1 : Hid _ := e1
 have HE2 : Hid _ := e2
 clear L e1 e2
 have hlm0 : M2.2.1 = M.2.1 := by
  have a1 := HL.out.mails.gr.len;have a2 := LAt.len x.mails
  have := congrArg List.length HE2.out
  simp only [List.length_map] at this;omega
 have hlm : M2.2.1 ≤ 120 := by
  have h4 := (clu_parts HF.out).2.1;rw [HLEN.out] at h4;omega
 have him : i < M2.2.1 := by omega
 go_wp2_with fail;refine (loseMail_is N' M2 S' xa ya es i _ HL.out him hlm hb2).mono ?_;rintro e w3 ⟨rfl, ⟨M3, L3⟩, BL⟩
 have X1' := X1.low BL lb1
 have B' := B.trans (BL.mono lwb)
 clear X0 c0 f0 X1 c1 f1 B;have X1 := X1';have c1 := X1.cell;have f1 := X1.froz;have B := B';clear X1' B'
 have HL3 : Hid _ := L3
 clear L3;go_wp2_with fail;refine (clAnswer_is N' M3 S' _ HL3.out.bx).mono ?_;rintro e w4 ⟨rfl, BB⟩
 have HL4 : Hid _ := HL3.out.below BB
 replace X1 := X1.below BB;replace c1 := X1.cell;replace f1 := X1.froz;replace B := below_next B BB;clear BB
 go_wp2_with (first | ((with_reducible refine sm 38 X1 0 [.int .i64 0, .slice N'.1 N'.2.1 N'.2.2, .slice M3.1 M3.2.1 M3.2.2, .slice S'.1 S'.2.1 S'.2.2] ?_);intro V1 S;replace X1 : Bx V1 b1 [.int .i64 0, .slice N'.1 N'.2.1 N'.2.2, .slice M3.1 M3.2.1 M3.2.2, .slice S'.1 S'.2.1 S'.2.2] := S.bx;replace c1 := X1.cell;replace f1 := X1.froz;replace B := bkp B S.kept;have hk2 := S.kept;clear S))
 refine bodyPost_ret (v := .agg #[.int .i64 0, .slice N'.1 N'.2.1 N'.2.2, .slice M3.1 M3.2.1 M3.2.2, .slice S'.1 S'.2.1 S'.2.2]) (by simp [results, Tryz.results16, go_sem, *]) rfl ?_
 obtain ⟨e1, e2, e3⟩ := lo_ok HCD.out
 rw [← HR.out, ← HM.out, ← HE.out, e1, e2, e3, Int.toNat_natCast]
 refine ⟨N', M3, S', xa, ya.eraseIdx i, rfl, ((HL4.out.clu.kept hk2 (Or.inr (by omega))).widen lwb hk2.size), HL4.out.sz, ?_, ?_, B⟩
 ·rw [HE1.out, HRS.out]
 ·rw [map_erase, HE2.out, HNS.out]
end Go.Proofs.YtclghfoinologaaGreat
