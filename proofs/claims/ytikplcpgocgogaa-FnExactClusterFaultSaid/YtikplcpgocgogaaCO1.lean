/- Chapter 11: lists of nodes and of mails counted, copied and compared by the laws. -/
import Derived.Test.YtikplcpgocgogaaCL
import Derived.Test.YtikplcpgocgogaaWB
import Derived.Test.YtikplcpgocgogaaWH
namespace Go.Proofs.Ytikplcpgocgogaa
open Go.RowKit

/-- some cells of a block have been written -/
structure PutE (w W : World) (b o : Nat) (us : List Value) : Prop where
  eq : W = w.setCells b o us
/-- a struct of a row is written: the law at '.store' -/
theorem store_elP {P : Program} {ops : Array Oper} {rest : List Oper} {dst : Option Tmp} {type : TypeId} {pos : String} {after : Array Edge} {a : Act} {w : World} {Q : Exit → Act → World → Prop} (ty : TypeId) {x y : Operand} {b o m : Nat} (T : w.there b o m) (us : List Value) (hl : us.length = m) (hi : (P.info? ty).map (·.size) = some m) (h1 : ∀ v ∈ us, v.oneCell' = true) (hx : a.eval x = .pointer (some ⟨b, o, none⟩)) (hy : a.eval y = .agg us.toArray)
    (h : ∀ W : World, PutE w W b o us → wpList P ops Q rest (a.put dst undef) W) : wpList P ops Q (⟨dst, .store ty x y, type, pos, after, none⟩ :: rest) a w := by
  refine wpList_plain rfl fun K hK => ?_
  subst hl
  refine wp_store_mid ty x y rfl b o us.toArray hx hy (by rw [List.size_toArray]; exact T) (by rw [List.size_toArray]; exact hi) (all_oneCell_toArray h1) (hK _ _ (h _ ⟨?_⟩))
  simp
theorem made_list {α : Type} {k : Kd α} (K : KdOk k) (n : Nat) (a : α) (cs : Array Value) (hc : k.cells a = cs.toList) : (madeCells cs (n * k.sz)).toList = (List.replicate n a).flatMap k.cells := by
  have hs : cs.size = k.sz := by rw [← Array.length_toList, ← hc, K.len]
  have h0 := K.pos
  apply List.ext_getElem (by simp [madeCells, flatMap_len K])
  intro j h1 h2
  have hj : j < n * k.sz := by simpa [madeCells] using h1
  have hd : j / k.sz < n := Nat.div_lt_of_lt_mul (by rwa [Nat.mul_comm])
  have hm := Nat.mod_lt j h0
  have t := flatMap_at K (List.replicate n a) (j / k.sz) a (by simp [hd]) (j % k.sz) hm
  rw [show j / k.sz * k.sz + j % k.sz = j by rw [Nat.mul_comm]; exact Nat.div_add_mod j k.sz, List.getElem?_eq_getElem h2, hc] at t
  have hm2 : j % k.sz < cs.toList.length := by simpa [hs] using hm
  rw [List.getElem?_eq_getElem hm2, Option.some.injEq] at t
  rw [t]
  simp [madeCells, hs]
  exact getElem!_pos cs _ (by omega)
theorem map_fst_eq {β γ : Type} {d : β × γ} {xs ys : List (β × γ)} {n : Nat} (hx : xs.length = n) (hy : ys.length = n) (h : ∀ i : Nat, i < n → (ys.getD i d).1 = (xs.getD i d).1) : ys.map (·.1) = xs.map (·.1) := by
  apply List.ext_getElem (by simp [hx, hy])
  intro i h1 h2
  have a1 : i < ys.length := by simpa using h1
  have a2 : i < xs.length := by simpa using h2
  have := h i (by omega)
  simpa [List.getD, a1, a2] using this
theorem getD_set_fst {β : Type} {d : β} {ys : List β} {i j : Nat} (hi : i < ys.length) (a : β) : (ys.set i a).getD j d = if j = i then a else ys.getD j d := by
  by_cases e : j = i
  · subst e; simp [List.getD, hi]
  · rw [if_neg e]; simp [List.getD, List.getElem?_set_ne (Ne.symm e)]
theorem getD_of_get {β : Type} {d a : β} {ys : List β} {i : Nat} (h : ys[i]? = some a) : ys.getD i d = a := by simp [List.getD, h]
/-- a list of new elements that name nothing -/
theorem LAt.made {α : Type} {k : Kd α} {w : World} {base : Nat} {e : TypeId} {g n : Nat} {a : α} (h : w.ownsRow base e k.sz (.slice (some ⟨g, 0, none⟩) n n) n ((List.replicate n a).flatMap k.cells)) (hm : k.mem w true base w.heap.size a) (hi : ∀ q, ¬ k.inn a q) : LAt k w true base w.heap.size (some ⟨g, 0, none⟩) n n (List.replicate n a) := by
  have get : ∀ (i : Nat) (c : α), (List.replicate n a)[i]? = some c → c = a := fun i c e => by
    have := List.mem_of_getElem? e
    exact (List.mem_replicate.1 this).2
  exact ⟨by simp, RowAt.of_owns h (Nat.le_refl _), fun i c e => by rw [get i c e]; exact hm, fun _ i c e q hq => by rw [get i c e] at hq; exact absurd hq (hi q), fun _ i j c d e1 _ _ q hq => by rw [get i c e1] at hq; exact absurd hq (hi q)⟩
set_option maxRecDepth 20000 in
set_option maxHeartbeats 2000000 in
theorem szReplica_lt {own : Bool} {lo hi : Nat} (r : Rep) (h : RH) (lt : Int) (w : World) (x : RepAt w own lo hi h r) (hs : RSz h maxLen) (hl0 : 0 ≤ lt) (hl1 : lt ≤ 1048576) :
    Calls Try.prog 22 #[.agg #[.int .i64 r.id, .int .i64 r.size, .int .i64 r.view, .bool r.normal, .int .i64 r.last, .slice h.L.1 h.L.2.1 h.L.2.2, .int .i64 r.commit, .slice h.O.1 h.O.2.1 h.O.2.2, .slice h.A.1 h.A.2.1 h.A.2.2, .slice h.D.1 h.D.2.1 h.D.2.2], .int .i64 lt] w fun e w' => ∃ q : Int, e = .returned (.int .i64 q) ∧ Below w.heap.size w w' ∧ (q < 0 ∨ (0 ≤ q ∧ q ≤ 1048576 ∧ RSz h 1048576)) := by
  go_enter Try.func22, Try.ntmps22
  go_wp2_with (first | ((with_reducible refine box_newX 56 [.int .i64 r.id, .int .i64 r.size, .int .i64 r.view, .bool r.normal, .int .i64 r.last, .slice h.L.1 h.L.2.1 h.L.2.2, .int .i64 r.commit, .slice h.O.1 h.O.2.1 h.O.2.2, .slice h.A.1 h.A.2.1 h.A.2.2, .slice h.D.1 h.D.2.1 h.D.2.2] rfl ?_); intro b0 W0 N0; have ob0 : w.heap.size ≤ b0 := N0.ge; have B := N0.below; have X0 := N0.bx; have c0 := X0.cell; clear N0) | fail)
  have HS : Hid (∀ i, i < h.D.2.1 → (h.K i).2.1 ≤ maxLen) := hs.K
  refine (szEntries_left h.L.1 h.L.2.1 h.L.2.2 (lt) _ hs.L (by omega) (by omega)).mono ?_
  rintro e W9 ⟨rfl, rfl⟩
  by_cases yL : (lt : Int) < h.L.2.1
  · rw [if_pos yL]
    go_wp2
    go_ret
    exact ⟨-1, rfl, B, Or.inl (by omega)⟩
  rw [if_neg yL]
  have zL : ¬ ((lt : Int) - h.L.2.1 < 0) := by omega
  go_wp2_with fail
  refine (szInts_any h.O.1 h.O.2.1 h.O.2.2 (lt - h.L.2.1) _ hs.O (by omega) (by omega)).mono ?_
  rintro e W9 ⟨rfl, rfl⟩
  by_cases yO : (lt - h.L.2.1 : Int) < h.O.2.1
  · rw [if_pos yO]
    go_wp2
    go_ret
    exact ⟨-1, rfl, B, Or.inl (by omega)⟩
  rw [if_neg yO]
  have zO : ¬ ((lt - h.L.2.1 : Int) - h.O.2.1 < 0) := by omega
  go_wp2_with fail
  refine (szBools_any h.A.1 h.A.2.1 h.A.2.2 (lt - h.L.2.1 - h.O.2.1) _ hs.A (by omega) (by omega)).mono ?_
  rintro e W9 ⟨rfl, rfl⟩
  by_cases yA : (lt - h.L.2.1 - h.O.2.1 : Int) < h.A.2.1
  · rw [if_pos yA]
    go_wp2
    go_ret
    exact ⟨-1, rfl, B, Or.inl (by omega)⟩
  rw [if_neg yA]
  have zA : ¬ ((lt - h.L.2.1 - h.O.2.1 : Int) - h.A.2.1 < 0) := by omega
  go_wp2_with fail
  refine (szDoers_left h.D.1 h.D.2.1 h.D.2.2 h.K r.doers (lt - h.L.2.1 - h.O.2.1 - h.A.2.1) _ (x.doers.below B) hs.D HS.out (by omega) (by omega)).mono ?_
  rintro e w1 ⟨q, rfl, BB, hq⟩
  replace X0 := X0.below BB
  replace c0 := X0.cell
  replace B := below_next B BB
  clear BB
  rcases hq with hq | ⟨h0, h1, h2, h3⟩
  · go_wp2
    go_ret
    exact ⟨-1, rfl, B, Or.inl (by omega)⟩
  have HT : Hid (RSz h 1048576) := ⟨by omega, by omega, by omega, h2, h3⟩
  have h4 : ¬ q < 0 := by omega
  clear h3
  go_wp2
  go_ret
  exact ⟨q, rfl, B, Or.inr ⟨h0, h1, HT.out⟩⟩
theorem szMail_lt {own : Bool} {lo hi : Nat} (m : Ml) (h : Hd) (lt : Int) (w : World) (_ : RowAt w own lo hi 6 h.1 h.2.1 h.2.2 (sixs m.log)) (hs : h.2.1 ≤ maxLen) (h0 : 0 ≤ lt) (h1 : lt ≤ 1048576) :
    Calls Try.prog 23 #[.agg #[.int .i64 m.kind, .int .i64 m.fr, .int .i64 m.to, .int .i64 m.view, .int .i64 m.at_, .bool m.has, .int .i64 m.en.1, .int .i64 m.en.2.1, .int .i64 m.en.2.2.1, .int .i64 m.en.2.2.2.1, .int .i64 m.en.2.2.2.2.1, .int .i64 m.en.2.2.2.2.2, .int .i64 m.last, .slice h.1 h.2.1 h.2.2, .int .i64 m.commit], .int .i64 lt] w fun e w' => ∃ q : Int, e = .returned (.int .i64 q) ∧ Below w.heap.size w w' ∧ (q < 0 ∨ (0 ≤ q ∧ q ≤ 1048576 ∧ h.2.1 ≤ 1048576)) := by
  refine (szMail_left m h lt w hs h0 h1).mono ?_
  rintro e w1 ⟨rfl, b⟩
  by_cases c : lt < h.2.1
  · exact ⟨_, rfl, b, Or.inl (by rw [if_pos c]; omega)⟩
  · exact ⟨_, rfl, b, Or.inr (by rw [if_neg c]; omega)⟩
set_option maxRecDepth 20000 in
set_option maxHeartbeats 2000000 in
theorem szReplicas_lt {own : Bool} {lo hi : Nat} (ao : Option Addr) (n cap : Nat) (xs : List Nod) (lt : Int) (w : World) (x : LAt nodeK w own lo hi ao n cap xs) (hn : n ≤ maxLen) (hs : (∀ (i : Nat) (a : Nod), xs[i]? = some a → RSz a.2 maxLen)) (h0 : 0 ≤ lt) (h1 : lt ≤ 1048576) :
    Calls Try.prog 94 #[.slice ao n cap, .int .i64 lt] w fun e w' => ∃ q : Int, e = .returned (.int .i64 q) ∧ Below w.heap.size w w' ∧ (q < 0 ∨ (0 ≤ q ∧ q ≤ 1048576 ∧ n ≤ 1048576 ∧ (∀ (i : Nat) (a : Nod), xs[i]? = some a → RSz a.2 1048576))) := by
  have HS : Hid _ := hs
  clear hs
  by_cases hbig : lt < n
  · have hbi : lt - (n : Int) < 0 := by omega
    unfold maxLen at hn
    go_enter Try.func94, Try.ntmps94
    go_wp2
    go_ret
    exact ⟨-1, rfl, Below.refl _ _, Or.inl (by omega)⟩
  have hbi : ¬ lt - (n : Int) < 0 := by omega
  unfold maxLen at hn
  go_enter Try.func94, Try.ntmps94
  go_wp2
  go_loopw [1, 5] (fun l i wr => ∃ k : Nat, k ≤ n ∧ i = .int .i64 k ∧ (∃ q : Int, l = .int .i64 q ∧ 0 ≤ q ∧ q ≤ 1048576) ∧ Hid (∀ (i : Nat) (a : Nod), i < k → xs[i]? = some a → RSz a.2 1048576) ∧ Below w.heap.size w wr) (fun _ i _ => n - (intOf i).toNat)
  case atStart => exact ⟨0, Nat.zero_le _, rfl, ⟨_, rfl, by omega, by omega⟩, fun i a hi => absurd hi (Nat.not_lt_zero _), Below.refl _ _⟩
  case round =>
    obtain ⟨k, hk, rfl, ⟨q, rfl, hr0, hr1⟩, HK, hb⟩ := hrel
    by_cases hlt : k < n
    · have hlk : (k : Int) < (n : Int) := by omega
      obtain ⟨r, h, b, off, ex, rfl, _, _, X0, y, _⟩ := (x.below nodeOk hb).node hlt
      have c0 := X0.cell
      have hmk := HS.out k _ ex
      have HQ : Hid (RSz h 1048576 → ∀ (i : Nat) (a : Nod), i < k + 1 → xs[i]? = some a → RSz a.2 1048576) := fun hm i a hi e => by
        rcases Nat.lt_succ_iff_lt_or_eq.1 hi with c | c
        · exact HK.out i a c e
        · subst c
          rw [ex] at e
          have e2 := Option.some.inj e
          rw [← e2]; exact hm
      clear HK ex
      simp only at hmk
      go_wp2_with fail
      refine (szReplica_lt r h q _ y hmk hr0 hr1).mono ?_
      rintro e W ⟨p, rfl, hb1, hp⟩
      replace hb := below_step hb hb.size hb1
      clear hb1 X0 c0 y
      rcases hp with hp | ⟨p0, p1, p2⟩
      · go_wp2
        go_ret
        exact ⟨-1, rfl, hb, Or.inl (by omega)⟩
      have hb2 : ¬ p < 0 := by omega
      have HQ' := HQ.out p2
      have HT : Hid _ := HQ'
      clear HQ HQ' p2
      go_wp2
      go_roundw
      case rel => exact ⟨k + 1, by omega, by go_num, ⟨_, rfl, by omega, by omega⟩, HT, by assumption⟩
      case measure => simp [intOf]; omega
    · obtain rfl : k = n := by omega
      go_wp2
      go_ret
      exact ⟨q, rfl, hb, Or.inr ⟨hr0, hr1, by omega, fun i a e => HK.out i a (by rw [← x.len]; exact (List.getElem?_eq_some_iff.1 e).1) e⟩⟩
set_option maxRecDepth 20000 in
set_option maxHeartbeats 2000000 in
theorem szMails_lt {own : Bool} {lo hi : Nat} (ao : Option Addr) (n cap : Nat) (xs : List Mal) (lt : Int) (w : World) (x : LAt mailK w own lo hi ao n cap xs) (hn : n ≤ maxLen) (hs : (∀ (i : Nat) (a : Mal), xs[i]? = some a → a.2.2.1 ≤ maxLen)) (h0 : 0 ≤ lt) (h1 : lt ≤ 1048576) :
    Calls Try.prog 95 #[.slice ao n cap, .int .i64 lt] w fun e w' => ∃ q : Int, e = .returned (.int .i64 q) ∧ Below w.heap.size w w' ∧ (q < 0 ∨ (0 ≤ q ∧ q ≤ 1048576 ∧ n ≤ 1048576 ∧ (∀ (i : Nat) (a : Mal), xs[i]? = some a → a.2.2.1 ≤ 1048576))) := by
  have HS : Hid _ := hs
  clear hs
  by_cases hbig : lt < n
  · have hbi : lt - (n : Int) < 0 := by omega
    unfold maxLen at hn
    go_enter Try.func95, Try.ntmps95
    go_wp2
    go_ret
    exact ⟨-1, rfl, Below.refl _ _, Or.inl (by omega)⟩
  have hbi : ¬ lt - (n : Int) < 0 := by omega
  unfold maxLen at hn
  go_enter Try.func95, Try.ntmps95
  go_wp2
  go_loopw [1, 5] (fun l i wr => ∃ k : Nat, k ≤ n ∧ i = .int .i64 k ∧ (∃ q : Int, l = .int .i64 q ∧ 0 ≤ q ∧ q ≤ 1048576) ∧ Hid (∀ (i : Nat) (a : Mal), i < k → xs[i]? = some a → a.2.2.1 ≤ 1048576) ∧ Below w.heap.size w wr) (fun _ i _ => n - (intOf i).toNat)
  case atStart => exact ⟨0, Nat.zero_le _, rfl, ⟨_, rfl, by omega, by omega⟩, fun i a hi => absurd hi (Nat.not_lt_zero _), Below.refl _ _⟩
  case round =>
    obtain ⟨k, hk, rfl, ⟨q, rfl, hr0, hr1⟩, HK, hb⟩ := hrel
    by_cases hlt : k < n
    · have hlk : (k : Int) < (n : Int) := by omega
      obtain ⟨m, h, b, off, ex, rfl, _, _, X0, y, _⟩ := (x.below mailOk hb).mail hlt
      have c0 := X0.cell
      have hmk := HS.out k _ ex
      have HQ : Hid (h.2.1 ≤ 1048576 → ∀ (i : Nat) (a : Mal), i < k + 1 → xs[i]? = some a → a.2.2.1 ≤ 1048576) := fun hm i a hi e => by
        rcases Nat.lt_succ_iff_lt_or_eq.1 hi with c | c
        · exact HK.out i a c e
        · subst c
          rw [ex] at e
          have e2 := Option.some.inj e
          rw [← e2]; exact hm
      clear HK ex
      simp only at hmk
      go_wp2_with fail
      refine (szMail_lt m h q _ y hmk hr0 hr1).mono ?_
      rintro e W ⟨p, rfl, hb1, hp⟩
      replace hb := below_step hb hb.size hb1
      clear hb1 X0 c0 y
      rcases hp with hp | ⟨p0, p1, p2⟩
      · go_wp2
        go_ret
        exact ⟨-1, rfl, hb, Or.inl (by omega)⟩
      have hb2 : ¬ p < 0 := by omega
      have HQ' := HQ.out p2
      have HT : Hid _ := HQ'
      clear HQ HQ' p2
      go_wp2
      go_roundw
      case rel => exact ⟨k + 1, by omega, by go_num, ⟨_, rfl, by omega, by omega⟩, HT, by assumption⟩
      case measure => simp [intOf]; omega
    · obtain rfl : k = n := by omega
      go_wp2
      go_ret
      exact ⟨q, rfl, hb, Or.inr ⟨hr0, hr1, by omega, fun i a e => HK.out i a (by rw [← x.len]; exact (List.getElem?_eq_some_iff.1 e).1) e⟩⟩

end Go.Proofs.Ytikplcpgocgogaa
