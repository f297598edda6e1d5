/- Chapter 2: what the program's scan of its array answers. -/
import Derived.Test.YtkpbmffklcgecaaKJ
namespace Go.Proofs.Ytkpbmffklcgecaa
open Go.RowKit

theorem RecsBut.kept {w w' : World} {lo : Nat} {b : Option Nat} {vs : List Value} {rs : List (List Int)} (h : RecsBut w lo b vs rs) {x y : Nat} (hk : Kept x y w w') (hd : y ≤ lo) : RecsBut w' lo b vs rs := by
  refine ⟨h.len, fun i hi => ?_⟩
  obtain ⟨g, n, c, h1, h2, h3, h4, h5⟩ := h.each i hi
  exact ⟨g, n, c, h1, h2, h3, Nat.lt_of_lt_of_le h4 hk.size, h5.kept hk (by omega)⟩

def blkOf : Value → Nat
  | .slice (some a) _ _ => a.block
  | _ => 0
/-- each slice lies in a later block than those ahead of it -/
def Inc (vs : List Value) : Prop := ∀ i j, i < j → j < vs.length → blkOf (vs.getD i default) < blkOf (vs.getD j default)
theorem Inc.nil : Inc [] := fun _ _ _ h => absurd h (by simp)
theorem Inc.snoc {vs : List Value} (h : Inc vs) {w : World} {lo : Nat} {b : Option Nat} {rs : List (List Int)} (hr : RecsBut w lo b vs rs) {g : Nat} (hg : w.heap.size ≤ g) (n c : Nat) : Inc (vs ++ [.slice (some ⟨g, 0, none⟩) n c]) := by
  intro i j hij hj
  simp at hj
  have hi : i < vs.length := by omega
  rw [show (vs ++ [Value.slice (some ⟨g, 0, none⟩) n c]).getD i default = vs.getD i default by simp [List.getD, List.getElem?_append_left, hi]]
  by_cases hlt : j < vs.length
  · rw [show (vs ++ [Value.slice (some ⟨g, 0, none⟩) n c]).getD j default = vs.getD j default by simp [List.getD, List.getElem?_append_left, hlt]]
    exact h i j hij hlt
  · have e : j = vs.length := by omega
    subst e
    rw [show (vs ++ [Value.slice (some ⟨g, 0, none⟩) n c]).getD vs.length default = .slice (some ⟨g, 0, none⟩) n c by simp [List.getD]]
    obtain ⟨g', n', c', h1, _, _, h3, _⟩ := hr.each i (by rw [← hr.len]; exact hi)
    rw [h1]
    show g' < g
    omega

/-- how things stand while the program scans: k words are used, out are the records -/
structure SC (w : World) (A B F : Nat) (zs : List Int) (W : World) (k : Nat) (v : Value) (out : List (List Int)) (vs : List Value) : Prop where
  arr : W.heap[A]? = some (.cells (ints zs).toArray 89 (0, 0))
  res : W.heap[B]? = some (.cells #[.int .i64 0, .int .i64 0, .slice none 0 0] 73 (0, 0))
  fnd : W.heap[F]? = some (.cells #[.int .i64 0, .int .i64 (k : Int), v] 73 (0, 0))
  own : W.ownsRow (F + 1) 24 1 v out.length vs
  recs : RecsBut W (F + 1) v.ownBlock vs out
  inc : Inc vs
  below : Below w.heap.size w W
  a0 : w.heap.size ≤ A
  ab : A < B
  bf : B < F
  top : F < W.heap.size

section
variable {w : World} {A B F : Nat} {zs : List Int} {W : World} {k : Nat} {v : Value} {out : List (List Int)} {vs : List Value}
theorem SC.move (h : SC w A B F zs W k v out vs) {W' : World} (hb : Below W.heap.size W W') : SC w A B F zs W' k v out vs := by
  have a0 := h.a0
  have a1 := h.ab
  have a2 := h.bf
  have a3 := h.top
  refine ⟨?_, ?_, ?_, owns_below h.own hb, h.recs.below hb, h.inc, below_next h.below hb, a0, a1, a2, Nat.lt_of_lt_of_le a3 hb.size⟩
  · rw [hb.block _ (by omega)]; exact h.arr
  · rw [hb.block _ (by omega)]; exact h.res
  · rw [hb.block _ (by omega)]; exact h.fnd
theorem SC.cA (h : SC w A B F zs W k v out vs) {j : Nat} (hj : j < zs.length) : W.cell? ⟨A, j, none⟩ = some (.int .i64 (zs.getD j 0)) := by
  rw [cell_of_row W _ j _ _ _ h.arr]; simp [ints, List.getD, hj]
theorem SC.c0 (h : SC w A B F zs W k v out vs) : W.cell? ⟨F, 0, none⟩ = some (.int .i64 0) := by rw [cell_of_row W _ 0 _ _ _ h.fnd]; rfl
theorem SC.c1 (h : SC w A B F zs W k v out vs) : W.cell? ⟨F, 1, none⟩ = some (.int .i64 (k : Int)) := by rw [cell_of_row W _ 1 _ _ _ h.fnd]; rfl
theorem SC.c2 (h : SC w A B F zs W k v out vs) : W.cell? ⟨F, 2, none⟩ = some v := by rw [cell_of_row W _ 2 _ _ _ h.fnd]; rfl
theorem SC.ff (h : SC w A B F zs W k v out vs) (j : Nat) : W.frozen? ⟨F, j, none⟩ = false := frozen_of_row W _ j _ _ h.fnd
theorem SC.r0 (h : SC w A B F zs W k v out vs) : W.cell? ⟨B, 0, none⟩ = some (.int .i64 0) := by rw [cell_of_row W _ 0 _ _ _ h.res]; rfl
theorem SC.r1 (h : SC w A B F zs W k v out vs) : W.cell? ⟨B, 1, none⟩ = some (.int .i64 0) := by rw [cell_of_row W _ 1 _ _ _ h.res]; rfl
theorem SC.r2 (h : SC w A B F zs W k v out vs) : W.cell? ⟨B, 2, none⟩ = some (.slice none 0 0) := by rw [cell_of_row W _ 2 _ _ _ h.res]; rfl
theorem SC.rf (h : SC w A B F zs W k v out vs) (j : Nat) : W.frozen? ⟨B, j, none⟩ = false := frozen_of_row W _ j _ _ h.res
theorem SC.row (h : SC w A B F zs W k v out vs) (hz : zs.length = 64) : RowAt W true A (A + 1) 1 (some ⟨A, 0, none⟩) 64 64 (ints zs) :=
  RowAt.of_front (rest := #[]) (by simpa using h.arr) (by rw [ints_length]; omega) (Nat.le_refl _)
theorem SC.step (h : SC w A B F zs W k v out vs) {W' : World} (hb : Below (F + 1) W W') {v' : Value} {out' : List (List Int)} {vs' : List Value} (own' : W'.ownsRow (F + 1) 24 1 v' out'.length vs') (rec' : RecsBut W' (F + 1) v'.ownBlock vs' out') (inc' : Inc vs') (k' : Nat) :
    SC w A B F zs ((W'.setCell ⟨F, 2, none⟩ v').setCell ⟨F, 1, none⟩ (.int .i64 (k' : Int))) k' v' out' vs' := by
  have a0 := h.a0
  have a1 := h.ab
  have a2 := h.bf
  have a3 := h.top
  have G1 := heap_setCell_same W' F 2 _ _ v' (by rw [hb.block F (by omega)]; exact h.fnd)
  have G2 := heap_setCell_same _ F 1 _ _ (.int .i64 (k' : Int)) G1
  have hk : Kept F (F + 1) W' ((W'.setCell ⟨F, 2, none⟩ v').setCell ⟨F, 1, none⟩ (.int .i64 (k' : Int))) := Kept.setCell (p := ⟨F, 1, none⟩) (Kept.setCell (p := ⟨F, 2, none⟩) (Kept.refl _ _ _) (Nat.le_refl _) (Nat.lt_succ_self _) _) (Nat.le_refl _) (Nat.lt_succ_self _) _
  have hs := hb.size
  refine ⟨?_, ?_, by simpa using G2, owns_kept own' hk fun g e => Or.inr (own'.lt g e).1, rec'.kept hk (Nat.le_refl _), inc', ?_, a0, a1, a2, Nat.lt_of_lt_of_le a3 (Nat.le_trans hs hk.size)⟩
  · rw [hk.block _ (by omega) (by omega), hb.block _ (by omega)]; exact h.arr
  · rw [hk.block _ (by omega) (by omega), hb.block _ (by omega)]; exact h.res
  · refine h.below.trans ⟨hk.os.trans hb.os, hk.tape.trans hb.tape, hk.output.trans hb.output, Nat.le_trans hs hk.size, fun g hg => ?_⟩
    have := h.below.size
    rw [hk.block g (by omega) (by omega), hb.block g (by omega)]
end

def SF (zs : List Int) (k f : Nat) (out : List (List Int)) : Prop := out.length ≤ k ∧ k ≤ 64 ∧ scanOf zs = scanGo zs f k out ∧ 64 ≤ k + f
def J0' (w : World) (A B F : Nat) (zs : List Int) (n : Nat) (a : Act) (W : World) : Prop := ∃ (k : Nat) (out : List (List Int)) (vs : List Value) (v : Value) (u4 u5 u6 u7 u8 u9 u10 u11 u12 u13 u14 u15 u16 u17 u18 u19 u20 u21 u22 u23 u24 u25 u26 u27 u28 u29 u30 u31 u32 u33 u34 u35 u36 u37 u38 u39 u40 u41 u42 u43 u44 u45 u46 u47 u48 u49 : Value), a = { tmps := #[.agg (ints zs).toArray, .pointer (some ⟨A, 0, none⟩), .pointer (some ⟨B, 0, none⟩), .pointer (some ⟨F, 0, none⟩), u4, u5, u6, u7, u8, u9, u10, u11, u12, u13, u14, u15, u16, u17, u18, u19, u20, u21, u22, u23, u24, u25, u26, u27, u28, u29, u30, u31, u32, u33, u34, u35, u36, u37, u38, u39, u40, u41, u42, u43, u44, u45, u46, u47, u48, u49], defers := [] } ∧ SC w A B F zs W k v out vs ∧ scanOf zs = (out, k) ∧ n = 0
def J1' (w : World) (A B F : Nat) (zs : List Int) (n : Nat) (a : Act) (W : World) : Prop := ∃ (k f : Nat) (out : List (List Int)) (vs : List Value) (v : Value) (u4 u5 u6 u7 u8 u9 u10 u11 u12 u13 u14 u15 u16 u17 u18 u19 u20 u21 u22 u23 u24 u25 u26 u27 u28 u29 u30 u31 u32 u33 u34 u35 u36 u37 u38 u39 u40 u41 u42 u43 u44 u45 u46 u47 u48 u49 : Value), a = { tmps := #[.agg (ints zs).toArray, .pointer (some ⟨A, 0, none⟩), .pointer (some ⟨B, 0, none⟩), .pointer (some ⟨F, 0, none⟩), u4, u5, u6, u7, u8, u9, u10, u11, u12, u13, u14, u15, u16, u17, u18, u19, u20, u21, u22, u23, u24, u25, u26, u27, u28, u29, u30, u31, u32, u33, u34, u35, u36, u37, u38, u39, u40, u41, u42, u43, u44, u45, u46, u47, u48, u49], defers := [] } ∧ SC w A B F zs W k v out vs ∧ SF zs k f out ∧ n = 2 * (64 - k) + 2
def J2' (w : World) (A B F : Nat) (zs : List Int) (n : Nat) (a : Act) (W : World) : Prop := ∃ (k f m : Nat) (out : List (List Int)) (vs : List Value) (v : Value) (u4 u5 u7 u8 u9 u10 u11 u12 u13 u14 u15 u16 u17 u18 u19 u20 u21 u22 u23 u24 u25 u26 u27 u28 u29 u30 u31 u32 u33 u34 u35 u36 u37 u38 u39 u40 u41 u42 u43 u44 u45 u46 u47 u48 u49 : Value), a = { tmps := #[.agg (ints zs).toArray, .pointer (some ⟨A, 0, none⟩), .pointer (some ⟨B, 0, none⟩), .pointer (some ⟨F, 0, none⟩), u4, u5, .int .i64 ((k : Int) + 2 + (m : Int)), u7, u8, u9, u10, u11, u12, u13, u14, u15, u16, u17, u18, u19, u20, u21, u22, u23, u24, u25, u26, u27, u28, u29, u30, u31, u32, u33, u34, u35, u36, u37, u38, u39, u40, u41, u42, u43, u44, u45, u46, u47, u48, u49], defers := [] } ∧ SC w A B F zs W k v out vs ∧ SF zs k f out ∧ (1 ≤ m ∧ m ≤ 8 ∧ k + 2 + m ≤ 64 ∧ zs.getD k 0 = (m : Int)) ∧ n = 2 * (64 - k) + 1
def JS (w : World) (A B F : Nat) (zs : List Int) (l n : Nat) (a : Act) (W : World) : Prop := (l = 0 ∧ J0' w A B F zs n a W) ∨ (l = 1 ∧ J1' w A B F zs n a W) ∨ (l = 2 ∧ J2' w A B F zs n a W)
/-- what a scan of the program's array answers -/
def OwnRes (w w' : World) (e : Ending) (code : Int) (used : Nat) (rs : List (List Int)) : Prop :=
  ∃ a c vs, e = .returned (.agg #[.int .i64 code, .int .i64 (used : Int), .slice a rs.length c]) ∧ w'.ownsRow w.heap.size 24 1 (.slice a rs.length c) rs.length vs ∧ RecsBut w' w.heap.size (Value.slice a rs.length c).ownBlock vs rs ∧ Inc vs ∧ Below w.heap.size w w'
theorem RecsBut.widen {w : World} {lo lo' : Nat} {b : Option Nat} {vs : List Value} {rs : List (List Int)} (h : RecsBut w lo b vs rs) (hl : lo' ≤ lo) : RecsBut w lo' b vs rs := by
  refine ⟨h.len, fun i hi => ?_⟩
  obtain ⟨g, n, c, h1, h2, h3, h4, h5⟩ := h.each i hi
  exact ⟨g, n, c, h1, h2, Nat.le_trans hl h3, h4, h5⟩
theorem owns_widen {w : World} {base base' : Nat} {e : TypeId} {size : Nat} {v : Value} {n : Nat} {xs : List Value} (h : w.ownsRow base e size v n xs) (hl : base' ≤ base) : w.ownsRow base' e size v n xs := by
  refine ⟨h.1, ?_⟩
  rcases h.2 with h2 | ⟨g, cap, cur, h1, hg, r⟩
  · exact Or.inl h2
  · exact Or.inr ⟨g, cap, cur, h1, Nat.le_trans hl hg, r⟩

set_option maxRecDepth 20000 in
set_option maxHeartbeats 2000000 in
theorem scanOf_any (zs : List Int) (hz : zs.length = 64) (w : World) :
    Calls Try.prog 97 #[.agg (ints zs).toArray] w fun e w' => OwnRes w w' e 0 (scanOf zs).2 (scanOf zs).1 := by
  have hl : (ints zs).length = 64 := by rw [ints_length, hz]
  go_enter Try.func97, Try.ntmps97
  go_wp2
  refine wp_scope_many (JS w w.heap.size (w.heap.size + 1) (w.heap.size + 1 + 1) zs) ?_ ?_
  rotate_left 1
  · intro pass
    have D0 : SC w w.heap.size (w.heap.size + 1) (w.heap.size + 1 + 1) zs (((w.alloc (.cells (ints zs).toArray 89)).alloc (.cells #[.int .i64 0, .int .i64 0, .slice none 0 0] 73)).alloc (.cells #[.int .i64 0, .int .i64 0, .slice none 0 0] 73)) 0 (.slice none 0 0) [] [] := by
      refine ⟨?_, ?_, ?_, ⟨rfl, Or.inl ⟨rfl, rfl⟩⟩, ⟨rfl, fun i hi => absurd hi (by simp)⟩, Inc.nil, (((Below.refl _ _).alloc (Nat.le_refl _) _).alloc (by simp) _).alloc (by simp; omega) _, Nat.le_refl _, by omega, by omega, by simp⟩
      · rw [((Below.refl _ _).alloc (Nat.le_refl _) _ : Below _ _ _).block _ (by simp; omega)]; exact heap_alloc2_old _ _ _
      · rw [((Below.refl _ _).alloc (Nat.le_refl _) _ : Below _ _ _).block _ (by simp)]; exact heap_alloc2_new _ _ _
      · simpa using heap_alloc_new ((w.alloc (.cells (ints zs).toArray 89)).alloc (.cells #[.int .i64 0, .int .i64 0, .slice none 0 0] 73)) (.cells #[.int .i64 0, .int .i64 0, .slice none 0 0] 73)
    go_wp2
    go_step3
    rename_i K1 hK1
    refine hK1 _ _ (pass_here (n := 130) (l := 1) (pass 1 130 _ _ ?_) rfl)
    exact Or.inr (Or.inl ⟨rfl, 0, 64, [], [], .slice none 0 0, _, _, _, _, _, _, _, _, _, _, _, _, _, _, _, _, _, _, _, _, _, _, _, _, _, _, _, _, _, _, _, _, _, _, _, _, _, _, _, _, _, _, _, _, _, _, rfl, D0, ⟨by simp, by omega, by rw [scanOf, hz], by omega⟩, rfl⟩)
  generalize w.heap.size + 1 + 1 = F
  generalize w.heap.size + 1 = B
  generalize w.heap.size = A
  rintro l n a' W (⟨rfl, hJ⟩ | ⟨rfl, hJ⟩ | ⟨rfl, hJ⟩)
  · refine ⟨_, rfl, ?_⟩
    obtain ⟨k, out, vs, v, u4, u5, u6, u7, u8, u9, u10, u11, u12, u13, u14, u15, u16, u17, u18, u19, u20, u21, u22, u23, u24, u25, u26, u27, u28, u29, u30, u31, u32, u33, u34, u35, u36, u37, u38, u39, u40, u41, u42, u43, u44, u45, u46, u47, u48, u49, rfl, D, hE, rfl⟩ := hJ
    have c0 := D.c0
    have c1 := D.c1
    have c2 := D.c2
    have r0 := D.r0
    have r1 := D.r1
    have r2 := D.r2
    have rf0 := D.rf 0
    have rf1 := D.rf 1
    have rf2 := D.rf 2
    have HE : Hid _ := hE
    clear hE
    have D' := D
    obtain ⟨sa, sc, rfl, R⟩ := RowAt.of_owned D.own
    have hs0 := D.below.size
    have a0 := D.a0
    have a1 := D.ab
    have a2 := D.bf
    have a3 := D.top
    have R3 := D.own
    have rr := D.recs
    have ri := D.inc
    have Bl := D.below
    clear D
    go_wp2
    rw [jumps_ret]
    go_wp2
    refine bodyPost_ret (v := .agg #[.int .i64 0, .int .i64 (k : Int), .slice sa out.length sc]) (by simp [results, Try.results97, go_sem, r0, r1, r2]) rfl ⟨sa, sc, vs, by rw [HE.out], ?_, ?_, ri, ?_⟩
    · rw [HE.out]
      refine owns_widen (owns_kept R3 (l := B) (u := B + 1) ?_ ?_) (by omega)
      · refine Kept.setCell (Kept.setCell (Kept.setCell (Kept.refl _ _ _) ?_ ?_ _) ?_ ?_ _) ?_ ?_ _ <;> simp
      · intro g hg; have := (R3.lt g hg).1; omega
    · rw [HE.out]
      refine (RecsBut.kept rr (x := B) (y := B + 1) ?_ ?_).widen ?_
      · refine Kept.setCell (Kept.setCell (Kept.setCell (Kept.refl _ _ _) ?_ ?_ _) ?_ ?_ _) ?_ ?_ _ <;> simp
      · omega
      · omega
    · refine Below.setCell (Below.setCell (Below.setCell Bl ?_ _) ?_ _) ?_ _ <;> simp <;> omega
  · refine ⟨_, rfl, ?_⟩
    obtain ⟨k, f, out, vs, v, u4, u5, u6, u7, u8, u9, u10, u11, u12, u13, u14, u15, u16, u17, u18, u19, u20, u21, u22, u23, u24, u25, u26, u27, u28, u29, u30, u31, u32, u33, u34, u35, u36, u37, u38, u39, u40, u41, u42, u43, u44, u45, u46, u47, u48, u49, rfl, D, ⟨hok, hk, hsc, hf⟩, rfl⟩ := hJ
    have HSC : Hid _ := hsc
    clear hsc
    have c1 := D.c1
    by_cases h64 : k = 64
    · subst h64
      have HE : Hid (scanOf zs = (out, 64)) := HSC.out.trans (scanGo_end (by rw [recAt, if_neg (by omega)]) f)
      go_wp2
      go_step3
      exact ⟨0, by omega, Or.inl ⟨rfl, 64, out, vs, v, _, _, _, _, _, _, _, _, _, _, _, _, _, _, _, _, _, _, _, _, _, _, _, _, _, _, _, _, _, _, _, _, _, _, _, _, _, _, _, _, _, _, _, _, _, _, rfl, D, HE.out, rfl⟩⟩
    have h64i : ¬ (k : Int) = 64 := by omega
    have cA := D.cA (j := k) (by omega)
    by_cases hx : 1 ≤ zs.getD k 0 ∧ zs.getD k 0 ≤ 8
    rotate_left 1
    · have HE : Hid (scanOf zs = (out, k)) := HSC.out.trans (scanGo_end (by rw [recAt, if_neg (by omega)]) f)
      have HD : Hid _ := decide_eq_false hx
      clear hx
      generalize zs.getD k 0 = x at *
      go_wp2_with fail
      refine (isRecordLen_is x _ false HD.out).mono ?_
      rintro e w1 ⟨rfl, rfl⟩
      go_wp2
      go_step3
      exact ⟨0, by omega, Or.inl ⟨rfl, k, out, vs, v, _, _, _, _, _, _, _, _, _, _, _, _, _, _, _, _, _, _, _, _, _, _, _, _, _, _, _, _, _, _, _, _, _, _, _, _, _, _, _, _, _, _, _, _, _, _, rfl, D, HE.out, rfl⟩⟩
    obtain ⟨m, hm⟩ : ∃ m : Nat, zs.getD k 0 = m := ⟨(zs.getD k 0).toNat, by omega⟩
    rw [hm] at hx cA
    have HD : Hid _ := decide_eq_true hx
    have hm8 : m ≤ 8 := by omega
    have hm1 : 1 ≤ m := by omega
    clear hx
    by_cases hfar : k + 2 + m ≤ 64
    rotate_left 1
    · have HE : Hid (scanOf zs = (out, k)) := HSC.out.trans (scanGo_end (by rw [recAt, hm, if_neg (by omega)]) f)
      have hfi : ¬ (k : Int) + 2 + m ≤ 64 := by omega
      clear hm
      go_wp2_with fail
      refine (isRecordLen_is m _ true HD.out).mono ?_
      rintro e w1 ⟨rfl, rfl⟩
      go_wp2
      go_step3
      exact ⟨0, by omega, Or.inl ⟨rfl, k, out, vs, v, _, _, _, _, _, _, _, _, _, _, _, _, _, _, _, _, _, _, _, _, _, _, _, _, _, _, _, _, _, _, _, _, _, _, _, _, _, _, _, _, _, _, _, _, _, _, rfl, D, HE.out, rfl⟩⟩
    have hfi : (k : Int) + 2 + m ≤ 64 := by omega
    have HM : Hid _ := hm
    clear hm
    go_wp2_with fail
    refine (isRecordLen_is m _ true HD.out).mono ?_
    rintro e w1 ⟨rfl, rfl⟩
    go_wp2
    go_step3
    exact ⟨2 * (64 - k) + 1, by omega, Or.inr (Or.inr ⟨rfl, k, f, m, out, vs, v, _, _, _, _, _, _, _, _, _, _, _, _, _, _, _, _, _, _, _, _, _, _, _, _, _, _, _, _, _, _, _, _, _, _, _, _, _, _, _, _, _, _, _, _, _, rfl, D, ⟨hok, hk, HSC.out, hf⟩, ⟨hm1, hm8, hfar, HM.out⟩, rfl⟩)⟩
  · refine ⟨_, rfl, ?_⟩
    obtain ⟨k, f, m, out, vs, v, u4, u5, u7, u8, u9, u10, u11, u12, u13, u14, u15, u16, u17, u18, u19, u20, u21, u22, u23, u24, u25, u26, u27, u28, u29, u30, u31, u32, u33, u34, u35, u36, u37, u38, u39, u40, u41, u42, u43, u44, u45, u46, u47, u48, u49, rfl, D, ⟨hok, hk, hsc, hf⟩, ⟨hm1, hm8, hfar, hm⟩, rfl⟩ := hJ
    have HSC : Hid _ := hsc
    have HM : Hid _ := hm
    clear hsc hm
    have c1 := D.c1
    have c2 := D.c2
    have cA := D.cA (j := k + 1) (by omega)
    obtain ⟨sa, sc, rfl, R⟩ := RowAt.of_owned D.own
    clear R
    have q1 : (0 : Int) ≤ (k : Int) + 2 := by omega
    have q2 : (k : Int) + 2 ≤ k + 2 + m := by omega
    have q3 : (k : Int) + 2 + m ≤ 64 := by omega
    have hmm : k + 2 + m - (k + 2) = m := by omega
    have R2 : RowAt W true A (A + 1) 1 (some ⟨A, k + 2, none⟩) m (62 - k) (ints ((zs.drop (k + 2)).take m)) := by
      have := (D.row hz).sub (i := k + 2) (m := m) (c := 62 - k) (by omega) (by omega)
      simpa using this
    have hre : ((zs.drop (k + 2)).take m).length = m := by simp; omega
    have HRA : Hid (recAt zs k out.length = if zs.getD (k + 1) 0 = sumOf ((out.length : Int) :: (zs.drop (k + 2)).take m) then some ((zs.drop (k + 2)).take m) else none) := by
      show recAt zs k out.length = _
      rw [recAt, HM.out, Int.toNat_natCast]
      by_cases he : zs.getD (k + 1) 0 = sumOf ((out.length : Int) :: (zs.drop (k + 2)).take m)
      · rw [if_pos ⟨by omega, by omega, by omega, by omega, he⟩, if_pos he]
      · rw [if_neg (fun hc => he hc.2.2.2.2), if_neg he]
    generalize (zs.drop (k + 2)).take m = rec at *
    generalize zs.getD (k + 1) 0 = y at *
    obtain ⟨S, hS⟩ : ∃ S, sumOf ((out.length : Int) :: rec) = S := ⟨_, rfl⟩
    rw [hS] at HRA
    have HS : Hid _ := hS
    clear hS
    go_wp2_with fail
    refine (clone_any _ m (62 - k) rec _ R2 (by omega) (by omega)).mono ?_
    rintro e w1 ⟨g1, cp1, rfl, hg1, hg1', RR, hb1⟩
    have hown0 := D.own
    have htop0 := D.top
    have hinc := D.inc.snoc D.recs hg1 m cp1
    replace D := D.move hb1
    replace c1 := cell_later hb1 c1
    replace c2 := cell_later hb1 c2
    replace cA := cell_later hb1 cA
    clear hb1 R2
    have DB : Below w1.heap.size w1 w1.drew := (Below.refl _ _).drew
    replace D := D.move DB
    replace c1 := cell_later DB c1
    replace c2 := cell_later DB c2
    replace cA := cell_later DB cA
    replace RR := RR.below DB
    replace hg1' := Nat.lt_of_lt_of_le hg1' DB.size
    clear DB
    have q4 : (k : Int) + 1 < 64 := by omega
    have q5 : (0 : Int) ≤ (k : Int) + 1 := by omega
    have q6 : (k : Int) < 63 := by omega
    have q7 : k + 1 < 64 := by omega
    have q8 : ((k : Int) + 1).toNat = k + 1 := by omega
    have hm1000 : m ≤ 1000 := by omega
    have hkl : out.length + 1 ≤ 64 := by omega
    have hk65 : k + 2 + rec.length ≤ 64 := by omega
    have q9 : IntKind.i64.wrap ((k : Int) + 1) = (k : Int) + 1 := wrapI_same _ (by omega)
    go_wp2_with fail
    go_region_held3 (fun w' => w'.cell? ⟨F, 1, none⟩ = some (.int .i64 (k : Int)) ∧ w'.cell? ⟨F, 2, none⟩ = some (.slice sa out.length sc) ∧ w'.cell? ⟨A, k + 1, none⟩ = some (.int .i64 y)) (exact ⟨c1, c2, cA⟩) (first | (go_at_call 116; refine (recordSum_is (out.length : Int) _ m cp1 rec _ RR hm1000 S HS.out).mono ?_; rintro e w3 ⟨rfl, hb3⟩; replace RR := RR.below hb3; replace D := D.move hb3; replace c1 := cell_later hb3 c1; replace c2 := cell_later hb3 c2; replace cA := cell_later hb3 cA; replace hg1' := Nat.lt_of_lt_of_le hg1' hb3.size; clear hb3))
    clear q9
    by_cases hyS : y = S
    rotate_left 1
    · have HE : Hid (scanOf zs = (out, k)) := HSC.out.trans (scanGo_end (by rw [HRA.out, if_neg hyS]) f)
      have hd : (y != S) = true := by simp [hyS]
      clear HSC HRA
      go_wp2
      go_step3
      exact ⟨0, by omega, Or.inl ⟨rfl, k, out, vs, _, _, _, _, _, _, _, _, _, _, _, _, _, _, _, _, _, _, _, _, _, _, _, _, _, _, _, _, _, _, _, _, _, _, _, _, _, _, _, _, _, _, _, _, _, _, _, rfl, D, HE.out, rfl⟩⟩
    subst hyS
    have hd : (y != y) = false := by simp
    have HRA' : Hid (recAt zs k out.length = some rec) := HRA.out.trans (if_pos rfl)
    obtain ⟨f', hf'⟩ : ∃ f', f = f' + 1 := ⟨f - 1, by omega⟩
    have HSC' : Hid (scanOf zs = scanGo zs f' (k + 2 + m) (out ++ [rec])) := by
      have := HSC.out
      rw [hf'] at this
      simp only [scanGo, HRA'.out] at this
      rw [hre] at this
      exact this
    clear HSC HRA HRA'
    obtain ⟨j0, hj0, hy0, hy1, hy2⟩ := info_parts Try.infoInts
    have hok2 := D.own
    have hownA := hok2.alloc (.cells #[.slice (some ⟨g1, 0, none⟩) m cp1] 24)
    have hB : F + 1 ≤ w3.heap.size := D.top
    have hne : (Value.slice sa out.length sc).ownBlock ≠ some g1 := fun e => by have := (hown0.lt g1 e).2; omega
    have hg0 : F + 1 ≤ g1 := by omega
    have ff1 := D.ff 1
    have ff2 := D.ff 2
    have c0 := D.c0
    go_wp2_with (first | (at_builtin; refine wpList_append_own_at _ rfl _ _ 71 rfl (F + 1) 24 j0 (.slice none 0 0) 1 24 Try.underlying71 hj0 hy0 hy1 hy2 rfl (by decide) _ _ _ rfl hownA ⟨w3.heap.size, 0, none⟩ 1 1 [.slice (some ⟨g1, 0, none⟩) m cp1] rfl rfl ?d1 ?d2 ?d3 ?d4 ?d5 ?_))
    case d1 =>
      intro j u hj
      match j, hj with
      | 0, hj => simp at hj; subst hj; simp [Addr.add]
    case d2 => intro u hu; simp at hu; subst hu; rfl
    case d3 => unfold maxLen; omega
    case d4 => omega
    case d5 => simp; omega
    intro v2 w4 hown' hgrow _ hat
    have A3 : Below w3.heap.size w3 (w3.alloc (.cells #[.slice (some ⟨g1, 0, none⟩) m cp1] 24)) := (Below.refl _ _).alloc (Nat.le_refl _) _
    have hb4 : Below (F + 1) w3 w4 := (((Below.refl _ _).alloc hB _ : Below (F + 1) w3 _)).grown hgrow (by simp; omega) (fun g hg => (hownA.lt g hg).1)
    have HR4 : RecsBut w4 (F + 1) v2.ownBlock (vs ++ [.slice (some ⟨g1, 0, none⟩) m cp1]) (out ++ [rec]) :=
      ((D.recs.below A3).snoc hne hg0 (Nat.lt_of_lt_of_le hg1' A3.size) (RR.below A3)).grown hgrow (by simpa using hat)
    have hown2 : w4.ownsRow (F + 1) 24 1 v2 (out ++ [rec]).length (vs ++ [.slice (some ⟨g1, 0, none⟩) m cp1]) := by
      rw [List.length_append]; exact hown'
    obtain ⟨sa2, sc2, rfl, -⟩ := RowAt.of_owned hown2
    have D4 := D.step hb4 hown2 HR4 hinc (k + 2 + m)
    have e0 : w4.cell? ⟨F, 2, none⟩ = some (.slice sa out.length sc) := by rw [hb4.cell (p := ⟨F, 2, none⟩) (Nat.lt_succ_self _)]; exact c2
    have e1 : w4.frozen? ⟨F, 2, none⟩ = false := by rw [hb4.frozen (p := ⟨F, 2, none⟩) (Nat.lt_succ_self _)]; exact ff2
    have e2 : w4.cell? ⟨F, 1, none⟩ = some (.int .i64 (k : Int)) := by rw [hb4.cell (p := ⟨F, 1, none⟩) (Nat.lt_succ_self _)]; exact c1
    have e3 : w4.frozen? ⟨F, 1, none⟩ = false := by rw [hb4.frozen (p := ⟨F, 1, none⟩) (Nat.lt_succ_self _)]; exact ff1
    clear hown' hgrow hat hownA A3 hok2 RR hown2 HR4 D c0 c1 c2 ff1 ff2 cA
    have e9 : (Value.int .i64 ((k + 2 + m : Nat) : Int)) = .int .i64 ((k : Int) + 2 + m) := by simp
    have e10 : (out ++ [rec]).length = out.length + 1 := by simp
    rw [e9, e10] at D4
    go_wp2
    go_step3
    exact ⟨2 * (64 - (k + 2 + m)) + 2, by omega, Or.inr (Or.inl ⟨rfl, k + 2 + m, f', out ++ [rec], _, _, _, _, _, _, _, _, _, _, _, _, _, _, _, _, _, _, _, _, _, _, _, _, _, _, _, _, _, _, _, _, _, _, _, _, _, _, _, _, _, _, _, _, _, _, _, _, rfl, D4, ⟨by rw [List.length_append]; simp; omega, by omega, HSC'.out, by omega⟩, rfl⟩)⟩

end Go.Proofs.Ytkpbmffklcgecaa
