/- Chapter 7, plain: a difference read from words. -/
import Derived.Test.YtcbfmjanjciodaaEX
import Derived.Test.YtcbfmjanjciodaaYR
import Derived.Test.YtcbfmjanjciodaaYN
import Derived.Test.YtcbfmjanjciodaaYQ
import Derived.Test.YtcbfmjanjciodaaYV
import Derived.Test.YtcbfmjanjciodaaYS
namespace Go.Proofs.Ytcbfmjanjciodaa
open Go.RowKit

def wd (ws : List Int) (i : Nat) : Int := ws.getD i 0
def unV (x : Int) : Vo := (x / 256, x % 256, -1)
def unS (x y : Int) : St := (x % 2 == 1, x / 512, x / 2 % 256, y)
def rdN (ws : List Int) (cap : Nat) : Nat := min (wd ws 2).toNat cap
def rdV (ws : List Int) (n : Nat) : List Vo := (List.range n).map fun i => unV (wd ws (3 + i))
def rdM (ws : List Int) (n cap : Nat) : Nat := min (wd ws (3 + n)).toNat cap
def rdS (ws : List Int) (n m : Nat) : List St := (List.range m).map fun i => unS (wd ws (4 + n + 2 * i)) (wd ws (5 + n + 2 * i))
theorem rdV_len (ws : List Int) (n : Nat) : (rdV ws n).length = n := by simp [rdV]
theorem rdS_len (ws : List Int) (n m : Nat) : (rdS ws n m).length = m := by simp [rdS]
theorem rdV_snoc (ws : List Int) (n : Nat) : rdV ws (n + 1) = rdV ws n ++ [unV (wd ws (3 + n))] := by simp [rdV, List.range_succ]
theorem rdS_snoc (ws : List Int) (n m : Nat) : rdS ws n (m + 1) = rdS ws n m ++ [unS (wd ws (4 + n + 2 * m)) (wd ws (5 + n + 2 * m))] := by simp [rdS, List.range_succ]
def allW (ws : List Int) : Bool := ws.all wordB
/-- what is read, at most so many volumes and steps -/
def okD (ws : List Int) (a b : Nat) : Bool := decide (deFault (wd ws 0) (wd ws 1) (rdV ws (rdN ws a)) (rdS ws (rdN ws a) (rdM ws (rdN ws a) b)) = 0) && decide (packW (wd ws 0) (wd ws 1) (rdV ws (rdN ws a)) (rdS ws (rdN ws a) (rdM ws (rdN ws a) b)) = ws)
def unC (ws : List Int) : Int := if 300 < ws.length then 2 else if allW ws then (if okD ws 6 120 then 0 else 5) else 3
theorem wd_word {ws : List Int} (h : allW ws = true) (i : Nat) : 0 ≤ wd ws i ∧ wd ws i ≤ 65535 := by
  unfold wd
  by_cases hi : i < ws.length
  · have := List.all_eq_true.1 h (ws.getD i 0) (by rw [List.getD_eq_getElem?_getD, List.getElem?_eq_getElem hi, Option.getD_some]; exact List.getElem_mem hi)
    exact of_decide_eq_true this
  · rw [List.getD_eq_getElem?_getD, List.getElem?_eq_none (by omega), Option.getD_none]
    omega
theorem okD_len {ws : List Int} {a b : Nat} (h : okD ws a b = true) : rdN ws a ≤ 6 ∧ rdM ws (rdN ws a) b ≤ 120 ∧ ((rdN ws a : Nat) : Int) = wd ws 2 ∧ ((rdM ws (rdN ws a) b : Nat) : Int) = wd ws (3 + rdN ws a) := by
  unfold okD at h
  rw [Bool.and_eq_true] at h
  have h1 := de_ok (of_decide_eq_true h.1)
  have h2 := of_decide_eq_true h.2
  rw [rdV_len, rdS_len] at h1
  obtain ⟨N, hN⟩ : ∃ N, rdN ws a = N := ⟨_, rfl⟩
  rw [hN] at h1 h2 ⊢
  obtain ⟨M, hM⟩ : ∃ M, rdM ws N b = M := ⟨_, rfl⟩
  rw [hM] at h1 h2 ⊢
  have e2 : wd (packW (wd ws 0) (wd ws 1) (rdV ws N) (rdS ws N M)) 2 = (N : Int) := by unfold packW wd; rw [rdV_len]; simp
  have e3 : wd (packW (wd ws 0) (wd ws 1) (rdV ws N) (rdS ws N M)) (3 + N) = (M : Int) := by
    unfold packW wd
    rw [rdV_len, rdS_len]
    have hl : ([wd ws 0, wd ws 1, (N : Int)] ++ packVs (rdV ws N)).length = 3 + N := by simp [packVs, rdV_len]; omega
    show ([wd ws 0, wd ws 1, (N : Int)] ++ packVs (rdV ws N) ++ [(M : Int)] ++ packSs (rdS ws N M)).getD (3 + N) 0 = M
    rw [List.append_assoc, List.getD_eq_getElem?_getD, List.getElem?_append_right (by omega), hl, Nat.sub_self]
    rfl
  rw [h2] at e2 e3
  exact ⟨by omega, by omega, e2.symm, e3.symm⟩
theorem okD_same {ws : List Int} (hw : allW ws = true) : okD ws 300 300 = okD ws 6 120 := by
  have w2 := wd_word hw 2
  by_cases h1 : okD ws 6 120 = true
  · rw [h1]
    obtain ⟨_, _, e2, e3⟩ := okD_len h1
    have n1 : rdN ws 300 = rdN ws 6 := by unfold rdN at *; omega
    have m1 : rdM ws (rdN ws 6) 300 = rdM ws (rdN ws 6) 120 := by unfold rdM at *; omega
    unfold okD at h1 ⊢
    rw [n1, m1]; exact h1
  · by_cases h2 : okD ws 300 300 = true
    · exfalso
      obtain ⟨l1, l2, e2, e3⟩ := okD_len h2
      have n1 : rdN ws 6 = rdN ws 300 := by unfold rdN at *; omega
      have m1 : rdM ws (rdN ws 300) 120 = rdM ws (rdN ws 300) 300 := by unfold rdM at *; omega
      apply h1
      unfold okD at h2 ⊢
      rw [n1, m1]; exact h2
    · rw [Bool.not_eq_true] at h1 h2; rw [h1, h2]
theorem okD_read {ws : List Int} (h : okD ws 6 120 = true) : rdN ws 300 = rdN ws 6 ∧ rdM ws (rdN ws 6) 300 = rdM ws (rdN ws 6) 120 := by
  obtain ⟨_, _, e2, e3⟩ := okD_len h
  constructor
  · unfold rdN at *; omega
  · unfold rdM at *; omega
def unFr (ws : List Int) : Int := if unC ws = 0 then wd ws 0 else 0
def unTo (ws : List Int) : Int := if unC ws = 0 then wd ws 1 else 0
def unVs (ws : List Int) : List Vo := if unC ws = 0 then rdV ws (rdN ws 6) else []
def unSs (ws : List Int) : List St := if unC ws = 0 then rdS ws (rdN ws 6) (rdM ws (rdN ws 6) 120) else []
theorem flat4_snoc (n : Nat) (g0 g1 g2 g3 : Nat → Value) : flat4 (n + 1) g0 g1 g2 g3 = flat4 n g0 g1 g2 g3 ++ [g0 n, g1 n, g2 n, g3 n] := by
  apply List.ext_getElem (by simp [flat4]; omega)
  intro j h1 h2
  simp [flat4] at h1
  by_cases hj : j < n * 4
  · rw [List.getElem_append_left (by rw [flat4_len]; exact hj)]; simp [flat4]
  · rw [List.getElem_append_right (by rw [flat4_len]; omega)]
    simp only [flat4, List.getElem_map, List.getElem_range, List.length_map, List.length_range]
    rcases (show j = n * 4 ∨ j = n * 4 + 1 ∨ j = n * 4 + 2 ∨ j = n * 4 + 3 by omega) with rfl | rfl | rfl | rfl
    · rw [if_pos (by omega)]; simp
    · rw [if_neg (by omega), if_pos (by omega)]; simp; congr 1; omega
    · rw [if_neg (by omega), if_neg (by omega), if_pos (by omega)]; simp; congr 1; omega
    · rw [if_neg (by omega), if_neg (by omega), if_neg (by omega)]; simp; congr 1; omega
theorem quads_snoc (xs : List St) (s : St) : quads (xs ++ [s]) = quads xs ++ [.bool s.1, .int .i64 s.2.1, .int .i64 s.2.2.1, .int .i64 s.2.2.2] := by
  unfold quads
  rw [show (xs ++ [s]).length = xs.length + 1 by simp, flat4_snoc]
  have hd : (xs ++ [s]).getD xs.length st0 = s := by simp [List.getD]
  rw [hd]
  congr 1
  refine flat4_congr fun j hj => ?_
  rw [show (xs ++ [s]).getD j st0 = xs.getD j st0 from by simp [List.getD, List.getElem?_append_left hj]]
  exact ⟨rfl, rfl, rfl, rfl⟩
theorem tripsM_snoc (xs : List Vo) (v : Vo) : trips (xs ++ [v]) = trips xs ++ [.int .i64 v.1, .int .i64 v.2.1, .int .i64 v.2.2] := by
  unfold trips
  rw [show (xs ++ [v]).length = xs.length + 1 by simp, flat3_snoc]
  have hd : (xs ++ [v]).getD xs.length vo0 = v := by simp [List.getD]
  rw [hd]
  congr 1
  refine flat3_congr fun j hj => ?_
  rw [show (xs ++ [v]).getD j vo0 = xs.getD j vo0 from by simp [List.getD, List.getElem?_append_left hj]]
  exact ⟨rfl, rfl, rfl⟩

end Go.Proofs.Ytcbfmjanjciodaa

/- Chapter 7: rows of volumes and of steps grown in the fields of a difference. -/
namespace Go.Proofs.Ytcbfmjanjciodaa
open Go.RowKit

theorem app_runG (t e : TypeId) (i0 : TypeInfo) (z : Value) (size bytes : Nat) (ht : Try.prog.underlying t = some (.slice e)) (hi0 : Try.prog.info? e = some i0) (hz0 : i0.zero = some z) (hz1 : i0.size = size) (hz2 : i0.bytes = bytes) (hzs : z.cells.size = size) (hsz : 0 < size) (hby : bytes ≤ 64) {w : World} {base : Nat} {v : Value} {n : Nat} {cs : List Value} (hown : w.ownsRow base e size v n cs) {ow : Bool} {l u : Nat} (ad : Addr) (m c : Nat) (ns : List Value) (hrow : RowAt w ow l u size (some ad) m c ns) (h1 : ∀ u ∈ ns, u.oneCell' = true) (ty : TypeId) (hn : n + m ≤ 1000000) (hbase : base ≤ w.heap.size) :
    ∃ v' w', (Builtin.append_ #[t, t] ty #[v, .slice (some ad) m c]).run Try.prog w = .ok v' w' ∧ w'.ownsRow base e size v' (n + m) (cs ++ ns) ∧ Below base w w' := by
  obtain ⟨v', w', hr, ho, hg, _⟩ := run_append_own (P := Try.prog) w base t ty e i0 z size bytes ht hi0 hz0 hz1 hz2 hzs hsz v n cs hown ad m c ns hrow.len (fun j u hj => by
    have hjl : j < ns.length := (List.getElem?_eq_some_iff.1 hj).1
    have hl := hrow.len
    have hm : m ≠ 0 := fun e => by rw [e, Nat.zero_mul] at hl; omega
    obtain ⟨b, off, e, _, _, _, hc, _⟩ := hrow.cells hm
    have e2 : ad = ⟨b, off, none⟩ := Option.some.inj e
    rw [e2]
    have := hc j (by omega)
    rw [List.getD_eq_getElem?_getD, hj, Option.getD_some] at this
    rw [Addr.add_lit]; exact this) h1 (by unfold maxLen; omega) (Nat.le_trans (Nat.mul_le_mul hn hby) (by decide)) hbase
  exact ⟨v', w', hr, ho, (Below.refl base w).grown hg hbase (fun g hg' => (hown.lt g hg').1)⟩
theorem appV_run {w : World} {base : Nat} {v : Value} {n : Nat} {xs : List Vo} (hown : w.ownsRow base 149 3 v n (trips xs)) (x y z : Int) (ty : TypeId) (hn : n + 1 ≤ 1000000) (hbase : base ≤ w.heap.size) :
    ∃ ao cap w', (Builtin.append_ #[30, 30] ty #[v, .slice (some ⟨w.heap.size, 0, none⟩) 1 1]).run Try.prog (w.alloc (.cells #[.int .i64 x, .int .i64 y, .int .i64 z] 149)) = .ok (.slice ao (n + 1) cap) w' ∧ w'.ownsRow base 149 3 (.slice ao (n + 1) cap) (n + 1) (trips (xs ++ [(x, y, z)])) ∧ Below base w w' := by
  obtain ⟨j0, hj0, hy0, hy1, hy2⟩ := info_parts Try.infoVol
  have A : Below base w (w.alloc (.cells #[.int .i64 x, .int .i64 y, .int .i64 z] 149)) := (Below.refl _ _).alloc hbase _
  obtain ⟨v', w', hr, ho, hb⟩ := app_runG 30 149 j0 (.agg #[.int .i64 0, .int .i64 0, .int .i64 0]) 3 24 Try.underlying30 hj0 hy0 hy1 hy2 rfl (by decide) (by decide) (hown.alloc (.cells #[.int .i64 x, .int .i64 y, .int .i64 z] 149)) ⟨w.heap.size, 0, none⟩ 1 1 [.int .i64 x, .int .i64 y, .int .i64 z] (row_lit w [.int .i64 x, .int .i64 y, .int .i64 z] 149 1 3 rfl) (fun u hu => by simp at hu; rcases hu with rfl | rfl | rfl <;> rfl) ty hn (Nat.le_trans hbase (by simp))
  rw [← tripsM_snoc xs (x, y, z)] at ho
  obtain ⟨ao, cap, rfl, _⟩ := RowAt.of_owned ho
  exact ⟨ao, cap, w', hr, ho, A.trans hb⟩
theorem appS_run {w : World} {base : Nat} {v : Value} {n : Nat} {xs : List St} (hown : w.ownsRow base 141 4 v n (quads xs)) (s : Bool) (x y z : Int) (ty : TypeId) (hn : n + 1 ≤ 1000000) (hbase : base ≤ w.heap.size) :
    ∃ ao cap w', (Builtin.append_ #[76, 76] ty #[v, .slice (some ⟨w.heap.size, 0, none⟩) 1 1]).run Try.prog (w.alloc (.cells #[.bool s, .int .i64 x, .int .i64 y, .int .i64 z] 141)) = .ok (.slice ao (n + 1) cap) w' ∧ w'.ownsRow base 141 4 (.slice ao (n + 1) cap) (n + 1) (quads (xs ++ [(s, x, y, z)])) ∧ Below base w w' := by
  obtain ⟨j0, hj0, hy0, hy1, hy2⟩ := info_parts Try.infoStep
  have A : Below base w (w.alloc (.cells #[.bool s, .int .i64 x, .int .i64 y, .int .i64 z] 141)) := (Below.refl _ _).alloc hbase _
  obtain ⟨v', w', hr, ho, hb⟩ := app_runG 76 141 j0 (.agg #[.bool false, .int .i64 0, .int .i64 0, .int .i64 0]) 4 32 Try.underlying76 hj0 hy0 hy1 hy2 rfl (by decide) (by decide) (hown.alloc (.cells #[.bool s, .int .i64 x, .int .i64 y, .int .i64 z] 141)) ⟨w.heap.size, 0, none⟩ 1 1 [.bool s, .int .i64 x, .int .i64 y, .int .i64 z] (row_lit w [.bool s, .int .i64 x, .int .i64 y, .int .i64 z] 141 1 4 rfl) (fun u hu => by simp at hu; rcases hu with rfl | rfl | rfl | rfl <;> rfl) ty hn (Nat.le_trans hbase (by simp))
  rw [← quads_snoc xs (s, x, y, z)] at ho
  obtain ⟨ao, cap, rfl, _⟩ := RowAt.of_owned ho
  exact ⟨ao, cap, w', hr, ho, A.trans hb⟩
/-- all elder blocks but one are as they were -/
structure But (b : Nat) (w w' : World) : Prop where
  os : w'.os = w.os
  tape : w'.tape = w.tape
  output : w'.output = w.output
  size : w.heap.size ≤ w'.heap.size
  block : ∀ k, k < w.heap.size → k ≠ b → w'.heap[k]? = w.heap[k]?
theorem cell_of_but {b : Nat} {w w' : World} (h : But b w w') {g o : Nat} {v : Value} (hc : w.cell? ⟨g, o, none⟩ = some v) (hg : g ≠ b) : w'.cell? ⟨g, o, none⟩ = some v := by
  rw [World.cell?_of_block (w := w) (a := ⟨g, o, none⟩) (h.block g (World.block_lt_of_cell? w _ hc) hg)]; exact hc
theorem frozen_of_but {b : Nat} {w w' : World} (h : But b w w') {g o : Nat} (hlt : g < w.heap.size) (hc : w.frozen? ⟨g, o, none⟩ = false) (hg : g ≠ b) : w'.frozen? ⟨g, o, none⟩ = false := by
  rw [World.frozen?_of_block (w := w) (a := ⟨g, o, none⟩) (h.block g hlt hg)]; exact hc
theorem But.refl (b : Nat) (w : World) : But b w w := ⟨rfl, rfl, rfl, Nat.le_refl _, fun _ _ _ => rfl⟩
theorem But.next {b : Nat} {w a c : World} (h : But b w a) (k : Below w.heap.size a c) : But b w c :=
  ⟨k.os.trans h.os, k.tape.trans h.tape, k.output.trans h.output, Nat.le_trans h.size k.size, fun i hi hne => (k.block i hi).trans (h.block i hi hne)⟩
theorem But.set {b k : Nat} {w a : World} (h : But b w a) (v : Value) : But b w (a.setCell ⟨b, k, none⟩ v) :=
  ⟨h.os, h.tape, h.output, by simpa [World.setCell] using h.size, fun i hi hne => (Below.heap_setCell _ _ _ _ (fun e => hne e)).trans (h.block i hi hne)⟩
theorem But.below {b B : Nat} {w a : World} (h : But b w a) (hb : B ≤ b) (hB : B ≤ w.heap.size) : Below B w a := ⟨h.os, h.tape, h.output, h.size, fun k hk => h.block k (Nat.lt_of_lt_of_le hk hB) (by omega)⟩
theorem But.row {b : Nat} {w a : World} (h : But b w a) {own : Bool} {lo hi size : Nat} {ao : Option Addr} {n cap : Nat} {cs : List Value} (r : RowAt w own lo hi size ao n cap cs) (hd : hi ≤ b ∨ b < lo) : RowAt a own lo hi size ao n cap cs := by
  refine ⟨r.len, r.le, fun hn => ?_⟩
  obtain ⟨g, off, rfl, h1, h2, h3, h4, h5⟩ := r.cells hn
  have hbl := h.block g h3 (by omega)
  exact ⟨g, off, rfl, h1, h2, Nat.lt_of_lt_of_le h3 h.size, fun i hi' => by rw [World.cell?_of_block (w := w) (a := ⟨g, off + i, none⟩) hbl]; exact h4 i hi', fun ho i hi' => by rw [World.frozen?_of_block (w := w) (a := ⟨g, off + i, none⟩) hbl]; exact h5 ho i hi'⟩

end Go.Proofs.Ytcbfmjanjciodaa

/- Chapter 7: a difference read from words, by the model. -/
namespace Go.Proofs.Ytcbfmjanjciodaa
open Go.RowKit

/-- a code and a difference of one's own -/
def DeltaR (w w' : World) (e : Ending) (cd fr tt : Int) (vs : List Vo) (ss : List St) : Prop := ∃ av nv cv aq nq cq mid, e = .returned (.agg #[.int .i64 cd, .int .i64 fr, .int .i64 tt, .slice av nv cv, .slice aq nq cq]) ∧ RowAt w' true w.heap.size mid 3 av nv cv (trips vs) ∧ RowAt w' true mid w'.heap.size 4 aq nq cq (quads ss) ∧ w.heap.size ≤ mid ∧ mid ≤ w'.heap.size ∧ Below w.heap.size w w'
theorem allW_of {ws : List Int} (h : ∀ j, j < ws.length → wordB (ws.getD j 0) = true) : allW ws = true := List.all_eq_true.2 fun x hx => by
  obtain ⟨i, hi, e⟩ := List.mem_iff_getElem.1 hx
  have := h i hi
  rw [List.getD_eq_getElem?_getD, List.getElem?_eq_getElem hi, Option.getD_some, e] at this
  exact this
theorem allW_not {ws : List Int} {j : Nat} (hj : j < ws.length) (h : wordB (ws.getD j 0) = false) : allW ws = false := by
  cases e : allW ws with
  | false => rfl
  | true =>
    have := List.all_eq_true.1 e (ws.getD j 0) (by rw [List.getD_eq_getElem?_getD, List.getElem?_eq_getElem hj, Option.getD_some]; exact List.getElem_mem hj)
    rw [h] at this; cases this
theorem l7Word_is {o : Bool} {l u : Nat} (b off n c : Nat) (ws : List Int) (w : World) (h : RowAt w o l u 1 (some ⟨b, off, none⟩) n c (ints ws)) (j : Nat) (d : Int) (hd : wd ws j = d) : Calls Try.prog 123 #[.slice (some ⟨b, off, none⟩) n c, .int .i64 (j : Int)] w fun e w' => e = .returned (.int .i64 d) ∧ w' = w := by
  have hl := h.nInts
  have HD : Hid _ := hd
  clear hd
  by_cases hj : j < n
  · obtain ⟨_, _, e', _, _, _, v0, _⟩ := h.int hj
    cases e'
    have hlj : (j : Int) < (n : Int) := by omega
    have e0 : ws.getD j 0 = d := HD.out
    rw [e0] at v0
    go_enter Try.func123, Try.ntmps123
    go_wp2
    go_ret
    exact ⟨rfl, rfl⟩
  · have hlj : ¬ (j : Int) < (n : Int) := by omega
    have HE : Hid (d = 0) := by show _ = _; rw [← HD.out]; unfold wd; rw [List.getD_eq_getElem?_getD, List.getElem?_eq_none (by omega)]; rfl
    go_enter Try.func123, Try.ntmps123
    go_wp2
    go_ret
    exact ⟨by rw [HE.out]; rfl, rfl⟩
set_option maxRecDepth 20000 in
set_option maxHeartbeats 4000000 in
theorem specUn_is {o : Bool} {l u : Nat} (b off n c : Nat) (ws : List Int) (w : World) (h : RowAt w o l u 1 (some ⟨b, off, none⟩) n c (ints ws)) (hn : n ≤ 2097152) (cd fr tt : Int) (vs : List Vo) (ss : List St) (hc : unC ws = cd) (hf : unFr ws = fr) (hg : unTo ws = tt) (hv : unVs ws = vs) (hs : unSs ws = ss) : Calls Try.prog 55 #[.slice (some ⟨b, off, none⟩) n c] w fun e w' => DeltaR w w' e cd fr tt vs ss := by
  have hl := h.nInts
  have HC : Hid _ := hc
  have HF : Hid _ := hf
  have HG : Hid _ := hg
  have HV : Hid _ := hv
  have HS : Hid _ := hs
  clear hc hf hg hv hs
  by_cases h3 : 300 < n
  · have h3i : (300 : Int) < (n : Int) := by omega
    have HCODE : cd = 2 := by rw [← HC.out]; exact if_pos (by omega)
    have e0 : cd = 2 := HCODE
    have e1 : fr = 0 := by rw [← HF.out]; unfold unFr; rw [HC.out, e0]; rfl
    have e2 : tt = 0 := by rw [← HG.out]; unfold unTo; rw [HC.out, e0]; rfl
    have e3 : vs = [] := by rw [← HV.out]; unfold unVs; rw [HC.out, e0]; rfl
    have e4 : ss = [] := by rw [← HS.out]; unfold unSs; rw [HC.out, e0]; rfl
    subst e0 e1 e2 e3 e4
    go_enter Try.func55, Try.ntmps55
    go_wp2_with (first | ((with_reducible refine alloc_new 83 #[.int .i64 0, .int .i64 0, .int .i64 0, .slice none 0 0, .slice none 0 0] (fun _ => by kernel_rfl) ?_); intro b0 W0 N0; have O0 : Hid (w.heap.size ≤ b0) := N0.ge; have B := N0.below; have H0 : Hid (b0 < W0.heap.size) := N0.lt; have c0_0 : W0.cell? ⟨b0, 0, none⟩ = some (.int .i64 0) := N0.cell 0 _ rfl; have c0_1 : W0.cell? ⟨b0, 1, none⟩ = some (.int .i64 0) := N0.cell 1 _ rfl; have c0_2 : W0.cell? ⟨b0, 2, none⟩ = some (.int .i64 0) := N0.cell 2 _ rfl; have c0_3 : W0.cell? ⟨b0, 3, none⟩ = some (.slice none 0 0) := N0.cell 3 _ rfl; have c0_4 : W0.cell? ⟨b0, 4, none⟩ = some (.slice none 0 0) := N0.cell 4 _ rfl; have y0_0 : W0.frozen? ⟨b0, 0, none⟩ = false := N0.froz 0; have y0_1 : W0.frozen? ⟨b0, 1, none⟩ = false := N0.froz 1; have y0_2 : W0.frozen? ⟨b0, 2, none⟩ = false := N0.froz 2; have y0_3 : W0.frozen? ⟨b0, 3, none⟩ = false := N0.froz 3; have y0_4 : W0.frozen? ⟨b0, 4, none⟩ = false := N0.froz 4; clear N0) | fail)
    go_wp2
    refine bodyPost_ret (v := .agg #[.int .i64 2, .int .i64 0, .int .i64 0, .slice none 0 0, .slice none 0 0]) (by simp [results, Try.results55, go_sem, c0_0, c0_1, c0_2, c0_3, c0_4]) rfl ?_
    have KZ : Kept b0 (b0 + 1) W0 (((((W0.setCell ⟨b0, 0, none⟩ (.int .i64 2)).setCell ⟨b0, 1, none⟩ (.int .i64 0)).setCell ⟨b0, 2, none⟩ (.int .i64 0)).setCell ⟨b0, 3, none⟩ (.slice none 0 0)).setCell ⟨b0, 4, none⟩ (.slice none 0 0)) := by refine Kept.setCell (Kept.setCell (Kept.setCell (Kept.setCell (Kept.setCell (Kept.refl _ _ _) ?_ ?_ _) ?_ ?_ _) ?_ ?_ _) ?_ ?_ _) ?_ ?_ _ <;> simp
    have s := KZ.size
    exact ⟨_, _, _, _, _, _, _, rfl, RowAt.nil _ _ _ _ _, RowAt.nil _ _ _ _ _, Nat.le_refl _, Nat.le_trans B.size s, B.trans (KZ.below _ O0.out B.size)⟩
  have h3i : ¬ (300 : Int) < (n : Int) := by omega
  go_enter Try.func55, Try.ntmps55
  go_wp2_with (first | ((with_reducible refine alloc_new 83 #[.int .i64 0, .int .i64 0, .int .i64 0, .slice none 0 0, .slice none 0 0] (fun _ => by kernel_rfl) ?_); intro b0 W0 N0; have O0 : Hid (w.heap.size ≤ b0) := N0.ge; have B := N0.below; have H0 : Hid (b0 < W0.heap.size) := N0.lt; have c0_0 : W0.cell? ⟨b0, 0, none⟩ = some (.int .i64 0) := N0.cell 0 _ rfl; have c0_1 : W0.cell? ⟨b0, 1, none⟩ = some (.int .i64 0) := N0.cell 1 _ rfl; have c0_2 : W0.cell? ⟨b0, 2, none⟩ = some (.int .i64 0) := N0.cell 2 _ rfl; have c0_3 : W0.cell? ⟨b0, 3, none⟩ = some (.slice none 0 0) := N0.cell 3 _ rfl; have c0_4 : W0.cell? ⟨b0, 4, none⟩ = some (.slice none 0 0) := N0.cell 4 _ rfl; have y0_0 : W0.frozen? ⟨b0, 0, none⟩ = false := N0.froz 0; have y0_1 : W0.frozen? ⟨b0, 1, none⟩ = false := N0.froz 1; have y0_2 : W0.frozen? ⟨b0, 2, none⟩ = false := N0.froz 2; have y0_3 : W0.frozen? ⟨b0, 3, none⟩ = false := N0.froz 3; have y0_4 : W0.frozen? ⟨b0, 4, none⟩ = false := N0.froz 4; clear N0))
  go_loopw [3] (fun i wr => ∃ k : Nat, k ≤ n ∧ i = .int .i64 k ∧ (∀ j, j < k → wordB (ws.getD j 0) = true) ∧ wr = W0) (fun i _ => n - (intOf i).toNat)
  case atStart => exact ⟨0, Nat.zero_le _, rfl, fun j hj => absurd hj (Nat.not_lt_zero _), rfl⟩
  case round =>
    obtain ⟨k, hk, rfl, ha, rfl⟩ := hrel
    have HA : Hid _ := ha
    clear ha
    by_cases hlt : k < n
    · obtain ⟨_, _, e', _, _, _, v0, _⟩ := h.int hlt
      cases e'
      replace v0 := cell_later B v0
      have hlk : (k : Int) < (n : Int) := by omega
      obtain ⟨x, hx⟩ : ∃ x, ws.getD k 0 = x := ⟨_, rfl⟩
      obtain ⟨d, hd⟩ : ∃ d, wordB x = d := ⟨_, rfl⟩
      have HX : Hid _ := hx
      have HD : Hid _ := hd
      rw [hx] at v0
      clear hx hd
      go_wp2_with fail
      refine (l1Word_is x _ d HD.out).mono ?_
      rintro e W0' ⟨rfl, rfl⟩
      cases d with
      | false =>
        have HCODE : cd = 3 := by rw [← HC.out]; unfold unC; rw [if_neg (by omega), allW_not (j := k) (by omega) (by rw [HX.out]; exact HD.out)]; rfl
        have e0 : cd = 3 := HCODE
        have e1 : fr = 0 := by rw [← HF.out]; unfold unFr; rw [HC.out, e0]; rfl
        have e2 : tt = 0 := by rw [← HG.out]; unfold unTo; rw [HC.out, e0]; rfl
        have e3 : vs = [] := by rw [← HV.out]; unfold unVs; rw [HC.out, e0]; rfl
        have e4 : ss = [] := by rw [← HS.out]; unfold unSs; rw [HC.out, e0]; rfl
        subst e0 e1 e2 e3 e4
        go_wp2
        refine bodyPost_ret (v := .agg #[.int .i64 3, .int .i64 0, .int .i64 0, .slice none 0 0, .slice none 0 0]) (by simp [results, Try.results55, go_sem, c0_0, c0_1, c0_2, c0_3, c0_4]) rfl ?_
        have KZ : Kept b0 (b0 + 1) W0' (((((W0'.setCell ⟨b0, 0, none⟩ (.int .i64 3)).setCell ⟨b0, 1, none⟩ (.int .i64 0)).setCell ⟨b0, 2, none⟩ (.int .i64 0)).setCell ⟨b0, 3, none⟩ (.slice none 0 0)).setCell ⟨b0, 4, none⟩ (.slice none 0 0)) := by refine Kept.setCell (Kept.setCell (Kept.setCell (Kept.setCell (Kept.setCell (Kept.refl _ _ _) ?_ ?_ _) ?_ ?_ _) ?_ ?_ _) ?_ ?_ _) ?_ ?_ _ <;> simp
        have s := KZ.size
        exact ⟨_, _, _, _, _, _, _, rfl, RowAt.nil _ _ _ _ _, RowAt.nil _ _ _ _ _, Nat.le_refl _, Nat.le_trans B.size s, B.trans (KZ.below _ O0.out B.size)⟩
      | true =>
        go_wp2
        go_roundw
        case rel => exact ⟨k + 1, by omega, by go_num, fun j hj => by
          by_cases e : j = k
          · rw [e, HX.out]; exact HD.out
          · exact HA.out j (by omega), by first | rfl | trivial⟩
        case measure => simp [intOf]; omega
    · obtain rfl : k = n := by omega
      have HW : Hid (allW ws = true) := allW_of fun j hj => HA.out j (by omega)
      clear HA
      have RR := h.below B
      obtain ⟨x0, hx0⟩ : ∃ x, wd ws 0 = x := ⟨_, rfl⟩
      obtain ⟨x1, hx1⟩ : ∃ x, wd ws 1 = x := ⟨_, rfl⟩
      obtain ⟨x2, hx2⟩ : ∃ x, wd ws 2 = x := ⟨_, rfl⟩
      have hw2 := wd_word HW.out 2
      obtain ⟨N, hN⟩ : ∃ N, rdN ws 300 = N := ⟨_, rfl⟩
      have hN2 : min x2 300 = (N : Int) := by rw [← hN]; unfold rdN; rw [hx2] at hw2 ⊢; omega
      have hN3 : N ≤ 300 := by rw [← hN]; unfold rdN; omega
      have X0 : Hid _ := hx0
      have X1 : Hid _ := hx1
      have X2 : Hid _ := hx2
      have HN : Hid _ := hN
      have HN2 : Hid _ := hN2
      clear hx0 hx1 hx2 hw2 hN hN2
      go_wp2_with fail
      refine (l7Word_is b off k c ws _ RR 0 x0 X0.out).mono ?_
      rintro e _ ⟨rfl, rfl⟩
      go_wp2_with fail
      refine (l7Word_is b off k c ws _ RR 1 x1 X1.out).mono ?_
      rintro e W0 ⟨rfl, rfl⟩
      clear RR
      go_wp2_with (first | ((with_reducible refine alloc_new 78 #[.int .i64 0, .int .i64 0, .slice none 0 0, .slice none 0 0] (fun _ => by kernel_rfl) ?_); intro b1 W1 N1; have O1 : Hid (b0 < b1) := Nat.lt_of_lt_of_le H0.out N1.ge; replace c0_0 := cell_later N1.below c0_0; replace c0_1 := cell_later N1.below c0_1; replace c0_2 := cell_later N1.below c0_2; replace c0_3 := cell_later N1.below c0_3; replace c0_4 := cell_later N1.below c0_4; replace y0_0 := frozen_later N1.below H0.out y0_0; replace y0_1 := frozen_later N1.below H0.out y0_1; replace y0_2 := frozen_later N1.below H0.out y0_2; replace y0_3 := frozen_later N1.below H0.out y0_3; replace y0_4 := frozen_later N1.below H0.out y0_4; replace H0 : Hid (b0 < W1.heap.size) := Nat.lt_of_lt_of_le H0.out N1.below.size; replace B := below_next B N1.below; have H1 : Hid (b1 < W1.heap.size) := N1.lt; have c1_0 : W1.cell? ⟨b1, 0, none⟩ = some (.int .i64 0) := N1.cell 0 _ rfl; have c1_1 : W1.cell? ⟨b1, 1, none⟩ = some (.int .i64 0) := N1.cell 1 _ rfl; have c1_2 : W1.cell? ⟨b1, 2, none⟩ = some (.slice none 0 0) := N1.cell 2 _ rfl; have c1_3 : W1.cell? ⟨b1, 3, none⟩ = some (.slice none 0 0) := N1.cell 3 _ rfl; have y1_0 : W1.frozen? ⟨b1, 0, none⟩ = false := N1.froz 0; have y1_1 : W1.frozen? ⟨b1, 1, none⟩ = false := N1.froz 1; have y1_2 : W1.frozen? ⟨b1, 2, none⟩ = false := N1.froz 2; have y1_3 : W1.frozen? ⟨b1, 3, none⟩ = false := N1.froz 3; clear N1) | ((with_reducible refine store_box 78 b1 [.int .i64 x0, .int .i64 x1, .slice none 0 0, .slice none 0 0] (by simp) (there4 c1_0 c1_1 c1_2 c1_3 y1_0 y1_1 y1_2 y1_3) (by kernel_rfl) (by simp [Value.oneCell']) rfl rfl ?_); intro W1s S1; replace c0_0 := S1.at c0_0 (by have q1 := O1.out; omega); replace c0_1 := S1.at c0_1 (by have q1 := O1.out; omega); replace c0_2 := S1.at c0_2 (by have q1 := O1.out; omega); replace c0_3 := S1.at c0_3 (by have q1 := O1.out; omega); replace c0_4 := S1.at c0_4 (by have q1 := O1.out; omega); replace y0_0 := S1.fr y0_0; replace y0_1 := S1.fr y0_1; replace y0_2 := S1.fr y0_2; replace y0_3 := S1.fr y0_3; replace y0_4 := S1.fr y0_4; replace H0 : Hid (b0 < W1s.heap.size) := Nat.lt_of_lt_of_le H0.out S1.kept.size; replace c1_0 : W1s.cell? ⟨b1, 0, none⟩ = some (.int .i64 x0) := S1.cell 0 _ rfl; replace c1_1 : W1s.cell? ⟨b1, 1, none⟩ = some (.int .i64 x1) := S1.cell 1 _ rfl; replace c1_2 : W1s.cell? ⟨b1, 2, none⟩ = some (.slice none 0 0) := S1.cell 2 _ rfl; replace c1_3 : W1s.cell? ⟨b1, 3, none⟩ = some (.slice none 0 0) := S1.cell 3 _ rfl; replace y1_0 := S1.fr y1_0; replace y1_1 := S1.fr y1_1; replace y1_2 := S1.fr y1_2; replace y1_3 := S1.fr y1_3; replace H1 : Hid (b1 < W1s.heap.size) := Nat.lt_of_lt_of_le H1.out S1.kept.size; replace B := B.trans (S1.kept.below _ (Nat.le_trans O0.out (by have q1 := O1.out; omega)) B.size); clear S1) | fail)
      refine (l7Word_is b off k c ws _ (h.below B) 2 x2 X2.out).mono ?_
      rintro e W1s ⟨rfl, rfl⟩
      go_wp2_with fail
      refine (l1Min_is x2 300 _ (N : Int) HN2.out).mono ?_
      rintro e W1s ⟨rfl, rfl⟩
      have D0 : Hid (w.heap.size ≤ b0) := O0.out
      have D1 : Hid (b0 < b1) := O1.out
      have D2 : Hid (b1 < W1s.heap.size) := H1.out
      have DB : Hid (w.heap.size ≤ b1) := Nat.le_trans O0.out (Nat.le_of_lt O1.out)
      go_wp2
      go_loopw [5, 6] (fun at' k' wr => ∃ i a kk : Nat, i ≤ N ∧ at' = .int .i64 (a : Int) ∧ k' = .int .i64 (kk : Int) ∧ a = 3 + i ∧ kk = N - i ∧ But b1 W1s wr ∧ (∃ v, wr.cell? ⟨b1, 2, none⟩ = some v ∧ wr.ownsRow W1s.heap.size 149 3 v i (trips (rdV ws i))) ∧ wr.cell? ⟨b1, 0, none⟩ = some (.int .i64 x0) ∧ wr.cell? ⟨b1, 1, none⟩ = some (.int .i64 x1) ∧ wr.cell? ⟨b1, 3, none⟩ = some (.slice none 0 0) ∧ wr.frozen? ⟨b1, 2, none⟩ = false ∧ wr.frozen? ⟨b1, 3, none⟩ = false) (fun _ k' _ => (intOf k').toNat)
      case atStart => exact ⟨0, 3, N, Nat.zero_le _, rfl, rfl, rfl, rfl, But.refl _ _, ⟨_, c1_2, rfl, Or.inl ⟨rfl, rfl⟩⟩, c1_0, c1_1, c1_3, y1_2, y1_3⟩
      case round =>
        obtain ⟨i, a, kk, hi, rfl, rfl, ha, hkk, BU, ⟨v, g2, hown⟩, g0, g1, g3, f2, f3⟩ := hrel
        have HA : Hid _ := ha
        have HK : Hid _ := hkk
        clear ha hkk
        have BX : Below w.heap.size w wr := B.trans (BU.below DB.out B.size)
        have HSZ : Hid _ := BU.size
        by_cases hlt : 0 < kk
        · have hlk : (0 : Int) < (kk : Int) := by omega
          have hii : i < N := by have := HK.out; omega
          have HII : Hid _ := hii
          have hq := wd_word HW.out (3 + i)
          obtain ⟨q, hqq⟩ : ∃ q, wd ws (3 + i) = q := ⟨_, rfl⟩
          rw [hqq] at hq
          have HQ : Hid (wd ws a = q) := by show _ = _; rw [HA.out]; exact hqq
          have HT : Hid (rdV ws (i + 1) = rdV ws i ++ [(q / 256, q % 256, -1)]) := by show _ = _; rw [rdV_snoc, hqq]; rfl
          clear hqq hii
          have t1 : q.tdiv 256 = q / 256 := Int.tdiv_eq_ediv_of_nonneg (by omega)
          have t2 : q.tmod 256 = q % 256 := Int.tmod_eq_emod_of_nonneg (by omega)
          have u1 : IntKind.i64.wrap (q / 256) = q / 256 := wrapI_same _ (by omega)
          have u2 : IntKind.i64.wrap (q % 256) = q % 256 := wrapI_same _ (by omega)
          have wa : IntKind.i64.wrap ((a : Int) + 1) = (a : Int) + 1 := wrapI_same _ (by have := HA.out; omega)
          have wk : IntKind.i64.wrap ((kk : Int) - 1) = (kk : Int) - 1 := wrapI_same _ (by have := HK.out; omega)
          obtain ⟨ao, cap, w5, hr5, O5, B5⟩ := appV_run hown (q / 256) (q % 256) (-1) 30 (by omega) HSZ.out
          have G2 := (B5.cell (p := ⟨b1, 2, none⟩) D2.out).trans g2
          have F2 := (B5.frozen (p := ⟨b1, 2, none⟩) D2.out).trans f2
          have SS := setC_mk (v := .slice ao (i + 1) cap) G2 F2
          have M0 := SS.oth ((B5.cell (p := ⟨b1, 0, none⟩) D2.out).trans g0) (Or.inr (by decide))
          have M1 := SS.oth ((B5.cell (p := ⟨b1, 1, none⟩) D2.out).trans g1) (Or.inr (by decide))
          have M3 := SS.oth ((B5.cell (p := ⟨b1, 3, none⟩) D2.out).trans g3) (Or.inr (by decide))
          have M2 := SS.cell
          have N2 := SS.fr F2
          have N3 := SS.fr ((B5.frozen (p := ⟨b1, 3, none⟩) D2.out).trans f3)
          have O6 : (w5.setCell ⟨b1, 2, none⟩ (.slice ao (i + 1) cap)).ownsRow W1s.heap.size 149 3 (.slice ao (i + 1) cap) (i + 1) (trips (rdV ws (i + 1))) := by rw [HT.out]; exact owns_keptB O5 SS.kept (Nat.succ_le_of_lt D2.out)
          have BU6 : But b1 W1s (w5.setCell ⟨b1, 2, none⟩ (.slice ao (i + 1) cap)) := (BU.next B5).set _
          clear SS hq
          go_wp2_with fail
          refine (l7Word_is b off k c ws _ (h.below BX) a q HQ.out).mono ?_
          rintro e _ ⟨rfl, rfl⟩
          go_wp2_with (at_builtin; refine Lib.wpList_append_run _ rfl _ _ _ _ rfl _ _ rfl rfl _ _ hr5 ?_)
          clear hr5 O5 B5 hown BU BX g0 g1 g2 g3 f2 f3 HT
          try go_wp2
          go_roundw
          case rel => exact ⟨i + 1, a + 1, kk - 1, HII.out, by go_num, by rw [show ((kk - 1 : Nat) : Int) = (kk : Int) - 1 by omega], by rw [HA.out]; omega, by rw [HK.out]; omega, BU6, ⟨_, M2, O6⟩, M0, M1, M3, N2, N3⟩
          case measure => simp [intOf]; omega
        · have hlk : ¬ (0 : Int) < (kk : Int) := by omega
          obtain rfl : i = N := by have := HK.out; omega
          obtain ⟨va, vc, rfl, RV⟩ := RowAt.of_owned hown
          clear hown HK
          have ha := HA.out
          have hm := wd_word HW.out (3 + i)
          obtain ⟨x3, hx3⟩ : ∃ x, wd ws (3 + i) = x := ⟨_, rfl⟩
          rw [hx3] at hm
          obtain ⟨M, hM⟩ : ∃ M, rdM ws i 300 = M := ⟨_, rfl⟩
          have hM2 : min x3 300 = (M : Int) := by rw [← hM]; unfold rdM; rw [hx3]; omega
          have hM3 : M ≤ 300 := by rw [← hM]; unfold rdM; omega
          have X3 : Hid (wd ws a = x3) := by show _ = _; rw [ha]; exact hx3
          have HM : Hid _ := hM
          have HM2 : Hid _ := hM2
          have wa : IntKind.i64.wrap ((a : Int) + 1) = (a : Int) + 1 := wrapI_same _ (by omega)
          clear hx3 hm hM hM2 ha
          go_wp2_with fail
          refine (l7Word_is b off k c ws _ (h.below BX) a x3 X3.out).mono ?_
          rintro e wr ⟨rfl, rfl⟩
          go_wp2_with fail
          refine (l1Min_is x3 300 _ (M : Int) HM2.out).mono ?_
          rintro e W3 ⟨rfl, rfl⟩
          have D3 : Hid (b1 < W3.heap.size) := Nat.lt_of_lt_of_le D2.out HSZ.out
          go_wp2
          go_loopw [5, 8] (fun at' k' wr => ∃ j a' kk : Nat, j ≤ M ∧ at' = .int .i64 (a' : Int) ∧ k' = .int .i64 (kk : Int) ∧ a' = 4 + i + 2 * j ∧ kk = M - j ∧ But b1 W3 wr ∧ (∃ v, wr.cell? ⟨b1, 3, none⟩ = some v ∧ wr.ownsRow W3.heap.size 141 4 v j (quads (rdS ws i j))) ∧ wr.cell? ⟨b1, 0, none⟩ = some (.int .i64 x0) ∧ wr.cell? ⟨b1, 1, none⟩ = some (.int .i64 x1) ∧ wr.cell? ⟨b1, 2, none⟩ = some (.slice va i vc) ∧ wr.frozen? ⟨b1, 3, none⟩ = false) (fun _ k' _ => (intOf k').toNat)
          case atStart => exact ⟨0, a + 1, M, Nat.zero_le _, by go_num, rfl, by rw [HA.out]; omega, rfl, But.refl _ _, ⟨_, g3, rfl, Or.inl ⟨rfl, rfl⟩⟩, g0, g1, g2, f3⟩
          case round =>
            have RV3 : Hid _ := RV
            have BX3 : Hid _ := BX
            have BU3 : Hid _ := BU
            clear RV BX BU g0 g1 g2 g3 f2 f3
            obtain ⟨j, a', kk', hj, rfl, rfl, ha', hkk', BU, ⟨v, g3, hown⟩, g0, g1, g2, f3⟩ := hrel
            have HA' : Hid _ := ha'
            have HK' : Hid _ := hkk'
            clear ha' hkk'
            have BX : Below w.heap.size w wr := BX3.out.trans (BU.below DB.out BX3.out.size)
            have HS3 : Hid _ := BU.size
            by_cases hlt2 : 0 < kk'
            · have hlk2 : (0 : Int) < (kk' : Int) := by omega
              have hjj : j < M := by have := HK'.out; omega
              have HJ : Hid _ := hjj
              have hq := wd_word HW.out (4 + i + 2 * j)
              have hz := wd_word HW.out (5 + i + 2 * j)
              obtain ⟨q, hqq⟩ : ∃ q, wd ws (4 + i + 2 * j) = q := ⟨_, rfl⟩
              obtain ⟨z, hzz⟩ : ∃ q, wd ws (5 + i + 2 * j) = q := ⟨_, rfl⟩
              rw [hqq] at hq
              rw [hzz] at hz
              have HQ : Hid (wd ws a' = q) := by show _ = _; rw [HA'.out]; exact hqq
              have HZ : Hid (wd ws (a' + 1) = z) := by show _ = _; rw [HA'.out, show 4 + i + 2 * j + 1 = 5 + i + 2 * j by omega]; exact hzz
              have HT : Hid (rdS ws i (j + 1) = rdS ws i j ++ [(q % 2 == 1, q / 512, q / 2 % 256, z)]) := by show _ = _; rw [rdS_snoc, hqq, hzz]; rfl
              clear hqq hzz hjj
              have t1 : q.tmod 2 = q % 2 := Int.tmod_eq_emod_of_nonneg (by omega)
              have t2 : q.tdiv 512 = q / 512 := Int.tdiv_eq_ediv_of_nonneg (by omega)
              have t3 : q.tdiv 2 = q / 2 := Int.tdiv_eq_ediv_of_nonneg (by omega)
              have t4 : (q / 2).tmod 256 = q / 2 % 256 := Int.tmod_eq_emod_of_nonneg (by omega)
              have u1 : IntKind.i64.wrap (q % 2) = q % 2 := wrapI_same _ (by omega)
              have u2 : IntKind.i64.wrap (q / 512) = q / 512 := wrapI_same _ (by omega)
              have u3 : IntKind.i64.wrap (q / 2) = q / 2 := wrapI_same _ (by omega)
              have u4 : IntKind.i64.wrap (q / 2 % 256) = q / 2 % 256 := wrapI_same _ (by omega)
              have wa1 : IntKind.i64.wrap ((a' : Int) + 1) = ((a' + 1 : Nat) : Int) := by rw [show ((a' + 1 : Nat) : Int) = (a' : Int) + 1 by omega]; exact wrapI_same _ (by have := HA'.out; omega)
              have wa2 : IntKind.i64.wrap ((a' : Int) + 2) = (a' : Int) + 2 := wrapI_same _ (by have := HA'.out; omega)
              have wk : IntKind.i64.wrap ((kk' : Int) - 1) = (kk' : Int) - 1 := wrapI_same _ (by have := HK'.out; omega)
              clear hq hz
              go_wp2_with fail
              refine (l7Word_is b off k c ws _ (h.below BX) a' q HQ.out).mono ?_
              rintro e wr ⟨rfl, rfl⟩
              have D : Below wr.heap.size wr wr.drew := (Below.refl _ _).drew
              replace BX := below_next BX D
              replace BU := BU.next (D.mono HS3.out)
              replace hown := owns_below hown D
              replace g0 := cell_later D g0
              replace g1 := cell_later D g1
              replace g2 := cell_later D g2
              replace g3 := cell_later D g3
              replace f3 := frozen_later D (Nat.lt_of_lt_of_le D3.out HS3.out) f3
              clear D
              have HS4 : Hid (W3.heap.size ≤ wr.drew.heap.size) := HS3.out
              go_wp2_with fail
              obtain ⟨ao, cap, w5, hr5, O5, B5⟩ := appS_run hown (q % 2 == 1) (q / 512) (q / 2 % 256) z 76 (by omega) HS4.out
              have G3 := (B5.cell (p := ⟨b1, 3, none⟩) D3.out).trans g3
              have F3 := (B5.frozen (p := ⟨b1, 3, none⟩) D3.out).trans f3
              have ga : (wr.drew.alloc (.cells #[.bool (q % 2 == 1), .int .i64 (q / 512), .int .i64 (q / 2 % 256), .int .i64 z] 141)).cell? ⟨b1, 3, none⟩ = some v := cell_later ((Below.refl _ _).alloc (Nat.le_refl _) _) g3
              have gb : (wr.alloc (.cells #[.bool (q % 2 == 1), .int .i64 (q / 512), .int .i64 (q / 2 % 256), .int .i64 z] 141)).drew.cell? ⟨b1, 3, none⟩ = some v := ga
              go_region_law (first | (refine step_append_run rfl _ _ _ _ rfl _ _ rfl rfl _ _ hr5 ?_) | (go_simp; go_at_call 123; refine (l7Word_is b off k c ws _ (h.below BX) (a' + 1) z HZ.out).mono ?_; rintro e _ ⟨rfl, rfl⟩))
              all_goals
                have SS := setC_mk (v := .slice ao (j + 1) cap) G3 F3
                have M0 := SS.oth ((B5.cell (p := ⟨b1, 0, none⟩) D3.out).trans g0) (Or.inr (by decide))
                have M1 := SS.oth ((B5.cell (p := ⟨b1, 1, none⟩) D3.out).trans g1) (Or.inr (by decide))
                have M2 := SS.oth ((B5.cell (p := ⟨b1, 2, none⟩) D3.out).trans g2) (Or.inr (by decide))
                have M3 := SS.cell
                have N3 := SS.fr F3
                have O6 : (w5.setCell ⟨b1, 3, none⟩ (.slice ao (j + 1) cap)).ownsRow W3.heap.size 141 4 (.slice ao (j + 1) cap) (j + 1) (quads (rdS ws i (j + 1))) := by rw [HT.out]; exact owns_keptB O5 SS.kept (Nat.succ_le_of_lt D3.out)
                have BU6 : But b1 W3 (w5.setCell ⟨b1, 3, none⟩ (.slice ao (j + 1) cap)) := (BU.next B5).set _
                clear ga gb
                clear SS hr5 O5 B5 hown BU BX g0 g1 g2 g3 f3 G3 F3 HT
                go_wp2
                go_roundw
                case rel => exact ⟨j + 1, a' + 2, kk' - 1, HJ.out, by rw [show ((a' + 2 : Nat) : Int) = (a' : Int) + 2 by omega], by rw [show ((kk' - 1 : Nat) : Int) = (kk' : Int) - 1 by omega], by rw [HA'.out]; omega, by rw [HK'.out]; omega, BU6, ⟨_, M3, O6⟩, M0, M1, M2, N3⟩
                case measure => simp [intOf]; omega
            · have hlk2 : ¬ (0 : Int) < (kk' : Int) := by omega
              obtain rfl : j = M := by have := HK'.out; omega
              obtain ⟨sa, sc, rfl, RS⟩ := RowAt.of_owned hown
              have RV4 : RowAt wr true W1s.heap.size W3.heap.size 3 va i vc (trips (rdV ws i)) := BU.row RV3.out (Or.inr D2.out)
              have DA : DeAt wr true W1s.heap.size wr.heap.size va i vc sa j sc (rdV ws i) (rdS ws i j) := ⟨RV4.widen (Nat.le_refl _) BU.size, RS.widen HSZ.out (Nat.le_refl _)⟩
              have z0 := cell_of_but BU (cell_of_but BU3.out c0_0 (Nat.ne_of_lt D1.out)) (Nat.ne_of_lt D1.out)
              have v0 := frozen_of_but BU (Nat.lt_of_lt_of_le (Nat.lt_trans D1.out D2.out) HSZ.out) (frozen_of_but BU3.out (Nat.lt_trans D1.out D2.out) y0_0 (Nat.ne_of_lt D1.out)) (Nat.ne_of_lt D1.out)
              have z1 := cell_of_but BU (cell_of_but BU3.out c0_1 (Nat.ne_of_lt D1.out)) (Nat.ne_of_lt D1.out)
              have v1 := frozen_of_but BU (Nat.lt_of_lt_of_le (Nat.lt_trans D1.out D2.out) HSZ.out) (frozen_of_but BU3.out (Nat.lt_trans D1.out D2.out) y0_1 (Nat.ne_of_lt D1.out)) (Nat.ne_of_lt D1.out)
              have z2 := cell_of_but BU (cell_of_but BU3.out c0_2 (Nat.ne_of_lt D1.out)) (Nat.ne_of_lt D1.out)
              have v2 := frozen_of_but BU (Nat.lt_of_lt_of_le (Nat.lt_trans D1.out D2.out) HSZ.out) (frozen_of_but BU3.out (Nat.lt_trans D1.out D2.out) y0_2 (Nat.ne_of_lt D1.out)) (Nat.ne_of_lt D1.out)
              have z3 := cell_of_but BU (cell_of_but BU3.out c0_3 (Nat.ne_of_lt D1.out)) (Nat.ne_of_lt D1.out)
              have v3 := frozen_of_but BU (Nat.lt_of_lt_of_le (Nat.lt_trans D1.out D2.out) HSZ.out) (frozen_of_but BU3.out (Nat.lt_trans D1.out D2.out) y0_3 (Nat.ne_of_lt D1.out)) (Nat.ne_of_lt D1.out)
              have z4 := cell_of_but BU (cell_of_but BU3.out c0_4 (Nat.ne_of_lt D1.out)) (Nat.ne_of_lt D1.out)
              have v4 := frozen_of_but BU (Nat.lt_of_lt_of_le (Nat.lt_trans D1.out D2.out) HSZ.out) (frozen_of_but BU3.out (Nat.lt_trans D1.out D2.out) y0_4 (Nat.ne_of_lt D1.out)) (Nat.ne_of_lt D1.out)
              have HB0 : Hid (b0 < wr.heap.size) := Nat.lt_of_lt_of_le (Nat.lt_of_lt_of_le (Nat.lt_trans D1.out D2.out) HSZ.out) BU.size
              have HOK : Hid (okD ws 300 300 = okD ws 6 120) := okD_same HW.out
              have HCC : Hid (cd = if okD ws 300 300 then 0 else 5) := by show _ = _; rw [HOK.out, ← HC.out]; unfold unC; rw [if_neg (by omega), if_pos HW.out]
              obtain ⟨df, hdf⟩ : ∃ d, deFault x0 x1 (rdV ws i) (rdS ws i j) = d := ⟨_, rfl⟩
              have HDF : Hid _ := hdf
              clear hdf
              have HOD : Hid (okD ws 300 300 = (decide (df = 0) && decide (packW x0 x1 (rdV ws i) (rdS ws i j) = ws))) := by show _ = _; unfold okD; rw [HN.out, HM.out, X0.out, X1.out, HDF.out]
              have HWR : Hid (W3.heap.size ≤ wr.heap.size) := BU.size
              have HRw0 : Hid (wr.heap.size ≤ wr.heap.size) := Nat.le_refl _
              have D30 : Hid (W1s.heap.size ≤ W3.heap.size) := HSZ.out
              have DW1 : Hid (w.heap.size ≤ W1s.heap.size) := Nat.le_trans DB.out (Nat.le_of_lt D2.out)
              clear hown BU
              go_wp2_with fail
              refine (specDF_is x0 x1 va i vc sa j sc (rdV ws i) (rdS ws i j) _ DA (by omega) (by omega) df HDF.out).mono ?_
              rintro e w6 ⟨rfl, BB⟩
              replace z0 := cell_later BB z0
              replace v0 := frozen_later BB HB0.out v0
              replace z1 := cell_later BB z1
              replace v1 := frozen_later BB HB0.out v1
              replace z2 := cell_later BB z2
              replace v2 := frozen_later BB HB0.out v2
              replace z3 := cell_later BB z3
              replace v3 := frozen_later BB HB0.out v3
              replace z4 := cell_later BB z4
              replace v4 := frozen_later BB HB0.out v4
              replace g0 := cell_later BB g0
              replace g1 := cell_later BB g1
              replace g2 := cell_later BB g2
              replace g3 := cell_later BB g3
              replace HB0 : Hid (b0 < w6.heap.size) := Nat.lt_of_lt_of_le HB0.out BB.size
              replace DA := DA.below BB
              replace RV4 := RV4.below BB
              replace RS := RS.below BB
              replace BX := below_next BX BB
              have HWw6 : Hid (W3.heap.size ≤ w6.heap.size) := Nat.le_trans HWR.out BB.size
              have HRw6 : Hid (wr.heap.size ≤ w6.heap.size) := Nat.le_trans HRw0.out BB.size
              clear BB
              by_cases hd0 : df = 0
              rotate_left 1
              · have hz : (df != 0) = true := by simp [hd0]
                have HO : okD ws 300 300 = false := by rw [HOD.out, decide_eq_false hd0]; rfl
                have e0 : cd = 5 := by rw [HCC.out, HO]; rfl
                have e1 : fr = 0 := by rw [← HF.out]; unfold unFr; rw [HC.out, e0]; rfl
                have e2 : tt = 0 := by rw [← HG.out]; unfold unTo; rw [HC.out, e0]; rfl
                have e3 : vs = [] := by rw [← HV.out]; unfold unVs; rw [HC.out, e0]; rfl
                have e4 : ss = [] := by rw [← HS.out]; unfold unSs; rw [HC.out, e0]; rfl
                clear HO
                subst e0 e1 e2 e3 e4
                go_wp2
                refine bodyPost_ret (v := .agg #[.int .i64 5, .int .i64 0, .int .i64 0, .slice none 0 0, .slice none 0 0]) (by simp [results, Try.results55, go_sem, z0, z1, z2, z3, z4]) rfl ?_
                have KZ : Kept b0 (b0 + 1) w6 (((((w6.setCell ⟨b0, 0, none⟩ (.int .i64 5)).setCell ⟨b0, 1, none⟩ (.int .i64 0)).setCell ⟨b0, 2, none⟩ (.int .i64 0)).setCell ⟨b0, 3, none⟩ (.slice none 0 0)).setCell ⟨b0, 4, none⟩ (.slice none 0 0)) := by refine Kept.setCell (Kept.setCell (Kept.setCell (Kept.setCell (Kept.setCell (Kept.refl _ _ _) ?_ ?_ _) ?_ ?_ _) ?_ ?_ _) ?_ ?_ _) ?_ ?_ _ <;> simp
                have s := KZ.size
                exact ⟨_, _, _, _, _, _, _, rfl, RowAt.nil _ _ _ _ _, RowAt.nil _ _ _ _ _, Nat.le_refl _, Nat.le_trans BX.size s, BX.trans (KZ.below _ D0.out BX.size)⟩
              have hz : (df != 0) = false := by simp [hd0]
              have OK := de_ok (HDF.out.trans hd0)
              have o3 := volSm_of OK.2.2.2.2.1
              have o4 := stSm_of OK.2.2.2.2.2
              have O3 : Hid _ := o3
              have O4 : Hid _ := o4
              clear OK o3 o4
              obtain ⟨dd, hdd⟩ : ∃ d, decide (packW x0 x1 (rdV ws i) (rdS ws i j) = ws) = d := ⟨_, rfl⟩
              have HDD : Hid _ := hdd
              clear hdd
              go_wp2_with fail
              refine (l7Pack_is x0 x1 va i vc sa j sc (rdV ws i) (rdS ws i j) _ DA (by omega) (by omega) O3.out O4.out).mono ?_
              rintro e w7 ⟨pa, pn, pc, rfl, RP, BB⟩
              replace z0 := cell_later BB z0
              replace v0 := frozen_later BB HB0.out v0
              replace z1 := cell_later BB z1
              replace v1 := frozen_later BB HB0.out v1
              replace z2 := cell_later BB z2
              replace v2 := frozen_later BB HB0.out v2
              replace z3 := cell_later BB z3
              replace v3 := frozen_later BB HB0.out v3
              replace z4 := cell_later BB z4
              replace v4 := frozen_later BB HB0.out v4
              replace g0 := cell_later BB g0
              replace g1 := cell_later BB g1
              replace g2 := cell_later BB g2
              replace g3 := cell_later BB g3
              replace HB0 : Hid (b0 < w7.heap.size) := Nat.lt_of_lt_of_le HB0.out BB.size
              replace DA := DA.below BB
              replace RV4 := RV4.below BB
              replace RS := RS.below BB
              replace BX := below_next BX BB
              have HWw7 : Hid (W3.heap.size ≤ w7.heap.size) := Nat.le_trans HWw6.out BB.size
              have HRw7 : Hid (wr.heap.size ≤ w7.heap.size) := Nat.le_trans HRw6.out BB.size
              clear BB
              have hpl : pn ≤ 2097152 := by rw [← RP.nInts, packW_len, rdV_len, rdS_len]; omega
              go_wp2_with fail
              refine (numsEq_s pa pn pc (some ⟨b, off, none⟩) k c (packW x0 x1 (rdV ws i) (rdS ws i j)) ws _ RP (h.below BX) hpl (by omega) dd HDD.out).mono ?_
              rintro e w8 ⟨rfl, BB⟩
              clear RP
              replace z0 := cell_later BB z0
              replace v0 := frozen_later BB HB0.out v0
              replace z1 := cell_later BB z1
              replace v1 := frozen_later BB HB0.out v1
              replace z2 := cell_later BB z2
              replace v2 := frozen_later BB HB0.out v2
              replace z3 := cell_later BB z3
              replace v3 := frozen_later BB HB0.out v3
              replace z4 := cell_later BB z4
              replace v4 := frozen_later BB HB0.out v4
              replace g0 := cell_later BB g0
              replace g1 := cell_later BB g1
              replace g2 := cell_later BB g2
              replace g3 := cell_later BB g3
              replace HB0 : Hid (b0 < w8.heap.size) := Nat.lt_of_lt_of_le HB0.out BB.size
              replace DA := DA.below BB
              replace RV4 := RV4.below BB
              replace RS := RS.below BB
              replace BX := below_next BX BB
              have HWw8 : Hid (W3.heap.size ≤ w8.heap.size) := Nat.le_trans HWw7.out BB.size
              have HRw8 : Hid (wr.heap.size ≤ w8.heap.size) := Nat.le_trans HRw7.out BB.size
              clear BB
              cases dd with
              | false =>
                have HO : okD ws 300 300 = false := by rw [HOD.out, HDD.out, decide_eq_true hd0]; rfl
                have e0 : cd = 5 := by rw [HCC.out, HO]; rfl
                have e1 : fr = 0 := by rw [← HF.out]; unfold unFr; rw [HC.out, e0]; rfl
                have e2 : tt = 0 := by rw [← HG.out]; unfold unTo; rw [HC.out, e0]; rfl
                have e3 : vs = [] := by rw [← HV.out]; unfold unVs; rw [HC.out, e0]; rfl
                have e4 : ss = [] := by rw [← HS.out]; unfold unSs; rw [HC.out, e0]; rfl
                clear HO
                subst e0 e1 e2 e3 e4
                go_wp2
                refine bodyPost_ret (v := .agg #[.int .i64 5, .int .i64 0, .int .i64 0, .slice none 0 0, .slice none 0 0]) (by simp [results, Try.results55, go_sem, z0, z1, z2, z3, z4]) rfl ?_
                have KZ : Kept b0 (b0 + 1) w8 (((((w8.setCell ⟨b0, 0, none⟩ (.int .i64 5)).setCell ⟨b0, 1, none⟩ (.int .i64 0)).setCell ⟨b0, 2, none⟩ (.int .i64 0)).setCell ⟨b0, 3, none⟩ (.slice none 0 0)).setCell ⟨b0, 4, none⟩ (.slice none 0 0)) := by refine Kept.setCell (Kept.setCell (Kept.setCell (Kept.setCell (Kept.setCell (Kept.refl _ _ _) ?_ ?_ _) ?_ ?_ _) ?_ ?_ _) ?_ ?_ _) ?_ ?_ _ <;> simp
                have s := KZ.size
                exact ⟨_, _, _, _, _, _, _, rfl, RowAt.nil _ _ _ _ _, RowAt.nil _ _ _ _ _, Nat.le_refl _, Nat.le_trans BX.size s, BX.trans (KZ.below _ D0.out BX.size)⟩
              | true =>
                have HO : okD ws 300 300 = true := by rw [HOD.out, HDD.out, decide_eq_true hd0]; rfl
                have hrd := okD_read (HOK.out.symm.trans HO)
                have e0 : cd = 0 := by rw [HCC.out, HO]; rfl
                have n6 : rdN ws 6 = i := by rw [← hrd.1]; exact HN.out
                have m6 : rdM ws i 120 = j := by have := hrd.2; rw [n6] at this; rw [← this]; exact HM.out
                have e1 : fr = x0 := by rw [← HF.out]; unfold unFr; rw [HC.out, e0, if_pos rfl]; exact X0.out
                have e2 : tt = x1 := by rw [← HG.out]; unfold unTo; rw [HC.out, e0, if_pos rfl]; exact X1.out
                have e3 : vs = rdV ws i := by rw [← HV.out]; unfold unVs; rw [HC.out, e0, if_pos rfl, n6]
                have e4 : ss = rdS ws i j := by rw [← HS.out]; unfold unSs; rw [HC.out, e0, if_pos rfl, n6, m6]
                have E3 : Hid _ := e3
                have E4 : Hid _ := e4
                clear HO hrd n6 m6 e3 e4
                subst e0 e1 e2
                go_wp2
                refine bodyPost_ret (v := .agg #[.int .i64 0, .int .i64 fr, .int .i64 tt, .slice va i vc, .slice sa j sc]) (by simp [results, Try.results55, go_sem, z0, z1, z2, z3, z4]) rfl ?_
                have KZ : Kept b0 (b0 + 1) w8 (((((w8.setCell ⟨b0, 0, none⟩ (.int .i64 0)).setCell ⟨b0, 1, none⟩ (.int .i64 fr)).setCell ⟨b0, 2, none⟩ (.int .i64 tt)).setCell ⟨b0, 3, none⟩ (.slice va i vc)).setCell ⟨b0, 4, none⟩ (.slice sa j sc)) := by refine Kept.setCell (Kept.setCell (Kept.setCell (Kept.setCell (Kept.setCell (Kept.refl _ _ _) ?_ ?_ _) ?_ ?_ _) ?_ ?_ _) ?_ ?_ _) ?_ ?_ _ <;> simp
                have s := KZ.size
                have q0 := D0.out
                have q1 := D1.out
                have q2 := D2.out
                exact ⟨_, _, _, _, _, _, W3.heap.size, rfl, by rw [E3.out]; exact (RV4.kept KZ (Or.inr (by omega))).widen DW1.out (Nat.le_refl _), by rw [E4.out]; exact (RS.kept KZ (Or.inr (by have := D30.out; omega))).widen (Nat.le_refl _) (Nat.le_trans HRw8.out s), Nat.le_trans DW1.out D30.out, Nat.le_trans HWw8.out s, BX.trans (KZ.below _ D0.out BX.size)⟩

end Go.Proofs.Ytcbfmjanjciodaa
