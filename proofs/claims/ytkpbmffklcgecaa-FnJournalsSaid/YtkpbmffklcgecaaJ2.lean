/- Chapter 2: what the model's scan of a journal answers. -/
import Derived.Test.YtkpbmffklcgecaaJ1
import Derived.Test.YtkpbmffklcgecaaJ0b
import Derived.Maps.AppendAt
namespace Go.Proofs.Ytkpbmffklcgecaa
open Go.RowKit

/-- records that lie in memory: their slices are the cells vs -/
structure RecsAt (w : World) (lo : Nat) (vs : List Value) (rs : List (List Int)) : Prop where
  len : vs.length = rs.length
  each : ∀ i, i < rs.length → ∃ (a : Option Addr) (n c l u : Nat), vs.getD i default = .slice a n c ∧ lo ≤ l ∧ u ≤ w.heap.size ∧ RowAt w true l u 1 a n c (ints (rs.getD i []))
theorem RecsAt.kept {w w' : World} {lo : Nat} {vs : List Value} {rs : List (List Int)} (h : RecsAt w lo vs rs) {x y : Nat} (hk : Kept x y w w') (hd : y ≤ lo ∨ w.heap.size ≤ x) : RecsAt w' lo vs rs := by
  refine ⟨h.len, fun i hi => ?_⟩
  obtain ⟨a, n, c, l, u, h1, h0, h2, h3⟩ := h.each i hi
  exact ⟨a, n, c, l, u, h1, h0, Nat.le_trans h2 hk.size, h3.kept hk (by omega)⟩
theorem RecsAt.below {w w' : World} {lo : Nat} {vs : List Value} {rs : List (List Int)} (h : RecsAt w lo vs rs) (hb : Below w.heap.size w w') : RecsAt w' lo vs rs :=
  h.kept (x := w.heap.size) (y := w.heap.size) (Kept.of_below hb) (Or.inr (Nat.le_refl _))
theorem RecsAt.widen {w : World} {lo lo' : Nat} {vs : List Value} {rs : List (List Int)} (h : RecsAt w lo vs rs) (hl : lo' ≤ lo) : RecsAt w lo' vs rs := by
  refine ⟨h.len, fun i hi => ?_⟩
  obtain ⟨a, n, c, l, u, h1, h0, h2, h3⟩ := h.each i hi
  exact ⟨a, n, c, l, u, h1, Nat.le_trans hl h0, h2, h3⟩
theorem RecsAt.nil (w : World) (lo : Nat) : RecsAt w lo [] [] := ⟨rfl, fun _ h => absurd h (by simp)⟩
/-- .. while they are gathered: none of them lies in the block b -/
structure RecsBut (w : World) (lo : Nat) (b : Option Nat) (vs : List Value) (rs : List (List Int)) : Prop where
  len : vs.length = rs.length
  each : ∀ i, i < rs.length → ∃ (g n c : Nat), vs.getD i default = .slice (some ⟨g, 0, none⟩) n c ∧ b ≠ some g ∧ lo ≤ g ∧ g < w.heap.size ∧ RowAt w true g (g + 1) 1 (some ⟨g, 0, none⟩) n c (ints (rs.getD i []))
theorem RecsBut.at {w : World} {lo : Nat} {b : Option Nat} {vs : List Value} {rs : List (List Int)} (h : RecsBut w lo b vs rs) : RecsAt w lo vs rs := by
  refine ⟨h.len, fun i hi => ?_⟩
  obtain ⟨g, n, c, h1, h2, h0, h3, h4⟩ := h.each i hi
  exact ⟨_, n, c, _, _, h1, h0, h3, h4⟩
theorem RecsBut.below {w w' : World} {lo : Nat} {b : Option Nat} {vs : List Value} {rs : List (List Int)} (h : RecsBut w lo b vs rs) (hb : Below w.heap.size w w') : RecsBut w' lo b vs rs := by
  refine ⟨h.len, fun i hi => ?_⟩
  obtain ⟨g, n, c, h1, h2, h0, h3, h4⟩ := h.each i hi
  exact ⟨g, n, c, h1, h2, h0, Nat.lt_of_lt_of_le h3 hb.size, h4.below hb⟩
theorem RecsBut.snoc {w : World} {lo : Nat} {b : Option Nat} {vs : List Value} {rs : List (List Int)} (h : RecsBut w lo b vs rs) {g n c : Nat} {r : List Int} (hb : b ≠ some g) (h0 : lo ≤ g) (hg : g < w.heap.size) (hr : RowAt w true g (g + 1) 1 (some ⟨g, 0, none⟩) n c (ints r)) : RecsBut w lo b (vs ++ [.slice (some ⟨g, 0, none⟩) n c]) (rs ++ [r]) := by
  refine ⟨by simp [h.len], fun i hi => ?_⟩
  by_cases hlt : i < rs.length
  · obtain ⟨g', n', c', h1, h2, h0, h3, h4⟩ := h.each i hlt
    refine ⟨g', n', c', ?_, h2, h0, h3, ?_⟩
    · rw [← h1]; simp [List.getD, List.getElem?_append_left, h.len, hlt]
    · rw [show (rs ++ [r]).getD i [] = rs.getD i [] by simp [List.getD, List.getElem?_append_left, hlt]]; exact h4
  · have e : i = rs.length := by simp at hi; omega
    subst e
    refine ⟨g, n, c, ?_, hb, h0, hg, ?_⟩
    · simp [List.getD, ← h.len]
    · simpa [List.getD] using hr
/-- the gathering slice has grown, in its own block b or into a new one -/
theorem RecsBut.grown {w w' : World} {lo : Nat} {b b' : Option Nat} {vs : List Value} {rs : List (List Int)} (h : RecsBut w lo b vs rs) (hg : w.grownBy w' b) (hb : b' = b ∨ b' = some w.heap.size) : RecsBut w' lo b' vs rs := by
  refine ⟨h.len, fun i hi => ?_⟩
  obtain ⟨g, n, c, h1, h2, h0, h3, h4⟩ := h.each i hi
  refine ⟨g, n, c, h1, ?_, h0, Nat.lt_of_lt_of_le h3 hg.size, ?_⟩
  · rcases hb with rfl | rfl
    · exact h2
    · intro e; injection e with e; omega
  · refine ⟨h4.len, h4.le, fun hn => ?_⟩
    obtain ⟨b1, off, e, g1, g2, g3, g4, g5⟩ := h4.cells hn
    have hbl : w'.heap[b1]? = w.heap[b1]? := hg.block b1 g3 (fun e' => h2 (by rw [← e']; congr 1; omega))
    refine ⟨b1, off, e, g1, g2, Nat.lt_of_lt_of_le g3 hg.size, fun i hi => ?_, fun ho i hi => ?_⟩
    · rw [World.cell?_of_block (w := w) (a := ⟨b1, off + i, none⟩) hbl]; exact g4 i hi
    · rw [World.frozen?_of_block (w := w) (a := ⟨b1, off + i, none⟩) hbl]; exact g5 ho i hi

theorem RowAt.sub {w : World} {o : Bool} {l u b off n cap : Nat} {xs : List Int} (h : RowAt w o l u 1 (some ⟨b, off, none⟩) n cap (ints xs)) {i m c : Nat} (hi : i + m ≤ n) (hc : m ≤ c) : RowAt w o l u 1 (some ⟨b, off + i, none⟩) m c (ints ((xs.drop i).take m)) := by
  have hl := h.nInts
  refine ⟨by rw [ints_length]; simp; omega, hc, fun hm => ?_⟩
  obtain ⟨b1, off1, e, g1, g2, g3, g4, g5⟩ := h.cells (by omega)
  cases e
  refine ⟨b, off + i, rfl, g1, g2, g3, fun j hj => ?_, fun ho j hj => ?_⟩
  · rw [Nat.add_assoc, g4 (i + j) (by omega), ints_getD _ _ (by omega), ints_getD _ _ (by simp; omega)]
    congr 1
    simp [List.getD, show j < m by omega]
  · rw [Nat.add_assoc]; exact g5 ho (i + j) (by omega)

theorem l1In_is (x a b : Int) (w : World) (d : Bool) (h : decide (a ≤ x ∧ x ≤ b) = d) : Calls Try.prog 114 #[.int .i64 x, .int .i64 a, .int .i64 b] w fun e w' => e = .returned (.bool d) ∧ w' = w := by rw [← h]; exact l1In_any x a b w
theorem Try.infoInts : (Try.prog.info? 24).map (fun i => (i.zero, i.size, i.bytes)) = some (some (.slice none 0 0), 1, 24) := by kernel_rfl

/-- what a scan answers: the records, and how many words they take -/
def ScanRes (w w' : World) (e : Ending) (rs : List (List Int)) (used : Nat) : Prop :=
  ∃ a n c vs, e = .returned (.tuple #[.slice a n c, .int .i64 (used : Int)]) ∧ n = rs.length ∧ RowAt w' true w.heap.size w'.heap.size 1 a n c vs ∧ RecsAt w' w.heap.size vs rs ∧ Below w.heap.size w w'
set_option maxRecDepth 20000 in
set_option maxHeartbeats 2000000 in
theorem l2Scan_any {o : Bool} {l u : Nat} (ao : Option Addr) (cap : Nat) (xs : List Int) (w : World) (h : RowAt w o l u 1 ao 64 cap (ints xs)) :
    Calls Try.prog 100 #[.slice ao 64 cap] w fun e w' => ScanRes w w' e (scanOf xs).1 (scanOf xs).2 := by
  have hl := h.nInts
  have hcap := h.le
  obtain ⟨i0, hi0, hz0, hz1, hz2⟩ := info_parts Try.info2'
  obtain ⟨j0, hj0, hy0, hy1, hy2⟩ := info_parts Try.infoInts
  obtain ⟨b, off, rfl, _, _, hb64, _, _⟩ := h.int (k := 0) (by omega)
  go_enter Try.func100, Try.ntmps100
  go_wp2
  go_loopw [4, 5] (fun v i wr => ∃ (k f : Nat) (out : List (List Int)) (vs : List Value), k ≤ 64 ∧ i = .int .i64 k ∧ out.length ≤ k ∧ scanOf xs = scanGo xs f k out ∧ 64 ≤ k + f ∧ wr.ownsRow w.heap.size 24 1 v out.length vs ∧ RecsBut wr w.heap.size v.ownBlock vs out ∧ Below w.heap.size w wr) (fun _ i _ => 64 - (intOf i).toNat)
  case atStart => exact ⟨0, 64, [], [], by omega, rfl, by simp, by rw [scanOf, hl], by omega, World.ownsRow_lit w #[] 0 (Nat.le_refl _) (Nat.zero_le _) rfl, ⟨rfl, fun i hi => absurd hi (by simp)⟩, (Below.refl _ _).alloc (Nat.le_refl _) _⟩
  case round =>
    obtain ⟨k, f, out, vs, hk, rfl, hok, hsc, hf, hown, hrec, hb⟩ := hrel
    have HSC : Hid _ := hsc
    have HREC : Hid _ := hrec
    clear hsc hrec
    by_cases h1 : k + 2 < 64
    · have h1i : (k : Int) + 2 < 64 := by omega
      have R := h.below hb
      obtain ⟨b', off', e', _, _, _, c0, _⟩ := R.int (k := k) (by omega)
      cases e'
      by_cases hx : 1 ≤ xs.getD k 0 ∧ xs.getD k 0 ≤ 8
      rotate_left 1
      · have HE : Hid (scanOf xs = (out, k)) := HSC.out.trans (scanGo_end (by rw [recAt, if_neg (by omega)]) f)
        have HD : Hid _ := decide_eq_false hx
        obtain ⟨ao', cap', rfl, RO⟩ := RowAt.of_owned hown
        clear HSC hx
        generalize xs.getD k 0 = x at *
        go_wp2_with fail
        refine (l1In_is x 1 8 _ false HD.out).mono ?_
        rintro e w1 ⟨rfl, rfl⟩
        go_wp2
        go_ret2
        exact ⟨ao', _, cap', vs, by rw [HE.out]; rfl, by rw [HE.out], RO, by rw [HE.out]; exact HREC.out.at, hb⟩
      obtain ⟨m, hm⟩ : ∃ m : Nat, xs.getD k 0 = m := ⟨(xs.getD k 0).toNat, by omega⟩
      rw [hm] at hx c0
      have HD : Hid _ := decide_eq_true hx
      by_cases hfar : 64 < k + 2 + m
      · have HE : Hid (scanOf xs = (out, k)) := HSC.out.trans (scanGo_end (by rw [recAt, hm, if_neg (by omega)]) f)
        obtain ⟨ao', cap', rfl, RO⟩ := RowAt.of_owned hown
        have hfi : (64 : Int) < k + 2 + m := by omega
        have hm8 : m ≤ 8 := by omega
        clear HSC hx hfar hm
        go_wp2_with fail
        refine (l1In_is m 1 8 _ true HD.out).mono ?_
        rintro e w1 ⟨rfl, rfl⟩
        go_wp2
        go_ret2
        exact ⟨ao', _, cap', vs, by rw [HE.out]; rfl, by rw [HE.out], RO, by rw [HE.out]; exact HREC.out.at, hb⟩
      have hfi : ¬ (64 : Int) < k + 2 + m := by omega
      obtain ⟨aoO, capO, rfl, RO⟩ := RowAt.of_owned hown
      clear RO
      have hm0 : m ≠ 0 := by omega
      have hm8 : m ≤ 8 := by omega
      have hwb := hb.size
      have R2 := R.sub (i := k + 2) (m := m) (c := cap - (k + 2)) (by omega) (by omega)
      have hown0 : (wr.alloc (.cells #[] 2)).ownsRow wr.heap.size 2 1 (.slice (some ⟨wr.heap.size, 0, none⟩) 0 0) 0 [] := World.ownsRow_lit wr #[] 0 (Nat.le_refl _) (Nat.zero_le _) rfl
      have B1 : Below wr.heap.size wr (wr.alloc (.cells #[] 2)) := (Below.refl _ _).alloc (Nat.le_refl _) _
      have R3 := R2.below B1
      go_wp2_with fail
      refine (l1In_is m 1 8 _ true HD.out).mono ?_
      rintro e w1 ⟨rfl, rfl⟩
      have q1 : (0 : Int) ≤ (k : Int) + 2 := by omega
      have q2 : (k : Int) + 2 ≤ k + 2 + m := by omega
      have q3 : (k : Int) + 2 + m ≤ cap := by omega
      have hmm : k + 2 + m - (k + 2) = m := by omega
      go_wp2_with (first | (at_builtin; refine wpList_append_own_at _ rfl _ _ 24 rfl w1.heap.size 2 i0 (.int .i64 0) 1 8 Try.underlying24 hi0 hz0 hz1 hz2 rfl (by decide) _ _ _ rfl hown0 ⟨b, off + (k + 2), none⟩ (k + 2 + m - (k + 2)) (cap - (k + 2)) (ints ((xs.drop (k + 2)).take m)) rfl ?c0 ?c1 ?c2 ?c3 ?c4 ?c5 ?_))
      case c0 => rw [hmm]; exact R3.len
      case c1 => exact R3.news hm0
      case c2 => exact ints_cell _
      case c3 => rw [hmm]; unfold maxLen; omega
      case c4 => rw [hmm]; omega
      case c5 => simp
      intro v1 w2 hown1 hgrow1 _ _
      have B2 : Below w1.heap.size w1 w2 := B1.grown hgrow1 (by simp) (fun g hg => (hown0.lt g hg).1)
      obtain ⟨g1, cap1, rfl, hg1, hg1', RR⟩ := own_block hown1 hm0
      have hg0 : w.heap.size ≤ g1 := Nat.le_trans hb.size hg1
      have hne : (Value.slice aoO out.length capO).ownBlock ≠ some g1 := fun e => by have := (hown.lt g1 e).2; omega
      have hok2 := owns_below hown B2
      have HREC2 : Hid _ := HREC.out.below B2
      have hb2 := below_next hb B2
      have c1 : w2.cell? ⟨b, off + (k + 1), none⟩ = some (.int .i64 (xs.getD (k + 1) 0)) := by
        obtain ⟨_, _, e', _, _, _, c1, _⟩ := (R.below B2).int (k := k + 1) (by omega)
        cases e'; exact c1
      clear hown0 hown1 hgrow1 B1 R3 R2 R hown HREC hb c0
      have hsum := sumOf_bd (((out.length : Nat) : Int) :: (xs.drop (k + 2)).take m)
      have D : Below w2.heap.size w2 w2.drew := (Below.refl _ _).drew
      replace RR := RR.below D
      replace hok2 := owns_below hok2 D
      replace HREC2 : Hid _ := HREC2.out.below D
      replace hb2 := below_next hb2 D
      replace c1 := cell_later D c1
      have hg2 : g1 < w2.drew.heap.size := by simpa using hg1'
      have hB2 : w1.heap.size ≤ w2.drew.heap.size := by simpa using B2.size
      clear D B2 hg1'
      have q4 : (k : Int) + 1 < 64 := by omega
      have q5 : (0 : Int) ≤ (k : Int) + 1 := by omega
      have q6 : (k : Int) < 63 := by omega
      have q7 : k + 1 < 64 := by omega
      have q8 : ((k : Int) + 1).toNat = k + 1 := by omega
      have hre : (((xs.drop (k + 2)).take m)).length = m := by simp; omega
      have HRA : Hid (recAt xs k out.length = if xs.getD (k + 1) 0 = sumOf ((out.length : Int) :: (xs.drop (k + 2)).take m) then some ((xs.drop (k + 2)).take m) else none) := by
        show recAt xs k out.length = _
        rw [recAt, hm, Int.toNat_natCast]
        by_cases he : xs.getD (k + 1) 0 = sumOf ((out.length : Int) :: (xs.drop (k + 2)).take m)
        · rw [if_pos ⟨by omega, by omega, by omega, by omega, he⟩, if_pos he]
        · rw [if_neg (fun hc => he hc.2.2.2.2), if_neg he]
      generalize hrr : (xs.drop (k + 2)).take m = rec at *
      generalize xs.getD (k + 1) 0 = y at *
      obtain ⟨S, hS⟩ : ∃ S, sumOf ((out.length : Int) :: rec) = S := ⟨_, rfl⟩
      rw [hS] at HRA
      have HS : Hid _ := hS
      have HM : Hid _ := hm
      have hm1000 : m ≤ 1000 := by omega
      have hk65 : k + 2 + rec.length ≤ 64 := by omega
      have hkl : out.length + 1 ≤ 64 := by omega
      clear hS hm hrr hsum
      have q9 : IntKind.i64.wrap ((k : Int) + 1) = (k : Int) + 1 := wrapI_same _ (by omega)
      go_wp2_with fail
      go_region_held3 (fun w' => w'.cell? ⟨b, off + (k + 1), none⟩ = some (.int .i64 y)) (exact c1) (first | (go_at_call 101; refine (l2Sum_any (out.length : Int) ⟨g1, 0, none⟩ m cap1 rec _ RR hm0 hm1000).mono ?_; rintro e w3 ⟨rfl, hb3⟩; rw [HS.out]; replace RR := RR.below hb3; replace hok2 := owns_below hok2 hb3; replace HREC2 : Hid _ := HREC2.out.below hb3; replace hb2 := below_next hb2 hb3; replace c1 := cell_later hb3 c1; replace hg2 := Nat.lt_of_lt_of_le hg2 hb3.size; replace hB2 := Nat.le_trans hB2 hb3.size; clear hb3))
      clear q9
      by_cases hyS : y = S
      rotate_left 1
      · have HE : Hid (scanOf xs = (out, k)) := HSC.out.trans (scanGo_end (by rw [HRA.out, if_neg hyS]) f)
        have hd : (y != S) = true := by simp [hyS]
        obtain ⟨_, _, e', RO⟩ := RowAt.of_owned hok2
        cases e'
        clear HSC HRA
        go_wp2
        go_ret2
        exact ⟨aoO, _, capO, vs, by rw [HE.out]; rfl, by rw [HE.out], RO, by rw [HE.out]; exact HREC2.out.at, hb2⟩
      subst hyS
      have hd : (y != y) = false := by simp
      have HRA' : Hid (recAt xs k out.length = some rec) := HRA.out.trans (if_pos rfl)
      obtain ⟨f', hf'⟩ : ∃ f', f = f' + 1 := ⟨f - 1, by omega⟩
      have HSC' : Hid (scanOf xs = scanGo xs f' (k + 2 + m) (out ++ [rec])) := by
        have := HSC.out
        rw [hf'] at this
        simp only [scanGo, HRA'.out] at this
        rw [hre] at this
        exact this
      clear HSC HRA HRA'
      have hownA := hok2.alloc (.cells #[.slice (some ⟨g1, 0, none⟩) m cap1] 24)
      have hB := hb2.size
      go_wp2_with (first | (at_builtin; refine wpList_append_own_at _ rfl _ _ 71 rfl w.heap.size 24 j0 (.slice none 0 0) 1 24 Try.underlying71 hj0 hy0 hy1 hy2 rfl (by decide) _ _ _ rfl hownA ⟨w3.heap.size, 0, none⟩ 1 1 [.slice (some ⟨g1, 0, none⟩) m cap1] rfl rfl ?d1 ?d2 ?d3 ?d4 ?d5 ?_))
      case d1 =>
        intro j u hj
        match j, hj with
        | 0, hj => simp at hj; subst hj; simp [Addr.add]
      case d2 => intro u hu; simp at hu; subst hu; rfl
      case d3 => unfold maxLen; omega
      case d4 => omega
      case d5 => simp; omega
      intro v2 w4 hown' hgrow _ hat
      have hb4 : Below w.heap.size w w4 := (hb2.alloc hB _).grown hgrow (by simp; omega) (fun g hg => (hownA.lt g hg).1)
      have A3 : Below w3.heap.size w3 (w3.alloc (.cells #[.slice (some ⟨g1, 0, none⟩) m cap1] 24)) := (Below.refl _ _).alloc (Nat.le_refl _) _
      have HR4 : Hid (RecsBut w4 w.heap.size v2.ownBlock (vs ++ [.slice (some ⟨g1, 0, none⟩) m cap1]) (out ++ [rec])) :=
        ((HREC2.out.below A3).snoc hne hg0 (Nat.lt_of_lt_of_le hg2 A3.size) (RR.below A3)).grown hgrow (by simpa using hat)
      have hown2 : w4.ownsRow w.heap.size 24 1 v2 (out ++ [rec]).length (vs ++ [.slice (some ⟨g1, 0, none⟩) m cap1]) := by
        rw [List.length_append]; exact hown'
      clear hown' hgrow hat hownA A3 hok2 HREC2 hb2 RR c1
      go_wp2
      go_roundw
      case rel => exact ⟨k + 2 + m, f', out ++ [rec], _, by omega, by go_num, by rw [List.length_append]; simp; omega, HSC'.out, by omega, hown2, HR4.out, hb4⟩
      case measure => simp [intOf]; omega
    · have HE : Hid (scanOf xs = (out, k)) := HSC.out.trans (scanGo_end (by rw [recAt, if_neg (by omega)]) f)
      obtain ⟨ao', cap', rfl, RO⟩ := RowAt.of_owned hown
      have h1i : ¬ (k : Int) + 2 < 64 := by omega
      clear HSC
      go_wp2
      go_ret2
      exact ⟨ao', _, cap', vs, by rw [HE.out]; rfl, by rw [HE.out], RO, by rw [HE.out]; exact HREC.out.at, hb⟩

end Go.Proofs.Ytkpbmffklcgecaa
