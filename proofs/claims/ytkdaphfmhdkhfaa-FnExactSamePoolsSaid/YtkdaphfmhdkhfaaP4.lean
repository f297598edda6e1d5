/- Chapter 3: new blocks: what the model answers. -/
import Derived.Test.YtkdaphfmhdkhfaaP2
namespace Go.Proofs.Ytkdaphfmhdkhfaa
open Go.RowKit

set_option maxRecDepth 20000 in
set_option maxHeartbeats 2000000 in
theorem specNewB_any (x : Int) (w : World) :
    Calls Try.prog 101 #[.int .i64 x] w fun e w' => BlkRes w w' e (newBCode x) 0 (newBList x) := by
  have B : Below w.heap.size w (w.alloc (.cells #[.int .i64 0, .int .i64 0, .slice none 0 0] 51)) := (Below.refl _ _).alloc (Nat.le_refl _) _
  by_cases hx : 0 ≤ x ∧ x ≤ 24
  · obtain ⟨n, rfl⟩ : ∃ n : Nat, x = n := ⟨x.toNat, by omega⟩
    have hc : newBCode (n : Int) = 0 := if_pos hx
    have e2 : newBList (n : Int) = List.replicate n (0, 0) := by rw [newBList, if_pos hc, Int.toNat_natCast]
    rw [hc, e2]
    have HD : Hid _ := decide_eq_true hx
    have hn24 : n ≤ 24 := by omega
    clear hc e2 hx
    go_enter Try.func101, Try.ntmps101
    go_wp2_with fail
    refine (l1In_bool _ 0 24 _ true HD.out).mono ?_
    rintro e w1 ⟨rfl, rfl⟩
    have z0 : (w.alloc (.cells #[.int .i64 0, .int .i64 0, .slice none 0 0] 51)).cell? ⟨w.heap.size, 0, none⟩ = some (.int .i64 0) := by simp
    have z1 : (w.alloc (.cells #[.int .i64 0, .int .i64 0, .slice none 0 0] 51)).cell? ⟨w.heap.size, 1, none⟩ = some (.int .i64 0) := by simp
    have z2 : (w.alloc (.cells #[.int .i64 0, .int .i64 0, .slice none 0 0] 51)).cell? ⟨w.heap.size, 2, none⟩ = some (.slice none 0 0) := by simp
    have y0 : (w.alloc (.cells #[.int .i64 0, .int .i64 0, .slice none 0 0] 51)).frozen? ⟨w.heap.size, 0, none⟩ = false := by simp
    have y1 : (w.alloc (.cells #[.int .i64 0, .int .i64 0, .slice none 0 0] 51)).frozen? ⟨w.heap.size, 1, none⟩ = false := by simp
    have y2 : (w.alloc (.cells #[.int .i64 0, .int .i64 0, .slice none 0 0] 51)).frozen? ⟨w.heap.size, 2, none⟩ = false := by simp
    have hz : w.heap.size < (w.alloc (.cells #[.int .i64 0, .int .i64 0, .slice none 0 0] 51)).heap.size := by simp
    obtain ⟨j0, hj0, hq0, hq1, hq2⟩ := info_parts Try.infoBlk
    go_wp2_with (first | (at_make; refine wpList_make_full _ rfl _ _ 47 rfl (w.heap.size + 1) 55 j0 (.agg #[.int .i64 0, .int .i64 0]) 2 Try.underlying47 hj0 hq0 hq1 _ _ _ _ n rfl rfl rfl rfl ?b1 ?b2 ?b3 ?_))
    case b1 => rw [hq2]; omega
    case b2 => unfold maxLen; omega
    case b3 => simp
    intro w2 hown hgrow
    have hb : Below (w.alloc (.cells #[.int .i64 0, .int .i64 0, .slice none 0 0] 51)).heap.size (w.alloc (.cells #[.int .i64 0, .int .i64 0, .slice none 0 0] 51)) w2 := (Below.refl _ _).grown hgrow (Nat.le_refl _) (fun k hk => by cases hk)
    replace z0 := cell_later hb z0
    replace z1 := cell_later hb z1
    replace z2 := cell_later hb z2
    replace y0 := frozen_later hb hz y0
    replace y1 := frozen_later hb hz y1
    replace y2 := frozen_later hb hz y2
    replace hz := Nat.lt_of_lt_of_le hz hb.size
    replace B := below_next B hb
    replace hown : w2.ownsRow (w.heap.size + 1) 55 2 (.slice (some ⟨w.heap.size + 1, 0, none⟩) n n) n (pairs (List.replicate n (0, 0))) := by rw [← made_pairs]; exact hown
    obtain ⟨_, _, e', RS⟩ := RowAt.of_owned hown
    cases e'
    have hs2 := hb.size
    have hsz : (w.alloc (.cells #[.int .i64 0, .int .i64 0, .slice none 0 0] 51)).heap.size = w.heap.size + 1 := by simp
    rw [hsz] at hs2
    clear hgrow hown hb hsz
    go_wp2
    refine bodyPost_ret (v := .agg #[.int .i64 0, .int .i64 0, .slice (some ⟨w.heap.size + 1, 0, none⟩) n n]) (by simp [results, Try.results101, go_sem, z0, z1, z2]) rfl ⟨_, _, _, rfl, ?_, ?_⟩
    · refine RowAt.widen (RowAt.kept RS (l := w.heap.size) (u := w.heap.size + 1) ?_ (by omega)) (by omega) ?_
      · refine Kept.setCell (Kept.setCell (Kept.setCell (Kept.refl _ _ _) ?_ ?_ _) ?_ ?_ _) ?_ ?_ _ <;> simp
      · simp
    · refine Below.setCell (Below.setCell (Below.setCell B ?_ _) ?_ _) ?_ _ <;> simp
  · have hc : newBCode x = 3 := if_neg hx
    have e2 : newBList x = [] := by rw [newBList, hc]; rfl
    rw [hc, e2]
    have HD : Hid _ := decide_eq_false hx
    clear hc e2 hx
    go_enter Try.func101, Try.ntmps101
    go_wp2_with fail
    refine (l1In_bool _ 0 24 _ false HD.out).mono ?_
    rintro e w1 ⟨rfl, rfl⟩
    have z0 : (w.alloc (.cells #[.int .i64 0, .int .i64 0, .slice none 0 0] 51)).cell? ⟨w.heap.size, 0, none⟩ = some (.int .i64 0) := by simp
    have z1 : (w.alloc (.cells #[.int .i64 0, .int .i64 0, .slice none 0 0] 51)).cell? ⟨w.heap.size, 1, none⟩ = some (.int .i64 0) := by simp
    have z2 : (w.alloc (.cells #[.int .i64 0, .int .i64 0, .slice none 0 0] 51)).cell? ⟨w.heap.size, 2, none⟩ = some (.slice none 0 0) := by simp
    have y0 : (w.alloc (.cells #[.int .i64 0, .int .i64 0, .slice none 0 0] 51)).frozen? ⟨w.heap.size, 0, none⟩ = false := by simp
    have y1 : (w.alloc (.cells #[.int .i64 0, .int .i64 0, .slice none 0 0] 51)).frozen? ⟨w.heap.size, 1, none⟩ = false := by simp
    have y2 : (w.alloc (.cells #[.int .i64 0, .int .i64 0, .slice none 0 0] 51)).frozen? ⟨w.heap.size, 2, none⟩ = false := by simp
    have hz : w.heap.size < (w.alloc (.cells #[.int .i64 0, .int .i64 0, .slice none 0 0] 51)).heap.size := by simp
    go_wp2_with fail
    refine (l3Bad_any 3 _).mono ?_
    rintro e w2 ⟨rfl, hb⟩
    replace z0 := cell_later hb z0
    replace z1 := cell_later hb z1
    replace z2 := cell_later hb z2
    replace y0 := frozen_later hb hz y0
    replace y1 := frozen_later hb hz y1
    replace y2 := frozen_later hb hz y2
    replace hz := Nat.lt_of_lt_of_le hz hb.size
    replace B := below_next B hb
    clear hb
    go_wp2
    refine bodyPost_ret (v := .agg #[.int .i64 3, .int .i64 0, .slice none 0 0]) (by simp [results, Try.results101, go_sem, z0, z1, z2]) rfl ⟨_, _, _, rfl, RowAt.nil _ _ _ _ _, ?_⟩
    refine Below.setCell (Below.setCell (Below.setCell B ?_ _) ?_ _) ?_ _ <;> simp

end Go.Proofs.Ytkdaphfmhdkhfaa
