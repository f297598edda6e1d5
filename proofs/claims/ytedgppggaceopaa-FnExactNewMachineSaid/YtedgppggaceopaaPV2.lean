/- Chapter 5: pools counted, whatever is left. -/
import Derived.Test.YtedgppggaceopaaYP
namespace Go.Proofs.Ytedgppggaceopaa
open Go.RowKit

set_option maxHeartbeats 1000000 in
theorem szNodes_lt {o : Bool} {l u : Nat} (ao : Option Addr) (n cap : Nat) (K : Nat → KS) (ns : List Nd) (L0 : Int) (w : World) (h : NodesAt w o l u ao n cap K ns) (g0 : 0 ≤ L0) (g1 : L0 ≤ 1048576) (hn : n ≤ maxLen) (hK : ∀ i, i < n → (K i).2.1 ≤ maxLen) :
    Calls Try.prog 71 #[.slice ao n cap, .int .i64 L0] w fun e w' => ∃ r : Int, e = .returned (.int .i64 r) ∧ Below w.heap.size w w' ∧ (r < 0 ∨ (0 ≤ r ∧ r = L0 - n - kl ns n)) := by
  unfold maxLen at hn
  have hl := h.len
  have hw0 : IntKind.i64.wrap (L0 - (n : Int)) = L0 - (n : Int) := wrapI_same _ (by omega)
  by_cases hb : L0 - n < 0
  · go_enter Try.func71, Try.ntmps71
    go_wp2
    go_ret
    exact ⟨_, rfl, Below.refl _ _, Or.inl (by omega)⟩
  · go_enter Try.func71, Try.ntmps71
    go_wp2
    go_loopw [1, 5] (fun v i wr => ∃ k : Nat, k ≤ n ∧ i = .int .i64 k ∧ v = .int .i64 (L0 - n - kl ns k) ∧ 0 ≤ L0 - n - kl ns k ∧ Below w.heap.size w wr) (fun _ i _ => n - (intOf i).toNat)
    case atStart => exact ⟨0, Nat.zero_le _, rfl, by simp [kl], by simp [kl]; omega, Below.refl _ _⟩
    case round =>
      obtain ⟨k, hk, rfl, rfl, hpos, B⟩ := hrel
      by_cases hlt : k < n
      · obtain ⟨b, f, rfl, _, _, hbs, e1, e2, e3, _⟩ := h.node hlt
        replace e1 := (B.cell (p := ⟨b, f + k * 3, none⟩) hbs).trans e1
        replace e2 := (B.cell (p := ⟨b, f + k * 3 + 1, none⟩) hbs).trans e2
        replace e3 := (B.cell (p := ⟨b, f + k * 3 + 2, none⟩) hbs).trans e3
        have hlk : (k : Int) < (n : Int) := by omega
        have hkn := hK k hlt
        have HS : Hid _ := kl_succ (ns := ns) (i := k) (by omega)
        have hnk := h.nKids hlt
        rw [hnk] at HS
        obtain ⟨⟨r, lf, ks⟩, hnd⟩ : ∃ nd, ns.getD k nd0 = nd := ⟨_, rfl⟩
        obtain ⟨⟨ka, kn, kc⟩, hks⟩ : ∃ q, K k = q := ⟨_, rfl⟩
        rw [hnd] at e1 e2
        rw [hks] at e3 hkn HS
        simp only at e1 e2 e3 hkn HS
        clear hnd hks hnk
        generalize kl ns k = q at *
        by_cases hx : L0 - n - q < kn
        · go_wp2_with fail
          refine (szNode_any r lf ka kn kc _ _ hkn hpos (by omega)).mono ?_
          rintro e w1 ⟨rfl, hb1⟩
          rw [if_pos hx]
          have B2 := below_next B hb1
          clear hb1 B
          go_wp2
          go_ret
          exact ⟨_, rfl, B2, Or.inl (by omega)⟩
        · go_wp2_with fail
          refine (szNode_any r lf ka kn kc _ _ hkn hpos (by omega)).mono ?_
          rintro e w1 ⟨rfl, hb1⟩
          rw [if_neg (by omega)]
          have hx' : ¬ (L0 - n - q - kn < 0) := by omega
          have B2 := below_next B hb1
          clear hb1 B
          go_wp2
          go_roundw
          case rel => exact ⟨k + 1, by omega, by go_num, by rw [HS.out]; congr 1; omega, by rw [HS.out]; omega, B2⟩
          case measure => simp [intOf]; omega
      · obtain rfl : k = n := by omega
        go_wp2
        go_ret
        exact ⟨_, rfl, B, Or.inr ⟨hpos, rfl⟩⟩

set_option maxRecDepth 20000 in
set_option maxHeartbeats 1000000 in
theorem szForest_lt {o : Bool} {l u : Nat} (an : Option Addr) (nn cn : Nat) (ab : Option Addr) (nb cb : Nat) (K : Nat → KS) (f : Fo) (L0 : Int) (w : World) (h : FoAt w o l u an nn cn ab nb cb K f) (g0 : 0 ≤ L0) (g1 : L0 ≤ 1048576) (hn : nn ≤ maxLen) (hb : nb ≤ maxLen) (hK : ∀ i, i < nn → (K i).2.1 ≤ maxLen) :
    Calls Try.prog 42 #[.agg #[.slice an nn cn, .slice ab nb cb], .int .i64 L0] w fun e w' => ∃ r : Int, e = .returned (.int .i64 r) ∧ Below w.heap.size w w' ∧ (r < 0 ∨ (0 ≤ r ∧ (r : Int) + nn + kl f.1 nn + nb = L0)) := by
  have B : Below w.heap.size w (w.alloc (.cells #[.slice an nn cn, .slice ab nb cb] 25)) := (Below.refl _ _).alloc (Nat.le_refl _) _
  have z1 : (w.alloc (.cells #[.slice an nn cn, .slice ab nb cb] 25)).cell? ⟨w.heap.size, 1, none⟩ = some (.slice ab nb cb) := by simp
  go_enter Try.func42, Try.ntmps42
  go_wp2_with fail
  refine (szNodes_lt _ _ _ K f.1 L0 _ (by exact h.nodes.below B) g0 g1 hn hK).mono ?_
  rintro e w1 ⟨r, rfl, hb1, hr⟩
  replace z1 := cell_later hb1 z1
  replace B := below_next B hb1
  rcases hr with hr | ⟨hr0, hr⟩
  · clear hb1
    go_wp2
    go_ret
    exact ⟨_, rfl, B, Or.inl (by omega)⟩
  · have hr' : ¬ r < 0 := by omega
    have hle : r ≤ 1048576 := by omega
    have HR : Hid _ := hr
    clear hb1 hr
    go_wp2_with fail
    refine (szBlocks_left _ _ _ r _ hb hr0 hle).mono ?_
    rintro e w2 ⟨rfl, rfl⟩
    by_cases hx : r < nb
    · rw [if_pos hx]
      go_wp2
      go_ret
      exact ⟨_, rfl, B, Or.inl (by omega)⟩
    · rw [if_neg (by omega)]
      have hx' : ¬ (r - (nb : Int) < 0) := by omega
      go_wp2
      go_ret
      exact ⟨_, rfl, B, Or.inr ⟨by omega, by have := HR.out; omega⟩⟩


section
variable {o o2 : Bool} {l u l2 u2 : Nat} (an : Option Addr) (nn cn : Nat) (ab : Option Addr) (nb cb : Nat) (av : Option Addr) (nv cv : Nat) (K : Nat → KS) (f : Fo) (vs : List Vo) (w : World) (h : FoAt w o l u an nn cn ab nb cb K f) (hv : RowAt w o2 l2 u2 3 av nv cv (trips vs))
include h hv
set_option maxRecDepth 20000 in
set_option maxHeartbeats 1000000 in
theorem szPool_left (hn : nn ≤ maxLen) (hb : nb ≤ maxLen) (hK : ∀ i, i < nn → (K i).2.1 ≤ maxLen) (hvn : nv ≤ maxLen) (L0 : Int) (g0 : 0 ≤ L0) (g1 : L0 ≤ 1048576) :
    Calls Try.prog 22 #[.agg #[.slice an nn cn, .slice ab nb cb, .slice av nv cv], .int .i64 L0] w fun e w' => ∃ r : Int, e = .returned (.int .i64 r) ∧ Below w.heap.size w w' ∧ (r < 0 ∨ (0 ≤ r ∧ r + nn + kl f.1 nn + nb + nv = L0)) := by
  have _ := hv
  have B : Below w.heap.size w (w.alloc (.cells #[.slice an nn cn, .slice ab nb cb, .slice av nv cv] 28)) := (Below.refl _ _).alloc (Nat.le_refl _) _
  have z2 : (w.alloc (.cells #[.slice an nn cn, .slice ab nb cb, .slice av nv cv] 28)).cell? ⟨w.heap.size, 2, none⟩ = some (.slice av nv cv) := by simp
  go_enter Try.func22, Try.ntmps22
  go_wp2_with fail
  refine (szForest_lt an nn cn ab nb cb K f L0 _ (by exact h.below B) g0 g1 hn hb hK).mono ?_
  rintro e w1 ⟨r, rfl, hb1, hr⟩
  replace z2 := cell_later hb1 z2
  replace B := below_next B hb1
  rcases hr with hr | ⟨hr0, hr⟩
  · clear hb1
    go_wp2
    go_ret
    exact ⟨_, rfl, B, Or.inl (by omega)⟩
  · have hr' : ¬ r < 0 := by omega
    have hle : r ≤ 1048576 := by omega
    have HR : Hid _ := hr
    clear hb1 hr
    go_wp2_with fail
    refine (szVols_left _ _ _ r _ hvn hr0 hle).mono ?_
    rintro e w2 ⟨rfl, rfl⟩
    by_cases hx : r < nv
    · rw [if_pos hx]
      go_wp2
      go_ret
      exact ⟨_, rfl, B, Or.inl (by omega)⟩
    · rw [if_neg (by omega)]
      have hx' : ¬ (r - (nv : Int) < 0) := by omega
      go_wp2
      go_ret
      exact ⟨_, rfl, B, Or.inr ⟨by omega, by have := HR.out; omega⟩⟩
end

end Go.Proofs.Ytedgppggaceopaa
