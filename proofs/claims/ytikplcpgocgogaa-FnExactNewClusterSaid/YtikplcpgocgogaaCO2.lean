/- Chapter 11: lists of nodes and of mails copied by the laws. -/
import Derived.Test.YtikplcpgocgogaaCO1
namespace Go.Proofs.Ytikplcpgocgogaa
open Go.RowKit

theorem Try.infReplica : (Try.prog.info? 29).map (fun i => (i.zero, i.size, i.bytes)) = some (some (.agg #[.int .i64 0, .int .i64 0, .int .i64 0, .bool false, .int .i64 0, .slice none 0 0, .int .i64 0, .slice none 0 0, .slice none 0 0, .slice none 0 0]), 10, 144) := by kernel_rfl
def ReplicaSt (xs : List Nod) (g n : Nat) (wr : World) (k : Nat) : Prop := ∃ ys : List Nod, LAt nodeK wr true g wr.heap.size (some ⟨g, 0, none⟩) n n ys ∧ (∀ i : Nat, i < k → (ys.getD i nod0).1 = (xs.getD i nod0).1) ∧ (∀ i : Nat, i < k → (fun a : Nod => RSz a.2 1048576) (ys.getD i nod0))
theorem ReplicaSt.put {xs : List Nod} {g n : Nat} {wr w1 : World} {k : Nat} (x : ReplicaSt xs g n wr k) (hk : k < n) {r : Rep} {h h' : RH} (ex : xs[k]? = some (r, h)) (hb : Below wr.heap.size wr w1) (y : nodeK.mem w1 true wr.heap.size w1.heap.size (r, h')) (hz : (fun a : Nod => RSz a.2 1048576) (r, h')) :
    w1.there g (k * 10) 10 ∧ ReplicaSt xs g n (w1.setCells g (k * 10) [.int .i64 r.id, .int .i64 r.size, .int .i64 r.view, .bool r.normal, .int .i64 r.last, .slice h'.L.1 h'.L.2.1 h'.L.2.2, .int .i64 r.commit, .slice h'.O.1 h'.O.2.1 h'.O.2.2, .slice h'.A.1 h'.A.2.1 h'.A.2.2, .slice h'.D.1 h'.D.2.1 h'.D.2.2]) (k + 1) := by
  obtain ⟨ys, L, e1, e2⟩ := x
  have hlt := (L.row.inB (k := g) ⟨by omega, rfl⟩)
  have L1 := (L.below nodeOk hb).widen nodeOk (Nat.le_refl _) hb.size
  obtain ⟨a, b, off, ea, eb, _, _, _, hc, hf⟩ := L1.el nodeOk hk
  simp only [Option.some.injEq, Addr.mk.injEq, and_true] at eb
  obtain ⟨rfl, rfl⟩ := eb
  refine ⟨fun j hj => ⟨?_, ?_⟩, (ys.set k (r, h')), ?_, fun i hi => ?_, fun i hi => ?_⟩
  · have t := hc j hj
    rw [Nat.zero_add] at t
    have hl := nodeOk.len a
    show (w1.cell? ⟨g, k * nodeK.sz + j, none⟩).isSome = true
    rw [t, List.getElem?_eq_getElem (by rw [hl]; exact hj)]; rfl
  · have t := hf rfl j hj
    rw [Nat.zero_add] at t
    exact t
  · have P := L1.put nodeOk hk (r, h') (nodeOk.widen y (Nat.le_of_lt hlt.2.2) (Nat.le_refl _)) (fun q hq => by have := nodeOk.inB y hq; omega) (fun j c ec _ q hq hq2 => by
      have h3 := nodeOk.inB y hq
      have h4 := nodeOk.inB (L.each j c ec) hq2
      omega)
    rw [Nat.zero_add] at P
    have hsz : (w1.setCells g (k * 10) [.int .i64 r.id, .int .i64 r.size, .int .i64 r.view, .bool r.normal, .int .i64 r.last, .slice h'.L.1 h'.L.2.1 h'.L.2.2, .int .i64 r.commit, .slice h'.O.1 h'.O.2.1 h'.O.2.2, .slice h'.A.1 h'.A.2.1 h'.A.2.2, .slice h'.D.1 h'.D.2.1 h'.D.2.2]).heap.size = w1.heap.size := size_setCells' _ _ _ _
    rw [hsz]
    exact P
  · have hl : k < ys.length := by rw [L.len]; exact hk
    rw [getD_set_fst hl]
    by_cases c : i = k
    · rw [if_pos c, c, getD_of_get ex]
    · rw [if_neg c]; exact e1 i (by omega)
  · have hl : k < ys.length := by rw [L.len]; exact hk
    rw [getD_set_fst hl]
    by_cases c : i = k
    · rw [if_pos c]; exact hz
    · rw [if_neg c]; exact e2 i (by omega)
def MailSt (xs : List Mal) (g n : Nat) (wr : World) (k : Nat) : Prop := ∃ ys : List Mal, LAt mailK wr true g wr.heap.size (some ⟨g, 0, none⟩) n n ys ∧ (∀ i : Nat, i < k → (ys.getD i mal0).1 = (xs.getD i mal0).1) ∧ (∀ i : Nat, i < k → (fun a : Mal => a.2.2.1 ≤ 1048576) (ys.getD i mal0))
theorem MailSt.put {xs : List Mal} {g n : Nat} {wr w1 : World} {k : Nat} (x : MailSt xs g n wr k) (hk : k < n) {m : Ml} {h h' : Hd} (ex : xs[k]? = some (m, h)) (hb : Below wr.heap.size wr w1) (y : mailK.mem w1 true wr.heap.size w1.heap.size (m, h')) (hz : (fun a : Mal => a.2.2.1 ≤ 1048576) (m, h')) :
    w1.there g (k * 15) 15 ∧ MailSt xs g n (w1.setCells g (k * 15) [.int .i64 m.kind, .int .i64 m.fr, .int .i64 m.to, .int .i64 m.view, .int .i64 m.at_, .bool m.has, .int .i64 m.en.1, .int .i64 m.en.2.1, .int .i64 m.en.2.2.1, .int .i64 m.en.2.2.2.1, .int .i64 m.en.2.2.2.2.1, .int .i64 m.en.2.2.2.2.2, .int .i64 m.last, .slice h'.1 h'.2.1 h'.2.2, .int .i64 m.commit]) (k + 1) := by
  obtain ⟨ys, L, e1, e2⟩ := x
  have hlt := (L.row.inB (k := g) ⟨by omega, rfl⟩)
  have L1 := (L.below mailOk hb).widen mailOk (Nat.le_refl _) hb.size
  obtain ⟨a, b, off, ea, eb, _, _, _, hc, hf⟩ := L1.el mailOk hk
  simp only [Option.some.injEq, Addr.mk.injEq, and_true] at eb
  obtain ⟨rfl, rfl⟩ := eb
  refine ⟨fun j hj => ⟨?_, ?_⟩, (ys.set k (m, h')), ?_, fun i hi => ?_, fun i hi => ?_⟩
  · have t := hc j hj
    rw [Nat.zero_add] at t
    have hl := mailOk.len a
    show (w1.cell? ⟨g, k * mailK.sz + j, none⟩).isSome = true
    rw [t, List.getElem?_eq_getElem (by rw [hl]; exact hj)]; rfl
  · have t := hf rfl j hj
    rw [Nat.zero_add] at t
    exact t
  · have P := L1.put mailOk hk (m, h') (mailOk.widen y (Nat.le_of_lt hlt.2.2) (Nat.le_refl _)) (fun q hq => by have := mailOk.inB y hq; omega) (fun j c ec _ q hq hq2 => by
      have h3 := mailOk.inB y hq
      have h4 := mailOk.inB (L.each j c ec) hq2
      omega)
    rw [Nat.zero_add] at P
    have hsz : (w1.setCells g (k * 15) [.int .i64 m.kind, .int .i64 m.fr, .int .i64 m.to, .int .i64 m.view, .int .i64 m.at_, .bool m.has, .int .i64 m.en.1, .int .i64 m.en.2.1, .int .i64 m.en.2.2.1, .int .i64 m.en.2.2.2.1, .int .i64 m.en.2.2.2.2.1, .int .i64 m.en.2.2.2.2.2, .int .i64 m.last, .slice h'.1 h'.2.1 h'.2.2, .int .i64 m.commit]).heap.size = w1.heap.size := size_setCells' _ _ _ _
    rw [hsz]
    exact P
  · have hl : k < ys.length := by rw [L.len]; exact hk
    rw [getD_set_fst hl]
    by_cases c : i = k
    · rw [if_pos c, c, getD_of_get ex]
    · rw [if_neg c]; exact e1 i (by omega)
  · have hl : k < ys.length := by rw [L.len]; exact hk
    rw [getD_set_fst hl]
    by_cases c : i = k
    · rw [if_pos c]; exact hz
    · rw [if_neg c]; exact e2 i (by omega)
end Go.Proofs.Ytikplcpgocgogaa
