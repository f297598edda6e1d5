/- Chapter 11: nodes and mails copied by the program. -/
import Derived.Test.YtannjgdginfgeaaCU0
import Derived.Test.YtannjgdginfgeaaZC
import Derived.Test.YtannjgdginfgeaaWL
import Derived.Test.YtannjgdginfgeaaVY
namespace Go.Proofs.Ytannjgdginfgeaa
open Go.RowKit

theorem GLk.el {α : Type} {k : Kd α} {w : World} {base : Nat} {T : TypeId} {ra : Option Addr} {rc n : Nat} {xs : List α} {kk : Nat} (K : KdOk k) (h : GLk k w base T (.slice ra n rc) n xs kk) {i : Nat} (hi : i < n) : ∃ a g, xs[i]? = some a ∧ ra = some ⟨g, 0, none⟩ ∧ base ≤ g ∧ g < w.heap.size ∧ (∀ j, j < k.sz → w.cell? ⟨g, i * k.sz + j, none⟩ = (k.cells a)[j]?) ∧ (∀ j, w.frozen? ⟨g, j, none⟩ = false) := by
  have hx : i < xs.length := by rw [h.len]; exact hi
  obtain ⟨ao, cap, e, R, hg⟩ := h.form
  obtain ⟨g, e2, _, h1, h2⟩ := hg (by omega)
  simp only [Value.slice.injEq, true_and] at e
  obtain ⟨rfl, rfl⟩ := e
  subst e2
  refine ⟨xs[i], g, List.getElem?_eq_getElem hx, rfl, h1, h2, fun j hj => ?_, fun j => h.own.frozenAt j⟩
  rw [h.own.cellAt _ (at_lt hi hj), flatMap_at K xs i _ (List.getElem?_eq_getElem hx) j hj]
/-- the first kk are copied -/
def CpyReplica (xs : List Nod) (w : World) (base : Nat) (v : Value) (n kk : Nat) : Prop := ∃ ys, GLk nodeK w base 64 v n ys kk ∧ ys.map (·.1) = xs.map (·.1) ∧ (∀ i, kk ≤ i → ys[i]? = xs[i]?) ∧ ∀ (i : Nat) (a : Nod), ys[i]? = some a → RSz a.2 1048576
theorem CpyReplica.below {xs : List Nod} {w W : World} {base n kk : Nat} {v : Value} (x : CpyReplica xs w base v n kk) (hb : Below w.heap.size w W) : CpyReplica xs W base v n kk := by
  obtain ⟨ys, G, e⟩ := x
  exact ⟨ys, G.below nodeOk hb, e⟩
theorem CpyReplica.there {xs : List Nod} {w : World} {base g n cap kk : Nat} (x : CpyReplica xs w base (.slice (some ⟨g, 0, none⟩) n cap) n kk) {i : Nat} (hi : i < n) : w.there g (i * 10) 10 := fun j hj => by
  obtain ⟨ys, G, _⟩ := x
  obtain ⟨a, g', _, e, _, _, hc, hf⟩ := G.el nodeOk hi
  simp only [Option.some.injEq, Addr.mk.injEq, and_true] at e
  subst e
  have t := hc j hj
  have hl := nodeOk.len a
  refine ⟨?_, hf _⟩
  show (w.cell? ⟨g, i * nodeK.sz + j, none⟩).isSome = true
  rw [t, List.getElem?_eq_getElem (by rw [hl]; exact hj)]; rfl
theorem CpyReplica.put {xs : List Nod} {w W : World} {base g n cap kk z u : Nat} (x : CpyReplica xs w base (.slice (some ⟨g, 0, none⟩) n cap) n kk) (hk : kk < n) {r : Rep} {h h' : RH} (ex : xs[kk]? = some (r, h)) (hb : Below w.heap.size w W) (hz : w.heap.size ≤ z) (hu : u ≤ W.heap.size) (y : nodeK.mem W true z u (r, h')) (hsz : (fun a : Nod => RSz a.2 1048576) (r, h')) :
    CpyReplica xs (W.setCells g (kk * 10) [.int .i64 r.id, .int .i64 r.size, .int .i64 r.view, .bool r.normal, .int .i64 r.last, .slice h'.L.1 h'.L.2.1 h'.L.2.2, .int .i64 r.commit, .slice h'.O.1 h'.O.2.1 h'.O.2.2, .slice h'.A.1 h'.A.2.1 h'.A.2.2, .slice h'.D.1 h'.D.2.1 h'.D.2.2]) base (.slice (some ⟨g, 0, none⟩) n cap) n (kk + 1) := by
  obtain ⟨ys, G, e1, e2, e3⟩ := x
  have ec : ys[kk]? = some (r, h) := by rw [e2 kk (Nat.le_refl _)]; exact ex
  have hg := G.own.lt g rfl
  have P := (G.below nodeOk hb).put nodeOk hk (r, h) (r, h') ec 0 [.int .i64 r.id, .int .i64 r.size, .int .i64 r.view, .bool r.normal, .int .i64 r.last, .slice h'.L.1 h'.L.2.1 h'.L.2.2, .int .i64 r.commit, .slice h'.O.1 h'.O.2.1 h'.O.2.2, .slice h'.A.1 h'.A.2.1 h'.A.2.2, .slice h'.D.1 h'.D.2.1 h'.D.2.2] (show 0 + 10 ≤ 10 by omega) (fun j hj => by rw [if_pos ⟨Nat.zero_le _, show j < 0 + 10 by have : j < 10 := hj; omega⟩, Nat.sub_zero]; rfl)
    (nodeOk.widen y (by omega) hu) (fun q hq => by have := nodeOk.inB y hq; omega) (fun j d hj ed q hq hq2 => by
      have h3 := nodeOk.inB y hq
      have h4 := (nodeOk.inB (G.each j d hj ed) hq2).2.2
      omega)
  have hxl : kk < ys.length := by rw [G.len]; exact hk
  refine ⟨ys.set kk (r, h'), P, ?_, fun i hi => by rw [List.getElem?_set_ne (by omega)]; exact e2 i (by omega), fun i a ea => ?_⟩
  · rw [← e1]
    apply List.ext_getElem?
    intro i
    rw [List.getElem?_map, List.getElem?_map]
    by_cases c : i = kk
    · subst c; rw [List.getElem?_set_self hxl, ec]; rfl
    · rw [List.getElem?_set_ne (Ne.symm c)]
  · by_cases c : i = kk
    · subst c
      rw [List.getElem?_set_self hxl] at ea
      rw [← Option.some.inj ea]; exact hsz
    · rw [List.getElem?_set_ne (Ne.symm c)] at ea; exact e3 i a ea
/-- the first kk are copied -/
def CpyMail (xs : List Mal) (w : World) (base : Nat) (v : Value) (n kk : Nat) : Prop := ∃ ys, GLk mailK w base 90 v n ys kk ∧ ys.map (·.1) = xs.map (·.1) ∧ (∀ i, kk ≤ i → ys[i]? = xs[i]?) ∧ ∀ (i : Nat) (a : Mal), ys[i]? = some a → a.2.2.1 ≤ 1048576
theorem CpyMail.below {xs : List Mal} {w W : World} {base n kk : Nat} {v : Value} (x : CpyMail xs w base v n kk) (hb : Below w.heap.size w W) : CpyMail xs W base v n kk := by
  obtain ⟨ys, G, e⟩ := x
  exact ⟨ys, G.below mailOk hb, e⟩
theorem CpyMail.there {xs : List Mal} {w : World} {base g n cap kk : Nat} (x : CpyMail xs w base (.slice (some ⟨g, 0, none⟩) n cap) n kk) {i : Nat} (hi : i < n) : w.there g (i * 15) 15 := fun j hj => by
  obtain ⟨ys, G, _⟩ := x
  obtain ⟨a, g', _, e, _, _, hc, hf⟩ := G.el mailOk hi
  simp only [Option.some.injEq, Addr.mk.injEq, and_true] at e
  subst e
  have t := hc j hj
  have hl := mailOk.len a
  refine ⟨?_, hf _⟩
  show (w.cell? ⟨g, i * mailK.sz + j, none⟩).isSome = true
  rw [t, List.getElem?_eq_getElem (by rw [hl]; exact hj)]; rfl
theorem CpyMail.put {xs : List Mal} {w W : World} {base g n cap kk z u : Nat} (x : CpyMail xs w base (.slice (some ⟨g, 0, none⟩) n cap) n kk) (hk : kk < n) {m : Ml} {h h' : Hd} (ex : xs[kk]? = some (m, h)) (hb : Below w.heap.size w W) (hz : w.heap.size ≤ z) (hu : u ≤ W.heap.size) (y : mailK.mem W true z u (m, h')) (hsz : (fun a : Mal => a.2.2.1 ≤ 1048576) (m, h')) :
    CpyMail xs (W.setCells g (kk * 15 + 13) [.slice h'.1 h'.2.1 h'.2.2]) base (.slice (some ⟨g, 0, none⟩) n cap) n (kk + 1) := by
  obtain ⟨ys, G, e1, e2, e3⟩ := x
  have ec : ys[kk]? = some (m, h) := by rw [e2 kk (Nat.le_refl _)]; exact ex
  have hg := G.own.lt g rfl
  have P := (G.below mailOk hb).put mailOk hk (m, h) (m, h') ec 13 [.slice h'.1 h'.2.1 h'.2.2] (show 13 + 1 ≤ 15 by omega) (fun j hj => by
      have hj' : j < 15 := hj
      rcases (by omega : j = 0 ∨ j = 1 ∨ j = 2 ∨ j = 3 ∨ j = 4 ∨ j = 5 ∨ j = 6 ∨ j = 7 ∨ j = 8 ∨ j = 9 ∨ j = 10 ∨ j = 11 ∨ j = 12 ∨ j = 13 ∨ j = 14) with rfl | rfl | rfl | rfl | rfl | rfl | rfl | rfl | rfl | rfl | rfl | rfl | rfl | rfl | rfl <;> rfl)
    (mailOk.widen y (by omega) hu) (fun q hq => by have := mailOk.inB y hq; omega) (fun j d hj ed q hq hq2 => by
      have h3 := mailOk.inB y hq
      have h4 := (mailOk.inB (G.each j d hj ed) hq2).2.2
      omega)
  have hxl : kk < ys.length := by rw [G.len]; exact hk
  refine ⟨ys.set kk (m, h'), P, ?_, fun i hi => by rw [List.getElem?_set_ne (by omega)]; exact e2 i (by omega), fun i a ea => ?_⟩
  · rw [← e1]
    apply List.ext_getElem?
    intro i
    rw [List.getElem?_map, List.getElem?_map]
    by_cases c : i = kk
    · subst c; rw [List.getElem?_set_self hxl, ec]; rfl
    · rw [List.getElem?_set_ne (Ne.symm c)]
  · by_cases c : i = kk
    · subst c
      rw [List.getElem?_set_self hxl] at ea
      rw [← Option.some.inj ea]; exact hsz
    · rw [List.getElem?_set_ne (Ne.symm c)] at ea; exact e3 i a ea
end Go.Proofs.Ytannjgdginfgeaa
