/- At every replica the program's TellOf answers as its model does, field by field, writes into no argument, and its answer owns its memory: the law FnExactTellOf is true at every argument, with no condition. -/
import Derived.Test.YtcefhlkbbipmmaaBase
import Derived.Test.YtcefhlkbbipmmaaZT
import Derived.Test.YtcefhlkbbipmmaaCopy
import Derived.Test.YtcefhlkbbipmmaaMark
import Derived.Test.YtcefhlkbbipmmaaEq
import Derived.Test.YtcefhlkbbipmmaaMark2
import Derived.Test.YtcefhlkbbipmmaaBC
import Derived.Test.YtcefhlkbbipmmaaSm
import Derived.Test.YtcefhlkbbipmmaaFault
import Derived.Test.YtcefhlkbbipmmaaArr
import Derived.Test.YtcefhlkbbipmmaaFlush
import Derived.Test.YtcefhlkbbipmmaaSpec1
import Derived.Test.YtcefhlkbbipmmaaSFlush
import Derived.Test.YtcefhlkbbipmmaaAll
import Derived.Test.YtcefhlkbbipmmaaPutS
import Derived.Test.YtcefhlkbbipmmaaFacts
import Derived.Test.YtcefhlkbbipmmaaZM
import Derived.Test.YtcefhlkbbipmmaaYE
import Derived.Test.YtcefhlkbbipmmaaZY
import Derived.Test.YtcefhlkbbipmmaaP1
import Derived.Test.YtcefhlkbbipmmaaP2
import Derived.Test.YtcefhlkbbipmmaaP4
import Derived.Test.YtcefhlkbbipmmaaP3
import Derived.Test.YtcefhlkbbipmmaaQ0
import Derived.Test.YtcefhlkbbipmmaaZU
import Derived.Test.YtcefhlkbbipmmaaT8
import Derived.Test.YtcefhlkbbipmmaaZW
import Derived.Test.YtcefhlkbbipmmaaZX
import Derived.Test.YtcefhlkbbipmmaaZZ
import Derived.Test.YtcefhlkbbipmmaaZQ
import Derived.Test.YtcefhlkbbipmmaaZV
import Derived.Test.YtcefhlkbbipmmaaYP
import Derived.Test.YtcefhlkbbipmmaaO1b
import Derived.Test.YtcefhlkbbipmmaaO1
import Derived.Test.YtcefhlkbbipmmaaXA
import Derived.Test.YtcefhlkbbipmmaaZR
import Derived.Test.YtcefhlkbbipmmaaBools
import Derived.Test.YtcefhlkbbipmmaaWA
import Derived.Test.YtcefhlkbbipmmaaWB
import Derived.Test.YtcefhlkbbipmmaaWH
import Derived.Test.YtcefhlkbbipmmaaWL
import Derived.Test.YtcefhlkbbipmmaaWK
import Derived.Test.YtcefhlkbbipmmaaWQ
import Derived.Test.YtcefhlkbbipmmaaXH
import Derived.Test.YtcefhlkbbipmmaaWC
import Derived.Test.YtcefhlkbbipmmaaI5a
import Derived.Test.YtcefhlkbbipmmaaI5s
import Derived.Test.YtcefhlkbbipmmaaWN
import Derived.Test.YtcefhlkbbipmmaaWF
import Derived.Test.YtcefhlkbbipmmaaWR
import Derived.Test.YtcefhlkbbipmmaaWS
import Derived.Test.YtcefhlkbbipmmaaXB
import Derived.Test.YtcefhlkbbipmmaaWG
import Derived.Test.YtcefhlkbbipmmaaLTo
import Derived.WalkKit
import Derived.WalkSpells
import Derived.Deep.Draws
import Derived.Deep.MidRow
import Derived.Test.YtcefhlkbbipmmaaChecked
import Derived.WalkLawsBesides
import Derived.Deep.QuietTactic
import Derived.BigQuiet
import Derived.Deep.RegionHeld3
import Derived.Deep.WholeRow
import Derived.Deep.AppendSrc
import Derived.Maps.AppendAt
import Derived.Laws.CopyRow
import Derived.Lib.SliceRun
import Derived.Lib.Overlaps
import Derived.Lib.AppendZeros
import Derived.Laws.Externs
import Derived.Deep.AppendLies
import Derived.Deep.RegionLaw
import Derived.Laws.ComplexArith
import Derived.Laws.Tables
import Derived.ProofKit
import Derived.OpenShut
import Derived.Lib.SmallJoins
import Derived.Deep.SlicePairs
import Derived.Test.YtcefhlkbbipmmaaRows
import Derived.Deep.DeepCutAuto
/- What a node tells of itself, by the program and by the model. -/
namespace Go.Proofs.Ytcefhlkbbipmmaa
open Go.RowKit

def tel0 (r : Rep) : Ml := ⟨4, 0, 0, 0, 0, false, en0, r.last, r.log, r.commit⟩
def telM (r : Rep) : Ml := putM (tel0 r) r.id (r.view % r.size) r.view
def tellM (r : Rep) : List Ml := if (r.view % r.size == r.id) = true then [] else [telM r]
theorem tellM_len (r : Rep) : (tellM r).length ≤ 1 := by unfold tellM; split <;> simp
/-- a list of one mail, its log behind another's -/
theorem one_mail {w : World} {bl z ue base u : Nat} {hd : Hd} {m : Ml} (X : Bx w bl (mlV hd m)) (R : RowAt w true z ue 6 hd.1 hd.2.1 hd.2.2 (sixs m.log)) (h1 : base ≤ z) (h2 : ue ≤ u) (h3 : u ≤ bl) (h4 : base ≤ u) : MailsAt w true base w.heap.size (some ⟨bl, 0, none⟩) 1 1 (fun _ => hd) [m] := by
  have e : flatF 15 1 (mlF (fun _ => hd) [m]) = mlV hd m := by
    rw [flatF_snoc, flatF_zero, List.nil_append]; exact mlF_last (fun _ => hd) [] m
  have hlt := X.lt
  refine ⟨rfl, ⟨⟨by rw [e]; simp [mlV], Nat.le_refl _, fun _ => ⟨bl, 0, rfl, ?_, hlt, hlt, fun i hi => ?_, fun _ i _ => by rw [Nat.zero_add]; exact X.froz i⟩⟩, fun i hi => ?_, fun _ i hi h0 => ⟨fun q => ?_, fun j hj hne => by omega⟩⟩⟩
  · by_cases q : hd.2.1 = 0
    · omega
    · have := R.inB (k := sb hd.1) ⟨q, rfl⟩; omega
  · rw [e, Nat.zero_add, X.cell i, List.getD_eq_getElem?_getD, List.getElem?_eq_getElem (by simpa [mlV] using hi)]; rfl
  · obtain rfl : i = 0 := by omega
    show RowAt w true base w.heap.size 6 hd.1 hd.2.1 hd.2.2 (sixs m.log)
    exact R.widen h1 (by omega)
  · have := R.inB (k := sb hd.1) ⟨h0, rfl⟩
    have e2 : sb hd.1 = bl := q
    omega
set_option maxRecDepth 20000 in
set_option maxHeartbeats 2000000 in
theorem tellOfItself_is {own : Bool} {lo hi : Nat} (r : Rep) (h : RH) (s : Hd) (base b0 : Nat) (w : World) (Km : Nat → Hd) (ms : List Ml) (X0 : Bx w b0 [.int .i64 r.id, .int .i64 r.size, .int .i64 r.view, .bool r.normal, .int .i64 r.last, .slice h.L.1 h.L.2.1 h.L.2.2, .int .i64 r.commit, .slice h.O.1 h.O.2.1 h.O.2.2, .slice h.A.1 h.A.2.1 h.A.2.2, .slice h.D.1 h.D.2.1 h.D.2.2, .slice s.1 s.2.1 s.2.2]) (L5 : RowAt w own lo hi 6 h.L.1 h.L.2.1 h.L.2.2 (sixs r.log)) (hzL : h.L.2.1 ≤ 1048576) (G : SentAt w base (.slice s.1 s.2.1 s.2.2) Km ms) (hsn : s.2.1 = ms.length) (hK : ∀ j, j < s.2.1 → (Km j).2.1 ≤ 1048576) (hb : b0 < base) (hbase : base ≤ w.heap.size) (hn : ms.length ≤ 1000) (hs : 1 ≤ r.size ∧ r.size ≤ 5) (hv : 0 ≤ r.view ∧ r.view ≤ 300) :
    Calls Try.prog 71 #[.pointer (some ⟨b0, 0, none⟩)] w fun e w' => ∃ (s' : Hd) (Km' : Nat → Hd), e = .returned (.tuple #[]) ∧ Bx w' b0 [.int .i64 r.id, .int .i64 r.size, .int .i64 r.view, .bool r.normal, .int .i64 r.last, .slice h.L.1 h.L.2.1 h.L.2.2, .int .i64 r.commit, .slice h.O.1 h.O.2.1 h.O.2.2, .slice h.A.1 h.A.2.1 h.A.2.2, .slice h.D.1 h.D.2.1 h.D.2.2, .slice s'.1 s'.2.1 s'.2.2] ∧ SentAt w' base (.slice s'.1 s'.2.1 s'.2.2) Km' (ms ++ tellM r) ∧ s'.2.1 = (ms ++ tellM r).length ∧ (∀ j, j < s'.2.1 → (Km' j).2.1 ≤ 1048576) ∧ KeptS (fun k => k = b0 ∨ base ≤ k) w w' := by
  have HTM : Hid (tellM r = if (r.view % r.size == r.id) = true then [] else [telM r]) := rfl
  have HG : Hid (GrowAt _ _ _ _ _ _ _ _ _) := G
  have HK : Hid _ := hK
  clear G hK
  have c0 := X0.cell
  have ob0 := X0.lt
  go_enter Try.func71, Try.ntmps71
  go_wp2_with fail
  have DQ : Below w.heap.size w w.drew := (Below.refl _ _).drew
  replace X0 := X0.below DQ
  replace c0 := X0.cell
  have B := DQ
  clear DQ
  refine wp_region_held_drew (S := (fun w' => ∀ k : Nat, w'.cell? ⟨b0, k, none⟩ = [.int .i64 r.id, .int .i64 r.size, .int .i64 r.view, .bool r.normal, .int .i64 r.last, .slice h.L.1 h.L.2.1 h.L.2.2, .int .i64 r.commit, .slice h.O.1 h.O.2.1 h.O.2.2, .slice h.A.1 h.A.2.1 h.A.2.2, .slice h.D.1 h.D.2.1 h.D.2.2, .slice s.1 s.2.1 s.2.2][k]?)) (by kernel_rfl) c0 (fun hHeld => ?_)
  refine wpAnyH_take (i := 0) (v := ?_) rfl (by kernel_rfl) (by kernel_rfl) (by kernel_rfl) (fun _ _ _ h => h) (Or.inl ⟨by rfl, ?_⟩) hHeld ?_
  rotate_left 1
  · intro w hSw
    try dsimp only at hSw
    first | (go_simp; done) | (go_simp; with_reducible rfl)
  simp only [Act.put, List.setIfInBounds_toArray, List.set_cons_zero, List.set_cons_succ, List.getElem_toArray, List.getElem_cons_zero]
  refine wpAnyH_take (i := 1) (v := ?_) rfl (by kernel_rfl) (by kernel_rfl) (by kernel_rfl) (fun _ _ _ h => h) (Or.inl ⟨by rfl, ?_⟩) hHeld ?_
  rotate_left 1
  · intro w hSw
    try dsimp only at hSw
    first | (go_simp; done) | (go_simp; with_reducible rfl)
  simp only [Act.put, List.setIfInBounds_toArray, List.set_cons_zero, List.set_cons_succ, List.getElem_toArray, List.getElem_cons_zero, List.getElem_cons_succ]
  refine wpAnyH_take (i := 2) (v := ?_) rfl (by kernel_rfl) (by kernel_rfl) (by kernel_rfl) (fun _ _ _ h => h) (Or.inl ⟨by rfl, ?_⟩) hHeld ?_
  rotate_left 1
  · intro w hSw
    try dsimp only at hSw
    first | (go_simp; done) | (go_simp; with_reducible rfl)
  simp only [Act.put, List.setIfInBounds_toArray, List.set_cons_zero, List.set_cons_succ, List.getElem_toArray, List.getElem_cons_zero, List.getElem_cons_succ]
  refine wpAnyH_take (i := 3) (v := ?_) rfl (by kernel_rfl) (by kernel_rfl) (by kernel_rfl) (fun _ _ _ h => h) (Or.inl ⟨by rfl, ?_⟩) hHeld ?_
  rotate_left 1
  · intro w hSw
    try dsimp only at hSw
    first | (go_simp; done) | (go_simp; with_reducible rfl)
  simp only [Act.put, List.setIfInBounds_toArray, List.set_cons_zero, List.set_cons_succ, List.getElem_toArray, List.getElem_cons_zero, List.getElem_cons_succ]
  refine wpAnyH_take (i := 4) (v := ?_) rfl (by kernel_rfl) (by kernel_rfl) (by kernel_rfl) (fun _ _ _ h => h) (Or.inl ⟨by rfl, ?_⟩) hHeld ?_
  rotate_left 1
  · intro w hSw
    try dsimp only at hSw
    first | (go_simp; done) | (go_simp; with_reducible rfl)
  simp only [Act.put, List.setIfInBounds_toArray, List.set_cons_zero, List.set_cons_succ, List.getElem_toArray, List.getElem_cons_zero, List.getElem_cons_succ]
  refine wpAnyH_take (i := 5) (v := ?_) rfl (by kernel_rfl) (by kernel_rfl) (by kernel_rfl) (fun _ _ _ h => h) (Or.inl ⟨by rfl, ?_⟩) hHeld ?_
  rotate_left 1
  · intro w hSw
    try dsimp only at hSw
    first | (go_simp; done) | (go_simp; with_reducible rfl)
  simp only [Act.put, List.setIfInBounds_toArray, List.set_cons_zero, List.set_cons_succ, List.getElem_toArray, List.getElem_cons_zero, List.getElem_cons_succ]
  refine wpAnyH_take (i := 6) (v := ?_) rfl (by kernel_rfl) (by kernel_rfl) (by kernel_rfl) (fun _ _ _ h => h) (Or.inl ⟨by rfl, ?_⟩) hHeld ?_
  rotate_left 1
  · intro w hSw
    try dsimp only at hSw
    first | (go_simp; done) | (go_simp; with_reducible rfl)
  simp only [Act.put, List.setIfInBounds_toArray, List.set_cons_zero, List.set_cons_succ, List.getElem_toArray, List.getElem_cons_zero, List.getElem_cons_succ]
  refine wpAnyH_take (i := 7) (v := ?_) rfl (by kernel_rfl) (by kernel_rfl) (by kernel_rfl) (fun _ _ _ h => h) (Or.inl ⟨by rfl, ?_⟩) hHeld ?_
  rotate_left 1
  · intro w hSw
    try dsimp only at hSw
    first | (go_simp; done) | (go_simp; with_reducible rfl)
  simp only [Act.put, List.setIfInBounds_toArray, List.set_cons_zero, List.set_cons_succ, List.getElem_toArray, List.getElem_cons_zero, List.getElem_cons_succ]
  refine wpAnyH_take (i := 8) (v := ?_) rfl (by kernel_rfl) (by kernel_rfl) (by kernel_rfl) (fun _ _ _ h => h) (Or.inl ⟨by rfl, ?_⟩) hHeld ?_
  rotate_left 1
  · intro w hSw
    try dsimp only at hSw
    first | (go_simp; done) | (go_simp; with_reducible rfl)
  simp only [Act.put, List.setIfInBounds_toArray, List.set_cons_zero, List.set_cons_succ, List.getElem_toArray, List.getElem_cons_zero, List.getElem_cons_succ]
  refine wpAnyH_take (i := 9) (v := ?_) rfl (by kernel_rfl) (by kernel_rfl) (by kernel_rfl) (fun _ _ _ h => h) (Or.inl ⟨by rfl, ?_⟩) hHeld ?_
  rotate_left 1
  · intro w hSw
    try dsimp only at hSw
    first | (go_simp; done) | (go_simp; with_reducible rfl)
  simp only [Act.put, List.setIfInBounds_toArray, List.set_cons_zero, List.set_cons_succ, List.getElem_toArray, List.getElem_cons_zero, List.getElem_cons_succ]
  refine wpAnyH_ready (rs := [10]) (by kernel_rfl) (by simp) ?_
  refine AllReadyH.cons rfl (fun KK hKK => ?_) AllReadyH.nil
  go_simp
  go_at_call 58
  refine (firstOf_is r.view r.size hs hv _).mono ?_
  rintro e W9 ⟨rfl, rfl⟩
  clear hHeld
  refine hKK _ _ c0 (fun hHeld => ?_)
  clear hKK KK
  refine wpAnyH_take (i := 11) (v := ?_) rfl (by kernel_rfl) (by kernel_rfl) (by kernel_rfl) (fun _ _ _ h => h) (Or.inl ⟨by rfl, ?_⟩) hHeld ?_
  rotate_left 1
  · intro w hSw
    try dsimp only at hSw
    first | (go_simp; done) | (go_simp; with_reducible rfl)
  simp only [Act.put, List.setIfInBounds_toArray, List.set_cons_zero, List.set_cons_succ, List.getElem_toArray, List.getElem_cons_zero, List.getElem_cons_succ]
  refine wpAnyH_done (by kernel_rfl) ?_ _
  obtain ⟨fo, hfo⟩ : ∃ fo, r.view % r.size = fo := ⟨_, rfl⟩
  have HF : Hid _ := hfo
  rw [hfo] at HTM
  simp only [hfo]
  clear hfo
  by_cases q : fo = r.id
  · have q1 : (fo == r.id) = true := by simp [q]
    have E : tellM r = [] := by rw [HTM.out, if_pos q1]
    clear q
    go_wp2
    refine bodyPost_ret (v := .tuple #[]) (by simp [results, Try.results71, go_sem]) rfl ⟨s, Km, rfl, X0, ?_, ?_, HK.out, (KeptS.below B)⟩
    · rw [E, List.append_nil]; exact HG.out.below B
    · rw [E, List.append_nil]; exact hsn
  have q1 : (fo == r.id) = false := by simp [q]
  have E : tellM r = [telM r] := by rw [HTM.out, if_neg (by rw [q1]; decide)]
  clear q
  go_wp2_with fail
  have DQ : Below w.drew.heap.size w.drew w.drew.drew := (Below.refl _ _).drew
  replace X0 := X0.below DQ
  replace c0 := X0.cell
  replace B := below_next B DQ
  clear DQ
  have k4 := X0.cell 4
  simp only [List.getElem?_cons_succ, List.getElem?_cons_zero] at k4
  have k5 := X0.cell 5
  simp only [List.getElem?_cons_succ, List.getElem?_cons_zero] at k5
  have k6 := X0.cell 6
  simp only [List.getElem?_cons_succ, List.getElem?_cons_zero] at k6
  refine wp_region_held_drew (S := (fun w' => w'.cell? ⟨b0, 4, none⟩ = some (.int .i64 r.last) ∧ w'.cell? ⟨b0, 5, none⟩ = some (.slice h.L.1 h.L.2.1 h.L.2.2) ∧ w'.cell? ⟨b0, 6, none⟩ = some (.int .i64 r.commit))) (by kernel_rfl) ⟨k4, k5, k6⟩ (fun hHeld => ?_)
  refine wpAnyH_take (i := 0) (v := ?_) rfl (by kernel_rfl) (by kernel_rfl) (by kernel_rfl) (fun _ _ _ h => h) (Or.inl ⟨by rfl, ?_⟩) hHeld ?_
  rotate_left 1
  · intro w hSw
    try dsimp only at hSw
    first | (go_simp; done) | (go_simp; with_reducible rfl)
  simp only [Act.put, List.setIfInBounds_toArray, List.set_cons_zero, List.set_cons_succ, List.getElem_toArray, List.getElem_cons_zero]
  refine wpAnyH_take (i := 1) (v := ?_) rfl (by kernel_rfl) (by kernel_rfl) (by kernel_rfl) (fun _ _ _ h => h) (Or.inl ⟨by rfl, ?_⟩) hHeld ?_
  rotate_left 1
  · intro w hSw
    try dsimp only at hSw
    first | (go_simp; done) | (go_simp; with_reducible rfl)
  simp only [Act.put, List.setIfInBounds_toArray, List.set_cons_zero, List.set_cons_succ, List.getElem_toArray, List.getElem_cons_zero, List.getElem_cons_succ]
  refine wpAnyH_take (i := 2) (v := ?_) rfl (by kernel_rfl) (by kernel_rfl) (by kernel_rfl) (fun _ _ _ h => h) (Or.inl ⟨by rfl, ?_⟩) hHeld ?_
  rotate_left 1
  · intro w hSw
    try dsimp only at hSw
    first | (go_simp; done) | (go_simp; with_reducible rfl)
  simp only [Act.put, List.setIfInBounds_toArray, List.set_cons_zero, List.set_cons_succ, List.getElem_toArray, List.getElem_cons_zero, List.getElem_cons_succ]
  refine wpAnyH_take (i := 3) (v := ?_) rfl (by kernel_rfl) (by kernel_rfl) (by kernel_rfl) (fun _ _ _ h => h) (Or.inl ⟨by rfl, ?_⟩) hHeld ?_
  rotate_left 1
  · intro w hSw
    try dsimp only at hSw
    first | (go_simp; done) | (go_simp; with_reducible rfl)
  simp only [Act.put, List.setIfInBounds_toArray, List.set_cons_zero, List.set_cons_succ, List.getElem_toArray, List.getElem_cons_zero, List.getElem_cons_succ]
  refine wpAnyH_take (i := 4) (v := ?_) rfl (by kernel_rfl) (by kernel_rfl) (by kernel_rfl) (fun _ _ _ h => h) (Or.inl ⟨by rfl, ?_⟩) hHeld ?_
  rotate_left 1
  · intro w hSw
    try dsimp only at hSw
    first | (go_simp; done) | (go_simp; with_reducible rfl)
  simp only [Act.put, List.setIfInBounds_toArray, List.set_cons_zero, List.set_cons_succ, List.getElem_toArray, List.getElem_cons_zero, List.getElem_cons_succ]
  refine wpAnyH_take (i := 5) (v := ?_) rfl (by kernel_rfl) (by kernel_rfl) (by kernel_rfl) (fun _ _ _ h => h) (Or.inl ⟨by rfl, ?_⟩) hHeld ?_
  rotate_left 1
  · intro w hSw
    try dsimp only at hSw
    first | (go_simp; done) | (go_simp; with_reducible rfl)
  simp only [Act.put, List.setIfInBounds_toArray, List.set_cons_zero, List.set_cons_succ, List.getElem_toArray, List.getElem_cons_zero, List.getElem_cons_succ]
  refine wpAnyH_take (i := 6) (v := ?_) rfl (by kernel_rfl) (by kernel_rfl) (by kernel_rfl) (fun _ _ _ h => h) (Or.inl ⟨by rfl, ?_⟩) hHeld ?_
  rotate_left 1
  · intro w hSw
    try dsimp only at hSw
    first | (go_simp; done) | (go_simp; with_reducible rfl)
  simp only [Act.put, List.setIfInBounds_toArray, List.set_cons_zero, List.set_cons_succ, List.getElem_toArray, List.getElem_cons_zero, List.getElem_cons_succ]
  refine wpAnyH_take (i := 7) (v := ?_) rfl (by kernel_rfl) (by kernel_rfl) (by kernel_rfl) (fun _ _ _ h => h) (Or.inl ⟨by rfl, ?_⟩) hHeld ?_
  rotate_left 1
  · intro w hSw
    try dsimp only at hSw
    first | (go_simp; done) | (go_simp; with_reducible rfl)
  simp only [Act.put, List.setIfInBounds_toArray, List.set_cons_zero, List.set_cons_succ, List.getElem_toArray, List.getElem_cons_zero, List.getElem_cons_succ]
  refine wpAnyH_take (i := 8) (v := ?_) rfl (by kernel_rfl) (by kernel_rfl) (by kernel_rfl) (fun _ _ _ h => h) (Or.inl ⟨by rfl, ?_⟩) hHeld ?_
  rotate_left 1
  · intro w hSw
    try dsimp only at hSw
    first | (go_simp; done) | (go_simp; with_reducible rfl)
  simp only [Act.put, List.setIfInBounds_toArray, List.set_cons_zero, List.set_cons_succ, List.getElem_toArray, List.getElem_cons_zero, List.getElem_cons_succ]
  refine wpAnyH_take (i := 9) (v := ?_) rfl (by kernel_rfl) (by kernel_rfl) (by kernel_rfl) (fun _ _ _ h => h) (Or.inl ⟨by rfl, ?_⟩) hHeld ?_
  rotate_left 1
  · intro w hSw
    try dsimp only at hSw
    first | (go_simp; done) | (go_simp; with_reducible rfl)
  simp only [Act.put, List.setIfInBounds_toArray, List.set_cons_zero, List.set_cons_succ, List.getElem_toArray, List.getElem_cons_zero, List.getElem_cons_succ]
  refine wpAnyH_take (i := 10) (v := ?_) rfl (by kernel_rfl) (by kernel_rfl) (by kernel_rfl) (fun _ _ _ h => h) (Or.inl ⟨by rfl, ?_⟩) hHeld ?_
  rotate_left 1
  · intro w hSw
    try dsimp only at hSw
    first | (go_simp; done) | (go_simp; with_reducible rfl)
  simp only [Act.put, List.setIfInBounds_toArray, List.set_cons_zero, List.set_cons_succ, List.getElem_toArray, List.getElem_cons_zero, List.getElem_cons_succ]
  refine wpAnyH_take (i := 11) (v := ?_) rfl (by kernel_rfl) (by kernel_rfl) (by kernel_rfl) (fun _ _ _ h => h) (Or.inl ⟨by rfl, ?_⟩) hHeld ?_
  rotate_left 1
  · intro w hSw
    try dsimp only at hSw
    first | (go_simp; done) | (go_simp; with_reducible rfl)
  simp only [Act.put, List.setIfInBounds_toArray, List.set_cons_zero, List.set_cons_succ, List.getElem_toArray, List.getElem_cons_zero, List.getElem_cons_succ]
  refine wpAnyH_take (i := 13) (v := ?_) rfl (by kernel_rfl) (by kernel_rfl) (by kernel_rfl) (fun _ _ _ h => h) (Or.inl ⟨by rfl, ?_⟩) hHeld ?_
  rotate_left 1
  · intro w hSw
    try dsimp only at hSw
    first | (go_simp; done) | (go_simp; with_reducible rfl)
  simp only [Act.put, List.setIfInBounds_toArray, List.set_cons_zero, List.set_cons_succ, List.getElem_toArray, List.getElem_cons_zero, List.getElem_cons_succ]
  refine wpAnyH_take (i := 14) (v := ?_) rfl (by kernel_rfl) (by kernel_rfl) (by kernel_rfl) (fun _ _ _ h => h) (Or.inl ⟨by rfl, ?_⟩) hHeld ?_
  rotate_left 1
  · intro w hSw
    try dsimp only at hSw
    first | (go_simp; done) | (go_simp; with_reducible rfl)
  simp only [Act.put, List.setIfInBounds_toArray, List.set_cons_zero, List.set_cons_succ, List.getElem_toArray, List.getElem_cons_zero, List.getElem_cons_succ]
  refine wpAnyH_take (i := 15) (v := ?_) rfl (by kernel_rfl) (by kernel_rfl) (by kernel_rfl) (fun _ _ _ h => h) (Or.inl ⟨by rfl, ?_⟩) hHeld ?_
  rotate_left 1
  · intro w hSw
    try dsimp only at hSw
    first | (go_simp; done) | (go_simp; with_reducible rfl)
  simp only [Act.put, List.setIfInBounds_toArray, List.set_cons_zero, List.set_cons_succ, List.getElem_toArray, List.getElem_cons_zero, List.getElem_cons_succ]
  refine wpAnyH_take (i := 16) (v := ?_) rfl (by kernel_rfl) (by kernel_rfl) (by kernel_rfl) (fun _ _ _ h => h) (Or.inl ⟨by rfl, ?_⟩) hHeld ?_
  rotate_left 1
  · intro w hSw
    try dsimp only at hSw
    first | (go_simp; done) | (go_simp; with_reducible rfl)
  simp only [Act.put, List.setIfInBounds_toArray, List.set_cons_zero, List.set_cons_succ, List.getElem_toArray, List.getElem_cons_zero, List.getElem_cons_succ]
  refine wpAnyH_take (i := 17) (v := ?_) rfl (by kernel_rfl) (by kernel_rfl) (by kernel_rfl) (fun _ _ _ h => h) (Or.inl ⟨by rfl, ?_⟩) hHeld ?_
  rotate_left 1
  · intro w hSw
    try dsimp only at hSw
    first | (go_simp; done) | (go_simp; with_reducible rfl)
  simp only [Act.put, List.setIfInBounds_toArray, List.set_cons_zero, List.set_cons_succ, List.getElem_toArray, List.getElem_cons_zero, List.getElem_cons_succ]
  refine wpAnyH_ready (rs := [12]) (by kernel_rfl) (by simp) ?_
  refine AllReadyH.cons rfl (fun KK hKK => ?_) AllReadyH.nil
  go_simp
  go_at_call 129
  refine (cloneE_z _ _ _ r.log _ (L5.below B) hzL).mono ?_
  rintro e w2 ⟨ra, rc, z, ue, rfl, Gz, zu, hR, R, BB⟩
  have gz : w.heap.size ≤ z := Nat.le_trans B.size Gz
  clear Gz zu
  replace X0 := X0.below BB
  replace B := below_next B BB
  clear BB k4 k5 k6
  have k4 := X0.cell 4
  simp only [List.getElem?_cons_succ, List.getElem?_cons_zero] at k4
  have k5 := X0.cell 5
  simp only [List.getElem?_cons_succ, List.getElem?_cons_zero] at k5
  have k6 := X0.cell 6
  simp only [List.getElem?_cons_succ, List.getElem?_cons_zero] at k6
  clear hHeld
  refine hKK _ _ ⟨k4, k5, k6⟩ (fun hHeld => ?_)
  clear hKK KK
  refine wpAnyH_take (i := 18) (v := ?_) rfl (by kernel_rfl) (by kernel_rfl) (by kernel_rfl) (fun _ _ _ h => h) (Or.inl ⟨by rfl, ?_⟩) hHeld ?_
  rotate_left 1
  · intro w hSw
    try dsimp only at hSw
    first | (go_simp; done) | (go_simp; with_reducible rfl)
  simp only [Act.put, List.setIfInBounds_toArray, List.set_cons_zero, List.set_cons_succ, List.getElem_toArray, List.getElem_cons_zero, List.getElem_cons_succ]
  refine wpAnyH_ready (rs := [19]) (by kernel_rfl) (by simp) ?_
  refine AllReadyH.cons rfl (fun KK hKK => ?_) AllReadyH.nil
  go_simp
  go_at_call 128
  refine (send_is r h s fo (tel0 r) (ra, h.L.2.1, rc) base b0 _ Km ms X0 (HG.out.below B) (R.widen (Nat.le_trans hbase gz) hR) (fun h0 => by
      have i1 := R.inB (k := sb ra) ⟨h0, rfl⟩
      refine ⟨fun qq => ?_, fun j hj h2 => ?_⟩
      · have := (HG.out.own.lt (sb ra) qq).2; omega
      · have := ((HG.out.logs j hj).inB (k := sb (Km j).1) ⟨h2, rfl⟩).2.2; simp only; omega) hb (Nat.le_trans hbase B.size) hn).mono ?_
  rintro e w3 ⟨s', rfl, X2, G2, hs2, KS2⟩
  have H1 : Hid _ := X2
  have H2 : Hid _ := G2
  have K9 : Hid (KeptS (fun q => q = b0 ∨ base ≤ q) w w3) := (KeptS.below B).trans KS2
  clear k4 k5 k6
  have k4 := X2.cell 4
  simp only [List.getElem?_cons_succ, List.getElem?_cons_zero] at k4
  have k5 := X2.cell 5
  simp only [List.getElem?_cons_succ, List.getElem?_cons_zero] at k5
  have k6 := X2.cell 6
  simp only [List.getElem?_cons_succ, List.getElem?_cons_zero] at k6
  clear X2 G2 KS2 X0 R
  clear hHeld
  refine hKK _ _ ⟨k4, k5, k6⟩ (fun hHeld => ?_)
  clear hKK KK
  refine wpAnyH_done (by kernel_rfl) ?_ _
  go_wp2
  refine bodyPost_end (v := .tuple #[]) (by simp [results, Try.results71, go_sem]) rfl ⟨s', (fun j => if j = ms.length then (ra, h.L.2.1, rc) else Km j), rfl, H1.out, ?_, ?_, fun j hj => ?_, K9.out⟩
  · rw [E, show telM r = putM (tel0 r) r.id fo r.view by unfold telM; rw [HF.out]]; exact H2.out
  · rw [E, hs2]; simp
  · by_cases e : j = ms.length
    · simp only [if_pos e]; exact hzL
    · simp only [if_neg e]; exact HK.out j (by omega)
set_option maxRecDepth 20000 in
set_option maxHeartbeats 2000000 in
theorem l9Tell0_is {own : Bool} {lo hi : Nat} (r : Rep) (h : RH) (b0 : Nat) (w : World) (X0 : Bx w b0 [.int .i64 r.id, .int .i64 r.size, .int .i64 r.view, .bool r.normal, .int .i64 r.last, .slice h.L.1 h.L.2.1 h.L.2.2, .int .i64 r.commit, .slice h.O.1 h.O.2.1 h.O.2.2, .slice h.A.1 h.A.2.1 h.A.2.2, .slice h.D.1 h.D.2.1 h.D.2.2]) (L5 : RowAt w own lo hi 6 h.L.1 h.L.2.1 h.L.2.2 (sixs r.log)) (hzL : h.L.2.1 ≤ 1048576) (hs : 1 ≤ r.size ∧ r.size ≤ 5) (hv : 0 ≤ r.view ∧ r.view ≤ 300) :
    Calls Try.prog 76 #[.pointer (some ⟨b0, 0, none⟩)] w fun e w' => ∃ (s' : Hd) (Km : Nat → Hd), e = .returned (.slice s'.1 s'.2.1 s'.2.2) ∧ MailsAt w' true w.heap.size w'.heap.size s'.1 s'.2.1 s'.2.2 Km (tellM r) ∧ s'.2.1 = (tellM r).length ∧ (∀ j, j < s'.2.1 → (Km j).2.1 ≤ 1048576) ∧ Below w.heap.size w w' := by
  have h0 : ¬ r.size = 0 := by omega
  have hr : r.view.tmod r.size = r.view % r.size := Int.tmod_eq_emod_of_nonneg hv.1
  have hw : IntKind.i64.wrap (r.view % r.size) = r.view % r.size := by
    have h2 := Int.emod_nonneg r.view h0
    have h3 : r.view % r.size < r.size := Int.emod_lt_of_pos r.view (by omega)
    exact wrapI_same _ (by omega)
  have HTM : Hid (tellM r = if (r.view % r.size == r.id) = true then [] else [telM r]) := rfl
  obtain ⟨l, hl⟩ : ∃ l, (r.view % r.size == r.id) = l := ⟨_, rfl⟩
  rw [hl] at HTM
  have HL : Hid _ := hl
  clear hl
  have c0 := X0.cell
  have ob0 := X0.lt
  go_enter Try.func76, Try.ntmps76
  go_wp2_with fail
  refine (l9Primary_is b0 r.id r.size r.view r.normal r.last h.L r.commit h.O h.A h.D hs hv _ X0).mono ?_
  rintro e w1 ⟨rfl, BB⟩
  rw [HL.out]
  replace X0 := X0.below BB
  replace c0 := X0.cell
  have B := BB
  clear BB
  cases l
  rotate_left 1
  · have E : tellM r = [] := by rw [HTM.out, if_pos rfl]
    go_wp2
    go_ret
    refine ⟨(none, 0, 0), kd0, rfl, ?_, ?_, fun j hj => absurd hj (Nat.not_lt_zero _), B⟩
    · rw [E]; exact ⟨rfl, ElsAt.nil _ _ _ _ _ _ _ _ _ _⟩
    · rw [E]; rfl
  have E : tellM r = [telM r] := by rw [HTM.out, if_neg (by decide)]
  go_wp2_with fail
  have DQ : Below w1.heap.size w1 w1.drew := (Below.refl _ _).drew
  replace X0 := X0.below DQ
  replace c0 := X0.cell
  replace B := below_next B DQ
  clear DQ
  refine wp_region_held_drew (S := (fun w' => ∀ k : Nat, w'.cell? ⟨b0, k, none⟩ = [.int .i64 r.id, .int .i64 r.size, .int .i64 r.view, .bool r.normal, .int .i64 r.last, .slice h.L.1 h.L.2.1 h.L.2.2, .int .i64 r.commit, .slice h.O.1 h.O.2.1 h.O.2.2, .slice h.A.1 h.A.2.1 h.A.2.2, .slice h.D.1 h.D.2.1 h.D.2.2][k]?)) (by kernel_rfl) c0 (fun hHeld => ?_)
  refine wpAnyH_take (i := 0) (v := ?_) rfl (by kernel_rfl) (by kernel_rfl) (by kernel_rfl) (fun _ _ _ h => h) (Or.inl ⟨by rfl, ?_⟩) hHeld ?_
  rotate_left 1
  · intro w hSw
    try dsimp only at hSw
    first | (go_simp; done) | (go_simp; with_reducible rfl)
  simp only [Act.put, List.setIfInBounds_toArray, List.set_cons_zero, List.set_cons_succ, List.getElem_toArray, List.getElem_cons_zero]
  refine wpAnyH_take (i := 1) (v := ?_) rfl (by kernel_rfl) (by kernel_rfl) (by kernel_rfl) (fun _ _ _ h => h) (Or.inl ⟨by rfl, ?_⟩) hHeld ?_
  rotate_left 1
  · intro w hSw
    try dsimp only at hSw
    first | (go_simp; done) | (go_simp; with_reducible rfl)
  simp only [Act.put, List.setIfInBounds_toArray, List.set_cons_zero, List.set_cons_succ, List.getElem_toArray, List.getElem_cons_zero, List.getElem_cons_succ]
  refine wpAnyH_take (i := 2) (v := ?_) rfl (by kernel_rfl) (by kernel_rfl) (by kernel_rfl) (fun _ _ _ h => h) (Or.inl ⟨by rfl, ?_⟩) hHeld ?_
  rotate_left 1
  · intro w hSw
    try dsimp only at hSw
    first | (go_simp; done) | (go_simp; with_reducible rfl)
  simp only [Act.put, List.setIfInBounds_toArray, List.set_cons_zero, List.set_cons_succ, List.getElem_toArray, List.getElem_cons_zero, List.getElem_cons_succ]
  refine wpAnyH_take (i := 3) (v := ?_) rfl (by kernel_rfl) (by kernel_rfl) (by kernel_rfl) (fun _ _ _ h => h) (Or.inl ⟨by rfl, ?_⟩) hHeld ?_
  rotate_left 1
  · intro w hSw
    try dsimp only at hSw
    first | (go_simp; done) | (go_simp; with_reducible rfl)
  simp only [Act.put, List.setIfInBounds_toArray, List.set_cons_zero, List.set_cons_succ, List.getElem_toArray, List.getElem_cons_zero, List.getElem_cons_succ]
  refine wpAnyH_take (i := 4) (v := ?_) rfl (by kernel_rfl) (by kernel_rfl) (by kernel_rfl) (fun _ _ _ h => h) (Or.inl ⟨by rfl, ?_⟩) hHeld ?_
  rotate_left 1
  · intro w hSw
    try dsimp only at hSw
    first | (go_simp; done) | (go_simp; with_reducible rfl)
  simp only [Act.put, List.setIfInBounds_toArray, List.set_cons_zero, List.set_cons_succ, List.getElem_toArray, List.getElem_cons_zero, List.getElem_cons_succ]
  refine wpAnyH_take (i := 5) (v := ?_) rfl (by kernel_rfl) (by kernel_rfl) (by kernel_rfl) (fun _ _ _ h => h) (Or.inl ⟨by rfl, ?_⟩) hHeld ?_
  rotate_left 1
  · intro w hSw
    try dsimp only at hSw
    first | (go_simp; done) | (go_simp; with_reducible rfl)
  simp only [Act.put, List.setIfInBounds_toArray, List.set_cons_zero, List.set_cons_succ, List.getElem_toArray, List.getElem_cons_zero, List.getElem_cons_succ]
  refine wpAnyH_take (i := 6) (v := ?_) rfl (by kernel_rfl) (by kernel_rfl) (by kernel_rfl) (fun _ _ _ h => h) (Or.inl ⟨by rfl, ?_⟩) hHeld ?_
  rotate_left 1
  · intro w hSw
    try dsimp only at hSw
    first | (go_simp; done) | (go_simp; with_reducible rfl)
  simp only [Act.put, List.setIfInBounds_toArray, List.set_cons_zero, List.set_cons_succ, List.getElem_toArray, List.getElem_cons_zero, List.getElem_cons_succ]
  refine wpAnyH_take (i := 7) (v := ?_) rfl (by kernel_rfl) (by kernel_rfl) (by kernel_rfl) (fun _ _ _ h => h) (Or.inl ⟨by rfl, ?_⟩) hHeld ?_
  rotate_left 1
  · intro w hSw
    try dsimp only at hSw
    first | (go_simp; done) | (go_simp; with_reducible rfl)
  simp only [Act.put, List.setIfInBounds_toArray, List.set_cons_zero, List.set_cons_succ, List.getElem_toArray, List.getElem_cons_zero, List.getElem_cons_succ]
  refine wpAnyH_take (i := 8) (v := ?_) rfl (by kernel_rfl) (by kernel_rfl) (by kernel_rfl) (fun _ _ _ h => h) (Or.inl ⟨by rfl, ?_⟩) hHeld ?_
  rotate_left 1
  · intro w hSw
    try dsimp only at hSw
    first | (go_simp; done) | (go_simp; with_reducible rfl)
  simp only [Act.put, List.setIfInBounds_toArray, List.set_cons_zero, List.set_cons_succ, List.getElem_toArray, List.getElem_cons_zero, List.getElem_cons_succ]
  refine wpAnyH_take (i := 9) (v := ?_) rfl (by kernel_rfl) (by kernel_rfl) (by kernel_rfl) (fun _ _ _ h => h) (Or.inl ⟨by rfl, ?_⟩) hHeld ?_
  rotate_left 1
  · intro w hSw
    try dsimp only at hSw
    first | (go_simp; done) | (go_simp; with_reducible rfl)
  simp only [Act.put, List.setIfInBounds_toArray, List.set_cons_zero, List.set_cons_succ, List.getElem_toArray, List.getElem_cons_zero, List.getElem_cons_succ]
  refine wpAnyH_take (i := 10) (v := ?_) rfl (by kernel_rfl) (by kernel_rfl) (by kernel_rfl) (fun _ _ _ h => h) (Or.inl ⟨by rfl, ?_⟩) hHeld ?_
  rotate_left 1
  · intro w hSw
    try dsimp only at hSw
    first | (go_simp; done) | (go_simp; with_reducible rfl)
  simp only [Act.put, List.setIfInBounds_toArray, List.set_cons_zero, List.set_cons_succ, List.getElem_toArray, List.getElem_cons_zero, List.getElem_cons_succ]
  refine wpAnyH_take (i := 11) (v := ?_) rfl (by kernel_rfl) (by kernel_rfl) (by kernel_rfl) (fun _ _ _ h => h) (Or.inl ⟨by rfl, ?_⟩) hHeld ?_
  rotate_left 1
  · intro w hSw
    try dsimp only at hSw
    first | (go_simp; done) | (go_simp; with_reducible rfl)
  simp only [Act.put, List.setIfInBounds_toArray, List.set_cons_zero, List.set_cons_succ, List.getElem_toArray, List.getElem_cons_zero, List.getElem_cons_succ]
  refine wpAnyH_take (i := 12) (v := ?_) rfl (by kernel_rfl) (by kernel_rfl) (by kernel_rfl) (fun _ _ _ h => h) (Or.inl ⟨by rfl, ?_⟩) hHeld ?_
  rotate_left 1
  · intro w hSw
    try dsimp only at hSw
    first | (go_simp; done) | (go_simp; with_reducible rfl)
  simp only [Act.put, List.setIfInBounds_toArray, List.set_cons_zero, List.set_cons_succ, List.getElem_toArray, List.getElem_cons_zero, List.getElem_cons_succ]
  refine wpAnyH_take (i := 13) (v := ?_) rfl (by kernel_rfl) (by kernel_rfl) (by kernel_rfl) (fun _ _ _ h => h) (Or.inl ⟨by rfl, ?_⟩) hHeld ?_
  rotate_left 1
  · intro w hSw
    try dsimp only at hSw
    first | (go_simp; done) | (go_simp; with_reducible rfl)
  simp only [Act.put, List.setIfInBounds_toArray, List.set_cons_zero, List.set_cons_succ, List.getElem_toArray, List.getElem_cons_zero, List.getElem_cons_succ]
  refine wpAnyH_take (i := 14) (v := ?_) rfl (by kernel_rfl) (by kernel_rfl) (by kernel_rfl) (fun _ _ _ h => h) (Or.inl ⟨by rfl, ?_⟩) hHeld ?_
  rotate_left 1
  · intro w hSw
    try dsimp only at hSw
    first | (go_simp; done) | (go_simp; with_reducible rfl)
  simp only [Act.put, List.setIfInBounds_toArray, List.set_cons_zero, List.set_cons_succ, List.getElem_toArray, List.getElem_cons_zero, List.getElem_cons_succ]
  refine wpAnyH_take (i := 15) (v := ?_) rfl (by kernel_rfl) (by kernel_rfl) (by kernel_rfl) (fun _ _ _ h => h) (Or.inl ⟨by rfl, ?_⟩) hHeld ?_
  rotate_left 1
  · intro w hSw
    try dsimp only at hSw
    first | (go_simp; done) | (go_simp; with_reducible rfl)
  simp only [Act.put, List.setIfInBounds_toArray, List.set_cons_zero, List.set_cons_succ, List.getElem_toArray, List.getElem_cons_zero, List.getElem_cons_succ]
  refine wpAnyH_take (i := 16) (v := ?_) rfl (by kernel_rfl) (by kernel_rfl) (by kernel_rfl) (fun _ _ _ h => h) (Or.inl ⟨by rfl, ?_⟩) hHeld ?_
  rotate_left 1
  · intro w hSw
    try dsimp only at hSw
    first | (go_simp; done) | (go_simp; with_reducible rfl)
  simp only [Act.put, List.setIfInBounds_toArray, List.set_cons_zero, List.set_cons_succ, List.getElem_toArray, List.getElem_cons_zero, List.getElem_cons_succ]
  refine wpAnyH_take (i := 17) (v := ?_) rfl (by kernel_rfl) (by kernel_rfl) (by kernel_rfl) (fun _ _ _ h => h) (Or.inl ⟨by rfl, ?_⟩) hHeld ?_
  rotate_left 1
  · intro w hSw
    try dsimp only at hSw
    first | (go_simp; done) | (go_simp; with_reducible rfl)
  simp only [Act.put, List.setIfInBounds_toArray, List.set_cons_zero, List.set_cons_succ, List.getElem_toArray, List.getElem_cons_zero, List.getElem_cons_succ]
  refine wpAnyH_take (i := 18) (v := ?_) rfl (by kernel_rfl) (by kernel_rfl) (by kernel_rfl) (fun _ _ _ h => h) (Or.inl ⟨by rfl, ?_⟩) hHeld ?_
  rotate_left 1
  · intro w hSw
    try dsimp only at hSw
    first | (go_simp; done) | (go_simp; with_reducible rfl)
  simp only [Act.put, List.setIfInBounds_toArray, List.set_cons_zero, List.set_cons_succ, List.getElem_toArray, List.getElem_cons_zero, List.getElem_cons_succ]
  refine wpAnyH_take (i := 19) (v := ?_) rfl (by kernel_rfl) (by kernel_rfl) (by kernel_rfl) (fun _ _ _ h => h) (Or.inl ⟨by rfl, ?_⟩) hHeld ?_
  rotate_left 1
  · intro w hSw
    try dsimp only at hSw
    first | (go_simp; done) | (go_simp; with_reducible rfl)
  simp only [Act.put, List.setIfInBounds_toArray, List.set_cons_zero, List.set_cons_succ, List.getElem_toArray, List.getElem_cons_zero, List.getElem_cons_succ]
  refine wpAnyH_take (i := 20) (v := ?_) rfl (by kernel_rfl) (by kernel_rfl) (by kernel_rfl) (fun _ _ _ h => h) (Or.inl ⟨by rfl, ?_⟩) hHeld ?_
  rotate_left 1
  · intro w hSw
    try dsimp only at hSw
    first | (go_simp; done) | (go_simp; with_reducible rfl)
  simp only [Act.put, List.setIfInBounds_toArray, List.set_cons_zero, List.set_cons_succ, List.getElem_toArray, List.getElem_cons_zero, List.getElem_cons_succ]
  refine wpAnyH_take (i := 21) (v := ?_) rfl (by kernel_rfl) (by kernel_rfl) (by kernel_rfl) (fun _ _ _ h => h) (Or.inl ⟨by rfl, ?_⟩) hHeld ?_
  rotate_left 1
  · intro w hSw
    try dsimp only at hSw
    first | (go_simp; done) | (go_simp; with_reducible rfl)
  simp only [Act.put, List.setIfInBounds_toArray, List.set_cons_zero, List.set_cons_succ, List.getElem_toArray, List.getElem_cons_zero, List.getElem_cons_succ]
  refine wpAnyH_take (i := 22) (v := ?_) rfl (by kernel_rfl) (by kernel_rfl) (by kernel_rfl) (fun _ _ _ h => h) (Or.inl ⟨by rfl, ?_⟩) hHeld ?_
  rotate_left 1
  · intro w hSw
    try dsimp only at hSw
    first | (go_simp; done) | (go_simp; with_reducible rfl)
  simp only [Act.put, List.setIfInBounds_toArray, List.set_cons_zero, List.set_cons_succ, List.getElem_toArray, List.getElem_cons_zero, List.getElem_cons_succ]
  refine wpAnyH_take (i := 23) (v := ?_) rfl (by kernel_rfl) (by kernel_rfl) (by kernel_rfl) (fun _ _ _ h => h) (Or.inl ⟨by rfl, ?_⟩) hHeld ?_
  rotate_left 1
  · intro w hSw
    try dsimp only at hSw
    first | (go_simp; done) | (go_simp; with_reducible rfl)
  simp only [Act.put, List.setIfInBounds_toArray, List.set_cons_zero, List.set_cons_succ, List.getElem_toArray, List.getElem_cons_zero, List.getElem_cons_succ]
  refine wpAnyH_take (i := 24) (v := ?_) rfl (by kernel_rfl) (by kernel_rfl) (by kernel_rfl) (fun _ _ _ h => h) (Or.inl ⟨by rfl, ?_⟩) hHeld ?_
  rotate_left 1
  · intro w hSw
    try dsimp only at hSw
    first | (go_simp; done) | (go_simp; with_reducible rfl)
  simp only [Act.put, List.setIfInBounds_toArray, List.set_cons_zero, List.set_cons_succ, List.getElem_toArray, List.getElem_cons_zero, List.getElem_cons_succ]
  refine wpAnyH_take (i := 26) (v := ?_) rfl (by kernel_rfl) (by kernel_rfl) (by kernel_rfl) (fun _ _ _ h => h) (Or.inl ⟨by rfl, ?_⟩) hHeld ?_
  rotate_left 1
  · intro w hSw
    try dsimp only at hSw
    first | (go_simp; done) | (go_simp; with_reducible rfl)
  simp only [Act.put, List.setIfInBounds_toArray, List.set_cons_zero, List.set_cons_succ, List.getElem_toArray, List.getElem_cons_zero, List.getElem_cons_succ]
  refine wpAnyH_take (i := 27) (v := ?_) rfl (by kernel_rfl) (by kernel_rfl) (by kernel_rfl) (fun _ _ _ h => h) (Or.inl ⟨by rfl, ?_⟩) hHeld ?_
  rotate_left 1
  · intro w hSw
    try dsimp only at hSw
    first | (go_simp; done) | (go_simp; with_reducible rfl)
  simp only [Act.put, List.setIfInBounds_toArray, List.set_cons_zero, List.set_cons_succ, List.getElem_toArray, List.getElem_cons_zero, List.getElem_cons_succ]
  refine wpAnyH_take (i := 28) (v := ?_) rfl (by kernel_rfl) (by kernel_rfl) (by kernel_rfl) (fun _ _ _ h => h) (Or.inl ⟨by rfl, ?_⟩) hHeld ?_
  rotate_left 1
  · intro w hSw
    try dsimp only at hSw
    first | (go_simp; done) | (go_simp; with_reducible rfl)
  simp only [Act.put, List.setIfInBounds_toArray, List.set_cons_zero, List.set_cons_succ, List.getElem_toArray, List.getElem_cons_zero, List.getElem_cons_succ]
  refine wpAnyH_take (i := 29) (v := ?_) rfl (by kernel_rfl) (by kernel_rfl) (by kernel_rfl) (fun _ _ _ h => h) (Or.inl ⟨by rfl, ?_⟩) hHeld ?_
  rotate_left 1
  · intro w hSw
    try dsimp only at hSw
    first | (go_simp; done) | (go_simp; with_reducible rfl)
  simp only [Act.put, List.setIfInBounds_toArray, List.set_cons_zero, List.set_cons_succ, List.getElem_toArray, List.getElem_cons_zero, List.getElem_cons_succ]
  refine wpAnyH_ready (rs := [25]) (by kernel_rfl) (by simp) ?_
  refine AllReadyH.cons rfl (fun KK hKK => ?_) AllReadyH.nil
  go_simp
  go_at_call 119
  refine (l8Copy_z _ _ _ r.log _ (L5.below B) hzL).mono ?_
  rintro e w2 ⟨ra, rc, z, ue, rfl, Gz, zu, hR, R, BB⟩
  have gz : w.heap.size ≤ z := Nat.le_trans B.size Gz
  clear Gz
  replace X0 := X0.below BB
  replace c0 := X0.cell
  replace B := below_next B BB
  clear BB
  clear hHeld
  refine hKK _ _ c0 (fun hHeld => ?_)
  clear hKK KK
  refine wpAnyH_take (i := 30) (v := ?_) rfl (by kernel_rfl) (by kernel_rfl) (by kernel_rfl) (fun _ _ _ h => h) (Or.inl ⟨by rfl, ?_⟩) hHeld ?_
  rotate_left 1
  · intro w hSw
    try dsimp only at hSw
    first | (go_simp; done) | (go_simp; with_reducible rfl)
  simp only [Act.put, List.setIfInBounds_toArray, List.set_cons_zero, List.set_cons_succ, List.getElem_toArray, List.getElem_cons_zero, List.getElem_cons_succ]
  refine wpAnyH_ready (rs := [31]) (by kernel_rfl) (by simp) ?_
  refine AllReadyH.cons rfl (fun KK hKK => ?_) AllReadyH.nil
  refine step_litX 36 1 _ [.int .i64 4, .int .i64 r.id, .int .i64 (r.view % r.size), .int .i64 r.view, .int .i64 0, .bool false, .int .i64 0, .int .i64 0, .int .i64 0, .int .i64 0, .int .i64 0, .int .i64 0, .int .i64 r.last, .slice ra h.L.2.1 rc, .int .i64 r.commit] 46 (fun _ => by kernel_rfl) ?_
  intro bl W1 N1
  have ge : w2.heap.size ≤ bl := N1.ge
  have R2 := R.below N1.below
  replace B := below_next B N1.below
  replace X0 := X0.below N1.below
  replace c0 := X0.cell
  have X1 : Bx W1 bl (mlV (ra, h.L.2.1, rc) (telM r)) := N1.bx
  clear N1
  clear hHeld
  refine hKK _ _ c0 (fun hHeld => ?_)
  clear hKK KK
  refine wpAnyH_take (i := 32) (v := ?_) rfl (by kernel_rfl) (by kernel_rfl) (by kernel_rfl) (fun _ _ _ h => h) (Or.inl ⟨by rfl, ?_⟩) hHeld ?_
  rotate_left 1
  · intro w hSw
    try dsimp only at hSw
    first | (go_simp; done) | (go_simp; with_reducible rfl)
  simp only [Act.put, List.setIfInBounds_toArray, List.set_cons_zero, List.set_cons_succ, List.getElem_toArray, List.getElem_cons_zero, List.getElem_cons_succ]
  refine wpAnyH_done (by kernel_rfl) ?_ _
  have MA : MailsAt W1 true w.heap.size W1.heap.size (some ⟨bl, 0, none⟩) 1 1 (fun _ => (ra, h.L.2.1, rc)) [telM r] := one_mail X1 R2 gz hR ge (Nat.le_trans gz (Nat.le_trans zu hR))
  have HMA : Hid _ := MA
  clear MA R2 X1 R X0 c0
  go_wp2
  go_ret
  refine ⟨(some ⟨bl, 0, none⟩, 1, 1), (fun _ => (ra, h.L.2.1, rc)), rfl, ?_, ?_, fun j hj => hzL, B⟩
  · rw [E]; exact HMA.out
  · rw [E]; rfl
end Go.Proofs.Ytcefhlkbbipmmaa

/- Chapter 10: TellOf of the program and of the model; its answers compared, marked, held. -/
namespace Go.Proofs.Ytcefhlkbbipmmaa
open Go.RowKit

structure MSz (s : Hd) (Km : Nat → Hd) (m : Nat) : Prop where
  n : s.2.1 ≤ m
  K : ∀ i, i < s.2.1 → (Km i).2.1 ≤ m
def TellAns (w w' : World) (e : Ending) (c : Int) (ms : List Ml) (own : Bool) : Prop := ∃ (z u : Nat) (s : Hd) (Km : Nat → Hd), e = .returned (.agg #[.int .i64 c, .slice s.1 s.2.1 s.2.2]) ∧ w.heap.size ≤ z ∧ u ≤ w'.heap.size ∧ MailsAt w' own z u s.1 s.2.1 s.2.2 Km ms ∧ MSz s Km 1048576 ∧ Below w.heap.size w w'
def teC (r : Rep) : Int := if repF r = 0 then (if r.normal = true then 10 else 0) else repF r
def teM (r : Rep) : List Ml := if teC r = 0 then tellM r else []
theorem MailsAt.none (w : World) (own : Bool) (lo hi : Nat) (Km : Nat → Hd) : MailsAt w own lo hi none 0 0 Km [] := ⟨rfl, ElsAt.nil _ _ _ _ _ _ _ _ _ _⟩
theorem MSz.none (m : Nat) : MSz ((none : Option Addr), 0, 0) kd0 m := ⟨Nat.zero_le _, fun _ hi => absurd hi (Nat.not_lt_zero _)⟩
theorem nodeOf_n {own : Bool} {lo hi : Nat} (r : Rep) (h : RH) (w : World) (x : RepAt w own lo hi h r) (hs : RSz h 1048576) (hn : r.normal = false) :
    Calls Try.prog 67 #[.agg #[.int .i64 r.id, .int .i64 r.size, .int .i64 r.view, .bool false, .int .i64 r.last, .slice h.L.1 h.L.2.1 h.L.2.2, .int .i64 r.commit, .slice h.O.1 h.O.2.1 h.O.2.2, .slice h.A.1 h.A.2.1 h.A.2.2, .slice h.D.1 h.D.2.1 h.D.2.2]] w fun e w' => ∃ (bq z u : Nat) (h' : RH), e = .returned (.pointer (some ⟨bq, 0, none⟩)) ∧ w.heap.size ≤ z ∧ u ≤ bq ∧ w.heap.size ≤ bq ∧ Bx w' bq [.int .i64 r.id, .int .i64 r.size, .int .i64 r.view, .bool r.normal, .int .i64 r.last, .slice h'.L.1 h'.L.2.1 h'.L.2.2, .int .i64 r.commit, .slice h'.O.1 h'.O.2.1 h'.O.2.2, .slice h'.A.1 h'.A.2.1 h'.A.2.2, .slice h'.D.1 h'.D.2.1 h'.D.2.2, .slice none 0 0] ∧ RepAt w' true z u h' r ∧ RSz h' 1048576 ∧ Below w.heap.size w w' := by
  have := nodeOf_z r h w x hs
  rw [hn] at this ⊢
  exact this
set_option maxRecDepth 20000 in
set_option maxHeartbeats 2000000 in
theorem implTe_is {own : Bool} {lo hi : Nat} (r : Rep) (h : RH) (w : World) (x : RepAt w own lo hi h r) (hz : RSz h 1048576) (c : Int) (ms : List Ml) (hc : teC r = c) (hms : teM r = ms) : Calls Try.prog 20 #[.agg #[.int .i64 r.id, .int .i64 r.size, .int .i64 r.view, .bool r.normal, .int .i64 r.last, .slice h.L.1 h.L.2.1 h.L.2.2, .int .i64 r.commit, .slice h.O.1 h.O.2.1 h.O.2.2, .slice h.A.1 h.A.2.1 h.A.2.2, .slice h.D.1 h.D.2.1 h.D.2.2]] w fun e w' => TellAns w w' e c ms true := by
  unfold teM at hms
  rw [hc] at hms
  unfold teC at hc
  obtain ⟨cr, hcr⟩ : ∃ cr, repF r = cr := ⟨_, rfl⟩
  rw [hcr] at hc
  have HC : Hid _ := hcr
  clear hcr
  go_enter Try.func20, Try.ntmps20
  go_wp2_with (first | ((have g := ob0); clear g; (with_reducible refine alloc_newX 49 [.int .i64 0, .slice none 0 0] (fun _ => by kernel_rfl) ?_); intro b1 W1 N1; have ob1 : w.heap.size ≤ b1 := Nat.le_trans B.size N1.ge; have o0_b1 : b0 < b1 := Nat.lt_of_lt_of_le X0.lt N1.ge; replace X0 := X0.below N1.below; replace c0 := X0.cell; replace B := below_next B N1.below; have X1 := N1.bx; have c1 := X1.cell; have f1 := X1.froz; clear N1) | ((with_reducible refine box_newX 29 [.int .i64 r.id, .int .i64 r.size, .int .i64 r.view, .bool r.normal, .int .i64 r.last, .slice h.L.1 h.L.2.1 h.L.2.2, .int .i64 r.commit, .slice h.O.1 h.O.2.1 h.O.2.2, .slice h.A.1 h.A.2.1 h.A.2.2, .slice h.D.1 h.D.2.1 h.D.2.2] rfl ?_); intro b0 W0 N0; have ob0 : w.heap.size ≤ b0 := N0.ge; have B := N0.below; have X0 := N0.bx; have c0 := X0.cell; clear N0) | fail)
  refine (implRF_is r h _ (x.below B) (hz.mono (by omega)) cr HC.out).mono ?_
  rintro e w1 ⟨rfl, BB⟩
  replace X0 := X0.below BB
  replace c0 := X0.cell
  replace X1 := X1.below BB
  replace c1 := X1.cell
  replace f1 := X1.froz
  replace B := below_next B BB
  clear BB
  by_cases h0 : cr = 0
  rotate_left 1
  · rw [if_neg h0] at hc
    subst hc
    rw [if_neg h0] at hms
    subst hms
    have h0' : (cr != 0) = true := by simp [h0]
    go_wp2_with (first | ((with_reducible refine store_midX 49 X1 0 [.int .i64 cr, .slice none 0 0] (by simp) (by kernel_rfl) (by simp [Value.oneCell']) rfl rfl ?_); intro V1 S; replace X0 := X0.kept S.kept (by omega); replace c0 := X0.cell; replace X1 : Bx V1 b1 [.int .i64 cr, .slice none 0 0] := S.bx; replace c1 := X1.cell; replace f1 := X1.froz; replace B := B.trans (S.kept.below _ (by omega) B.size); clear S))
    exact bodyPost_ret (v := .agg #[.int .i64 cr, .slice none 0 0]) (by simp [results, Try.results20, go_sem, *]) rfl ⟨_, _, (none, 0, 0), kd0, rfl, Nat.le_refl _, Nat.le_refl _, MailsAt.none _ _ _ _ _, MSz.none _, B⟩
  subst h0
  rw [if_pos rfl] at hc
  obtain ⟨N, -, -, SP, -⟩ := rep_ok HC.out
  have N1 := N.1
  have N2 := N.2.1
  have N3 : 0 ≤ r.view ∧ r.view ≤ 300 := by have := N.2.2.1; omega
  clear N SP
  obtain ⟨nm, hnm⟩ : ∃ nm, r.normal = nm := ⟨_, rfl⟩
  have HN : Hid _ := hnm
  rw [hnm] at hc
  have HX0 : Hid _ := X0
  rw [hnm] at X0 c0
  clear hnm
  cases nm
  rotate_left 1
  · rw [if_pos rfl] at hc
    subst hc
    rw [if_neg (by decide)] at hms
    subst hms
    go_wp2_with (first | ((with_reducible refine store_midX 49 X1 0 [.int .i64 10, .slice none 0 0] (by simp) (by kernel_rfl) (by simp [Value.oneCell']) rfl rfl ?_); intro V1 S; replace X0 := X0.kept S.kept (by omega); replace c0 := X0.cell; replace X1 : Bx V1 b1 [.int .i64 10, .slice none 0 0] := S.bx; replace c1 := X1.cell; replace f1 := X1.froz; replace B := B.trans (S.kept.below _ (by omega) B.size); clear S))
    exact bodyPost_ret (v := .agg #[.int .i64 10, .slice none 0 0]) (by simp [results, Try.results20, go_sem, *]) rfl ⟨_, _, (none, 0, 0), kd0, rfl, Nat.le_refl _, Nat.le_refl _, MailsAt.none _ _ _ _ _, MSz.none _, B⟩
  rw [if_neg (by decide)] at hc
  subst hc
  rw [if_pos rfl] at hms
  subst hms
  go_wp2_with fail
  have HX9 : Hid _ := hz
  skip
  refine (nodeOf_n r h _ (x.below B) hz HN.out).mono ?_
  rintro e w2 ⟨bq, z, u, h', rfl, Gz, uq, Gq, XQ, R, HZ, BB⟩
  have lb := X1.lt
  have o1_q : b1 < bq := Nat.lt_of_lt_of_le lb Gq
  have gq := Nat.le_trans B.size Gq
  clear Gz Gq HX0
  replace X0 := X0.below BB
  replace c0 := X0.cell
  replace X1 := X1.below BB
  replace c1 := X1.cell
  replace f1 := X1.froz
  replace B := below_next B BB
  clear BB
  go_wp2_with fail
  refine (tellOfItself_is r h' (none, 0, 0) w2.heap.size bq _ kd0 [] XQ R.log HZ.L (GrowAt.nil _ _ _ _ _ _ _) rfl (fun j hj => absurd hj (Nat.not_lt_zero _)) XQ.lt (Nat.le_refl _) (by simp) N1 N3).mono ?_
  rintro e w3 ⟨s, Km, rfl, XQ, G, hsn, hK, KS⟩
  have hw3 := KS.size
  have lt1 := X1.lt
  have lt0 := X0.lt
  replace X0 := X0.keptS KS (by omega)
  replace c0 := X0.cell
  replace X1 := X1.keptS KS (by omega)
  replace c1 := X1.cell
  replace f1 := X1.froz
  have cq := XQ.cell
  have hBs := B.size
  replace B := B.trans (KS.low _ (fun k hk => by rcases hk with q | q <;> omega) B.size)
  clear KS
  have htl := tellM_len r
  rw [List.nil_append] at G hsn
  obtain ⟨ao, cap, e9, E⟩ := GrowAt.els G
  simp only [Value.slice.injEq] at e9
  obtain ⟨q1, q2, q3⟩ := e9
  have MA : MailsAt w3 true w2.heap.size w3.heap.size s.1 s.2.1 s.2.2 Km (tellM r) := ⟨q2.symm, by rw [q1, q2, q3]; exact E⟩
  have hMA := Nat.le_refl w3.heap.size
  have hzM : w.heap.size ≤ w2.heap.size := hBs
  clear q1 q2 q3 E G R
  obtain ⟨zz, hzz⟩ : ∃ zz, zz = w2.heap.size := ⟨_, rfl⟩
  rw [← hzz] at MA hzM
  have o1z : b1 < zz := by omega
  clear hzz
  have hs1 : s.2.1 ≤ 1 := by omega
  clear htl hsn
  go_wp2_with (first | ((with_reducible refine store_midX 49 X1 0 [.int .i64 0, .slice s.1 s.2.1 s.2.2] (by simp) (by kernel_rfl) (by simp [Value.oneCell']) rfl rfl ?_); intro V1 S; replace X0 := X0.kept S.kept (by omega); replace c0 := X0.cell; replace X1 : Bx V1 b1 [.int .i64 0, .slice s.1 s.2.1 s.2.2] := S.bx; replace c1 := X1.cell; replace f1 := X1.froz; replace MA := MA.kept S.kept (by omega); replace hMA := Nat.le_trans hMA S.kept.size; replace B := B.trans (S.kept.below _ (by omega) B.size); clear S))
  exact bodyPost_ret (v := .agg #[.int .i64 0, .slice s.1 s.2.1 s.2.2]) (by simp [results, Try.results20, go_sem, *]) rfl ⟨_, _, s, Km, rfl, hzM, hMA, MA, ⟨by omega, hK⟩, B⟩
set_option maxRecDepth 20000 in
set_option maxHeartbeats 2000000 in
theorem specTe_is {own : Bool} {lo hi : Nat} (r : Rep) (h : RH) (w : World) (x : RepAt w own lo hi h r) (hz : RSz h 1048576) (c : Int) (ms : List Ml) (hc : teC r = c) (hms : teM r = ms) : Calls Try.prog 23 #[.agg #[.int .i64 r.id, .int .i64 r.size, .int .i64 r.view, .bool r.normal, .int .i64 r.last, .slice h.L.1 h.L.2.1 h.L.2.2, .int .i64 r.commit, .slice h.O.1 h.O.2.1 h.O.2.2, .slice h.A.1 h.A.2.1 h.A.2.2, .slice h.D.1 h.D.2.1 h.D.2.2]] w fun e w' => TellAns w w' e c ms true := by
  unfold teM at hms
  rw [hc] at hms
  unfold teC at hc
  obtain ⟨cr, hcr⟩ : ∃ cr, repF r = cr := ⟨_, rfl⟩
  rw [hcr] at hc
  have HC : Hid _ := hcr
  clear hcr
  go_enter Try.func23, Try.ntmps23
  go_wp2_with (first | ((have g := ob0); clear g; (with_reducible refine alloc_newX 49 [.int .i64 0, .slice none 0 0] (fun _ => by kernel_rfl) ?_); intro b1 W1 N1; have ob1 : w.heap.size ≤ b1 := Nat.le_trans B.size N1.ge; have o0_b1 : b0 < b1 := Nat.lt_of_lt_of_le X0.lt N1.ge; replace X0 := X0.below N1.below; replace c0 := X0.cell; replace B := below_next B N1.below; have X1 := N1.bx; have c1 := X1.cell; have f1 := X1.froz; clear N1) | ((with_reducible refine box_newX 29 [.int .i64 r.id, .int .i64 r.size, .int .i64 r.view, .bool r.normal, .int .i64 r.last, .slice h.L.1 h.L.2.1 h.L.2.2, .int .i64 r.commit, .slice h.O.1 h.O.2.1 h.O.2.2, .slice h.A.1 h.A.2.1 h.A.2.2, .slice h.D.1 h.D.2.1 h.D.2.2] rfl ?_); intro b0 W0 N0; have ob0 : w.heap.size ≤ b0 := N0.ge; have B := N0.below; have X0 := N0.bx; have c0 := X0.cell; clear N0) | fail)
  refine (l9Fault_is b0 r h _ X0 (x.below B) (hz.mono (by omega)) cr HC.out).mono ?_
  rintro e w1 ⟨rfl, BB⟩
  replace X0 := X0.below BB
  replace c0 := X0.cell
  replace X1 := X1.below BB
  replace c1 := X1.cell
  replace f1 := X1.froz
  replace B := below_next B BB
  clear BB
  by_cases h0 : cr = 0
  rotate_left 1
  · rw [if_neg h0] at hc
    subst hc
    rw [if_neg h0] at hms
    subst hms
    have h0' : (cr != 0) = true := by simp [h0]
    go_wp2_with (first | ((with_reducible refine store_midX 49 X1 0 [.int .i64 cr, .slice none 0 0] (by simp) (by kernel_rfl) (by simp [Value.oneCell']) rfl rfl ?_); intro V1 S; replace X0 := X0.kept S.kept (by omega); replace c0 := X0.cell; replace X1 : Bx V1 b1 [.int .i64 cr, .slice none 0 0] := S.bx; replace c1 := X1.cell; replace f1 := X1.froz; replace B := B.trans (S.kept.below _ (by omega) B.size); clear S))
    exact bodyPost_ret (v := .agg #[.int .i64 cr, .slice none 0 0]) (by simp [results, Try.results23, go_sem, *]) rfl ⟨_, _, (none, 0, 0), kd0, rfl, Nat.le_refl _, Nat.le_refl _, MailsAt.none _ _ _ _ _, MSz.none _, B⟩
  subst h0
  rw [if_pos rfl] at hc
  obtain ⟨N, -, -, SP, -⟩ := rep_ok HC.out
  have N1 := N.1
  have N2 := N.2.1
  have N3 : 0 ≤ r.view ∧ r.view ≤ 300 := by have := N.2.2.1; omega
  clear N SP
  obtain ⟨nm, hnm⟩ : ∃ nm, r.normal = nm := ⟨_, rfl⟩
  have HN : Hid _ := hnm
  rw [hnm] at hc
  have HX0 : Hid _ := X0
  rw [hnm] at X0 c0
  clear hnm
  cases nm
  rotate_left 1
  · rw [if_pos rfl] at hc
    subst hc
    rw [if_neg (by decide)] at hms
    subst hms
    go_wp2_with (first | ((with_reducible refine store_midX 49 X1 0 [.int .i64 10, .slice none 0 0] (by simp) (by kernel_rfl) (by simp [Value.oneCell']) rfl rfl ?_); intro V1 S; replace X0 := X0.kept S.kept (by omega); replace c0 := X0.cell; replace X1 : Bx V1 b1 [.int .i64 10, .slice none 0 0] := S.bx; replace c1 := X1.cell; replace f1 := X1.froz; replace B := B.trans (S.kept.below _ (by omega) B.size); clear S))
    exact bodyPost_ret (v := .agg #[.int .i64 10, .slice none 0 0]) (by simp [results, Try.results23, go_sem, *]) rfl ⟨_, _, (none, 0, 0), kd0, rfl, Nat.le_refl _, Nat.le_refl _, MailsAt.none _ _ _ _ _, MSz.none _, B⟩
  rw [if_neg (by decide)] at hc
  subst hc
  rw [if_pos rfl] at hms
  subst hms
  go_wp2_with fail
  have lbb := X1.lt
  refine (l9Tell0_is r h b0 _ HX0.out (x.below B).log hz.L N1 N3).mono ?_
  rintro e w2 ⟨s, Km, rfl, MA, hsn, hK, BB⟩
  have hzM : w.heap.size ≤ w1.heap.size := B.size
  clear HX0
  replace X0 := X0.below BB
  replace c0 := X0.cell
  replace X1 := X1.below BB
  replace c1 := X1.cell
  replace f1 := X1.froz
  replace B := below_next B BB
  clear BB
  have htl := tellM_len r
  have hMA := Nat.le_refl w2.heap.size
  obtain ⟨zz, hzz⟩ : ∃ zz, zz = w1.heap.size := ⟨_, rfl⟩
  rw [← hzz] at MA hzM
  have o1z : b1 < zz := by rw [hzz]; exact lbb
  clear hzz
  have hs1 : s.2.1 ≤ 1 := by omega
  clear htl hsn
  go_wp2_with (first | ((with_reducible refine store_midX 49 X1 0 [.int .i64 0, .slice s.1 s.2.1 s.2.2] (by simp) (by kernel_rfl) (by simp [Value.oneCell']) rfl rfl ?_); intro V1 S; replace X0 := X0.kept S.kept (by omega); replace c0 := X0.cell; replace X1 : Bx V1 b1 [.int .i64 0, .slice s.1 s.2.1 s.2.2] := S.bx; replace c1 := X1.cell; replace f1 := X1.froz; replace MA := MA.kept S.kept (by omega); replace hMA := Nat.le_trans hMA S.kept.size; replace B := B.trans (S.kept.below _ (by omega) B.size); clear S))
  exact bodyPost_ret (v := .agg #[.int .i64 0, .slice s.1 s.2.1 s.2.2]) (by simp [results, Try.results23, go_sem, *]) rfl ⟨_, _, s, Km, rfl, hzM, hMA, MA, ⟨by omega, hK⟩, B⟩
set_option maxRecDepth 20000 in
set_option maxHeartbeats 2000000 in
theorem eqMR_yes {o1 o2 : Bool} {l1 u1 l2 u2 : Nat} (c : Int) (ms : List Ml) (s t : Hd) (K1 K2 : Nat → Hd) (w : World) (x : MailsAt w o1 l1 u1 s.1 s.2.1 s.2.2 K1 ms) (y : MailsAt w o2 l2 u2 t.1 t.2.1 t.2.2 K2 ms) (hz : MSz s K1 1048576) :
    Calls Try.prog 34 #[.agg #[.int .i64 c, .slice s.1 s.2.1 s.2.2], .agg #[.int .i64 c, .slice t.1 t.2.1 t.2.2]] w fun e w' => e = .returned (.bool true) ∧ Below w.heap.size w w' := by
  have e0 : (c != c) = false := by simp
  go_enter Try.func34, Try.ntmps34
  go_wp2_with (first | ((have g := ob0); clear g; (with_reducible refine box_newX 49 [.int .i64 c, .slice t.1 t.2.1 t.2.2] rfl ?_); intro b1 W1 N1; have ob1 : w.heap.size ≤ b1 := Nat.le_trans B.size N1.ge; have o0_b1 : b0 < b1 := Nat.lt_of_lt_of_le X0.lt N1.ge; replace X0 := X0.below N1.below; replace c0 := X0.cell; replace B := below_next B N1.below; have X1 := N1.bx; have c1 := X1.cell; clear N1) | ((with_reducible refine box_newX 49 [.int .i64 c, .slice s.1 s.2.1 s.2.2] rfl ?_); intro b0 W0 N0; have ob0 : w.heap.size ≤ b0 := N0.ge; have B := N0.below; have X0 := N0.bx; have c0 := X0.cell; clear N0) | fail)
  refine (eqMails_yes _ _ _ _ _ _ K1 K2 ms _ (x.below B) (y.below B) (Nat.le_trans hz.n (by omega)) (fun i hi => Nat.le_trans (hz.K i hi) (by omega))).mono ?_
  rintro e w2 ⟨rfl, BB⟩
  replace X0 := X0.below BB
  replace c0 := X0.cell
  replace X1 := X1.below BB
  replace c1 := X1.cell
  replace B := below_next B BB
  clear BB
  go_wp2
  go_ret
  exact ⟨rfl, B⟩
set_option maxRecDepth 20000 in
set_option maxHeartbeats 2000000 in
theorem markMR_any {lo hi : Nat} (c : Int) (ms : List Ml) (s : Hd) (Km : Nat → Hd) (w : World) (x : MailsAt w true lo hi s.1 s.2.1 s.2.2 Km ms) (hz : MSz s Km 1048576) :
    Calls Try.prog 35 #[.agg #[.int .i64 c, .slice s.1 s.2.1 s.2.2], .int .i64 1] w fun e w' => e = .returned (.int .i64 (kE 14 Km 1 s.2.1)) ∧ ElsAt 15 w' true lo hi s.1 s.2.1 s.2.2 (mkMF Km 1) Km (paM 14 13 Km 1 (fun _ => []) s.2.1) ∧ Kept lo hi w w' := by
  have HB : Hid (∀ q, inE s.1 s.2.1 Km q → lo ≤ q ∧ q < hi ∧ q < w.heap.size) := fun q hq => x.els.inB hq
  have HF : Hid (∀ i, i < s.2.1 → mlF Km ms i 13 = hv (Km i)) := fun i _ => rfl
  go_enter Try.func35, Try.ntmps35
  go_wp2_with (first | ((with_reducible refine box_newX 49 [.int .i64 c, .slice s.1 s.2.1 s.2.2] rfl ?_); intro b0 W0 N0; have ob0 : w.heap.size ≤ b0 := N0.ge; have B := N0.below; have X0 := N0.bx; have c0 := X0.cell; clear N0) | fail)
  replace x := x.below B
  have kk : KeptS (inE s.1 s.2.1 Km) w W0 := KeptS.below B
  refine (markMailS_any _ _ _ Km _ _ 1 _ x.els HF.out (by have := hz.n; omega) (fun i hi => Nat.le_trans (hz.K i hi) (by omega)) (by omega) (by omega)).mono ?_
  rintro e w2 ⟨rfl, R, KS1⟩
  have M2 : ElsAt 15 w2 true lo hi s.1 s.2.1 s.2.2 (mkMF Km 1) Km (paM 14 13 Km 1 (fun _ => []) s.2.1) := R.congr (fun _ _ _ _ => rfl) (fun i hi => by unfold paM; rw [if_pos hi, if_pos hi])
  replace kk := kk.trans KS1
  have K2 : Kept lo hi w w2 := kk.kept fun q hq => by have := HB.out q hq; omega
  clear KS1 R X0 c0 HB HF kk x
  go_wp2
  go_ret
  exact ⟨rfl, M2, K2⟩
set_option maxRecDepth 20000 in
set_option maxHeartbeats 2000000 in
theorem heldMR_any {o : Bool} {lo hi : Nat} (c : Int) (s : Hd) (Km : Nat → Hd) (w : World) (m : ElsAt 15 w o lo hi s.1 s.2.1 s.2.2 (mkMF Km 1) Km (paM 14 13 Km 1 (fun _ => []) s.2.1)) (hz : MSz s Km 1048576) :
    Calls Try.prog 36 #[.agg #[.int .i64 c, .slice s.1 s.2.1 s.2.2], .int .i64 1] w fun e w' => e = .returned (.int .i64 (kE 14 Km 1 s.2.1)) ∧ Below w.heap.size w w' := by
  have n2 : ¬ kE 14 Km 1 s.2.1 < 0 := by have := kE_ge (t := 14) (by omega) Km 1 s.2.1; omega
  go_enter Try.func36, Try.ntmps36
  go_wp2_with (first | ((with_reducible refine box_newX 49 [.int .i64 c, .slice s.1 s.2.1 s.2.2] rfl ?_); intro b0 W0 N0; have ob0 : w.heap.size ≤ b0 := N0.ge; have B := N0.below; have X0 := N0.bx; have c0 := X0.cell; clear N0) | fail)
  refine (heldMailS_any _ _ _ Km _ 1 _ (m.below B) (by have := hz.n; omega) (fun i hi => Nat.le_trans (hz.K i hi) (by omega)) (by omega) (by omega)).mono ?_
  rintro e W9 ⟨rfl, rfl⟩
  go_wp2
  go_ret
  exact ⟨rfl, B⟩

end Go.Proofs.Ytcefhlkbbipmmaa

/- At every replica the program's TellOf answers as its model does, field by field, writes into no argument, and its answer owns its memory: the law FnExactTellOf is true at every argument, with no condition. -/
namespace Go.Proofs.Ytcefhlkbbipmmaa
open Go.RowKit

set_option maxRecDepth 20000 in
set_option maxHeartbeats 16000000 in
theorem lawTellOf {own : Bool} (r : Rep) (h : RH) (w : World) (x : RepAt w own 0 w.heap.size h r) (hs : RSz h maxLen) : Calls Try.prog 7 #[.agg #[.int .i64 r.id, .int .i64 r.size, .int .i64 r.view, .bool r.normal, .int .i64 r.last, .slice h.L.1 h.L.2.1 h.L.2.2, .int .i64 r.commit, .slice h.O.1 h.O.2.1 h.O.2.2, .slice h.A.1 h.A.2.1 h.A.2.2, .slice h.D.1 h.D.2.1 h.D.2.2]] w fun e w' => e = .returned (.bool true) ∧ Below w.heap.size w w' := by
  obtain ⟨c, hc⟩ : ∃ c, teC r = c := ⟨_, rfl⟩
  obtain ⟨ms, hms⟩ : ∃ ms, teM r = ms := ⟨_, rfl⟩
  have HC : Hid _ := hc
  have HM : Hid _ := hms
  clear hc hms
  go_enter Try.func7, Try.ntmps7
  go_wp2_with (first | ((with_reducible refine box_newX 56 [.int .i64 r.id, .int .i64 r.size, .int .i64 r.view, .bool r.normal, .int .i64 r.last, .slice h.L.1 h.L.2.1 h.L.2.2, .int .i64 r.commit, .slice h.O.1 h.O.2.1 h.O.2.2, .slice h.A.1 h.A.2.1 h.A.2.2, .slice h.D.1 h.D.2.1 h.D.2.2] rfl ?_); intro b0 W0 N0; have ob0 : w.heap.size ≤ b0 := N0.ge; have B := N0.below; have X0 := N0.bx; have c0 := X0.cell; clear N0) | fail)
  refine (szReplica_left r h _ (x.below B) hs).mono ?_
  rintro e w1 ⟨q, rfl, BB, hq⟩
  replace X0 := X0.below BB
  replace c0 := X0.cell
  replace B := below_next B BB
  clear BB
  rcases hq with hq | ⟨hq0, hq1, HZ⟩
  · go_wp2
    go_ret
    exact ⟨rfl, B⟩
  have hq' : ¬ q < 0 := by omega
  clear hq0 hq1
  go_wp2_with fail
  refine (toReplica_any r h _ (x.below B) HZ).mono ?_
  rintro e w2 ⟨k1, rfl, y1, z1, BB⟩
  replace X0 := X0.below BB
  replace c0 := X0.cell
  replace B := below_next B BB
  clear BB
  go_wp2_with fail
  refine (specTe_is r k1 _ y1 z1 c ms HC.out HM.out).mono ?_
  rintro e w3 ⟨zS, uS, sS, KS, rfl, GzS, hAS, AS, ZS, BB⟩
  have ozS : w.heap.size ≤ zS := Nat.le_trans B.size GzS
  have o0_zS : b0 < zS := Nat.lt_of_lt_of_le X0.lt GzS
  clear GzS
  replace X0 := X0.below BB
  replace c0 := X0.cell
  replace B := below_next B BB
  clear BB
  clear y1 z1
  go_wp2_with (first | ((with_reducible refine store_midX 49 X1 0 [.int .i64 c, .slice sS.1 sS.2.1 sS.2.2] (by simp) (by kernel_rfl) (by simp [Value.oneCell']) rfl rfl ?_); intro V1 S; replace X0 := X0.kept S.kept (by omega); replace c0 := X0.cell; replace X1 : Bx V1 b1 [.int .i64 c, .slice sS.1 sS.2.1 sS.2.2] := S.bx; replace c1 := X1.cell; replace f1 := X1.froz; replace AS := AS.kept S.kept (by omega); replace hAS := Nat.le_trans hAS S.kept.size; replace B := B.trans (S.kept.below _ (by omega) B.size); clear S) | ((have g := ob0); clear g; (with_reducible refine alloc_newX 49 [.int .i64 0, .slice none 0 0] (fun _ => by kernel_rfl) ?_); intro b1 W1 N1; have ob1 : w.heap.size ≤ b1 := Nat.le_trans B.size N1.ge; have o0_b1 : b0 < b1 := Nat.lt_of_lt_of_le X0.lt N1.ge; have oAS_b1 : uS ≤ b1 := Nat.le_trans hAS N1.ge; replace X0 := X0.below N1.below; replace c0 := X0.cell; replace AS := AS.below N1.below; replace hAS := Nat.le_trans hAS N1.below.size; replace B := below_next B N1.below; have X1 := N1.bx; have c1 := X1.cell; have f1 := X1.froz; clear N1) | fail)
  refine (toReplica_z r h _ (x.below B) HZ).mono ?_
  rintro e w4 ⟨zY, uY, k2, rfl, GzY, hy2, y2, z2, BB⟩
  have ozY : w.heap.size ≤ zY := Nat.le_trans B.size GzY
  have o0_zY : b0 < zY := Nat.lt_of_lt_of_le X0.lt GzY
  have o1_zY : b1 < zY := Nat.lt_of_lt_of_le X1.lt GzY
  have oAS_zY : uS ≤ zY := Nat.le_trans hAS GzY
  clear GzY
  replace X0 := X0.below BB
  replace c0 := X0.cell
  replace X1 := X1.below BB
  replace c1 := X1.cell
  replace f1 := X1.froz
  replace AS := AS.below BB
  replace hAS := Nat.le_trans hAS BB.size
  replace B := below_next B BB
  clear BB
  go_wp2_with (first | ((with_reducible refine store_midX 29 X2 0 [.int .i64 r.id, .int .i64 r.size, .int .i64 r.view, .bool r.normal, .int .i64 r.last, .slice k2.L.1 k2.L.2.1 k2.L.2.2, .int .i64 r.commit, .slice k2.O.1 k2.O.2.1 k2.O.2.2, .slice k2.A.1 k2.A.2.1 k2.A.2.2, .slice k2.D.1 k2.D.2.1 k2.D.2.2] (by simp) (by kernel_rfl) (by simp [Value.oneCell']) rfl rfl ?_); intro V2 S; replace X0 := X0.kept S.kept (by omega); replace c0 := X0.cell; replace X1 := X1.kept S.kept (by omega); replace c1 := X1.cell; replace f1 := X1.froz; replace X2 : Bx V2 b2 [.int .i64 r.id, .int .i64 r.size, .int .i64 r.view, .bool r.normal, .int .i64 r.last, .slice k2.L.1 k2.L.2.1 k2.L.2.2, .int .i64 r.commit, .slice k2.O.1 k2.O.2.1 k2.O.2.2, .slice k2.A.1 k2.A.2.1 k2.A.2.2, .slice k2.D.1 k2.D.2.1 k2.D.2.2] := S.bx; replace c2 := X2.cell; replace f2 := X2.froz; replace AS := AS.kept S.kept (by omega); replace hAS := Nat.le_trans hAS S.kept.size; replace y2 := y2.kept S.kept (by omega); replace hy2 := Nat.le_trans hy2 S.kept.size; replace B := B.trans (S.kept.below _ (by omega) B.size); clear S) | ((have g := ob1); clear g; (with_reducible refine alloc_newX 29 [.int .i64 0, .int .i64 0, .int .i64 0, .bool false, .int .i64 0, .slice none 0 0, .int .i64 0, .slice none 0 0, .slice none 0 0, .slice none 0 0] (fun _ => by kernel_rfl) ?_); intro b2 W2 N2; have ob2 : w.heap.size ≤ b2 := Nat.le_trans B.size N2.ge; have o0_b2 : b0 < b2 := Nat.lt_of_lt_of_le X0.lt N2.ge; have o1_b2 : b1 < b2 := Nat.lt_of_lt_of_le X1.lt N2.ge; have oAS_b2 : uS ≤ b2 := Nat.le_trans hAS N2.ge; have oy2_b2 : uY ≤ b2 := Nat.le_trans hy2 N2.ge; replace X0 := X0.below N2.below; replace c0 := X0.cell; replace X1 := X1.below N2.below; replace c1 := X1.cell; replace f1 := X1.froz; replace AS := AS.below N2.below; replace hAS := Nat.le_trans hAS N2.below.size; replace y2 := y2.below N2.below; replace hy2 := Nat.le_trans hy2 N2.below.size; replace B := below_next B N2.below; have X2 := N2.bx; have c2 := X2.cell; have f2 := X2.froz; clear N2) | fail)
  refine (implTe_is r k2 _ y2 z2 c ms HC.out HM.out).mono ?_
  rintro e w5 ⟨zA, uA, sA, KA, rfl, GzA, hAA, AA, ZA, BB⟩
  have ozA : w.heap.size ≤ zA := Nat.le_trans B.size GzA
  have o0_zA : b0 < zA := Nat.lt_of_lt_of_le X0.lt GzA
  have o1_zA : b1 < zA := Nat.lt_of_lt_of_le X1.lt GzA
  have o2_zA : b2 < zA := Nat.lt_of_lt_of_le X2.lt GzA
  have oAS_zA : uS ≤ zA := Nat.le_trans hAS GzA
  have oy2_zA : uY ≤ zA := Nat.le_trans hy2 GzA
  clear GzA
  replace X0 := X0.below BB
  replace c0 := X0.cell
  replace X1 := X1.below BB
  replace c1 := X1.cell
  replace f1 := X1.froz
  replace X2 := X2.below BB
  replace c2 := X2.cell
  replace f2 := X2.froz
  replace AS := AS.below BB
  replace hAS := Nat.le_trans hAS BB.size
  replace y2 := y2.below BB
  replace hy2 := Nat.le_trans hy2 BB.size
  replace B := below_next B BB
  clear BB
  go_wp2_with (first | ((with_reducible refine store_midX 49 X3 0 [.int .i64 c, .slice sA.1 sA.2.1 sA.2.2] (by simp) (by kernel_rfl) (by simp [Value.oneCell']) rfl rfl ?_); intro V3 S; replace X0 := X0.kept S.kept (by omega); replace c0 := X0.cell; replace X1 := X1.kept S.kept (by omega); replace c1 := X1.cell; replace f1 := X1.froz; replace X2 := X2.kept S.kept (by omega); replace c2 := X2.cell; replace f2 := X2.froz; replace X3 : Bx V3 b3 [.int .i64 c, .slice sA.1 sA.2.1 sA.2.2] := S.bx; replace c3 := X3.cell; replace f3 := X3.froz; replace AS := AS.kept S.kept (by omega); replace hAS := Nat.le_trans hAS S.kept.size; replace y2 := y2.kept S.kept (by omega); replace hy2 := Nat.le_trans hy2 S.kept.size; replace AA := AA.kept S.kept (by omega); replace hAA := Nat.le_trans hAA S.kept.size; replace B := B.trans (S.kept.below _ (by omega) B.size); clear S) | ((have g := ob2); clear g; (with_reducible refine alloc_newX 49 [.int .i64 0, .slice none 0 0] (fun _ => by kernel_rfl) ?_); intro b3 W3 N3; have ob3 : w.heap.size ≤ b3 := Nat.le_trans B.size N3.ge; have o0_b3 : b0 < b3 := Nat.lt_of_lt_of_le X0.lt N3.ge; have o1_b3 : b1 < b3 := Nat.lt_of_lt_of_le X1.lt N3.ge; have o2_b3 : b2 < b3 := Nat.lt_of_lt_of_le X2.lt N3.ge; have oAS_b3 : uS ≤ b3 := Nat.le_trans hAS N3.ge; have oy2_b3 : uY ≤ b3 := Nat.le_trans hy2 N3.ge; have oAA_b3 : uA ≤ b3 := Nat.le_trans hAA N3.ge; replace X0 := X0.below N3.below; replace c0 := X0.cell; replace X1 := X1.below N3.below; replace c1 := X1.cell; replace f1 := X1.froz; replace X2 := X2.below N3.below; replace c2 := X2.cell; replace f2 := X2.froz; replace AS := AS.below N3.below; replace hAS := Nat.le_trans hAS N3.below.size; replace y2 := y2.below N3.below; replace hy2 := Nat.le_trans hy2 N3.below.size; replace AA := AA.below N3.below; replace hAA := Nat.le_trans hAA N3.below.size; replace B := below_next B N3.below; have X3 := N3.bx; have c3 := X3.cell; have f3 := X3.froz; clear N3) | fail)
  refine (eqMR_yes c ms sA sS KA KS _ AA AS ZA).mono ?_
  rintro e w6 ⟨rfl, BB⟩
  replace X0 := X0.below BB
  replace c0 := X0.cell
  replace X1 := X1.below BB
  replace c1 := X1.cell
  replace f1 := X1.froz
  replace X2 := X2.below BB
  replace c2 := X2.cell
  replace f2 := X2.froz
  replace X3 := X3.below BB
  replace c3 := X3.cell
  replace f3 := X3.froz
  replace AS := AS.below BB
  replace hAS := Nat.le_trans hAS BB.size
  replace y2 := y2.below BB
  replace hy2 := Nat.le_trans hy2 BB.size
  replace AA := AA.below BB
  replace hAA := Nat.le_trans hAA BB.size
  replace B := below_next B BB
  clear BB
  go_wp2_with fail
  have DQ : Below w6.heap.size w6 w6.drew := (Below.refl _ _).drew
  replace X0 := X0.below DQ
  replace c0 := X0.cell
  replace X1 := X1.below DQ
  replace c1 := X1.cell
  replace f1 := X1.froz
  replace X2 := X2.below DQ
  replace c2 := X2.cell
  replace f2 := X2.froz
  replace X3 := X3.below DQ
  replace c3 := X3.cell
  replace f3 := X3.froz
  replace AS := AS.below DQ
  replace hAS := Nat.le_trans hAS DQ.size
  replace y2 := y2.below DQ
  replace hy2 := Nat.le_trans hy2 DQ.size
  replace AA := AA.below DQ
  replace hAA := Nat.le_trans hAA DQ.size
  replace B := below_next B DQ
  clear DQ
  refine wp_region_held_drew (S := (fun w' => (∀ k : Nat, w'.cell? ⟨b0, k, none⟩ = [.int .i64 r.id, .int .i64 r.size, .int .i64 r.view, .bool r.normal, .int .i64 r.last, .slice h.L.1 h.L.2.1 h.L.2.2, .int .i64 r.commit, .slice h.O.1 h.O.2.1 h.O.2.2, .slice h.A.1 h.A.2.1 h.A.2.2, .slice h.D.1 h.D.2.1 h.D.2.2][k]?) ∧ (∀ k : Nat, w'.cell? ⟨b2, k, none⟩ = [.int .i64 r.id, .int .i64 r.size, .int .i64 r.view, .bool r.normal, .int .i64 r.last, .slice k2.L.1 k2.L.2.1 k2.L.2.2, .int .i64 r.commit, .slice k2.O.1 k2.O.2.1 k2.O.2.2, .slice k2.A.1 k2.A.2.1 k2.A.2.2, .slice k2.D.1 k2.D.2.1 k2.D.2.2][k]?))) (by kernel_rfl) ⟨c0, c2⟩ (fun hHeld => ?_)
  refine wpAnyH_take (i := 0) (v := ?_) rfl (by kernel_rfl) (by kernel_rfl) (by kernel_rfl) (fun _ _ _ h => h) (Or.inl ⟨by rfl, ?_⟩) hHeld ?_
  rotate_left 1
  · intro w hSw
    try dsimp only at hSw
    first | (go_simp; done) | (go_simp; with_reducible rfl)
  simp only [Act.put, List.setIfInBounds_toArray, List.set_cons_zero, List.set_cons_succ, List.getElem_toArray, List.getElem_cons_zero]
  refine wpAnyH_take (i := 1) (v := ?_) rfl (by kernel_rfl) (by kernel_rfl) (by kernel_rfl) (fun _ _ _ h => h) (Or.inl ⟨by rfl, ?_⟩) hHeld ?_
  rotate_left 1
  · intro w hSw
    try dsimp only at hSw
    first | (go_simp; done) | (go_simp; with_reducible rfl)
  simp only [Act.put, List.setIfInBounds_toArray, List.set_cons_zero, List.set_cons_succ, List.getElem_toArray, List.getElem_cons_zero, List.getElem_cons_succ]
  refine wpAnyH_ready (rs := [2]) (by kernel_rfl) (by simp) ?_
  refine AllReadyH.cons rfl (fun KK hKK => ?_) AllReadyH.nil
  go_simp
  go_at_call 26
  refine (toReplica_any r h _ (x.below B) HZ).mono ?_
  rintro e v1 ⟨k9, rfl, y9, z9, BB⟩
  replace X0 := X0.below BB
  replace c0 := X0.cell
  replace X1 := X1.below BB
  replace c1 := X1.cell
  replace f1 := X1.froz
  replace X2 := X2.below BB
  replace c2 := X2.cell
  replace f2 := X2.froz
  replace X3 := X3.below BB
  replace c3 := X3.cell
  replace f3 := X3.froz
  replace AS := AS.below BB
  replace hAS := Nat.le_trans hAS BB.size
  replace y2 := y2.below BB
  replace hy2 := Nat.le_trans hy2 BB.size
  replace AA := AA.below BB
  replace hAA := Nat.le_trans hAA BB.size
  replace B := below_next B BB
  clear BB
  clear hHeld
  refine hKK _ _ ⟨c0, c2⟩ (fun hHeld => ?_)
  clear hKK KK
  refine wpAnyH_ready (rs := [3]) (by kernel_rfl) (by simp) ?_
  refine AllReadyH.cons rfl (fun KK hKK => ?_) AllReadyH.nil
  go_simp
  go_at_call 29
  refine (eqReplica_yes r k2 k9 _ y2 y9 (z2.mono (by omega))).mono ?_
  rintro e v2 ⟨rfl, BB⟩
  replace X0 := X0.below BB
  replace c0 := X0.cell
  replace X1 := X1.below BB
  replace c1 := X1.cell
  replace f1 := X1.froz
  replace X2 := X2.below BB
  replace c2 := X2.cell
  replace f2 := X2.froz
  replace X3 := X3.below BB
  replace c3 := X3.cell
  replace f3 := X3.froz
  replace AS := AS.below BB
  replace hAS := Nat.le_trans hAS BB.size
  replace y2 := y2.below BB
  replace hy2 := Nat.le_trans hy2 BB.size
  replace AA := AA.below BB
  replace hAA := Nat.le_trans hAA BB.size
  replace B := below_next B BB
  clear BB
  clear hHeld
  refine hKK _ _ ⟨c0, c2⟩ (fun hHeld => ?_)
  clear hKK KK
  refine wpAnyH_take (i := 4) (v := ?_) rfl (by kernel_rfl) (by kernel_rfl) (by kernel_rfl) (fun _ _ _ h => h) (Or.inl ⟨by rfl, ?_⟩) hHeld ?_
  rotate_left 1
  · intro w hSw
    try dsimp only at hSw
    first | (go_simp; done) | (go_simp; with_reducible rfl)
  simp only [Act.put, List.setIfInBounds_toArray, List.set_cons_zero, List.set_cons_succ, List.getElem_toArray, List.getElem_cons_zero, List.getElem_cons_succ]
  refine wpAnyH_done (by kernel_rfl) ?_ _
  have nY : ¬ mkEnd k2 1 < 0 := by have := (mkEnd_in (k := 1) (by omega) z2).1; omega
  go_wp2_with fail
  have HIN : Hid (∀ q, inRep k2 q → zY ≤ q ∧ q < uY) := fun q hq => ⟨(y2.inB hq).1, (y2.inB hq).2.1⟩
  refine (markReplica_any r k2 1 _ y2 z2 (by omega)).mono ?_
  rintro e w7 ⟨rfl, _, KSY⟩
  have KK : Kept zY uY _ w7 := KSY.kept HIN.out
  clear KSY HIN
  replace X0 := X0.kept KK (by omega)
  replace c0 := X0.cell
  replace X1 := X1.kept KK (by omega)
  replace c1 := X1.cell
  replace f1 := X1.froz
  replace X2 := X2.kept KK (by omega)
  replace c2 := X2.cell
  replace f2 := X2.froz
  replace X3 := X3.kept KK (by omega)
  replace c3 := X3.cell
  replace f3 := X3.froz
  replace AS := AS.kept KK (by omega)
  replace hAS := Nat.le_trans hAS KK.size
  replace hy2 := Nat.le_trans hy2 KK.size
  replace AA := AA.kept KK (by omega)
  replace hAA := Nat.le_trans hAA KK.size
  replace B := B.trans (KK.below _ (by omega) B.size)
  clear KK
  clear y2 hy2
  go_wp2_with fail
  refine (eqMR_yes c ms sA sS KA KS _ AA AS ZA).mono ?_
  rintro e w8 ⟨rfl, BB⟩
  replace X0 := X0.below BB
  replace c0 := X0.cell
  replace X1 := X1.below BB
  replace c1 := X1.cell
  replace f1 := X1.froz
  replace X2 := X2.below BB
  replace c2 := X2.cell
  replace f2 := X2.froz
  replace X3 := X3.below BB
  replace c3 := X3.cell
  replace f3 := X3.froz
  replace AS := AS.below BB
  replace hAS := Nat.le_trans hAS BB.size
  replace AA := AA.below BB
  replace hAA := Nat.le_trans hAA BB.size
  replace B := below_next B BB
  clear BB
  go_wp2_with fail
  refine (markMR_any c ms sA KA _ AA ZA).mono ?_
  rintro e w9 ⟨rfl, MA, KK⟩
  replace X0 := X0.kept KK (by omega)
  replace c0 := X0.cell
  replace X1 := X1.kept KK (by omega)
  replace c1 := X1.cell
  replace f1 := X1.froz
  replace X2 := X2.kept KK (by omega)
  replace c2 := X2.cell
  replace f2 := X2.froz
  replace X3 := X3.kept KK (by omega)
  replace c3 := X3.cell
  replace f3 := X3.froz
  replace AS := AS.kept KK (by omega)
  replace hAS := Nat.le_trans hAS KK.size
  replace hAA := Nat.le_trans hAA KK.size
  replace B := B.trans (KK.below _ (by omega) B.size)
  clear KK
  have hMA := hAA
  clear AA hAA
  have nR : ¬ kE 14 KA 1 sA.2.1 < 0 := by have h2 := kE_ge (t := 14) (by omega) KA 1 sA.2.1; omega
  have nE : (kE 14 KA 1 sA.2.1 != kE 14 KA 1 sA.2.1) = false := by simp
  go_wp2_with fail
  refine (heldMR_any c sA KA _ MA ZA).mono ?_
  rintro e w10 ⟨rfl, BB⟩
  replace X0 := X0.below BB
  replace c0 := X0.cell
  replace X1 := X1.below BB
  replace c1 := X1.cell
  replace f1 := X1.froz
  replace X2 := X2.below BB
  replace c2 := X2.cell
  replace f2 := X2.froz
  replace X3 := X3.below BB
  replace c3 := X3.cell
  replace f3 := X3.froz
  replace AS := AS.below BB
  replace hAS := Nat.le_trans hAS BB.size
  replace MA := MA.below BB
  replace hMA := Nat.le_trans hMA BB.size
  replace B := below_next B BB
  clear BB
  go_wp2_with fail
  refine (toReplica_any r h _ (x.below B) HZ).mono ?_
  rintro e w11 ⟨k3, rfl, y3, z3, BB⟩
  replace X0 := X0.below BB
  replace c0 := X0.cell
  replace X1 := X1.below BB
  replace c1 := X1.cell
  replace f1 := X1.froz
  replace X2 := X2.below BB
  replace c2 := X2.cell
  replace f2 := X2.froz
  replace X3 := X3.below BB
  replace c3 := X3.cell
  replace f3 := X3.froz
  replace AS := AS.below BB
  replace hAS := Nat.le_trans hAS BB.size
  replace MA := MA.below BB
  replace hMA := Nat.le_trans hMA BB.size
  replace B := below_next B BB
  clear BB
  go_wp2_with fail
  refine (implTe_is r k3 _ y3 z3 c ms HC.out HM.out).mono ?_
  rintro e w12 ⟨zC, uC, sC, KC, rfl, GzC, hAC, AC, ZC, BB⟩
  have ozC : w.heap.size ≤ zC := Nat.le_trans B.size GzC
  have o0_zC : b0 < zC := Nat.lt_of_lt_of_le X0.lt GzC
  have o1_zC : b1 < zC := Nat.lt_of_lt_of_le X1.lt GzC
  have o2_zC : b2 < zC := Nat.lt_of_lt_of_le X2.lt GzC
  have o3_zC : b3 < zC := Nat.lt_of_lt_of_le X3.lt GzC
  have oAS_zC : uS ≤ zC := Nat.le_trans hAS GzC
  have oMA_zC : uA ≤ zC := Nat.le_trans hMA GzC
  clear GzC
  replace X0 := X0.below BB
  replace c0 := X0.cell
  replace X1 := X1.below BB
  replace c1 := X1.cell
  replace f1 := X1.froz
  replace X2 := X2.below BB
  replace c2 := X2.cell
  replace f2 := X2.froz
  replace X3 := X3.below BB
  replace c3 := X3.cell
  replace f3 := X3.froz
  replace AS := AS.below BB
  replace hAS := Nat.le_trans hAS BB.size
  replace MA := MA.below BB
  replace hMA := Nat.le_trans hMA BB.size
  replace B := below_next B BB
  clear BB
  clear y3 z3
  go_wp2_with (first | ((with_reducible refine store_midX 49 X4 0 [.int .i64 c, .slice sC.1 sC.2.1 sC.2.2] (by simp) (by kernel_rfl) (by simp [Value.oneCell']) rfl rfl ?_); intro V4 S; replace X0 := X0.kept S.kept (by omega); replace c0 := X0.cell; replace X1 := X1.kept S.kept (by omega); replace c1 := X1.cell; replace f1 := X1.froz; replace X2 := X2.kept S.kept (by omega); replace c2 := X2.cell; replace f2 := X2.froz; replace X3 := X3.kept S.kept (by omega); replace c3 := X3.cell; replace f3 := X3.froz; replace X4 : Bx V4 b4 [.int .i64 c, .slice sC.1 sC.2.1 sC.2.2] := S.bx; replace c4 := X4.cell; replace f4 := X4.froz; replace AS := AS.kept S.kept (by omega); replace hAS := Nat.le_trans hAS S.kept.size; replace MA := MA.kept S.kept (by omega); replace hMA := Nat.le_trans hMA S.kept.size; replace AC := AC.kept S.kept (by omega); replace hAC := Nat.le_trans hAC S.kept.size; replace B := B.trans (S.kept.below _ (by omega) B.size); clear S) | ((have g := ob3); clear g; (with_reducible refine alloc_newX 49 [.int .i64 0, .slice none 0 0] (fun _ => by kernel_rfl) ?_); intro b4 W4 N4; have ob4 : w.heap.size ≤ b4 := Nat.le_trans B.size N4.ge; have o0_b4 : b0 < b4 := Nat.lt_of_lt_of_le X0.lt N4.ge; have o1_b4 : b1 < b4 := Nat.lt_of_lt_of_le X1.lt N4.ge; have o2_b4 : b2 < b4 := Nat.lt_of_lt_of_le X2.lt N4.ge; have o3_b4 : b3 < b4 := Nat.lt_of_lt_of_le X3.lt N4.ge; have oAS_b4 : uS ≤ b4 := Nat.le_trans hAS N4.ge; have oMA_b4 : uA ≤ b4 := Nat.le_trans hMA N4.ge; have oAC_b4 : uC ≤ b4 := Nat.le_trans hAC N4.ge; replace X0 := X0.below N4.below; replace c0 := X0.cell; replace X1 := X1.below N4.below; replace c1 := X1.cell; replace f1 := X1.froz; replace X2 := X2.below N4.below; replace c2 := X2.cell; replace f2 := X2.froz; replace X3 := X3.below N4.below; replace c3 := X3.cell; replace f3 := X3.froz; replace AS := AS.below N4.below; replace hAS := Nat.le_trans hAS N4.below.size; replace MA := MA.below N4.below; replace hMA := Nat.le_trans hMA N4.below.size; replace AC := AC.below N4.below; replace hAC := Nat.le_trans hAC N4.below.size; replace B := below_next B N4.below; have X4 := N4.bx; have c4 := X4.cell; have f4 := X4.froz; clear N4) | fail)
  refine (eqMR_yes c ms sC sS KC KS _ AC AS ZC).mono ?_
  rintro e w13 ⟨rfl, BB⟩
  replace X0 := X0.below BB
  replace c0 := X0.cell
  replace X1 := X1.below BB
  replace c1 := X1.cell
  replace f1 := X1.froz
  replace X2 := X2.below BB
  replace c2 := X2.cell
  replace f2 := X2.froz
  replace X3 := X3.below BB
  replace c3 := X3.cell
  replace f3 := X3.froz
  replace X4 := X4.below BB
  replace c4 := X4.cell
  replace f4 := X4.froz
  replace AS := AS.below BB
  replace hAS := Nat.le_trans hAS BB.size
  replace MA := MA.below BB
  replace hMA := Nat.le_trans hMA BB.size
  replace AC := AC.below BB
  replace hAC := Nat.le_trans hAC BB.size
  replace B := below_next B BB
  clear BB
  go_wp2_with fail
  refine (heldMR_any c sA KA _ MA ZA).mono ?_
  rintro e w14 ⟨rfl, BB⟩
  replace X0 := X0.below BB
  replace c0 := X0.cell
  replace X1 := X1.below BB
  replace c1 := X1.cell
  replace f1 := X1.froz
  replace X2 := X2.below BB
  replace c2 := X2.cell
  replace f2 := X2.froz
  replace X3 := X3.below BB
  replace c3 := X3.cell
  replace f3 := X3.froz
  replace X4 := X4.below BB
  replace c4 := X4.cell
  replace f4 := X4.froz
  replace AS := AS.below BB
  replace hAS := Nat.le_trans hAS BB.size
  replace MA := MA.below BB
  replace hMA := Nat.le_trans hMA BB.size
  replace AC := AC.below BB
  replace hAC := Nat.le_trans hAC BB.size
  replace B := below_next B BB
  clear BB
  go_wp2
  go_ret
  exact ⟨rfl, B⟩

open Go.ChangeShapes Go.WideShapes Go.ChangeAt Go.Joins

set_option maxRecDepth 100000 in
theorem liftedTellOf (os : Os) (started : os.Started) (H : Type) (enc : TypeId × Value → H) :
    ReturnsInHanded {} Try.checked os 7 .any (Rows.fnExactTellOfSpec.pre6 enc Try.prog Try.f7 Rows.fnExactTellOfRow.domain false) (Rows.fnExactTellOfSpec.post enc Try.prog Try.f7 false true false false) := by
  refine returnsInHanded_of_change (C := Try.checked) Try.own started (by kernel_rfl) Try.func7
    (ChangeSpec.witness6 (enc := enc) (C := Try.checked) false ⟨#[], #[.agg #[.int .i64 0, .int .i64 0, .int .i64 0, .bool false, .int .i64 0, .slice none 0 0, .int .i64 0, .slice none 0 0, .slice none 0 0, .slice none 0 0]], []⟩ 8 (by kernel_rfl) (by kernel_rfl) (by kernel_rfl) (by kernel_rfl)) ?_
  intro W base args ds gs before hval0 hW hcnd _
  have hval : ∀ (j : Nat) t v, Try.f7.params[j]? = some t → args[j]? = some v → Value.okWide Try.prog W .any base t v := hval0
  have hW' := hW
  obtain ⟨p, q, hA0, hV, rfl, hfz, hnd⟩ := hW
  have hA : DataW.TrodAll enc Try.prog W 0 (fun _ => true) true Try.f7.params.toList args.toList ds p := hA0
  rw [Try.params7] at hA hval
  obtain ⟨v0, vs0, d0, ds0, p0, q0, hargs, rfl, rfl, h0, r0⟩ := trodAll_cons hA
  obtain ⟨rfl, rfl, rfl⟩ := trodAll_nil r0
  obtain rfl : args = #[v0] := by cases args; simp_all
  obtain ⟨rfl, rfl⟩ := trodVars_none hV
  have lt0 : ∀ x ∈ p0, x.block < W.heap.size := by obtain ⟨m, hm⟩ := h0; exact DataW.trod_lt m _ _ _ hm
  have k0 := h0
  obtain ⟨rr0, rh0, rfl, rz0, rx0⟩ := open_replica Try.repTy (hval 0 56 v0 rfl rfl) h0
  clear hA0 hval0
  refine (lawTellOf rr0 rh0 W rx0 rz0).mono fun e W' ⟨he, bel⟩ => ?_
  subst he
  exact ⟨_, rfl, _, _, _, [], _, [], hW', trodAll_mk1 (shut_bool Try.underlying4 _), (trodAll_cons_mk (Below.trod Try.laidOut (by kernel_rfl) (of_decide_eq_true (by kernel_rfl)) k0 bel lt0) trodAll_mk0), rfl, bel.frame _, fun h => by cases h⟩

set_option maxRecDepth 100000 in
set_option maxHeartbeats 0 in
theorem closedTellOf : joinedFacts Try.prog 7 Try.f7 Rows.fnExactTellOfSpec Rows.fnExactTellOfRow = true := by
  have q1 : (Rows.fnExactTellOfRow.inPlace == Try.prog.inPlace 7) = true := by rw [inPlace_at leads_is inp_is]; kernel_rfl
  have q2 : (Rows.fnExactTellOfRow.unfollowed == Try.prog.unfollowed 7) = true := by rw [unfollowed_at leads_is unf_is]; kernel_rfl
  have q3 : (Rows.fnExactTellOfRow.recurses == Try.prog.recurses 7) = true := (by rw [recurses_unf leads_is (by rw [unfollowed_at leads_is unf_is]; kernel_rfl)]; rfl)
  have q4 : (Rows.fnExactTellOfRow.named == Try.prog.varsNamed 7) = true := by rw [varsNamed_at leads_is var_ok ent_is]; kernel_rfl
  have q5 : (Try.prog.make == some Rows.fnExactTellOfRow.make) = true := by rw [made_cut]; rfl
  have q6 : (Rows.fnExactTellOfRow.lifted == Try.prog.liftsFinal) = true := by rw [lifts_no]; rfl
  have q7 : Try.prog.mayEnter = true := may_enter
  have q8 : laidOutB Try.prog = true := Try.laidOut
  unfold joinedFacts
  repeat' (with_reducible refine Bool.and_eq_true_iff.2 ⟨?_, ?_⟩)
  all_goals (first | with_reducible exact q1 | with_reducible exact q2 | with_reducible exact q3 | with_reducible exact q4 | with_reducible exact q5 | with_reducible exact q6 | with_reducible exact q7 | with_reducible exact q8 | (as_aux_lemma => kernel_rfl))

theorem tellOf_holds : Rows.FnExactTellOfSaid :=
  OpenClaim.holds_of_wide 7 Try.f7 rfl rfl rfl rfl rfl rfl rfl ⟨rfl, rfl, rfl, rfl, rfl⟩ rfl rfl rfl rfl rfl (by as_aux_lemma => kernel_rfl) Try.func7 closedTellOf
    (of_decide_eq_true (by as_aux_lemma => kernel_rfl)) (by unfold Func.isWrapper; first | (rw [if_pos (by decide +kernel)]; kernel_rfl) | (rw [if_neg (by decide +kernel)]; exact ⟨rfl, rfl⟩))
    (fun os started H enc _ => liftedTellOf os started H enc)

#print axioms tellOf_holds

end Go.Proofs.Ytcefhlkbbipmmaa

