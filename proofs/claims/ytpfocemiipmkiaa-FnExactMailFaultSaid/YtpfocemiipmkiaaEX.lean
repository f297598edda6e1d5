/- What this law needs of the texts before it beyond what stands in them. -/
import Derived.Test.YtpfocemiipmkiaaBase
import Derived.Test.YtpfocemiipmkiaaZT
import Derived.Test.YtpfocemiipmkiaaCopy
import Derived.Test.YtpfocemiipmkiaaMark
import Derived.Test.YtpfocemiipmkiaaEq
import Derived.Test.YtpfocemiipmkiaaMark2
import Derived.Test.YtpfocemiipmkiaaBC
import Derived.Test.YtpfocemiipmkiaaSm
import Derived.Test.YtpfocemiipmkiaaFault
import Derived.Test.YtpfocemiipmkiaaArr
import Derived.Test.YtpfocemiipmkiaaFlush
import Derived.Test.YtpfocemiipmkiaaSpec1
import Derived.Test.YtpfocemiipmkiaaSFlush
import Derived.Test.YtpfocemiipmkiaaAll
import Derived.Test.YtpfocemiipmkiaaPutS
import Derived.Test.YtpfocemiipmkiaaFacts
import Derived.Test.YtpfocemiipmkiaaZM
import Derived.Test.YtpfocemiipmkiaaYE
import Derived.Test.YtpfocemiipmkiaaZY
import Derived.Test.YtpfocemiipmkiaaP1
import Derived.Test.YtpfocemiipmkiaaP2
import Derived.Test.YtpfocemiipmkiaaP4
import Derived.Test.YtpfocemiipmkiaaP3
import Derived.Test.YtpfocemiipmkiaaQ0
import Derived.Test.YtpfocemiipmkiaaZU
import Derived.Test.YtpfocemiipmkiaaT8
import Derived.Test.YtpfocemiipmkiaaZW
import Derived.Test.YtpfocemiipmkiaaZX
import Derived.Test.YtpfocemiipmkiaaZZ
import Derived.Test.YtpfocemiipmkiaaZQ
import Derived.Test.YtpfocemiipmkiaaZV
import Derived.Test.YtpfocemiipmkiaaYP
import Derived.Test.YtpfocemiipmkiaaO1b
import Derived.Test.YtpfocemiipmkiaaO1
import Derived.Test.YtpfocemiipmkiaaXA
import Derived.Test.YtpfocemiipmkiaaZR
import Derived.Test.YtpfocemiipmkiaaBools
import Derived.Test.YtpfocemiipmkiaaWA
import Derived.Test.YtpfocemiipmkiaaWB
import Derived.Test.YtpfocemiipmkiaaXH
import Derived.Test.YtpfocemiipmkiaaWC
import Derived.Test.YtpfocemiipmkiaaI5a
import Derived.Test.YtpfocemiipmkiaaI5s
import Derived.Test.YtpfocemiipmkiaaXB
import Derived.Test.YtpfocemiipmkiaaWG
namespace Go.Proofs.Ytpfocemiipmkiaa
open Go.RowKit Go.ChangeShapes Go.WideShapes Go.Deep

section
variable {H : Type} {enc : TypeId × Value → H} {P : Program} {w : World}
def MailTy (P : Program) (t : TypeId) : Prop := ∃ f0 f1 f2 f3 f4 f5 f6 f7 f8 f9 : Field, ∃ t8 : TypeId, P.underlying t = some (.struct #[f0, f1, f2, f3, f4, f5, f6, f7, f8, f9]) ∧ (f0.offset = 0 ∧ f1.offset = 1 ∧ f2.offset = 2 ∧ f3.offset = 3 ∧ f4.offset = 4 ∧ f5.offset = 5 ∧ f6.offset = 6 ∧ f7.offset = 12 ∧ f8.offset = 13 ∧ f9.offset = 14) ∧ (P.cellsOf f0.type = 1 ∧ P.cellsOf f1.type = 1 ∧ P.cellsOf f2.type = 1 ∧ P.cellsOf f3.type = 1 ∧ P.cellsOf f4.type = 1 ∧ P.cellsOf f5.type = 1 ∧ P.cellsOf f6.type = 6 ∧ P.cellsOf f7.type = 1 ∧ P.cellsOf f8.type = 1 ∧ P.cellsOf f9.type = 1) ∧ P.cellsOf t = 15 ∧ P.underlying f0.type = some (.int .i64) ∧ P.underlying f1.type = some (.int .i64) ∧ P.underlying f2.type = some (.int .i64) ∧ P.underlying f3.type = some (.int .i64) ∧ P.underlying f4.type = some (.int .i64) ∧ P.underlying f5.type = some .bool ∧ EnTy P f6.type ∧ P.underlying f7.type = some (.int .i64) ∧ P.underlying f8.type = some (.slice t8) ∧ EnTy P t8 ∧ P.underlying f9.type = some (.int .i64)
theorem open_mail {r0 : Reach} {b0 : Nat} {t : TypeId} {v : Value} {d : DataW H} {p : List MemPlace} (hty : MailTy P t) (hv : Value.okWide P w r0 b0 t v) (h : DataW.Trod enc P w 0 (fun _ => true) true t v d p) :
    ∃ (m : Ml) (h : Hd), v = .agg (mlV h m).toArray ∧ h.2.1 ≤ maxLen ∧ RowAt w false 0 w.heap.size 6 h.1 h.2.1 h.2.2 (sixs m.log) := by
  obtain ⟨f0, f1, f2, f3, f4, f5, f6, f7, f8, f9, t8, he, ⟨o0, o1, o2, o3, o4, o5, o6, o7, o8, o9⟩, ⟨c0, c1, c2, c3, c4, c5, c6, c7, c8, c9⟩, hC, u0, u1, u2, u3, u4, u5, u6, u7, u8, x8, u9⟩ := hty
  obtain ⟨cs, rfl, hsz⟩ := okWide_struct he hv
  obtain ⟨fuel, hf0⟩ := h
  have hq := hsz.trans hC
  obtain ⟨l⟩ := cs
  match l, hq with
  | [e0, e1, e2, e3, e4, e5, e6, e7, e8, e9, e10, e11, e12, e13, e14], _ =>
    have hf1 : DataW.trod enc P w 0 (fun _ => true) true fuel t [e0, e1, e2, e3, e4, e5, e6, e7, e8, e9, e10, e11, e12, e13, e14] = some (d, p) := by simpa [Value.cells] using hf0
    obtain ⟨ys, k, _, _, _, hyl, hf⟩ := DataW.trod_struct he hf1
    match ys, hyl with
    | [y0, y1, y2, y3, y4, y5, y6, y7, y8, y9], _ =>
      have g0 := hf 0 f0 rfl
      have g1 := hf 1 f1 rfl
      have g2 := hf 2 f2 rfl
      have g3 := hf 3 f3 rfl
      have g4 := hf 4 f4 rfl
      have g5 := hf 5 f5 rfl
      have g6 := hf 6 f6 rfl
      have g7 := hf 7 f7 rfl
      have g8 := hf 8 f8 rfl
      have g9 := hf 9 f9 rfl
      simp [o0, o1, o2, o3, o4, o5, o6, o7, o8, o9, c0, c1, c2, c3, c4, c5, c6, c7, c8, c9] at g0 g1 g2 g3 g4 g5 g6 g7 g8 g9
      obtain ⟨a0, d0, _, _⟩ := DataW.trod_int u0 g0
      obtain ⟨a1, d1, _, _⟩ := DataW.trod_int u1 g1
      obtain ⟨a2, d2, _, _⟩ := DataW.trod_int u2 g2
      obtain ⟨a3, d3, _, _⟩ := DataW.trod_int u3 g3
      obtain ⟨a4, d4, _, _⟩ := DataW.trod_int u4 g4
      obtain ⟨a5, d5, _⟩ := DataW.trod_bool u5 g5
      obtain ⟨q6, d6⟩ := six_of u6 (by simp) g6
      obtain ⟨a7, d7, _, _⟩ := DataW.trod_int u7 g7
      obtain ⟨k8, n8, m8, xs8, d8, hn8, hr8⟩ := read_entries u8 x8 g8
      obtain ⟨a9, d9, _, _⟩ := DataW.trod_int u9 g9
      simp only [List.cons.injEq, and_true] at d0 d1 d2 d3 d4 d5 d6 d7 d9
      obtain ⟨q0, q1, q2, q3, q4, q5⟩ := q6
      simp only at d6
      obtain ⟨rfl, rfl, rfl, rfl, rfl, rfl⟩ := d6
      exact ⟨⟨a0, a1, a2, a3, a4, a5, (q0, q1, q2, q3, q4, q5), a7, xs8, a9⟩, (k8, n8, m8), by rw [d0, d1, d2, d3, d4, d5, d7, d8, d9]; rfl, hn8, hr8⟩
end

end Go.Proofs.Ytpfocemiipmkiaa

namespace Go.Proofs.Ytpfocemiipmkiaa
theorem Try.mailTy : MailTy Try.prog 59 := ⟨_, _, _, _, _, _, _, _, _, _, _, Try.underlying59, ⟨rfl, rfl, rfl, rfl, rfl, rfl, rfl, rfl, rfl, rfl⟩, ⟨by kernel_rfl, by kernel_rfl, by kernel_rfl, by kernel_rfl, by kernel_rfl, by kernel_rfl, by kernel_rfl, by kernel_rfl, by kernel_rfl, by kernel_rfl⟩, by kernel_rfl, Try.underlying2, Try.underlying2, Try.underlying2, Try.underlying2, Try.underlying2, Try.underlying4, Try.enTy, Try.underlying2, Try.underlying47, Try.enTy, Try.underlying2⟩
end Go.Proofs.Ytpfocemiipmkiaa

