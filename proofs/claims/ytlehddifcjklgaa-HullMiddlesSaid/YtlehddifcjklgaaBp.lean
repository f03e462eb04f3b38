import Derived.Test.YtlehddifcjklgaaB
import Derived.ProofKit
import Derived.OpenShut
import Derived.Deep.Slices
namespace Go.Proofs.Ytlehddifcjklgaa
open Go.RowKit Go.Shelf Go.ChangeShapes Go.WideShapes Go.Deep
/-- the points of ps, wherever the slice leads -/
def PtsA (W : World) (a : Option Addr) (ps : List Pt) (c : Nat) : Prop := ps = [] ∨ ∃ b o, a = some ⟨b, o, none⟩ ∧ PtsAt W b o ps ∧ ps.length ≤ c
def InI (x : Int) : Prop := -9223372036854775808 ≤ x ∧ x ≤ 9223372036854775807
theorem inI_wf {x : Int} (h : (Lit.int .i64 x).wf = true) : InI x := by
  simp only [Lit.wf, Bool.and_eq_true, decide_eq_true_eq] at h
  exact h
theorem cell_lt {W : World} {b o : Nat} {v : Value} (h : W.cell? ⟨b, o, none⟩ = some v) : b < W.heap.size := by
  rcases Nat.lt_or_ge b W.heap.size with h1 | h1
  · exact h1
  · simp [World.cell?, Array.getElem?_eq_none h1] at h
theorem cells3 : Try.prog.cellsOf 3 = 1 := by kernel_rfl
theorem cells58 : Try.prog.cellsOf 58 = 2 := by kernel_rfl
set_option maxRecDepth 100000 in
theorem open_pts {H : Type} {enc : TypeId × Value → H} {W : World} {base : Nat} {v : Value} {d : DataW H} {p : List MemPlace} (hval : Value.okWide Try.prog W .any base 22 v) (h : DataW.Trod enc Try.prog W 0 (fun _ => true) true 22 v d p) :
    ∃ a c ps, v = .slice a ps.length c ∧ PtsA W a ps c ∧ ps.length ≤ c ∧ (a = none → c = 0) ∧ ps.length ≤ maxLen ∧ ∀ q ∈ ps, InI q.1 ∧ InI q.2 := by
  obtain ⟨a0, len0, cap0, rfl⟩ := okWide_slice Try.underlying22 hval
  obtain ⟨fuel, hf⟩ := h
  rcases open_slice Try.underlying22 hf with ⟨hcs, _⟩ | ⟨a, len, cap, m, n, D, Pl, hcs, hb, hl, hm, hmm, hx, hi⟩
  · simp only [Value.cells, List.cons.injEq, Value.slice.injEq, and_true] at hcs
    obtain ⟨rfl, rfl, rfl⟩ := hcs
    exact ⟨none, 0, [], rfl, .inl rfl, by simp, fun _ => rfl, by simp, fun q h => by cases h⟩
  · simp only [Value.cells, List.cons.injEq, Value.slice.injEq, and_true] at hcs
    obtain ⟨rfl, rfl, rfl⟩ := hcs
    have hlm : len0 ≤ m := by rw [hmm]; simp; omega
    have each : ∀ i, i < len0 → ∃ q : Int × Int, (W.cell? (a.add (i * 2)) = some (.int .i64 q.1) ∧ W.cell? (a.add (i * 2 + 1)) = some (.int .i64 q.2)) ∧ InI q.1 ∧ InI q.2 := fun i hil => by
      obtain ⟨cs', h1, h2⟩ := hi i (by omega)
      rw [cells58] at h1
      obtain ⟨_, hlen, hcell⟩ := World.cells?_some h1
      obtain ⟨xs, k, _, _, _, hxl, hel⟩ := DataW.trod_array Try.underlying58 h2
      have g0 := hel 0 (by omega)
      have g1 := hel 1 (by omega)
      rw [cells3] at g0 g1
      match xs, hxl, cs', hlen with
      | [y0, y1], _, [v0, v1], _ =>
        simp at g0 g1
        obtain ⟨z0, e0, _, w0⟩ := DataW.trod_int Try.underlying3 g0
        obtain ⟨z1, e1, _, w1⟩ := DataW.trod_int Try.underlying3 g1
        simp only [List.cons.injEq, and_true] at e0 e1
        subst e0
        subst e1
        have c0 := hcell 0 (by omega)
        have c1 := hcell 1 (by omega)
        rw [add_add] at c0 c1
        exact ⟨(z0, z1), ⟨by simpa using c0, by simpa using c1⟩, inI_wf w0, inI_wf w1⟩
    obtain ⟨f, hF⟩ := choose_lt each
    refine ⟨some a, cap0, (List.range len0).map f, by simp, ?_, by simp; omega, fun h => by simp at h, by simp; omega, fun q hq => ?_⟩
    · by_cases h0 : len0 = 0
      · left; subst h0; rfl
      · right
        obtain ⟨b, off, spot⟩ := a
        have hsp : spot = none := by
          have := (hF 0 (by omega)).1.1
          simpa [Addr.add] using World.cell?_spot this
        subst hsp
        refine ⟨b, off, rfl, ⟨?_, fun i h => ?_, fun i h => ?_⟩, by simp; omega⟩
        · have := (hF 0 (by omega)).1.1
          rw [Go.WideShapes.add_plain] at this
          exact cell_lt this
        · have := (hF i (by simpa using h)).1.1
          rw [Go.WideShapes.add_plain] at this
          simpa using this
        · have := (hF i (by simpa using h)).1.2
          rw [Go.WideShapes.add_plain] at this
          simpa [Nat.add_assoc] using this
    · obtain ⟨i, hi, rfl⟩ := List.mem_map.1 hq
      exact (hF i (by simpa using hi)).2
end Go.Proofs.Ytlehddifcjklgaa
