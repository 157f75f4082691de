/-
  Arguments of layer 3, handed in as data: rows of eight words are numbers.
-/
import Derived.Test.YtiklebonkpjlpaaDoorWideV
import Derived.Test.YtiklebonkpjlpaaDoorClose
namespace WideA
open Go WideM WideV
theorem wide_of {zs : List Int} (hl : zs.length = 8) (hw : ∀ z ∈ zs, (Lit.int .u64 z).wf = true) : ∃ a, a < M ∧ (zs.map (Value.int .u64)).toArray = cells 8 a := by
  obtain ⟨ws, rfl, hb⟩ : ∃ ws : List Nat, zs = ws.map (fun (x : Nat) => (x : Int)) ∧ ∀ x ∈ ws, x < B := by
    refine ⟨zs.map Int.toNat, ?_, fun x hx => ?_⟩
    · rw [List.map_map]
      apply List.ext_getElem (by simp)
      intro i h1 h2
      obtain ⟨c, hc, _⟩ := SnClose.u64_of (hw _ (List.getElem_mem h1))
      simp [hc]
    · obtain ⟨z, hz, rfl⟩ := List.mem_map.1 hx
      obtain ⟨c, hc, hlt⟩ := SnClose.u64_of (hw z hz)
      rw [hc, Int.toNat_natCast, B_eq]; exact hlt
  obtain ⟨a, ha, hi⟩ := of_words ws hb
  have hl' : ws.length = 8 := by simpa using hl
  rw [hl'] at ha
  refine ⟨a, ha, ?_⟩
  apply Array.ext_getElem?
  intro i
  by_cases h : i < 8
  · rw [cells_get h, ← hi i (by omega)]
    simp [show i < ws.length by omega]
  · rw [Array.getElem?_eq_none (by simp; omega), Array.getElem?_eq_none (by simp; omega)]
theorem u16_of {n : Int} (h : (Lit.int .u16 n).wf = true) : ∃ c : Nat, n = (c : Int) ∧ c < 65536 := by
  simp [Lit.wf, IntKind.min, IntKind.max, IntKind.signed, IntKind.bits] at h
  exact ⟨n.toNat, by omega, by omega⟩
end WideA
