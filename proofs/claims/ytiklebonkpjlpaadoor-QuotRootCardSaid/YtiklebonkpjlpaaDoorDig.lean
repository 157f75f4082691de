/-
  The document's own digits of layer 2: contracts over the translation.
-/
import Derived.Test.YtiklebonkpjlpaaDoorRows
import Derived.Test.YtiklebonkpjlpaaDoorDigMath2
import Derived.WalkKit
import Derived.Outline
import Derived.LoopTactic
import Derived.WalkSpells
import Derived.IntWalk
import Derived.Lib.Hide
import Derived.WalkLawsBesides
import Derived.OwnWalk
import Derived.WalkSmall
import Derived.Deep.QuietTactic
import Derived.BigQuiet
import Derived.Carry
namespace Go.Proofs.YtiklebonkpjlpaaDoor.DigW
open Go.RowKit
open DigM
theorem ret_bool {a b : Bool} (h : a = b) : Ending.returned (.bool a) = .returned (.bool b) := by rw [h]
theorem ret_int {k : IntKind} {a b : Int} (h : a = b) : Ending.returned (.int k a) = .returned (.int k b) := by rw [h]
theorem vint {k : IntKind} {a b : Int} (h : a = b) : Value.int k a = .int k b := by rw [h]
theorem infoU : (Tryd.prog.info? 22).map (fun i => (i.zero, i.size, i.bytes)) = some (some (.int .u64 0), 1, 8) := by kernel_rfl
/-- a slice that reads as digits -/
def Rd (w : World) (v : Value) (ds : List Nat) : Prop :=
  ∃ a cap, v = .slice a ds.length cap ∧ (ds.length ≤ cap ∧ cap ≤ 9223372036854775807) ∧ ∀ j, j < ds.length → ∃ g o, a = some ⟨g, o, none⟩ ∧ g < w.heap.size ∧ w.cell? ⟨g, o + j, none⟩ = some (.int .u64 (dg ds j : Nat))
/-- digits that a call made and owns, in new memory -/
def Own (B : Nat) (w : World) (v : Value) (ds : List Nat) : Prop := w.ownsRow B 22 1 v ds.length (ds.map (fun d => Value.int .u64 (d : Nat)))
theorem Own.rd {B : Nat} {w : World} {v : Value} {ds : List Nat} (h : Own B w v ds) : Rd w v ds := by
  have hc := fun g => World.ownsRow.cells h (g := g)
  have hlt := h.lt
  obtain ⟨_, ⟨rfl, hn⟩ | ⟨g, cap, cur, rfl, hB, _, hcp, hcm, _, _⟩⟩ := h
  · exact ⟨none, 0, by rw [hn], ⟨by omega, by omega⟩, fun j hj => by omega⟩
  · refine ⟨some ⟨g, 0, none⟩, cap, rfl, ⟨hcp, by unfold maxLen at hcm; omega⟩, fun j hj => ⟨g, 0, rfl, (hlt g rfl).2, ?_⟩⟩
    have := hc g rfl j (.int .u64 (ds[j] : Nat)) (by simp [hj])
    rw [dg_lt hj, Nat.zero_add]
    cases j with
    | zero => simpa [Addr.add] using this
    | succ j => simpa [Addr.add] using this
theorem Own.mono {B B' : Nat} {w : World} {v : Value} {ds : List Nat} (h : Own B' w v ds) (hB : B ≤ B') : Own B w v ds := by
  obtain ⟨h1, h2 | ⟨g, cap, cur, e, hg, h3⟩⟩ := h
  · exact ⟨h1, Or.inl h2⟩
  · exact ⟨h1, Or.inr ⟨g, cap, cur, e, by omega, h3⟩⟩
theorem Rd.later {w w' : World} {v : Value} {ds : List Nat} (h : Rd w v ds) {B : Nat} (hb : Below B w w') (hB : w.heap.size ≤ B) : Rd w' v ds := by
  obtain ⟨a, cap, rfl, hcap, hc⟩ := h
  refine ⟨a, cap, rfl, hcap, fun j hj => ?_⟩
  obtain ⟨g, o, e, hg, hcell⟩ := hc j hj
  exact ⟨g, o, e, by have := hb.size; omega, (hb.cell (p := ⟨g, o + j, none⟩) (by show g < B; omega)).trans hcell⟩
def Same (v : Value) (w : World) (e : Ending) (w' : World) : Prop := e = .returned v ∧ w = w'
theorem digit_any (v : Value) (ds : List Nat) (i : Nat) (w : World) (h : Rd w v ds) (hl : ds.length ≤ 1099511627776) (hi : i ≤ 1099511627776) :
    Calls Tryd.prog 35 #[v, .int .i64 i] w (Same (.int .u64 (dg ds i : Nat)) w) := by
  obtain ⟨a, cap, rfl, hcap, hc⟩ := h
  by_cases hlt : i < ds.length
  · obtain ⟨g, o, rfl, hg, hcell⟩ := hc i hlt
    clear hc
    go_enter Tryd.func35, Tryd.ntmps35
    go_wp2
    go_ret
    exact ⟨rfl, rfl⟩
  · have hd := Lib.hid (dg_ge (ds := ds) (i := i) (by omega))
    clear hc
    go_enter Tryd.func35, Tryd.ntmps35
    go_wp2
    go_ret
    exact ⟨ret_int (by rw [hd.out]; rfl), rfl⟩
theorem digit_is (v : Value) (ds : List Nat) (i x : Nat) (w : World) (h : Rd w v ds) (hx : Hid (dg ds i = x)) (hl : ds.length ≤ 1099511627776) (hi : i ≤ 1099511627776) :
    Calls Tryd.prog 35 #[v, .int .i64 i] w (Same (.int .u64 (x : Nat)) w) := by
  obtain rfl := hx.out
  exact digit_any v ds i w h hl hi
theorem bq_no {a b : Int} (h : ¬ a = b) : (a == b) = false := beq_eq_false_iff_ne.2 h
theorem bq_yes {a b : Int} (h : a = b) : (a == b) = true := beq_iff_eq.2 h
theorem bn_yes {a b : Int} (h : ¬ a = b) : (a != b) = true := bne_iff_ne.2 h
theorem bn_no {a b : Int} (h : a = b) : (a != b) = false := by rw [h]; exact bne_self_eq_false b
set_option maxHeartbeats 400000 in
theorem word_any (v : Value) (ds : List Nat) (p : Nat) (w : World) (h : Rd w v ds) (hg : Digs ds) (hl : ds.length ≤ 1099511627776) (hp : p ≤ 1099511627776) :
    Calls Tryd.prog 45 #[v, .int .i64 p] w (Same (.int .u64 (wordAt ds p : Nat)) w) := by
  obtain ⟨a, cap, rfl, hcap, hc⟩ := h
  go_enter Tryd.func45, Tryd.ntmps45
  go_wp2
  go_loop [5, 6] (fun n i => ∃ m : Nat, m ≤ 4 ∧ i = .int .i64 ((m : Int) - 1) ∧ n = .int .u64 (val ((ds.drop (p + m)).take (4 - m)) : Nat)) (fun _ i => (intOf i + 1).toNat)
  case atStart => exact ⟨4, by omega, rfl, by simp [val]⟩
  case round =>
    obtain ⟨m, hm, rfl, rfl⟩ := hrel
    cases m with
    | zero =>
      go_wp2
      go_ret
      exact ⟨rfl, rfl⟩
    | succ j =>
      have ej : ((j + 1 : Nat) : Int) - 1 = j := by omega
      rw [ej]
      clear ej
      have hst := Lib.hid (word_step ds p j)
      have hb := take_lt (ds.drop (p + (j + 1))) (4 - (j + 1)) (hg.drop _)
      have hb2 : 65536 ^ (4 - (j + 1)) ≤ 281474976710656 := by
        have : 65536 ^ (4 - (j + 1)) ≤ 65536 ^ 3 := Nat.pow_le_pow_right (by decide) (by omega)
        simpa using this
      have hb3 : val ((ds.drop (p + (j + 1))).take (4 - (j + 1))) < 281474976710656 := by omega
      have hd := hg.dg (p + j)
      clear hb hb2
      rw [show 4 - (j + 1) + 1 = 4 - j by omega] at hst
      generalize val ((ds.drop (p + (j + 1))).take (4 - (j + 1))) = x at *
      by_cases hlt : p + j < ds.length
      · obtain ⟨g, o, rfl, hgs, hcell⟩ := hc (p + j) hlt
        go_wp2
        go_round
        case rel => exact ⟨j, by omega, by go_num, vint (by rw [hst.out]; omega)⟩
        case measure => simp [intOf]
      · have hd := Lib.hid (dg_ge (ds := ds) (i := p + j) (by omega))
        go_wp2
        go_round
        case rel => exact ⟨j, by omega, by go_num, vint (by rw [hst.out, hd.out]; omega)⟩
        case measure => simp [intOf]
theorem word_is (v : Value) (ds : List Nat) (p x : Nat) (w : World) (h : Rd w v ds) (hg : Digs ds) (hx : Hid (wordAt ds p = x)) (hl : ds.length ≤ 1099511627776) (hp : p ≤ 1099511627776) :
    Calls Tryd.prog 45 #[v, .int .i64 p] w (Same (.int .u64 (x : Nat)) w) := by
  obtain rfl := hx.out
  exact word_any v ds p w h hg hl hp
end Go.Proofs.YtiklebonkpjlpaaDoor.DigW
