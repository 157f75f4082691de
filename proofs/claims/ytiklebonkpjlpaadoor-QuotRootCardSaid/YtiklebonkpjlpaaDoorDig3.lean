/-
  The document's own Minus, Trim and Len of layer 2: contracts over the translation.
-/
import Derived.Test.YtiklebonkpjlpaaDoorDig2
namespace Go.Proofs.YtiklebonkpjlpaaDoor.DigW
open Go.RowKit
open DigM
theorem digit_q (v : Value) (ds : List Nat) (i x : Nat) (w : World) (n : Nat) (h : Rd w v ds) (hx : Hid (dg ds i = x)) (hl : ds.length ≤ 1099511627776) (hi : i ≤ 1099511627776) :
    Calls Tryd.prog 35 #[v, .int .i64 i] (w.drewN n) fun e w' => e = .returned (.int .u64 (x : Nat)) ∧ w' = w.drewN n :=
  (digit_is v ds i x (w.drewN n) (h.later (below_drewN (Below.refl _ _) n) (Nat.le_refl _)) hx hl hi).mono fun _ _ ⟨he, hw⟩ => ⟨he, hw.symm⟩
def MRel (a b : List Nat) (w : World) (v c i : Value) (wr : World) : Prop :=
  ∃ (k cn : Nat) (o : List Nat), i = .int .i64 k ∧ c = .int .u64 cn ∧ Own w.heap.size wr v o ∧ Below w.heap.size w wr ∧ k ≤ a.length ∧ Hid (Dif a b k o cn)
def MinusP (a b ds : List Nat) : Prop := Digs ds ∧ val ds = val a - val b ∧ ds.length = a.length
set_option maxHeartbeats 1600000 in
theorem minus_any (v u : Value) (a b : List Nat) (w : World) (hv : Rd w v a) (hu : Rd w u b) (ha : Digs a) (hb : Digs b) (hle : Hid (val b ≤ val a)) (hla : a.length ≤ 1099511627770) (hlb : b.length ≤ 1099511627770) :
    Calls Tryd.prog 44 #[v, u] w (Gives (MinusP a b) w) := by
  have RU := hu
  obtain ⟨av, capv, rfl, hcap, hcell⟩ := hv
  obtain ⟨i0, hi, hz0, hz1, hz2⟩ := info_parts infoU
  go_enter Tryd.func44, Tryd.ntmps44
  go_wp2_with (fail)
  go_loopw [5, 6, 7] (MRel a b w) (fun _ _ i _ => a.length - (intOf i).toNat)
  case atStart => exact ⟨0, 0, [], rfl, rfl, World.ownsRow_made _ _ _ (Nat.le_refl _) (by decide) rfl, (Below.refl _ _).alloc (Nat.le_refl _) _, Nat.zero_le _, Lib.hid (Dif.start a b)⟩
  case round =>
    obtain ⟨k, cn, o, rfl, rfl, hown, hnx, hka, hS⟩ := hrel
    have hlen : o.length ≤ k := by rw [hS.out.1]; exact Nat.le_refl _
    have hcn : cn ≤ 1 := hS.out.2.2.1
    by_cases h1 : k < a.length
    · obtain ⟨g, off, rfl, hg, hc⟩ := hcell k h1
      clear hcell
      have RU' := RU.later hnx (Nat.le_refl _)
      have hc' : wr.cell? ⟨g, off + k, none⟩ = some (.int .u64 (dg a k : Nat)) := (hnx.cell (p := ⟨g, off + k, none⟩) hg).trans hc
      clear hc
      obtain ⟨x, hx⟩ : ∃ x, Hid (dg a k = x) := ⟨_, Lib.hid rfl⟩
      obtain ⟨y, hy⟩ : ∃ y, Hid (dg b k = y) := ⟨_, Lib.hid rfl⟩
      have hxb : x < 65536 := by rw [← hx.out]; exact ha.dg k
      have hyb : y < 65536 := by rw [← hy.out]; exact hb.dg k
      have HN := Lib.hid (hS.out.next ha hb).1
      rw [hx.out, hy.out] at HN
      rw [hx.out] at hc'
      go_wp2_with (fail)
      go_quiet ((go_at_call 35; exact Calls.quiet_of_same (digit_q _ b k y _ _ RU' hy (by omega) (by omega))))
      have hown2 : Own w.heap.size (wr.drewN nq) u5 o := hown
      have hnx2 := below_drewN hnx nq
      clear hown hnx RU' hc'
      generalize wr.drewN nq = wd at *
      go_wp2_with (first
        | (at_builtin; refine wpList_append_own _ rfl _ _ 38 rfl w.heap.size 22 i0 (.int .u64 0) 1 8 Tryd.underlying38 hi hz0 hz1 hz2 rfl (by decide) _ _ _ rfl (World.ownsRow.alloc hown2 _) ⟨wd.heap.size, 0, none⟩ 1 1 [.int .u64 ((65536 + (x : Int) - y - cn) % 65536)] rfl rfl ?c1 ?c2 ?c3 ?c4 ?c5 ?_))
      case c1 =>
        intro j u hj
        match j, hj with
        | 0, hj => simp at hj; subst hj; simp [Addr.add]
      case c2 => intro u hu; simp at hu; subst hu; rfl
      case c3 => unfold maxLen; omega
      case c4 => omega
      case c5 => have := hnx2.size; simp; omega
      intro v' w1 hown' hgrow _
      have hnx' : Below w.heap.size w w1 := Below.grown (hnx2.alloc hnx2.size _) hgrow (by have := hnx2.size; simp; omega) (fun j hj => (hown2.lt j hj).1)
      clear hgrow
      have HO := Lib.hid (Own.snoc (d := (65536 + x - y - cn) % 65536) hown' (by omega))
      clear hown'
      go_wp2_with (fail)
      go_roundw
      case rel => exact ⟨k + 1, 1 - (65536 + x - y - cn) / 65536, _, by go_num, vint (by omega), HO.out, hnx', by omega, HN⟩
      case measure => simp [intOf]; omega
    · have hend := hS.out.over (by omega) ha hb hle.out
      go_wp2_with (fail)
      go_ret
      exact ⟨_, o, rfl, hend, hown, hnx⟩
/-- a slice that is another one's first part -/
def Trims (a : Option Addr) (cap : Nat) (ds : List Nat) (w : World) (e : Ending) (w' : World) : Prop := ∃ n m, e = .returned (.slice a n cap) ∧ n ≤ ds.length ∧ val (ds.take n) = val ds ∧ w' = w.drewN m
theorem trim_step {ds : List Nat} {n : Nat} (h : val (ds.take (n + 1)) = val ds) (h0 : dg ds n = 0) : val (ds.take n) = val ds := by
  rw [← h, val_take, h0]; simp
theorem Rd.take {w : World} {a : Option Addr} {cap n : Nat} {ds : List Nat} (h : ∀ j, j < ds.length → ∃ g o, a = some ⟨g, o, none⟩ ∧ g < w.heap.size ∧ w.cell? ⟨g, o + j, none⟩ = some (.int .u64 (dg ds j : Nat))) (hn : n ≤ ds.length) (hcap : ds.length ≤ cap ∧ cap ≤ 9223372036854775807) :
    Rd w (.slice a n cap) (ds.take n) := by
  have hl : (ds.take n).length = n := by rw [List.length_take]; omega
  refine ⟨a, cap, by rw [hl], ⟨by omega, hcap.2⟩, fun j hj => ?_⟩
  rw [hl] at hj
  obtain ⟨g, o, e, hg, hc⟩ := h j (by omega)
  refine ⟨g, o, e, hg, ?_⟩
  rw [hc]
  rw [dg_lt (by omega), dg_lt (by omega)]; simp
set_option maxHeartbeats 800000 in
theorem trim_any (a : Option Addr) (cap : Nat) (ds : List Nat) (w : World) (hcap : ds.length ≤ cap ∧ cap ≤ 9223372036854775807) (hcell : ∀ j, j < ds.length → ∃ g o, a = some ⟨g, o, none⟩ ∧ g < w.heap.size ∧ w.cell? ⟨g, o + j, none⟩ = some (.int .u64 (dg ds j : Nat))) (hl : ds.length ≤ 1099511627770) :
    Calls Tryd.prog 43 #[.slice a ds.length cap] w (Trims a cap ds w) := by
  obtain ⟨hc1, hc2⟩ := hcap
  go_enter Tryd.func43, Tryd.ntmps43
  go_wp2_with (fail)
  go_loopw [3] (fun i wr => ∃ n m : Nat, i = .int .i64 n ∧ n ≤ ds.length ∧ wr = w.drewN m ∧ Hid (val (ds.take n) = val ds)) (fun i _ => (intOf i).toNat)
  case atStart => exact ⟨ds.length, 0, rfl, Nat.le_refl _, rfl, Lib.hid (by rw [List.take_length])⟩
  case round =>
    obtain ⟨n, m, rfl, hn, rfl, hE⟩ := hrel
    cases n with
    | zero =>
      go_wp2_with (fail)
      go_ret
      exact ⟨0, m, rfl, Nat.zero_le _, hE.out, rfl⟩
    | succ j =>
      have ej : ((j + 1 : Nat) : Int) - 1 = j := by omega
      obtain ⟨g, off, rfl, hg, hc⟩ := hcell j (by omega)
      obtain ⟨x, hx⟩ : ∃ x, Hid (dg ds j = x) := ⟨_, Lib.hid rfl⟩
      rw [hx.out] at hc
      by_cases h0 : x = 0
      · subst h0
        have HT := Lib.hid (trim_step hE.out hx.out)
        go_wp2_with (fail)
        go_roundw
        case rel => exact ⟨j, m, by go_num, by omega, rfl, HT⟩
        case measure => simp [intOf]
      · have hq := bq_no (show ¬ (x : Int) = 0 from by omega)
        go_wp2_with (fail)
        go_ret
        exact ⟨j + 1, m, rfl, hn, hE.out, rfl⟩
theorem shr_bit (x b : Nat) : ((x : Int) / 2 ^ b).tmod 2 = ((x / 2 ^ b % 2 : Nat) : Int) := by
  have e : (x : Int) / 2 ^ b = ((x / 2 ^ b : Nat) : Int) := by rw [Int.natCast_ediv, Int.natCast_pow]; rfl
  rw [e]; rfl
/-- how many bits -/
def Bits (ds : List Nat) (w : World) (e : Ending) (w' : World) : Prop := ∃ k : Nat, e = .returned (.int .i64 k) ∧ BL (val ds) k ∧ k ≤ 16 * ds.length ∧ ∃ m, w' = w.drewN m
end Go.Proofs.YtiklebonkpjlpaaDoor.DigW
