/-
  The document's own Times of layer 2: a contract over the translation.
-/
import Derived.Test.YtiklebonkpjlpaaDoorDig3
namespace Go.Proofs.YtiklebonkpjlpaaDoor.DigW
open Go.RowKit
open DigM
def uv (d : Nat) : Value := .int .u64 (d : Nat)
/-- the digits of block g, new since B -/
def At (B : Nat) (w : World) (g n : Nat) (o : List Nat) : Prop := w.ownsRow B 22 1 (.slice (some ⟨g, 0, none⟩) n n) n (o.map (fun d => Value.int .u64 (d : Nat)))
theorem At.cell {B : Nat} {w : World} {g n : Nat} {o : List Nat} (h : At B w g n o) (j : Nat) (hj : j < n) (hl : o.length = n) : w.cell? ⟨g, j, none⟩ = some (.int .u64 (dg o j : Nat)) := by
  have := World.ownsRow.cellAt h j (by omega)
  rw [this, List.getElem?_map, dg_lt (by omega), List.getElem?_eq_getElem (by omega)]; rfl
theorem At.free {B : Nat} {w : World} {g n : Nat} {o : List Nat} (h : At B w g n o) (j : Nat) : w.frozen? ⟨g, j, none⟩ = false := World.ownsRow.frozenAt h j
theorem At.store {B : Nat} {w : World} {g n : Nat} {o : List Nat} (h : At B w g n o) (j d : Nat) : At B (w.setCell ⟨g, j, none⟩ (.int .u64 (d : Nat))) g n (o.set j d) := by
  unfold At
  rw [List.map_set]
  exact (World.ownsRow.stored h j _).1
theorem At.own {B : Nat} {w : World} {g n : Nat} {o : List Nat} (h : At B w g n o) (hl : o.length = n) : Own B w (.slice (some ⟨g, 0, none⟩) n n) o := by
  unfold Own; rw [hl]; exact h
theorem At.grown {B : Nat} {w : World} {g n : Nat} {o : List Nat} (h : At B w g n o) (j d : Nat) {w0 : World} {B0 : Nat} (hb : Below B0 w0 w) (hB : B0 ≤ B) : Below B0 w0 (w.setCell ⟨g, j, none⟩ (.int .u64 (d : Nat))) :=
  Below.setCell hb (by have := (World.ownsRow.lt h g rfl).1; show B0 ≤ g; omega) _
def TRel (a b : List Nat) (w : World) (i : Value) (wr : World) : Prop :=
  ∃ (k : Nat) (o : List Nat), i = .int .i64 k ∧ k ≤ a.length ∧ At w.heap.size wr w.heap.size (a.length + b.length) o ∧ Below w.heap.size w wr ∧ Hid (Prod a b k o)
def TimesP (a b ds : List Nat) : Prop := Digs ds ∧ val ds = val a * val b ∧ ds.length = a.length + b.length
set_option maxHeartbeats 1600000 in
theorem times_any (v u : Value) (a b : List Nat) (w : World) (hv : Rd w v a) (hu : Rd w u b) (ha : Digs a) (hb : Digs b) (hla : a.length ≤ 1099511627770) (hlb : b.length ≤ 1099511627770) :
    Calls Tryd.prog 18 #[v, u] w (Gives (TimesP a b) w) := by
  obtain ⟨av, capv, rfl, _, hcv⟩ := hv
  obtain ⟨au, capu, rfl, _, hcu⟩ := hu
  obtain ⟨i0, hi, hz0, hz1, hz2⟩ := info_parts infoU
  have HV := Lib.hid hcv
  have HU := Lib.hid hcu
  clear hcv hcu
  go_enter Tryd.func18, Tryd.ntmps18
  go_wp2_with (at_make; refine wpList_make_full _ rfl _ _ 38 rfl w.heap.size 22 i0 (.int .u64 0) 1 Tryd.underlying38 hi hz0 hz1 _ _ _ _ (a.length + b.length) rfl rfl (by omega) (by omega) ?b2 ?b3 (Nat.le_refl _) ?_)
  case b2 => rw [hz2]; omega
  case b3 => unfold maxLen; omega
  intro w1 hown hgrow
  have hb1 : Below w.heap.size w w1 := Below.grown (Below.refl _ _) hgrow (Nat.le_refl _) (fun j hj => by cases hj)
  clear hgrow
  have hA : At w.heap.size w1 w.heap.size (a.length + b.length) (List.replicate (a.length + b.length) 0) := by
    unfold At
    rw [List.map_replicate]
    have e : (madeCells (Value.cells (.int .u64 0)) ((a.length + b.length) * 1)).toList = List.replicate (a.length + b.length) (Value.int .u64 ((0 : Nat) : Int)) := by
      rw [Nat.mul_one]; exact toList_madeCells_one _ _
    rw [← e, Nat.mul_one]; exact hown
  clear hown
  have hsz : w.heap.size < w1.heap.size := (World.ownsRow.lt hA w.heap.size rfl).2
  go_wp2_with (fail)
  go_loopw [6] (TRel a b w) (fun i _ => a.length - (intOf i).toNat)
  case atStart => exact ⟨0, _, rfl, Nat.zero_le _, hA, hb1, Lib.hid (Prod.start a b)⟩
  case round =>
    clear hA hb1
    obtain ⟨k, o, rfl, hk, hA, hnx, hP⟩ := hrel
    by_cases h1 : k < a.length
    · obtain ⟨ga, oa, rfl, hga, hca⟩ := HV.out k h1
      obtain ⟨x, hx⟩ : ∃ x, Hid (dg a k = x) := ⟨_, Lib.hid rfl⟩
      have hxb : x < 65536 := by rw [← hx.out]; exact ha.dg k
      rw [hx.out] at hca
      have hca' : wr.cell? ⟨ga, oa + k, none⟩ = some (.int .u64 x) := (hnx.cell (p := ⟨ga, oa + k, none⟩) hga).trans hca
      by_cases h0 : x = 0
      · subst h0
        have HN := Lib.hid (hP.out.skip hx.out)
        go_wp2_with (fail)
        go_roundw
        case rel => exact ⟨k + 1, o, by go_num, by omega, hA, hnx, HN⟩
        case measure => simp [intOf]; omega
      · have hq := bq_no (show ¬ (x : Int) = 0 from by omega)
        have HR := Lib.hid hP.out.row
        clear h0
        go_wp2_with (fail)
        obtain ⟨wo, hwo⟩ : ∃ wo : World, Hid (wo = wr) := ⟨_, Lib.hid rfl⟩
        rw [← hwo.out]
        go_loopw [7, 8, 9] (fun c i _ wr => ∃ (k' cn : Nat) (o : List Nat), i = .int .i64 k' ∧ c = .int .u64 cn ∧ k' ≤ b.length ∧ At w.heap.size wr w.heap.size (a.length + b.length) o ∧ Below w.heap.size w wr ∧ Hid (Row a b k k' o cn)) (fun _ i _ _ => b.length - (intOf i).toNat)
        case atStart => exact ⟨0, 0, o, rfl, rfl, Nat.zero_le _, by rw [hwo.out]; exact hA, by rw [hwo.out]; exact hnx, HR⟩
        case round =>
          clear HR hA hnx hca'
          rename_i wx
          obtain ⟨j, cn, o', rfl, rfl, hj, hA, hnx, hR⟩ := hrel
          have hol : o'.length = a.length + b.length := hR.out.1
          by_cases h2 : j < b.length
          · obtain ⟨gb, ob, rfl, hgb, hcb⟩ := HU.out j h2
            obtain ⟨hz1', _, _, hxy, hcn⟩ := hR.out.bound ha hb
            obtain ⟨y, hy⟩ : ∃ y, Hid (dg b j = y) := ⟨_, Lib.hid rfl⟩
            obtain ⟨z, hz⟩ : ∃ z, Hid (dg o' (k + j) = z) := ⟨_, Lib.hid rfl⟩
            rw [hz.out] at hz1'
            rw [hx.out, hy.out] at hxy
            have HN := Lib.hid (hR.out.next ha hb h1 h2)
            rw [hx.out, hy.out, hz.out] at HN
            have hca' : wr.cell? ⟨ga, oa + k, none⟩ = some (.int .u64 x) := (hnx.cell (p := ⟨ga, oa + k, none⟩) hga).trans hca
            rw [hy.out] at hcb
            have hcb' : wr.cell? ⟨gb, ob + j, none⟩ = some (.int .u64 y) := (hnx.cell (p := ⟨gb, ob + j, none⟩) hgb).trans hcb
            have hco := hA.cell (k + j) (by omega) hol
            rw [hz.out] at hco
            have hfz := hA.free (k + j)
            have hx1 : (x : Int) * y ≤ 4294836225 := by rw [← Int.natCast_mul]; omega
            have hx0 : 0 ≤ (x : Int) * y := by rw [← Int.natCast_mul]; omega
            clear hca hcb
            go_wp2_with (fail)
            go_quiet (fail)
            go_wp2_with (fail)
            have hAq : At w.heap.size (wr.drewN nq) w.heap.size (a.length + b.length) o' := hA
            have hnq := below_drewN hnx nq
            have ec : ((z : Int) + x * y + cn) % 65536 = (((z + x * y + cn) % 65536 : Nat) : Int) := by
              rw [Int.natCast_emod, Int.natCast_add, Int.natCast_add, Int.natCast_mul]; rfl
            have ed : ((z : Int) + x * y + cn) / 65536 = (((z + x * y + cn) / 65536 : Nat) : Int) := by
              rw [Int.natCast_ediv, Int.natCast_add, Int.natCast_add, Int.natCast_mul]; rfl
            go_roundw
            case rel =>
              rw [ec, ed]
              exact ⟨j + 1, _, _, by go_num, rfl, by omega, hAq.store (k + j) _, hAq.grown (k + j) _ hnq (Nat.le_refl _), HN⟩
            case measure => simp [intOf]; omega
          · have ej : j = b.length := by omega
            subst ej
            obtain ⟨z, hz⟩ : ∃ z, Hid (dg o' (k + b.length) = z) := ⟨_, Lib.hid rfl⟩
            have HN := Lib.hid (hR.out.over ha hb h1 rfl).1
            have hlt := (hR.out.over ha hb h1 rfl).2
            rw [hz.out] at HN hlt
            have hco := hA.cell (k + b.length) (by omega) hol
            rw [hz.out] at hco
            have hfz := hA.free (k + b.length)
            clear hca
            go_wp2_with (fail)
            have ec : (z : Int) + cn = ((z + cn : Nat) : Int) := (Int.natCast_add _ _).symm
            go_roundw
            case rel =>
              rw [ec]
              exact ⟨k + 1, _, by go_num, by omega, hA.store (k + b.length) _, hA.grown (k + b.length) _ hnx (Nat.le_refl _), HN⟩
            case measure => simp [intOf]; omega
    · have hend := hP.out.over (by omega)
      go_wp2_with (fail)
      go_ret
      exact ⟨_, o, rfl, hend, hA.own hP.out.1, hnx⟩
end Go.Proofs.YtiklebonkpjlpaaDoor.DigW
