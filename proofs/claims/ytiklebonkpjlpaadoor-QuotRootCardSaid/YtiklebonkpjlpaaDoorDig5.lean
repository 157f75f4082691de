/-
  The document's own Over of layer 2: a contract over the translation.
-/
import Derived.Test.YtiklebonkpjlpaaDoorDig4
namespace Go.Proofs.YtiklebonkpjlpaaDoor.DigW
open Go.RowKit
open DigM
/-- the rest: digits in new memory that is not block B -/
def Rst (B : Nat) (w : World) (v : Value) (ds : List Nat) : Prop :=
  ∃ a cap, v = .slice a ds.length cap ∧ (ds.length ≤ cap ∧ cap ≤ 9223372036854775807) ∧ ∀ j, j < ds.length → ∃ g o, a = some ⟨g, o, none⟩ ∧ (B < g ∧ g < w.heap.size) ∧ w.cell? ⟨g, o + j, none⟩ = some (.int .u64 (dg ds j : Nat))
theorem Rst.rd {B : Nat} {w : World} {v : Value} {ds : List Nat} (h : Rst B w v ds) : Rd w v ds := by
  obtain ⟨a, cap, e, hc, h⟩ := h
  exact ⟨a, cap, e, hc, fun j hj => by obtain ⟨g, o, e, hg, hc⟩ := h j hj; exact ⟨g, o, e, hg.2, hc⟩⟩
theorem Own.cells' {B : Nat} {w : World} {v : Value} {ds : List Nat} (h : Own B w v ds) : ∃ a cap, v = .slice a ds.length cap ∧ (ds.length ≤ cap ∧ cap ≤ 9223372036854775807) ∧ ∀ j, j < ds.length → ∃ g o, a = some ⟨g, o, none⟩ ∧ (B ≤ g ∧ g < w.heap.size) ∧ w.cell? ⟨g, o + j, none⟩ = some (.int .u64 (dg ds j : Nat)) := by
  obtain ⟨a, cap, e, hc, hr⟩ := h.rd
  refine ⟨a, cap, e, hc, fun j hj => ?_⟩
  obtain ⟨g, o, e', hg, hcell⟩ := hr j hj
  have := h.lt g (by rw [e, e']; rfl)
  exact ⟨g, o, e', ⟨this.1, this.2⟩, hcell⟩
theorem Own.rst {B B' : Nat} {w : World} {v : Value} {ds : List Nat} (h : Own B' w v ds) (hB : B < B') : Rst B w v ds := by
  obtain ⟨a, cap, e, hc, hr⟩ := h.cells'
  exact ⟨a, cap, e, hc, fun j hj => by obtain ⟨g, o, e', hg, hcell⟩ := hr j hj; exact ⟨g, o, e', ⟨by omega, hg.2⟩, hcell⟩⟩
theorem Rst.later {B : Nat} {w w' : World} {v : Value} {ds : List Nat} (h : Rst B w v ds) (hb : Below w.heap.size w w') : Rst B w' v ds := by
  obtain ⟨a, cap, e, hc, hr⟩ := h
  exact ⟨a, cap, e, hc, fun j hj => by
    obtain ⟨g, o, e', hg, hcell⟩ := hr j hj
    exact ⟨g, o, e', ⟨hg.1, by have := hb.size; omega⟩, (hb.cell (p := ⟨g, o + j, none⟩) hg.2).trans hcell⟩⟩
theorem Rst.store {B : Nat} {w : World} {v : Value} {ds : List Nat} (h : Rst B w v ds) (p : Nat) (x : Value) : Rst B (w.setCell ⟨B, p, none⟩ x) v ds := by
  obtain ⟨a, cap, e, hc, hr⟩ := h
  exact ⟨a, cap, e, hc, fun j hj => by
    obtain ⟨g, o, e', hg, hcell⟩ := hr j hj
    have hb : Below w.heap.size w w := Below.refl _ _
    refine ⟨g, o, e', ⟨hg.1, by rw [World.size_setCell]; exact hg.2⟩, ?_⟩
    rw [← hcell]
    exact World.cell?_setCell_other _ _ _ _ (by intro h; simp only [Addr.mk.injEq] at h; omega)⟩
theorem At.later {B : Nat} {w w' : World} {g n : Nat} {o : List Nat} (h : At B w g n o) (hb : Below w.heap.size w w') : At B w' g n o := by
  have hlt := (World.ownsRow.lt h g rfl).2
  obtain ⟨h1, ⟨h2, _⟩ | ⟨g', cap, cur, e, hB, hg, h3⟩⟩ := h
  · simp at h2
  · refine ⟨h1, .inr ⟨g', cap, cur, e, hB, ?_, h3⟩⟩
    simp only [Value.slice.injEq, Option.some.injEq, Addr.mk.injEq, and_true, true_and] at e
    obtain ⟨rfl, rfl⟩ := e
    rw [hb.block g hlt]; exact hg
theorem Own.later {B : Nat} {w w' : World} {v : Value} {ds : List Nat} (h : Own B w v ds) (hb : Below w.heap.size w w') : Own B w' v ds := by
  have hlt := h.lt
  obtain ⟨h1, h2 | ⟨g, cap, cur, e, hB, hg, h3⟩⟩ := h
  · exact ⟨h1, Or.inl h2⟩
  · refine ⟨h1, .inr ⟨g, cap, cur, e, hB, ?_, h3⟩⟩
    have := (hlt g (by rw [e]; rfl)).2
    rw [hb.block g this]; exact hg
/-- a row of digits, not empty, with its address -/
theorem Own.addr {B : Nat} {w : World} {v : Value} {ds : List Nat} (h : Own B w v ds) (hp : 0 < ds.length) : ∃ g o cap, v = .slice (some ⟨g, o, none⟩) ds.length cap ∧ ∀ (j : Nat) u, (ds.map (fun d => Value.int .u64 (d : Nat)))[j]? = some u → w.cell? ((⟨g, o, none⟩ : Addr).add j) = some u := by
  obtain ⟨a, cap, rfl, _, hc⟩ := h.cells'
  obtain ⟨g, o, rfl, _, _⟩ := hc 0 hp
  refine ⟨g, o, cap, rfl, fun j u hu => ?_⟩
  rw [List.getElem?_map] at hu
  by_cases hj : j < ds.length
  · rw [List.getElem?_eq_getElem hj] at hu
    simp only [Option.map_some, Option.some.injEq] at hu
    obtain ⟨g', o', e, _, hcell⟩ := hc j hj
    simp only [Option.some.injEq, Addr.mk.injEq, and_true] at e
    obtain ⟨rfl, rfl⟩ := e
    rw [dg_lt hj] at hcell
    rw [← hu, ← hcell]
    cases j <;> rfl
  · rw [List.getElem?_eq_none (by omega)] at hu; simp at hu
theorem Own.two {B : Nat} {w : World} {v : Value} {ds es : List Nat} (h : w.ownsRow B 22 1 v (ds.length + es.length) (ds.map (fun d => Value.int .u64 (d : Nat)) ++ es.map (fun d => Value.int .u64 (d : Nat)))) : Own B w v (ds ++ es) := by
  unfold Own; rw [List.length_append, List.map_append]; exact h
def ORel (a : List Nat) (vb : Nat) (w : World) (r i : Value) (wr : World) : Prop :=
  ∃ (t : Nat) (q rs : List Nat), i = .int .i64 ((t : Int) - 1) ∧ t ≤ a.length ∧ At w.heap.size wr w.heap.size a.length q ∧ Below w.heap.size w wr ∧ Rst w.heap.size wr r rs ∧ Hid (Out a vb t q rs)
def IRel (a : List Nat) (vb k : Nat) (w : World) (r i : Value) (wr : World) : Prop :=
  ∃ (m : Nat) (q rs : List Nat), i = .int .i64 ((m : Int) - 1) ∧ m ≤ 16 ∧ At w.heap.size wr w.heap.size a.length q ∧ Below w.heap.size w wr ∧ Rst w.heap.size wr r rs ∧ Hid (In a vb k m q rs)
def OverP (a b : List Nat) (w : World) (e : Ending) (w' : World) : Prop :=
  ∃ v u q r, e = .returned (.tuple #[v, u]) ∧ Digs q ∧ Digs r ∧ val q = val a / val b ∧ val r = val a % val b ∧ q.length = a.length ∧ r.length ≤ 32 * a.length ∧ Own w.heap.size w' v q ∧ Rst w.heap.size w' u r ∧ Below w.heap.size w w'
set_option maxHeartbeats 1600000 in
theorem over_any (v u : Value) (a b : List Nat) (w : World) (hv : Rd w v a) (hu : Rd w u b) (ha : Digs a) (hb : Digs b) (hpos : 0 < val b) (hla : a.length ≤ 1048576) (hlb : b.length ≤ 1048576) :
    Calls Tryd.prog 26 #[v, u] w (OverP a b w) := by
  obtain ⟨av, capv, rfl, _, hcv⟩ := hv
  obtain ⟨au, capu, rfl, hcapu, hcu⟩ := hu
  obtain ⟨i0, hi, hz0, hz1, hz2⟩ := info_parts infoU
  have HV := Lib.hid hcv
  clear hcv
  go_enter Tryd.func26, Tryd.ntmps26
  go_wp2_with (at_make; refine wpList_make_full _ rfl _ _ 38 rfl w.heap.size 22 i0 (.int .u64 0) 1 Tryd.underlying38 hi hz0 hz1 _ _ _ _ a.length rfl rfl (by omega) (by omega) ?b2 ?b3 (Nat.le_refl _) ?_)
  case b2 => rw [hz2]; omega
  case b3 => unfold maxLen; omega
  intro w1 hown hgrow
  have hb1 : Below w.heap.size w w1 := Below.grown (Below.refl _ _) hgrow (Nat.le_refl _) (fun j hj => by cases hj)
  clear hgrow
  have hA : At w.heap.size w1 w.heap.size a.length (List.replicate a.length 0) := by
    unfold At
    rw [List.map_replicate]
    have e : (madeCells (Value.cells (.int .u64 0)) (a.length * 1)).toList = List.replicate a.length (Value.int .u64 ((0 : Nat) : Int)) := by
      rw [Nat.mul_one]; exact toList_madeCells_one _ _
    rw [← e, Nat.mul_one]; exact hown
  clear hown
  have hsz : w.heap.size < w1.heap.size := (World.ownsRow.lt hA w.heap.size rfl).2
  go_wp2_with (fail)
  have hcu1 : ∀ j, j < b.length → ∃ g o, au = some ⟨g, o, none⟩ ∧ g < (w1.alloc (.cells #[] 22)).heap.size ∧ (w1.alloc (.cells #[] 22)).cell? ⟨g, o + j, none⟩ = some (.int .u64 (dg b j : Nat)) := fun j hj => by
    obtain ⟨g, o, e, hg, hc⟩ := hcu j hj
    have hb2 := hb1.alloc (Nat.le_of_lt hsz) (.cells #[] 22)
    exact ⟨g, o, e, by have := hb2.size; omega, (hb2.cell (p := ⟨g, o + j, none⟩) hg).trans hc⟩
  refine (trim_any au capu b _ hcapu hcu1 (by omega)).mono ?_
  rintro e w' ⟨n, m, rfl, hn, hvn, rfl⟩
  have RB : Rd w (.slice au n capu) (b.take n) := Rd.take hcu hn hcapu
  have hbb := hb.take n
  have hlb' : (b.take n).length = n := by rw [List.length_take]; omega
  have HVB := Lib.hid hvn
  clear hcu hcu1 hvn
  have hnx0 : Below w.heap.size w ((w1.alloc (.cells #[] 22)).drewN m) := below_drewN (hb1.alloc (Nat.le_of_lt hsz) _) m
  have hA0 : At w.heap.size ((w1.alloc (.cells #[] 22)).drewN m) w.heap.size a.length (List.replicate a.length 0) := World.ownsRow.alloc hA _
  have hr0 : Rst w.heap.size ((w1.alloc (.cells #[] 22)).drewN m) (.slice (some ⟨w1.heap.size, 0, none⟩) 0 0) [] := ⟨_, _, rfl, ⟨by simp, by omega⟩, fun j hj => by simp at hj⟩
  generalize (w1.alloc (.cells #[] 22)).drewN m = w3 at *
  generalize b.take n = bt at *
  have H0 := Lib.hid (Out.start a (val b) hpos)
  clear hA hsz hb1
  obtain ⟨wq, hwq⟩ : ∃ rv, rv = Value.slice (some ⟨w1.heap.size, 0, none⟩) 0 0 := ⟨_, rfl⟩
  rw [← hwq] at hr0
  rw [← hwq]
  clear hwq
  go_wp2_with (fail)
  go_loopw [7, 8, 9] (fun r i _ wr => ORel a (val b) w r i wr) (fun _ i _ _ => (intOf i + 1).toNat)
  case atStart => exact ⟨a.length, _, [], rfl, Nat.le_refl _, hA0, hnx0, hr0, H0⟩
  case round =>
    clear hA0 hnx0 hr0 H0
    obtain ⟨t, q, rs, rfl, ht, hA, hnx, hrst, hO⟩ := hrel
    cases t with
    | zero =>
      obtain ⟨o1, o2, o3, o4, o5, o6⟩ := hO.out.over
      go_wp2_with (fail)
      go_ret2
      exact ⟨_, _, q, rs, rfl, o1, o2, o3, o4, o5, o6, hA.own o5, hrst, hnx⟩
    | succ k =>
      have ek : ((k + 1 : Nat) : Int) - 1 = k := by omega
      rw [ek]
      clear ek
      obtain ⟨ga, oa, rfl, hga, hca⟩ := HV.out k (by omega)
      obtain ⟨x, hx⟩ : ∃ x, Hid (dg a k = x) := ⟨_, Lib.hid rfl⟩
      have hxb : x < 65536 := by rw [← hx.out]; exact ha.dg k
      rw [hx.out] at hca
      have hc' : wr.cell? ⟨ga, oa + k, none⟩ = some (.int .u64 x) := (hnx.cell (p := ⟨ga, oa + k, none⟩) hga).trans hca
      by_cases h0 : x = 0
      · by_cases h00 : rs.length = 0
        · have HN := Lib.hid (hO.out.skip (by rw [hx.out]; exact h0) h00)
          have hrst' := hrst
          obtain ⟨ra, rcap, rfl, _, _⟩ := hrst'
          have hq := bq_yes (show (x : Int) = 0 from by omega)
          have hq2 := bq_yes (show (rs.length : Int) = 0 from by omega)
          go_wp2_with (fail)
          go_roundw
          case rel => exact ⟨k, q, rs, by go_num, by omega, hA, hnx, hrst, HN⟩
          case measure => simp [intOf]
        · have HI := Lib.hid (hO.out.enter ha)
          have hkl : k < a.length := by omega
          clear hO
          have hrst' := hrst
          obtain ⟨ra, rcap, rfl, _, _⟩ := hrst'
          have hq := bq_yes (show (x : Int) = 0 from by omega)
          have hq2 := bq_no (show ¬ (rs.length : Int) = 0 from by omega)
          clear h0 h00
          go_wp2_with (fail)
          clear hc' hq hq2
          obtain ⟨wo, hwo⟩ : ∃ wo : World, Hid (wo = wr) := ⟨_, Lib.hid rfl⟩
          rw [← hwo.out]
          obtain ⟨rv, hrv⟩ : ∃ rv : Value, Hid (rv = .slice ra rs.length rcap) := ⟨_, Lib.hid rfl⟩
          go_loopw [7, 9] (IRel a (val b) k w) (fun _ i _ => (intOf i + 1).toNat)
          case atStart => exact ⟨16, q, rs, rfl, Nat.le_refl _, by rw [hwo.out]; exact hA, by rw [hwo.out]; exact hnx, by rw [hwo.out]; exact hrst, HI⟩
          case round =>
            clear HI hA hnx hrst
            obtain ⟨m, q, rs, rfl, hm, hA, hnx, hrst, hR⟩ := hrel
            cases m with
            | zero =>
              have HL := Lib.hid hR.out.leave
              go_wp2_with (fail)
              go_roundw
              case rel => exact ⟨k, q, rs, by go_num, by omega, hA, hnx, hrst, HL⟩
              case measure => simp [intOf]
            | succ j =>
              have ej : ((j + 1 : Nat) : Int) - 1 = j := by omega
              rw [ej]
              clear ej
              have hj : j ≤ 15 := by omega
              have hr1 : Digs rs := hR.out.2.2.1
              have hr2 : rs.length + 32 * k + 2 * (j + 1) ≤ 32 * a.length := hR.out.2.2.2.2.2.2.2
              have hlt : w.heap.size < wr.heap.size := (World.ownsRow.lt hA w.heap.size rfl).2
              go_wp2_with (fail)
              refine (plus_any _ _ rs rs _ hrst.rd hrst.rd hr1 hr1 (by omega) (by omega)).mono ?_
              rintro e w2 ⟨v1, r1, rfl, ⟨hd1, hv1, hl1⟩, ho1, hb2⟩
              have hsw := hnx.size
              have hA2 := hA.later hb2
              have hnx2 := hnx.trans (hb2.mono hsw)
              have hc2 : w2.cell? ⟨ga, oa + k, none⟩ = some (.int .u64 x) := (hnx2.cell (p := ⟨ga, oa + k, none⟩) hga).trans hca
              have hlt2 : w.heap.size < w2.heap.size := by have := hb2.size; omega
              have hbit := shr_bit x j
              clear hb2 hrst hA hnx
              by_cases h1 : x / 2 ^ j % 2 = 1
              · have hq := bq_yes (show ((x : Int) / 2 ^ j).tmod 2 = 1 from by rw [hbit, h1]; rfl)
                have hone : Rd (w2.alloc (.cells #[.int .u64 1] 22)) (.slice (some ⟨w2.heap.size, 0, none⟩) 1 1) [1] := (ownsU w2 [1] (by decide)).rd
                have hd11 : Digs [1] := by intro z hz; simp at hz; omega
                have hv11 : val [1] = 1 := rfl
                have ho1' := ho1.rd.later ((Below.refl _ w2).alloc (Nat.le_refl _) (.cells #[.int .u64 1] 22)) (Nat.le_refl _)
                have hnxa := hnx2.alloc (Nat.le_of_lt hlt2) (.cells #[.int .u64 1] 22)
                have hAa : At w.heap.size (w2.alloc (.cells #[.int .u64 1] 22)) w.heap.size a.length q := World.ownsRow.alloc hA2 _
                have hlta : w.heap.size < (w2.alloc (.cells #[.int .u64 1] 22)).heap.size := by have := (World.ownsRow.lt hAa w.heap.size rfl).2; exact this
                go_wp2_with (fail)
                refine (plus_any _ _ r1 [1] _ ho1' hone hd1 hd11 (by omega) (by decide)).mono ?_
                rintro e w3 ⟨v2, r2, rfl, ⟨hd2, hv2, hl2⟩, ho2, hb3⟩
                have hl2' : r2.length ≤ rs.length + 2 := by simp at hl2; omega
                rw [hv11] at hv2
                clear hq hbit hone hd11 hv11 ho1'
                have hnx3 : Below w.heap.size w w3 := hnxa.trans (hb3.mono hnxa.size)
                have hA3 : At w.heap.size w3 w.heap.size a.length q := hAa.later hb3
                have hc3 : w3.cell? ⟨ga, oa + k, none⟩ = some (.int .u64 x) := (hnx3.cell (p := ⟨ga, oa + k, none⟩) hga).trans hca
                have hrst3 := ho2.rst (B := w.heap.size) hlta
                have RB3 := RB.later hnx3 (Nat.le_refl _)
                have hlt3 : w.heap.size < w3.heap.size := (World.ownsRow.lt hA3 w.heap.size rfl).2
                clear hc2 hA2 hnx2 hnxa hAa hb3
                go_wp2_with (fail)
                refine (less_any _ _ r2 bt _ ho2.rd RB3 hd2 hbb (by omega) (by omega)).mono ?_
                rintro e w' ⟨rfl, rfl⟩
                cases hless : lessB r2 bt with
                | true =>
                  have hv3 : val r2 < val bt := by simpa [lessB] using hless
                  have HN := Lib.hid (hR.out.next0 hj hd2 (by rw [hx.out]; omega) (by rw [← HVB.out]; exact hv3) (by omega))
                  clear hless hv3
                  go_wp2_with (fail)
                  go_roundw
                  case rel => exact ⟨j, q, r2, by go_num, by omega, hA3, hnx3, hrst3, HN⟩
                  case measure => simp [intOf]
                | false =>
                  have hv3 : val bt ≤ val r2 := by
                    have : ¬ val r2 < val bt := by simpa [lessB] using hless
                    omega
                  have HV3 := Lib.hid hv3
                  clear hless
                  go_wp2_with (fail)
                  refine (minus_any _ _ r2 bt _ ho2.rd RB3 hd2 hbb HV3 (by omega) (by omega)).mono ?_
                  rintro e w4 ⟨v3, r3, rfl, ⟨hd3, hv4, hl3⟩, ho4, hb4⟩
                  obtain ⟨a3, cap3, rfl, hcap3, hcell3⟩ := ho4.cells'
                  have hcell4 : ∀ j, j < r3.length → ∃ g o, a3 = some ⟨g, o, none⟩ ∧ g < w4.heap.size ∧ w4.cell? ⟨g, o + j, none⟩ = some (.int .u64 (dg r3 j : Nat)) := fun y hy => by
                    obtain ⟨g, o, e, hg, hc⟩ := hcell3 y hy
                    exact ⟨g, o, e, hg.2, hc⟩
                  have HC4 := Lib.hid hcell4
                  have HC3 := Lib.hid hcell3
                  clear hcell3 hcell4
                  have HR3 := Lib.hid hl3
                  have hr3l : r3.length ≤ 1099511627770 := by omega
                  clear hl3
                  go_wp2_with (fail)
                  refine (trim_any a3 cap3 r3 w4 hcap3 HC4.out hr3l).mono ?_
                  rintro e w' ⟨n3, m3, rfl, hn3, hvn3, rfl⟩
                  have hb5 := below_drewN hb4 m3
                  have hA5 : At w.heap.size (w4.drewN m3) w.heap.size a.length q := hA3.later hb5
                  have hnx5 := hnx3.trans (hb5.mono (Nat.le_of_lt hlt3))
                  have hrst5 : Rst w.heap.size (w4.drewN m3) (.slice a3 n3 cap3) (r3.take n3) := by
                    have hln : (r3.take n3).length = n3 := by rw [List.length_take]; omega
                    refine ⟨a3, cap3, by rw [hln], ⟨by omega, hcap3.2⟩, fun y hy => ?_⟩
                    rw [hln] at hy
                    obtain ⟨g, o, e, hg, hc⟩ := HC3.out y (by omega)
                    refine ⟨g, o, e, ⟨by omega, hg.2⟩, ?_⟩
                    rw [show (w4.drewN m3).cell? ⟨g, o + y, none⟩ = w4.cell? ⟨g, o + y, none⟩ from rfl, hc, dg_lt (by omega), dg_lt (by omega)]; simp
                  have hroom := hR.out.room hj
                  have hqd := hA5.cell k (by omega) hR.out.1
                  have hfz := hA5.free k
                  obtain ⟨z, hz⟩ : ∃ z, Hid (dg q k = z) := ⟨_, Lib.hid rfl⟩
                  have HN := Lib.hid (hR.out.next1 (r' := r3.take n3) hj hkl (hd3.take n3) (by rw [hvn3, hv4, hx.out]; have := HVB.out; omega) (by rw [List.length_take]; have := HR3.out; omega))
                  rw [hz.out] at hqd hroom HN
                  have hroomI : (z : Int) + 2 ^ j < 65536 := by
                    have : ((z + 2 ^ j : Nat) : Int) < 65536 := by omega
                    simpa using this
                  have hpI : 0 ≤ (2 : Int) ^ j := Int.pow_nonneg (by decide)
                  clear hroom hv3 hv4 hvn3 ho4 hb4 hb5 hc3 hA3 hnx3 hrst3 RB3 hlt3
                  generalize w4.drewN m3 = w5 at *
                  go_wp2_with (fail)
                  go_roundw
                  case rel => 
                    have ec : (z : Int) + 2 ^ j = ((z + 2 ^ j : Nat) : Int) := by simp
                    rw [ec]
                    exact ⟨j, _, _, by go_num, by omega, hA5.store k _, hA5.grown k _ hnx5 (Nat.le_refl _), hrst5.store k _, HN⟩
                  case measure => simp [intOf]
              · have hq := bq_no (show ¬ ((x : Int) / 2 ^ j).tmod 2 = 1 from by rw [hbit]; omega)
                have h2 : x / 2 ^ j % 2 = 0 := by omega
                clear hbit h1
                have hl2' : r1.length ≤ rs.length + 2 := by omega
                have hnx3 : Below w.heap.size w w2 := hnx2
                have hA3 : At w.heap.size w2 w.heap.size a.length q := hA2
                have hc3 : w2.cell? ⟨ga, oa + k, none⟩ = some (.int .u64 x) := (hnx3.cell (p := ⟨ga, oa + k, none⟩) hga).trans hca
                have hrst3 := ho1.rst (B := w.heap.size) hlt
                have RB3 := RB.later hnx3 (Nat.le_refl _)
                have hlt3 : w.heap.size < w2.heap.size := (World.ownsRow.lt hA3 w.heap.size rfl).2
                clear hc2 hA2 hnx2 
                go_wp2_with (fail)
                refine (less_any _ _ r1 bt _ ho1.rd RB3 hd1 hbb (by omega) (by omega)).mono ?_
                rintro e w' ⟨rfl, rfl⟩
                cases hless : lessB r1 bt with
                | true =>
                  have hv3 : val r1 < val bt := by simpa [lessB] using hless
                  have HN := Lib.hid (hR.out.next0 hj hd1 (by rw [hx.out]; omega) (by rw [← HVB.out]; exact hv3) (by omega))
                  clear hless hv3
                  go_wp2_with (fail)
                  go_roundw
                  case rel => exact ⟨j, q, r1, by go_num, by omega, hA3, hnx3, hrst3, HN⟩
                  case measure => simp [intOf]
                | false =>
                  have hv3 : val bt ≤ val r1 := by
                    have : ¬ val r1 < val bt := by simpa [lessB] using hless
                    omega
                  have HV3 := Lib.hid hv3
                  clear hless
                  go_wp2_with (fail)
                  refine (minus_any _ _ r1 bt _ ho1.rd RB3 hd1 hbb HV3 (by omega) (by omega)).mono ?_
                  rintro e w4 ⟨v3, r3, rfl, ⟨hd3, hv4, hl3⟩, ho4, hb4⟩
                  obtain ⟨a3, cap3, rfl, hcap3, hcell3⟩ := ho4.cells'
                  have hcell4 : ∀ j, j < r3.length → ∃ g o, a3 = some ⟨g, o, none⟩ ∧ g < w4.heap.size ∧ w4.cell? ⟨g, o + j, none⟩ = some (.int .u64 (dg r3 j : Nat)) := fun y hy => by
                    obtain ⟨g, o, e, hg, hc⟩ := hcell3 y hy
                    exact ⟨g, o, e, hg.2, hc⟩
                  have HC4 := Lib.hid hcell4
                  have HC3 := Lib.hid hcell3
                  clear hcell3 hcell4
                  have HR3 := Lib.hid hl3
                  have hr3l : r3.length ≤ 1099511627770 := by omega
                  clear hl3
                  go_wp2_with (fail)
                  refine (trim_any a3 cap3 r3 w4 hcap3 HC4.out hr3l).mono ?_
                  rintro e w' ⟨n3, m3, rfl, hn3, hvn3, rfl⟩
                  have hb5 := below_drewN hb4 m3
                  have hA5 : At w.heap.size (w4.drewN m3) w.heap.size a.length q := hA3.later hb5
                  have hnx5 := hnx3.trans (hb5.mono (Nat.le_of_lt hlt3))
                  have hrst5 : Rst w.heap.size (w4.drewN m3) (.slice a3 n3 cap3) (r3.take n3) := by
                    have hln : (r3.take n3).length = n3 := by rw [List.length_take]; omega
                    refine ⟨a3, cap3, by rw [hln], ⟨by omega, hcap3.2⟩, fun y hy => ?_⟩
                    rw [hln] at hy
                    obtain ⟨g, o, e, hg, hc⟩ := HC3.out y (by omega)
                    refine ⟨g, o, e, ⟨by omega, hg.2⟩, ?_⟩
                    rw [show (w4.drewN m3).cell? ⟨g, o + y, none⟩ = w4.cell? ⟨g, o + y, none⟩ from rfl, hc, dg_lt (by omega), dg_lt (by omega)]; simp
                  have hroom := hR.out.room hj
                  have hqd := hA5.cell k (by omega) hR.out.1
                  have hfz := hA5.free k
                  obtain ⟨z, hz⟩ : ∃ z, Hid (dg q k = z) := ⟨_, Lib.hid rfl⟩
                  have HN := Lib.hid (hR.out.next1 (r' := r3.take n3) hj hkl (hd3.take n3) (by rw [hvn3, hv4, hx.out]; have := HVB.out; omega) (by rw [List.length_take]; have := HR3.out; omega))
                  rw [hz.out] at hqd hroom HN
                  have hroomI : (z : Int) + 2 ^ j < 65536 := by
                    have : ((z + 2 ^ j : Nat) : Int) < 65536 := by omega
                    simpa using this
                  have hpI : 0 ≤ (2 : Int) ^ j := Int.pow_nonneg (by decide)
                  clear hroom hv3 hv4 hvn3 ho4 hb4 hb5 hc3 hA3 hnx3 hrst3 RB3 hlt3
                  generalize w4.drewN m3 = w5 at *
                  go_wp2_with (fail)
                  go_roundw
                  case rel => 
                    have ec : (z : Int) + 2 ^ j = ((z + 2 ^ j : Nat) : Int) := by simp
                    rw [ec]
                    exact ⟨j, _, _, by go_num, by omega, hA5.store k _, hA5.grown k _ hnx5 (Nat.le_refl _), hrst5.store k _, HN⟩
                  case measure => simp [intOf]
      · have HI := Lib.hid (hO.out.enter ha)
        have hkl : k < a.length := by omega
        clear hO
        have hrst' := hrst
        obtain ⟨ra, rcap, rfl, _, _⟩ := hrst'
        have hq := bq_no (show ¬ (x : Int) = 0 from by omega)
        clear h0
        go_wp2_with (fail)
        clear hc' hq
        obtain ⟨wo, hwo⟩ : ∃ wo : World, Hid (wo = wr) := ⟨_, Lib.hid rfl⟩
        rw [← hwo.out]
        obtain ⟨rv, hrv⟩ : ∃ rv : Value, Hid (rv = .slice ra rs.length rcap) := ⟨_, Lib.hid rfl⟩
        go_loopw [7, 9] (IRel a (val b) k w) (fun _ i _ => (intOf i + 1).toNat)
        case atStart => exact ⟨16, q, rs, rfl, Nat.le_refl _, by rw [hwo.out]; exact hA, by rw [hwo.out]; exact hnx, by rw [hwo.out]; exact hrst, HI⟩
        case round =>
          clear HI hA hnx hrst
          obtain ⟨m, q, rs, rfl, hm, hA, hnx, hrst, hR⟩ := hrel
          cases m with
          | zero =>
            have HL := Lib.hid hR.out.leave
            go_wp2_with (fail)
            go_roundw
            case rel => exact ⟨k, q, rs, by go_num, by omega, hA, hnx, hrst, HL⟩
            case measure => simp [intOf]
          | succ j =>
            have ej : ((j + 1 : Nat) : Int) - 1 = j := by omega
            rw [ej]
            clear ej
            have hj : j ≤ 15 := by omega
            have hr1 : Digs rs := hR.out.2.2.1
            have hr2 : rs.length + 32 * k + 2 * (j + 1) ≤ 32 * a.length := hR.out.2.2.2.2.2.2.2
            have hlt : w.heap.size < wr.heap.size := (World.ownsRow.lt hA w.heap.size rfl).2
            go_wp2_with (fail)
            refine (plus_any _ _ rs rs _ hrst.rd hrst.rd hr1 hr1 (by omega) (by omega)).mono ?_
            rintro e w2 ⟨v1, r1, rfl, ⟨hd1, hv1, hl1⟩, ho1, hb2⟩
            have hsw := hnx.size
            have hA2 := hA.later hb2
            have hnx2 := hnx.trans (hb2.mono hsw)
            have hc2 : w2.cell? ⟨ga, oa + k, none⟩ = some (.int .u64 x) := (hnx2.cell (p := ⟨ga, oa + k, none⟩) hga).trans hca
            have hlt2 : w.heap.size < w2.heap.size := by have := hb2.size; omega
            have hbit := shr_bit x j
            clear hb2 hrst hA hnx
            by_cases h1 : x / 2 ^ j % 2 = 1
            · have hq := bq_yes (show ((x : Int) / 2 ^ j).tmod 2 = 1 from by rw [hbit, h1]; rfl)
              have hone : Rd (w2.alloc (.cells #[.int .u64 1] 22)) (.slice (some ⟨w2.heap.size, 0, none⟩) 1 1) [1] := (ownsU w2 [1] (by decide)).rd
              have hd11 : Digs [1] := by intro z hz; simp at hz; omega
              have hv11 : val [1] = 1 := rfl
              have ho1' := ho1.rd.later ((Below.refl _ w2).alloc (Nat.le_refl _) (.cells #[.int .u64 1] 22)) (Nat.le_refl _)
              have hnxa := hnx2.alloc (Nat.le_of_lt hlt2) (.cells #[.int .u64 1] 22)
              have hAa : At w.heap.size (w2.alloc (.cells #[.int .u64 1] 22)) w.heap.size a.length q := World.ownsRow.alloc hA2 _
              have hlta : w.heap.size < (w2.alloc (.cells #[.int .u64 1] 22)).heap.size := by have := (World.ownsRow.lt hAa w.heap.size rfl).2; exact this
              go_wp2_with (fail)
              refine (plus_any _ _ r1 [1] _ ho1' hone hd1 hd11 (by omega) (by decide)).mono ?_
              rintro e w3 ⟨v2, r2, rfl, ⟨hd2, hv2, hl2⟩, ho2, hb3⟩
              have hl2' : r2.length ≤ rs.length + 2 := by simp at hl2; omega
              rw [hv11] at hv2
              clear hq hbit hone hd11 hv11 ho1'
              have hnx3 : Below w.heap.size w w3 := hnxa.trans (hb3.mono hnxa.size)
              have hA3 : At w.heap.size w3 w.heap.size a.length q := hAa.later hb3
              have hc3 : w3.cell? ⟨ga, oa + k, none⟩ = some (.int .u64 x) := (hnx3.cell (p := ⟨ga, oa + k, none⟩) hga).trans hca
              have hrst3 := ho2.rst (B := w.heap.size) hlta
              have RB3 := RB.later hnx3 (Nat.le_refl _)
              have hlt3 : w.heap.size < w3.heap.size := (World.ownsRow.lt hA3 w.heap.size rfl).2
              clear hc2 hA2 hnx2 hnxa hAa hb3
              go_wp2_with (fail)
              refine (less_any _ _ r2 bt _ ho2.rd RB3 hd2 hbb (by omega) (by omega)).mono ?_
              rintro e w' ⟨rfl, rfl⟩
              cases hless : lessB r2 bt with
              | true =>
                have hv3 : val r2 < val bt := by simpa [lessB] using hless
                have HN := Lib.hid (hR.out.next0 hj hd2 (by rw [hx.out]; omega) (by rw [← HVB.out]; exact hv3) (by omega))
                clear hless hv3
                go_wp2_with (fail)
                go_roundw
                case rel => exact ⟨j, q, r2, by go_num, by omega, hA3, hnx3, hrst3, HN⟩
                case measure => simp [intOf]
              | false =>
                have hv3 : val bt ≤ val r2 := by
                  have : ¬ val r2 < val bt := by simpa [lessB] using hless
                  omega
                have HV3 := Lib.hid hv3
                clear hless
                go_wp2_with (fail)
                refine (minus_any _ _ r2 bt _ ho2.rd RB3 hd2 hbb HV3 (by omega) (by omega)).mono ?_
                rintro e w4 ⟨v3, r3, rfl, ⟨hd3, hv4, hl3⟩, ho4, hb4⟩
                obtain ⟨a3, cap3, rfl, hcap3, hcell3⟩ := ho4.cells'
                have hcell4 : ∀ j, j < r3.length → ∃ g o, a3 = some ⟨g, o, none⟩ ∧ g < w4.heap.size ∧ w4.cell? ⟨g, o + j, none⟩ = some (.int .u64 (dg r3 j : Nat)) := fun y hy => by
                  obtain ⟨g, o, e, hg, hc⟩ := hcell3 y hy
                  exact ⟨g, o, e, hg.2, hc⟩
                have HC4 := Lib.hid hcell4
                have HC3 := Lib.hid hcell3
                clear hcell3 hcell4
                have HR3 := Lib.hid hl3
                have hr3l : r3.length ≤ 1099511627770 := by omega
                clear hl3
                go_wp2_with (fail)
                refine (trim_any a3 cap3 r3 w4 hcap3 HC4.out hr3l).mono ?_
                rintro e w' ⟨n3, m3, rfl, hn3, hvn3, rfl⟩
                have hb5 := below_drewN hb4 m3
                have hA5 : At w.heap.size (w4.drewN m3) w.heap.size a.length q := hA3.later hb5
                have hnx5 := hnx3.trans (hb5.mono (Nat.le_of_lt hlt3))
                have hrst5 : Rst w.heap.size (w4.drewN m3) (.slice a3 n3 cap3) (r3.take n3) := by
                  have hln : (r3.take n3).length = n3 := by rw [List.length_take]; omega
                  refine ⟨a3, cap3, by rw [hln], ⟨by omega, hcap3.2⟩, fun y hy => ?_⟩
                  rw [hln] at hy
                  obtain ⟨g, o, e, hg, hc⟩ := HC3.out y (by omega)
                  refine ⟨g, o, e, ⟨by omega, hg.2⟩, ?_⟩
                  rw [show (w4.drewN m3).cell? ⟨g, o + y, none⟩ = w4.cell? ⟨g, o + y, none⟩ from rfl, hc, dg_lt (by omega), dg_lt (by omega)]; simp
                have hroom := hR.out.room hj
                have hqd := hA5.cell k (by omega) hR.out.1
                have hfz := hA5.free k
                obtain ⟨z, hz⟩ : ∃ z, Hid (dg q k = z) := ⟨_, Lib.hid rfl⟩
                have HN := Lib.hid (hR.out.next1 (r' := r3.take n3) hj hkl (hd3.take n3) (by rw [hvn3, hv4, hx.out]; have := HVB.out; omega) (by rw [List.length_take]; have := HR3.out; omega))
                rw [hz.out] at hqd hroom HN
                have hroomI : (z : Int) + 2 ^ j < 65536 := by
                  have : ((z + 2 ^ j : Nat) : Int) < 65536 := by omega
                  simpa using this
                have hpI : 0 ≤ (2 : Int) ^ j := Int.pow_nonneg (by decide)
                clear hroom hv3 hv4 hvn3 ho4 hb4 hb5 hc3 hA3 hnx3 hrst3 RB3 hlt3
                generalize w4.drewN m3 = w5 at *
                go_wp2_with (fail)
                go_roundw
                case rel => 
                  have ec : (z : Int) + 2 ^ j = ((z + 2 ^ j : Nat) : Int) := by simp
                  rw [ec]
                  exact ⟨j, _, _, by go_num, by omega, hA5.store k _, hA5.grown k _ hnx5 (Nat.le_refl _), hrst5.store k _, HN⟩
                case measure => simp [intOf]
            · have hq := bq_no (show ¬ ((x : Int) / 2 ^ j).tmod 2 = 1 from by rw [hbit]; omega)
              have h2 : x / 2 ^ j % 2 = 0 := by omega
              clear hbit h1
              have hl2' : r1.length ≤ rs.length + 2 := by omega
              have hnx3 : Below w.heap.size w w2 := hnx2
              have hA3 : At w.heap.size w2 w.heap.size a.length q := hA2
              have hc3 : w2.cell? ⟨ga, oa + k, none⟩ = some (.int .u64 x) := (hnx3.cell (p := ⟨ga, oa + k, none⟩) hga).trans hca
              have hrst3 := ho1.rst (B := w.heap.size) hlt
              have RB3 := RB.later hnx3 (Nat.le_refl _)
              have hlt3 : w.heap.size < w2.heap.size := (World.ownsRow.lt hA3 w.heap.size rfl).2
              clear hc2 hA2 hnx2 
              go_wp2_with (fail)
              refine (less_any _ _ r1 bt _ ho1.rd RB3 hd1 hbb (by omega) (by omega)).mono ?_
              rintro e w' ⟨rfl, rfl⟩
              cases hless : lessB r1 bt with
              | true =>
                have hv3 : val r1 < val bt := by simpa [lessB] using hless
                have HN := Lib.hid (hR.out.next0 hj hd1 (by rw [hx.out]; omega) (by rw [← HVB.out]; exact hv3) (by omega))
                clear hless hv3
                go_wp2_with (fail)
                go_roundw
                case rel => exact ⟨j, q, r1, by go_num, by omega, hA3, hnx3, hrst3, HN⟩
                case measure => simp [intOf]
              | false =>
                have hv3 : val bt ≤ val r1 := by
                  have : ¬ val r1 < val bt := by simpa [lessB] using hless
                  omega
                have HV3 := Lib.hid hv3
                clear hless
                go_wp2_with (fail)
                refine (minus_any _ _ r1 bt _ ho1.rd RB3 hd1 hbb HV3 (by omega) (by omega)).mono ?_
                rintro e w4 ⟨v3, r3, rfl, ⟨hd3, hv4, hl3⟩, ho4, hb4⟩
                obtain ⟨a3, cap3, rfl, hcap3, hcell3⟩ := ho4.cells'
                have hcell4 : ∀ j, j < r3.length → ∃ g o, a3 = some ⟨g, o, none⟩ ∧ g < w4.heap.size ∧ w4.cell? ⟨g, o + j, none⟩ = some (.int .u64 (dg r3 j : Nat)) := fun y hy => by
                  obtain ⟨g, o, e, hg, hc⟩ := hcell3 y hy
                  exact ⟨g, o, e, hg.2, hc⟩
                have HC4 := Lib.hid hcell4
                have HC3 := Lib.hid hcell3
                clear hcell3 hcell4
                have HR3 := Lib.hid hl3
                have hr3l : r3.length ≤ 1099511627770 := by omega
                clear hl3
                go_wp2_with (fail)
                refine (trim_any a3 cap3 r3 w4 hcap3 HC4.out hr3l).mono ?_
                rintro e w' ⟨n3, m3, rfl, hn3, hvn3, rfl⟩
                have hb5 := below_drewN hb4 m3
                have hA5 : At w.heap.size (w4.drewN m3) w.heap.size a.length q := hA3.later hb5
                have hnx5 := hnx3.trans (hb5.mono (Nat.le_of_lt hlt3))
                have hrst5 : Rst w.heap.size (w4.drewN m3) (.slice a3 n3 cap3) (r3.take n3) := by
                  have hln : (r3.take n3).length = n3 := by rw [List.length_take]; omega
                  refine ⟨a3, cap3, by rw [hln], ⟨by omega, hcap3.2⟩, fun y hy => ?_⟩
                  rw [hln] at hy
                  obtain ⟨g, o, e, hg, hc⟩ := HC3.out y (by omega)
                  refine ⟨g, o, e, ⟨by omega, hg.2⟩, ?_⟩
                  rw [show (w4.drewN m3).cell? ⟨g, o + y, none⟩ = w4.cell? ⟨g, o + y, none⟩ from rfl, hc, dg_lt (by omega), dg_lt (by omega)]; simp
                have hroom := hR.out.room hj
                have hqd := hA5.cell k (by omega) hR.out.1
                have hfz := hA5.free k
                obtain ⟨z, hz⟩ : ∃ z, Hid (dg q k = z) := ⟨_, Lib.hid rfl⟩
                have HN := Lib.hid (hR.out.next1 (r' := r3.take n3) hj hkl (hd3.take n3) (by rw [hvn3, hv4, hx.out]; have := HVB.out; omega) (by rw [List.length_take]; have := HR3.out; omega))
                rw [hz.out] at hqd hroom HN
                have hroomI : (z : Int) + 2 ^ j < 65536 := by
                  have : ((z + 2 ^ j : Nat) : Int) < 65536 := by omega
                  simpa using this
                have hpI : 0 ≤ (2 : Int) ^ j := Int.pow_nonneg (by decide)
                clear hroom hv3 hv4 hvn3 ho4 hb4 hb5 hc3 hA3 hnx3 hrst3 RB3 hlt3
                generalize w4.drewN m3 = w5 at *
                go_wp2_with (fail)
                go_roundw
                case rel => 
                  have ec : (z : Int) + 2 ^ j = ((z + 2 ^ j : Nat) : Int) := by simp
                  rw [ec]
                  exact ⟨j, _, _, by go_num, by omega, hA5.store k _, hA5.grown k _ hnx5 (Nat.le_refl _), hrst5.store k _, HN⟩
                case measure => simp [intOf]
end Go.Proofs.YtiklebonkpjlpaaDoor.DigW
