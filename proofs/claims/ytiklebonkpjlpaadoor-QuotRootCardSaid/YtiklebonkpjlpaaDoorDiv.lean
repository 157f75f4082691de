/-
  math/bits.Div64 and word's Div: contracts over the translation.
-/
import Derived.Test.YtiklebonkpjlpaaDoorWord
import Derived.Test.YtiklebonkpjlpaaDoorDiv64Math
import Derived.BigGuardPart
import Derived.Deep.DeepCutAuto
import Derived.Deep.CutBlock
import Derived.Deep.CutRange
namespace Go.Proofs.YtiklebonkpjlpaaDoor.DigW
open Go.RowKit
open DigM DivM
def QuotOf (hi lo y : Nat) (w : World) (e : Ending) (w' : World) : Prop :=
  ∃ q r : Nat, e = .returned (.tuple #[.int .u64 q, .int .u64 r]) ∧ Hid (q < 18446744073709551616 ∧ r < y ∧ q * y + r = hi * 18446744073709551616 + lo) ∧ ∃ n, w' = w.drewN n
set_option maxHeartbeats 800000 in
theorem div64_low (lo y : Nat) (w : World) (hy : 0 < y) (hlo : Hid (lo < 18446744073709551616)) (hy' : Hid (y < 18446744073709551616)) :
    Calls Tryd.prog 54 #[.int .u64 0, .int .u64 lo, .int .u64 y] w (QuotOf 0 lo y w) := by
  have hq0 := bq_no (show ¬ (y : Int) = 0 from by omega)
  have hyI : (1 : Int) ≤ y := by omega
  have HF : Hid (lo / y < 18446744073709551616 ∧ lo % y < y ∧ lo / y * y + lo % y = 0 * 18446744073709551616 + lo) := Lib.hid (by
    refine ⟨Nat.lt_of_le_of_lt (Nat.div_le_self _ _) hlo.out, Nat.mod_lt _ hy, ?_⟩
    rw [Nat.mul_comm, Nat.div_add_mod]; omega)
  go_enter Tryd.func54, Tryd.ntmps54
  go_wp2_with (fail)
  go_quiet (fail)
  go_wp2_with (fail)
  go_ret2
  have e1 : IntKind.u64.wrap ((lo : Int) / (y : Int)) = ((lo / y : Nat) : Int) := by
    rw [← Int.natCast_ediv, IntKind.wrap_u64]
    have := HF.out.1
    generalize lo / y = z at *
    omega
  rw [e1]
  exact ⟨lo / y, lo % y, rfl, HF, nq, rfl⟩
/-- what the walk's words come to, ahead of the loops -/
structure Prep (hi lo y s Y y1 y0 H D u N t1 t0 : Nat) : Prop where
  e1 : IntKind.u64.wrap ((y : Int) * 2 ^ s) = (Y : Int)
  e2 : (Y : Int) / 4294967296 = (y1 : Int)
  e3 : bits BinOp.and IntKind.u64 (Y : Int) 4294967295 = (y0 : Int)
  e4 : IntKind.u64.wrap ((hi : Int) * 2 ^ s) = (H : Int)
  e5 : (lo : Int) / 2 ^ (64 - s) = (D : Int)
  e6 : bits BinOp.or IntKind.u64 (H : Int) (D : Int) = (u : Int)
  e7 : IntKind.u64.wrap ((lo : Int) * 2 ^ s) = (N : Int)
  e8 : (N : Int) / 4294967296 = (t1 : Int)
  e9 : bits BinOp.and IntKind.u64 (N : Int) 4294967295 = (t0 : Int)
  ok : Ok Y y1 y0 u t1
  t0lt : t0 < 4294967296
  hY : Y = y * 2 ^ s
  hN : (u * 4294967296 + t1) * 4294967296 + t0 = (hi * 18446744073709551616 + lo) * 2 ^ s
theorem and_low (a : Nat) (ha : a < 18446744073709551616) : bits .and .u64 (a : Int) 4294967295 = ((a % 4294967296 : Nat) : Int) := Mul64.maskN a ha
theorem prep (hi lo y s : Nat) (hs : s ≤ 63) (h1 : 9223372036854775808 ≤ y * 2 ^ s) (h2 : y * 2 ^ s < 18446744073709551616) (hlt : hi < y) (hlo : lo < 18446744073709551616) :
    ∃ Y y1 y0 H D u N t1 t0 : Nat, Prep hi lo y s Y y1 y0 H D u N t1 t0 := by
  have hKL : 2 ^ s * 2 ^ (64 - s) = 18446744073709551616 := by rw [← Nat.pow_add]; rw [show s + (64 - s) = 64 by omega]
  obtain ⟨f1, f2, f3, f4⟩ := shifted hi lo y (2 ^ s) (2 ^ (64 - s)) (Nat.two_pow_pos _) (Nat.two_pow_pos _) hKL hlt hlo
  have cp : ∀ n : Nat, ((n : Int) * 2 ^ s) = ((n * 2 ^ s : Nat) : Int) := fun n => by rw [Int.natCast_mul, Int.natCast_pow]; rfl
  refine ⟨y * 2 ^ s, y * 2 ^ s / 4294967296, y * 2 ^ s % 4294967296, hi * 2 ^ s, lo / 2 ^ (64 - s), hi * 2 ^ s + lo / 2 ^ (64 - s), lo * 2 ^ s % 18446744073709551616, lo * 2 ^ s % 18446744073709551616 / 4294967296, lo * 2 ^ s % 18446744073709551616 % 4294967296, ?_, ?_, ?_, ?_, ?_, ?_, ?_, ?_, ?_, ?_, ?_, rfl, ?_⟩
  · rw [cp, IntKind.wrap_u64]; omega
  · omega
  · exact and_low _ h2
  · rw [cp, IntKind.wrap_u64]; omega
  · rw [Int.natCast_ediv, Int.natCast_pow]; first | done | rfl
  · have e := bits_or_u64_nat (hi * 2 ^ s) (lo / 2 ^ (64 - s)) (by omega) (by omega)
    rw [e]
    congr 1
    have := Nat.two_pow_add_eq_or_of_lt f3 hi
    rw [Nat.mul_comm (2 ^ s)] at this
    exact this.symm
  · rw [cp, IntKind.wrap_u64]; omega
  · omega
  · exact and_low _ (Nat.mod_lt _ (by decide))
  · exact ⟨by omega, Nat.mod_lt _ (by decide), by omega, by omega, f2, by omega⟩
  · exact Nat.mod_lt _ (by decide)
  · rw [← f1]
    generalize lo * 2 ^ s % 18446744073709551616 = N at *
    generalize hi * 2 ^ s + lo / 2 ^ (64 - s) = U at *
    have := Nat.div_add_mod N 4294967296
    clear hKL cp f1 f2 f3 f4 h1 h2 hlo hlt
    omega
set_option maxHeartbeats 1600000 in
set_option maxRecDepth 100000 in
theorem div64_high (hi lo y : Nat) (w : World) (hhi : 0 < hi) (hlt : hi < y) (hlo : Hid (lo < 18446744073709551616)) (hy' : Hid (y < 18446744073709551616)) :
    Calls Tryd.prog 54 #[.int .u64 hi, .int .u64 lo, .int .u64 y] w (QuotOf hi lo y w) := by
  have hq0 := bq_no (show ¬ (y : Int) = 0 from by omega)
  have hq1 := bq_no (show ¬ (hi : Int) = 0 from by omega)
  have hyI : (1 : Int) ≤ y := by omega
  have hle : Lib.bitLen y ≤ 64 := Lib.bitLen_le y 64 (by decide) (by have := hy'.out; simpa using this)
  have hbl := bitLenAux_BL 64 y (by have := hy'.out; simpa using this)
  have hF := Tryd.bits_LeadingZeros64 y w (by omega) (by have := hy'.out; omega)
  simp only [Int.toNat_natCast] at hF
  obtain ⟨s, hs⟩ : ∃ s : Nat, s = 64 - Lib.bitLen y := ⟨_, rfl⟩
  rw [show (64 - (Lib.bitLen y : Int)) = (s : Int) by omega] at hF
  have hbp : 0 < Lib.bitLen y := by
    apply Nat.pos_of_ne_zero; intro h
    have := hbl.1
    rw [show Lib.bitLenAux 64 y = 0 from h] at this
    simp at this
    omega
  have hs63 : s ≤ 63 := by omega
  have hlow : 9223372036854775808 ≤ y * 2 ^ s ∧ y * 2 ^ s < 18446744073709551616 := by
    obtain ⟨b1, b2⟩ := hbl
    have b2 := b2 hbp
    rw [show Lib.bitLenAux 64 y = Lib.bitLen y from rfl] at b1 b2
    have c1 := Nat.mul_le_mul_right (2 ^ s) b2
    have c2 := Nat.mul_lt_mul_of_pos_right b1 (Nat.two_pow_pos s)
    rw [← Nat.pow_add] at c1 c2
    rw [show Lib.bitLen y - 1 + s = 63 by omega] at c1
    rw [show Lib.bitLen y + s = 64 by omega] at c2
    exact ⟨c1, c2⟩
  obtain ⟨Y, y1, y0, H, D, u, N, t1, t0, hP⟩ := prep hi lo y s hs63 hlow.1 hlow.2 hlt hlo.out
  obtain ⟨e1, e2, e3, e4, e5, e6, e7, e8, e9, ok, ht0, hY, hN⟩ := hP
  have hG := ok.start
  have e10 : IntKind.u64.wrap ((u : Int) / y1) = ((u / y1 : Nat) : Int) := by
    rw [← Int.natCast_ediv, IntKind.wrap_u64]
    have := hG.2.2.1
    clear hG
    generalize u / y1 = z at *
    omega
  have e11 : IntKind.u64.wrap ((u : Int) - IntKind.u64.wrap (((u / y1 : Nat) : Int) * y1)) = ((u % y1 : Nat) : Int) := by
    have h1 := hG.1
    have h2 := ok.hu
    have h3 := ok.hy
    have h4 := ok.h0
    have h5 := ok.h1'
    clear hG e10
    rw [IntKind.wrap_u64, IntKind.wrap_u64, ← Int.natCast_mul]
    generalize u / y1 * y1 = z at *
    generalize u % y1 = z' at *
    omega
  have HG := Lib.hid hG
  clear hG
  generalize u / y1 = Q at *
  generalize u % y1 = R at *
  have hy1I : (2147483648 : Int) ≤ y1 := by have := ok.h1; omega
  have OK := Lib.hid ok
  have HY := Lib.hid hY
  have HN := Lib.hid hN
  have HT := Lib.hid ht0
  clear hs hle hbl hbp hlow ok hY hN ht0
  go_enter Tryd.func54, Tryd.ntmps54
  go_wp2_with (fail)
  refine hF.mono ?_
  rintro e w' ⟨rfl, rfl⟩
  obtain ⟨q1, Q1⟩ : ∃ q1, Hid ((u * 4294967296 + t1) / Y = q1) := ⟨_, Lib.hid rfl⟩
  obtain ⟨wb, rfl⟩ : ∃ wb : World, wb = w' := ⟨_, rfl⟩
  go_upto_block 0 with (fail)
  go_cut [15] from 67 to 85 (fun a wx => a = .int .u64 q1 ∧ wx = wb)
  case first =>
    go_wp2_with (fail)
    go_loopw [15, 16] (fun a b wx => ∃ q r : Nat, a = .int .u64 q ∧ b = .int .u64 r ∧ wx = wb ∧ Hid (Guess Y y1 u t1 q r)) (fun a _ _ => (intOf a).toNat)
    case atStart => exact ⟨Q, R, rfl, rfl, rfl, HG⟩
    case round =>
      obtain ⟨q, r, rfl, rfl, rfl, G⟩ := hrel
      have hr := G.out.2.2.2
      have hq := G.out.2.2.1
      have k1 := OK.out.h1'
      have k3 := OK.out.ht
      by_cases hA : 4294967296 ≤ q
      · have GT := Lib.hid (Or.inl hA : 4294967296 ≤ q ∨ 4294967296 * r + t1 < q * y0)
        by_cases hB : r + y1 < 4294967296
        · have HN := Lib.hid (G.out.on OK.out GT.out hB)
          have hAI : (4294967296 : Int) ≤ q := by omega
          have hBJ : (r : Int) + y1 ≤ 18446744073709551615 := by omega
          have hBD : decide ((4294967296 : Int) ≤ (r : Int) + y1) = false := decide_eq_false (by omega)
          have hqI : (q : Int) ≤ 4294967297 := by omega
          have HH := Lib.hid hA
          clear hA hB hr hq k1 k3
          go_wp2_with (fail)
          go_roundw
          case rel => exact ⟨q - 1, r + y1, vint (by have := HH.out; omega), by go_num, by trivial, HN⟩
          case measure => simp [intOf]; have := HH.out; omega
        · have HN := Lib.hid (G.out.leave OK.out GT.out (by omega))
          have hAI : (4294967296 : Int) ≤ q := by omega
          have hBI : 4294967296 ≤ (r : Int) + y1 := by omega
          have hqI : (q : Int) ≤ 4294967297 := by omega
          have hBJ : (r : Int) + y1 ≤ 18446744073709551615 := by omega
          have HH := Lib.hid hA
          clear hA hB hr hq k1 k3
          go_wp2_with (fail)
          go_meet
          exact ⟨vint (by have := HH.out; rw [← Q1.out, ← HN.out]; clear G GT HN; omega), rfl⟩
      · obtain ⟨m1, m2⟩ := G.out.fits OK.out (by omega)
        have m1I : (q : Int) * y0 ≤ 18446744065119617025 := by rw [← Int.natCast_mul]; omega
        have m0I : 0 ≤ (q : Int) * y0 := by rw [← Int.natCast_mul]; omega
        have m2I : 4294967296 * (r : Int) + t1 ≤ 18446744073709551615 := by omega
        by_cases hC : 4294967296 * r + t1 < q * y0
        · have GT := Lib.hid (Or.inr hC : 4294967296 ≤ q ∨ 4294967296 * r + t1 < q * y0)
          have hd := (G.out.down OK.out GT.out).1
          have hCI : 4294967296 * (r : Int) + t1 < (q : Int) * y0 := by rw [← Int.natCast_mul]; omega
          by_cases hB : r + y1 < 4294967296
          · have HN := Lib.hid (G.out.on OK.out GT.out hB)
            have hAB : decide ((4294967296 : Int) ≤ (q : Int)) = false := decide_eq_false (by omega)
            have hqI : (q : Int) ≤ 4294967297 := by omega
            have hdI : (1 : Int) ≤ q := by omega
            have hBJ : (r : Int) + y1 ≤ 18446744073709551615 := by omega
            have hBD : decide ((4294967296 : Int) ≤ (r : Int) + y1) = false := decide_eq_false (by omega)
            have HH := Lib.hid hd
            clear m1 m2 hC hA hB hr hq k1 k3 hd
            go_wp2_with (fail)
            go_roundw
            case rel => exact ⟨q - 1, r + y1, vint (by have := HH.out; omega), by go_num, by trivial, HN⟩
            case measure => simp [intOf]; have := HH.out; omega
          · have HN := Lib.hid (G.out.leave OK.out GT.out (by omega))
            have hAB : decide ((4294967296 : Int) ≤ (q : Int)) = false := decide_eq_false (by omega)
            have hqI : (q : Int) ≤ 4294967297 := by omega
            have hdI : (1 : Int) ≤ q := by omega
            have hBI : 4294967296 ≤ (r : Int) + y1 := by omega
            have hBJ : (r : Int) + y1 ≤ 18446744073709551615 := by omega
            have HH := Lib.hid hd
            clear m1 m2 hC hA hB hr hq k1 k3 hd
            go_wp2_with (fail)
            go_meet
            exact ⟨vint (by have := HH.out; rw [← Q1.out, ← HN.out]; clear G GT HN; omega), rfl⟩
        · have HN := Lib.hid (G.out.stop OK.out (by omega))
          have hCI : (q : Int) * y0 ≤ 4294967296 * (r : Int) + t1 := by rw [← Int.natCast_mul]; omega
          have hAB : decide ((4294967296 : Int) ≤ (q : Int)) = false := decide_eq_false (by omega)
          have hb2 : decide (4294967296 * (r : Int) + t1 < (q : Int) * y0) = false := decide_eq_false (by omega)
          clear m1 m2 hC hA hr hq k1 k3 hCI
          go_wp2_with (fail)
          go_meet
          exact ⟨vint (by rw [← Q1.out, ← HN.out]), rfl⟩
  case rest =>
    obtain ⟨rfl, rfl⟩ := hcut
    have hX := OK.out.big
    rw [Q1.out] at hX
    obtain ⟨u2, U2⟩ : ∃ u2, Hid ((u * 4294967296 + t1) % Y = u2) := ⟨_, Lib.hid rfl⟩
    have hu2 : u2 < Y := by rw [← U2.out]; exact Nat.mod_lt _ OK.out.pos
    have hdm : q1 * Y + u2 = u * 4294967296 + t1 := by
      have := Nat.div_add_mod (u * 4294967296 + t1) Y
      rw [Q1.out, U2.out, Nat.mul_comm] at this
      exact this
    have hYl : Y < 18446744073709551616 := by have := OK.out.hy; have := OK.out.h0; have := OK.out.h1'; omega
    have f1 : IntKind.u64.wrap (IntKind.u64.wrap (IntKind.u64.wrap ((u : Int) * 4294967296) + t1) - IntKind.u64.wrap ((q1 : Int) * Y)) = (u2 : Int) := by
      rw [IntKind.wrap_u64, IntKind.wrap_u64, IntKind.wrap_u64, IntKind.wrap_u64, ← Int.natCast_mul]
      generalize q1 * Y = z at *
      clear Q1 U2
      omega
    have ok2 : Ok Y y1 y0 u2 t0 := ⟨OK.out.hy, OK.out.h0, OK.out.h1, OK.out.h1', hu2, HT.out⟩
    have hG2 := ok2.start
    have f2 : IntKind.u64.wrap ((u2 : Int) / y1) = ((u2 / y1 : Nat) : Int) := by
      rw [← Int.natCast_ediv, IntKind.wrap_u64]
      have := hG2.2.2.1
      clear hG2 f1
      generalize u2 / y1 = z at *
      omega
    have f3 : IntKind.u64.wrap ((u2 : Int) - IntKind.u64.wrap (((u2 / y1 : Nat) : Int) * y1)) = ((u2 % y1 : Nat) : Int) := by
      have h1 := hG2.1
      clear hG2 f1 f2
      rw [IntKind.wrap_u64, IntKind.wrap_u64, ← Int.natCast_mul]
      generalize u2 / y1 * y1 = z at *
      generalize u2 % y1 = z' at *
      omega
    have HG2 := Lib.hid hG2
    clear hG2
    generalize u2 / y1 = Q2 at *
    generalize u2 % y1 = R2 at *
    have OK2 := Lib.hid ok2
    have HX := Lib.hid hX
    have HU := Lib.hid hu2
    have HDM := Lib.hid hdm
    have HYL := Lib.hid hYl
    clear ok2 hX hu2 hdm hYl e10 e11
    obtain ⟨q0, Q0⟩ : ∃ q0, Hid ((u2 * 4294967296 + t0) / Y = q0) := ⟨_, Lib.hid rfl⟩
    go_upto_block 2 with (fail)
    go_cut [18] from 102 to 120 (fun a wx => a = .int .u64 q0 ∧ wx = wc)
    case first =>
      go_wp2_with (fail)
      go_loopw [18, 16] (fun a b wx => ∃ q r : Nat, a = .int .u64 q ∧ b = .int .u64 r ∧ wx = wc ∧ Hid (Guess Y y1 u2 t0 q r)) (fun a _ _ => (intOf a).toNat)
      case atStart => exact ⟨Q2, R2, rfl, rfl, rfl, HG2⟩
      case round =>
        obtain ⟨q, r, rfl, rfl, rfl, G⟩ := hrel
        have hr := G.out.2.2.2
        have hq := G.out.2.2.1
        have k1 := OK.out.h1'
        have k3 := OK2.out.ht
        by_cases hA : 4294967296 ≤ q
        · have GT := Lib.hid (Or.inl hA : 4294967296 ≤ q ∨ 4294967296 * r + t0 < q * y0)
          by_cases hB : r + y1 < 4294967296
          · have HN := Lib.hid (G.out.on OK2.out GT.out hB)
            have hAI : (4294967296 : Int) ≤ q := by omega
            have hBJ : (r : Int) + y1 ≤ 18446744073709551615 := by omega
            have hBD : decide ((4294967296 : Int) ≤ (r : Int) + y1) = false := decide_eq_false (by omega)
            have hqI : (q : Int) ≤ 4294967297 := by omega
            have HH := Lib.hid hA
            clear hA hB hr hq k1 k3
            go_wp2_with (fail)
            go_roundw
            case rel => exact ⟨q - 1, r + y1, vint (by have := HH.out; omega), by go_num, by trivial, HN⟩
            case measure => simp [intOf]; have := HH.out; omega
          · have HN := Lib.hid (G.out.leave OK2.out GT.out (by omega))
            have hAI : (4294967296 : Int) ≤ q := by omega
            have hBI : 4294967296 ≤ (r : Int) + y1 := by omega
            have hqI : (q : Int) ≤ 4294967297 := by omega
            have hBJ : (r : Int) + y1 ≤ 18446744073709551615 := by omega
            have HH := Lib.hid hA
            clear hA hB hr hq k1 k3
            go_wp2_with (fail)
            go_meet
            exact ⟨vint (by have := HH.out; rw [← Q0.out, ← HN.out]; clear G GT HN; omega), rfl⟩
        · obtain ⟨m1, m2⟩ := G.out.fits OK2.out (by omega)
          have m1I : (q : Int) * y0 ≤ 18446744065119617025 := by rw [← Int.natCast_mul]; omega
          have m0I : 0 ≤ (q : Int) * y0 := by rw [← Int.natCast_mul]; omega
          have m2I : 4294967296 * (r : Int) + t0 ≤ 18446744073709551615 := by omega
          by_cases hC : 4294967296 * r + t0 < q * y0
          · have GT := Lib.hid (Or.inr hC : 4294967296 ≤ q ∨ 4294967296 * r + t0 < q * y0)
            have hd := (G.out.down OK2.out GT.out).1
            have hCI : 4294967296 * (r : Int) + t0 < (q : Int) * y0 := by rw [← Int.natCast_mul]; omega
            by_cases hB : r + y1 < 4294967296
            · have HN := Lib.hid (G.out.on OK2.out GT.out hB)
              have hAB : decide ((4294967296 : Int) ≤ (q : Int)) = false := decide_eq_false (by omega)
              have hqI : (q : Int) ≤ 4294967297 := by omega
              have hdI : (1 : Int) ≤ q := by omega
              have hBJ : (r : Int) + y1 ≤ 18446744073709551615 := by omega
              have hBD : decide ((4294967296 : Int) ≤ (r : Int) + y1) = false := decide_eq_false (by omega)
              have HH := Lib.hid hd
              clear m1 m2 hC hA hB hr hq k1 k3 hd
              go_wp2_with (fail)
              go_roundw
              case rel => exact ⟨q - 1, r + y1, vint (by have := HH.out; omega), by go_num, by trivial, HN⟩
              case measure => simp [intOf]; have := HH.out; omega
            · have HN := Lib.hid (G.out.leave OK2.out GT.out (by omega))
              have hAB : decide ((4294967296 : Int) ≤ (q : Int)) = false := decide_eq_false (by omega)
              have hqI : (q : Int) ≤ 4294967297 := by omega
              have hdI : (1 : Int) ≤ q := by omega
              have hBI : 4294967296 ≤ (r : Int) + y1 := by omega
              have hBJ : (r : Int) + y1 ≤ 18446744073709551615 := by omega
              have HH := Lib.hid hd
              clear m1 m2 hC hA hB hr hq k1 k3 hd
              go_wp2_with (fail)
              go_meet
              exact ⟨vint (by have := HH.out; rw [← Q0.out, ← HN.out]; clear G GT HN; omega), rfl⟩
          · have HN := Lib.hid (G.out.stop OK2.out (by omega))
            have hCI : (q : Int) * y0 ≤ 4294967296 * (r : Int) + t0 := by rw [← Int.natCast_mul]; omega
            have hAB : decide ((4294967296 : Int) ≤ (q : Int)) = false := decide_eq_false (by omega)
            have hb2 : decide (4294967296 * (r : Int) + t0 < (q : Int) * y0) = false := decide_eq_false (by omega)
            clear m1 m2 hC hA hr hq k1 k3 hCI
            go_wp2_with (fail)
            go_meet
            exact ⟨vint (by rw [← Q0.out, ← HN.out]), rfl⟩
    case rest =>
      obtain ⟨rfl, rfl⟩ := hcut
      go_wp2_with (fail)
      have hX2 := OK2.out.big
      rw [Q0.out] at hX2
      obtain ⟨r2, U3⟩ : ∃ r2, Hid ((u2 * 4294967296 + t0) % Y = r2) := ⟨_, Lib.hid rfl⟩
      have hr2 : r2 < Y := by rw [← U3.out]; exact Nat.mod_lt _ OK.out.pos
      have hdm2 : q0 * Y + r2 = u2 * 4294967296 + t0 := by
        have := Nat.div_add_mod (u2 * 4294967296 + t0) Y
        rw [Q0.out, U3.out, Nat.mul_comm] at this
        exact this
      have e1 : IntKind.u64.wrap (IntKind.u64.wrap ((q1 : Int) * 4294967296) + q0) = ((q1 * 4294967296 + q0 : Nat) : Int) := by
        have := HX.out
        rw [IntKind.wrap_u64, IntKind.wrap_u64]
        clear Q1 Q0 U2 U3
        omega
      have e2 : IntKind.u64.wrap (IntKind.u64.wrap (IntKind.u64.wrap ((u2 : Int) * 4294967296) + t0) - IntKind.u64.wrap ((q0 : Int) * Y)) = (r2 : Int) := by
        have := HYL.out
        rw [IntKind.wrap_u64, IntKind.wrap_u64, IntKind.wrap_u64, IntKind.wrap_u64, ← Int.natCast_mul]
        generalize q0 * Y = z at *
        clear Q1 Q0 U2 U3
        omega
      obtain ⟨g1, g2⟩ := halves Y u t1 t0 OK.out.pos HT.out
      rw [HN.out, Q1.out, U2.out, Q0.out, HY.out, Nat.mul_div_mul_right _ _ (Nat.two_pow_pos s)] at g1
      rw [HN.out, U2.out, U3.out, HY.out, Nat.mul_mod_mul_right] at g2
      have e3 : (r2 : Int) / 2 ^ s = ((((hi * 18446744073709551616 + lo) % y : Nat)) : Int) := by
        have e : (r2 : Int) / 2 ^ s = ((r2 / 2 ^ s : Nat) : Int) := by rw [Int.natCast_ediv, Int.natCast_pow]; rfl
        rw [e, g2, Nat.mul_div_cancel _ (Nat.two_pow_pos s)]
      have hy0 : 0 < y := by omega
      go_ret2
      refine ⟨q1 * 4294967296 + q0, (hi * 18446744073709551616 + lo) % y, ?_, Lib.hid ⟨?_, Nat.mod_lt _ hy0, ?_⟩, 0, rfl⟩
      · rw [e1, e2, e3]; rfl
      · have := HX.out; omega
      · rw [g1, Nat.mul_comm]; exact Nat.div_add_mod _ _
end Go.Proofs.YtiklebonkpjlpaaDoor.DigW
