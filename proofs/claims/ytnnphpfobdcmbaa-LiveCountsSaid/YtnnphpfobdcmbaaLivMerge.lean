/-
  WALKS: two sorted runs of a row of ints merged in place.
-/
import Derived.Test.YtnnphpfobdcmbaaLivRot
import Derived.Deep.DeepCutAuto
import Derived.Lib.LazyBuf
namespace Go.Proofs.Ytnnphpfobdcmbaa
open Go.Shelf Go.RowKit Go.Lib Go.Sort Stab
namespace Liv
variable {α : Type} [Inhabited α]
set_option maxRecDepth 100000 in
set_option maxHeartbeats 32000000 in
theorem symMerge_s {enc : α → Value} {cf : α → α → Int} {key : α → Int} {r : α → α → Prop} (HLT : Hid (∀ x y, decide (cf x y < 0) = decide (key x < key y))) {g : Nat} {cb : Array Value} (eg : ∀ args w, (callFunc g args).run Try.prog w = .ok (.enter g args) w) {blk off : Nat} (cap : Nat) {d0 : Array α} {w0 : World} (hcmp : CmpLays1 Try.prog g cb enc cf blk off d0.size w0) (R : Row1 enc w0 blk off d0) :
    ∀ (k a m b : Nat) (d : Array α) (w : World), b - a ≤ k → a < m → m < b → b ≤ d.size → d.size < 1000000 → d0.size = d.size → SW enc w0 blk off d w → Srt key r d a m → Srt key r d m b → Stb key r d a b →
    Calls Try.prog 71 #[.slice (some ⟨blk, off, none⟩) d.size cap, .int .i64 a, .int .i64 m, .int .i64 b, .func (.func g) #[] cb] w fun e w' => e = .returned (.tuple #[]) ∧ ∃ d', Srt key r d' a b ∧ Mv d d' a b ∧ SW enc w0 blk off d' w' := by
  have mixed : Try.prog.follows .mixedOrders = true := by kernel_rfl
  have hcl0 := R.hO.cells
  simp only [Value.cells] at hcl0
  have hst := R.hO.store Try.prog
  have HC : Aside _ := hcmp
  intro k
  induction k with
  | zero => intro a m b d w h1 h2 h3; omega
  | succ k ih =>
    intro a m b d w hk ham hmb hbs hsz hs S hL hR hU
    have IH := Lib.hid ih
    have HL := Lib.hid hL
    have HR := Lib.hid hR
    have HU := Lib.hid hU
    have S0 : Aside (SW enc w0 blk off d w) := S
    clear ih hL hR hU S hcmp
    by_cases hm1 : m = a + 1
    · have hma : (m : Int) - (a : Int) = 1 := by omega
      have HMA := Lib.hid hm1
      clear hm1
      go_enter Try.func71, Try.ntmps71
      go_wp2_with fail
      go_loopg [10, 11] (b - m) (fun gx vi vj wr => ∃ i j : Nat, vi = .int .i64 i ∧ vj = .int .i64 j ∧ m ≤ i ∧ i ≤ j ∧ j ≤ b ∧ j - i ≤ gx ∧ Aside (SW enc w0 blk off d wr) ∧ Hid ((∀ q, m ≤ q → q < i → key d[q]! < key d[a]!) ∧ (∀ q, j ≤ q → q < b → key d[a]! ≤ key d[q]!)))
      case atStart => exact ⟨m, b, rfl, rfl, by omega, by omega, by omega, by omega, S0, fun q h1 h2 => by omega, fun q h1 h2 => by omega⟩
      case round =>
        clear S0
        obtain ⟨i, j, rfl, rfl, hmi, hij, hjb, hgx, S1, HQ⟩ := hrel
        by_cases hlt : i < j
        · have hltz : (i : Int) < (j : Int) := by omega
          have hh : ((i : Int) + (j : Int)) / 2 = (((i + j) / 2 : Nat) : Int) := by omega
          generalize hhh : (i + j) / 2 = h at hh
          have h1 : i ≤ h ∧ h < j := by omega
          clear hhh
          rcases hv : decide (key d[h]! < key d[a]!)
          · have hv1 := Lib.hid hv
            obtain ⟨iN, hiN⟩ : ∃ zz, zz = h := ⟨_, rfl⟩
            have eiN : ((h : Int)).toNat = iN := by omega
            have piN : (0 : Int) ≤ (h : Int) := by omega
            have biN : (h : Int) < (d.size : Int) := by omega
            have riN : IntKind.i64.wrap ((h : Int)) = (h : Int) := by rw [IntKind.wrap_i64]; omega
            obtain ⟨jN, hjN⟩ : ∃ zz, zz = a := ⟨_, rfl⟩
            have ejN : ((a : Int)).toNat = jN := by omega
            have pjN : (0 : Int) ≤ (a : Int) := by omega
            have bjN : (a : Int) < (d.size : Int) := by omega
            have rjN : IntKind.i64.wrap ((a : Int)) = (a : Int) := by rw [IntKind.wrap_i64]; omega
            obtain ⟨x0, hx0⟩ : ∃ zz, zz = d[h]! := ⟨_, rfl⟩
            obtain ⟨y0, hy0⟩ : ∃ zz, zz = d[a]! := ⟨_, rfl⟩
            have c1 := S1.out.cl R (by omega) (h) (by omega)
            have c2 := S1.out.cl R (by omega) (a) (by omega)
            rw [← hx0, ← hiN] at c1
            rw [← hy0, ← hjN] at c2
            have hc := S1.out.cmp HC.out (by omega) x0 y0
            have hd : decide (cf x0 y0 < 0) = false := by rw [hx0, hy0, HLT.out]; exact hv
            have hd2 : ¬ cf x0 y0 < 0 := by simpa using hd
            clear hx0 hy0 hiN hjN
            go_wp2_with fail
            go_quiet_grown (first | (go_at_fn g; refine Calls.grown_of (hc _ _)))
            have S2 : Aside (SW enc w0 blk off d (grow (wr.drewN nq) osq)) := S1.out.grown nq osq
            clear c1 c2 hc S1 hd hd2
            generalize grow (wr.drewN nq) osq = w2 at S2 ⊢
            clear nq osq eiN ejN piN pjN biN bjN riN rjN
            clear hv
            go_wp2_with fail
            go_roundg (h - i)
            case measure => omega
            case rel => exact ⟨i, h, rfl, rfl, hmi, h1.1, by omega, Nat.le_refl _, S2, HQ.out.1, fun q q1 q2 => by
              have hle := HR.out.le (i := h) (j := q) (by omega) q1 q2
              have := of_decide_eq_false hv1.out
              omega⟩
          · have hv1 := Lib.hid hv
            obtain ⟨iN, hiN⟩ : ∃ zz, zz = h := ⟨_, rfl⟩
            have eiN : ((h : Int)).toNat = iN := by omega
            have piN : (0 : Int) ≤ (h : Int) := by omega
            have biN : (h : Int) < (d.size : Int) := by omega
            have riN : IntKind.i64.wrap ((h : Int)) = (h : Int) := by rw [IntKind.wrap_i64]; omega
            obtain ⟨jN, hjN⟩ : ∃ zz, zz = a := ⟨_, rfl⟩
            have ejN : ((a : Int)).toNat = jN := by omega
            have pjN : (0 : Int) ≤ (a : Int) := by omega
            have bjN : (a : Int) < (d.size : Int) := by omega
            have rjN : IntKind.i64.wrap ((a : Int)) = (a : Int) := by rw [IntKind.wrap_i64]; omega
            obtain ⟨x0, hx0⟩ : ∃ zz, zz = d[h]! := ⟨_, rfl⟩
            obtain ⟨y0, hy0⟩ : ∃ zz, zz = d[a]! := ⟨_, rfl⟩
            have c1 := S1.out.cl R (by omega) (h) (by omega)
            have c2 := S1.out.cl R (by omega) (a) (by omega)
            rw [← hx0, ← hiN] at c1
            rw [← hy0, ← hjN] at c2
            have hc := S1.out.cmp HC.out (by omega) x0 y0
            have hd : decide (cf x0 y0 < 0) = true := by rw [hx0, hy0, HLT.out]; exact hv
            have hd2 : cf x0 y0 < 0 := by simpa using hd
            clear hx0 hy0 hiN hjN
            go_wp2_with fail
            go_quiet_grown (first | (go_at_fn g; refine Calls.grown_of (hc _ _)))
            have S2 : Aside (SW enc w0 blk off d (grow (wr.drewN nq) osq)) := S1.out.grown nq osq
            clear c1 c2 hc S1 hd hd2
            generalize grow (wr.drewN nq) osq = w2 at S2 ⊢
            clear nq osq eiN ejN piN pjN biN bjN riN rjN
            clear hv
            go_wp2_with fail
            go_roundg (j - (h + 1))
            case measure => omega
            case rel => exact ⟨h + 1, j, by go_num, rfl, by omega, by omega, hjb, Nat.le_refl _, S2, fun q q1 q2 => by
              have hle := HR.out.le (i := q) (j := h) q1 (by omega) (by omega)
              have := of_decide_eq_true hv1.out
              omega, HQ.out.2⟩
        · have hltz : ¬ (i : Int) < (j : Int) := by omega
          obtain rfl : j = i := by omega
          obtain ⟨i1, hi1⟩ : ∃ q, j = q + 1 := ⟨j - 1, by omega⟩
          have hi1z : (j : Int) - 1 = (i1 : Int) := by omega
          go_wp2_with fail
          go_loopg [13] (i1 - a) (fun gx vk wr2 => ∃ (q : Nat) (dk : Array α), vk = .int .i64 q ∧ a ≤ q ∧ q ≤ i1 ∧ i1 - q ≤ gx ∧ dk.size = d.size ∧ Aside (SW enc w0 blk off dk wr2) ∧ Hid (Rot d dk a (a + 1) (q + 1)))
          case atStart => exact ⟨a, d, rfl, by omega, by have := HMA.out; omega, Nat.le_refl _, rfl, S1, Rot.none_r d a (a + 1)⟩
          case round =>
            clear S1
            obtain ⟨q, dk, rfl, haq, hqi, hgx2, hsk, S3, HRot⟩ := hrel
            by_cases hql : q < i1
            · have hqz : (q : Int) < (i1 : Int) := by omega
              obtain ⟨iN, hiN⟩ : ∃ zz, zz = q := ⟨_, rfl⟩
              have eiN : ((q : Int)).toNat = iN := by omega
              have piN : (0 : Int) ≤ (q : Int) := by omega
              have biN : (q : Int) < (d.size : Int) := by omega
              have riN : IntKind.i64.wrap ((q : Int)) = (q : Int) := by rw [IntKind.wrap_i64]; omega
              obtain ⟨jN, hjN⟩ : ∃ zz, zz = q + 1 := ⟨_, rfl⟩
              have ejN : ((q : Int) + 1).toNat = jN := by omega
              have pjN : (0 : Int) ≤ (q : Int) + 1 := by omega
              have bjN : (q : Int) + 1 < (d.size : Int) := by omega
              have rjN : IntKind.i64.wrap ((q : Int) + 1) = (q : Int) + 1 := by rw [IntKind.wrap_i64]; omega
              obtain ⟨x0, hx0⟩ : ∃ zz, zz = dk[q]! := ⟨_, rfl⟩
              obtain ⟨y0, hy0⟩ : ∃ zz, zz = dk[q + 1]! := ⟨_, rfl⟩
              have S4 : Aside (SW enc w0 blk off (swp dk (q) (q + 1)) ((wr.setCell ⟨blk, off + iN, none⟩ (enc y0)).setCell ⟨blk, off + jN, none⟩ (enc x0)).drew) := by rw [hiN, hjN, hx0, hy0]; exact S3.out.swapped R (q) (q + 1) (by omega) (by omega)
              have c1 := S3.out.c1 R (by omega) (q) (by omega)
              have c2 := S3.out.c1 R (by omega) (q + 1) (by omega)
              have f1 := S3.out.f1 R (by omega) (q) (by omega)
              have f2 := S3.out.f1 R (by omega) (q + 1) (by omega)
              obtain ⟨u0, c3⟩ := S3.out.c2 R (by omega) (q) (q + 1) (by omega) (by omega) (enc y0)
              rw [← hjN, ← hiN] at c3
              rw [← hx0, ← hiN] at c1
              rw [← hy0, ← hjN] at c2
              rw [← hiN] at f1
              rw [← hjN] at f2
              clear S3 hx0 hy0 hiN hjN
              go_wp2_with fail
              go_big_region_o
              clear c1 c2 c3 f1 f2
              generalize ((wr.setCell ⟨blk, off + iN, none⟩ (enc y0)).setCell ⟨blk, off + jN, none⟩ (enc x0)).drew = w4 at S4 ⊢
              clear eiN ejN piN pjN biN bjN riN rjN
              go_wp2_with fail
              go_roundg (i1 - (q + 1))
              case measure => omega
              case rel => exact ⟨q + 1, swp dk q (q + 1), by go_num, by omega, by omega, Nat.le_refl _, by rw [Stab.swp_size]; exact hsk, S4, HRot.out.up haq (by omega)⟩
            · have hqz : ¬ (q : Int) < (i1 : Int) := by omega
              obtain rfl : q = i1 := by omega
              go_wp2_with fail
              (try simp only [Exit.inBlock, Exit.then])
              refine bodyPost_ret (results_none rfl _ _ _) rfl ?_
              have hm := HMA.out
              subst hm
              have C : Cutting key r d dk a a (a + 1) (q + 1) b := ⟨HRot.out, Nat.le_refl _, by omega, by omega, by omega, HL.out, HR.out, HU.out, fun x y x1 x2 y1 y2 => by
                have : x = a := by omega
                subst this; exact HQ.out.1 y y1 (by omega)⟩
              exact ⟨rfl, dk, rot_sorted C (fun x y x1 x2 => by omega) (fun x y x1 x2 => by omega) (fun x y x1 x2 y1 y2 => by
                have : x = a := by omega
                subst this; exact HQ.out.2 y (by omega) y2), (HRot.out.mv (by omega) (by omega)).mono (Nat.le_refl _) (by omega), S3.out⟩
    · have hma : (((m : Int) - (a : Int)) == 1) = false := by simp only [beq_eq_false_iff_ne, ne_eq]; omega
      by_cases hb1 : b = m + 1
      · have hbm : (b : Int) - (m : Int) = 1 := by omega
        have HBM := Lib.hid hb1
        clear hb1
        go_enter Try.func71, Try.ntmps71
        go_wp2_with fail
        go_loopg [14, 15] (m - a) (fun gx vi vj wr => ∃ i j : Nat, vi = .int .i64 i ∧ vj = .int .i64 j ∧ a ≤ i ∧ i ≤ j ∧ j ≤ m ∧ j - i ≤ gx ∧ Aside (SW enc w0 blk off d wr) ∧ Hid ((∀ q, a ≤ q → q < i → key d[q]! ≤ key d[m]!) ∧ (∀ q, j ≤ q → q < m → key d[m]! < key d[q]!)))
        case atStart => exact ⟨a, m, rfl, rfl, by omega, by omega, by omega, by omega, S0, fun q h1 h2 => by omega, fun q h1 h2 => by omega⟩
        case round =>
          clear S0
          obtain ⟨i, j, rfl, rfl, hmi, hij, hjb, hgx, S1, HQ⟩ := hrel
          by_cases hlt : i < j
          · have hltz : (i : Int) < (j : Int) := by omega
            have hh : ((i : Int) + (j : Int)) / 2 = (((i + j) / 2 : Nat) : Int) := by omega
            generalize hhh : (i + j) / 2 = h at hh
            have h1 : i ≤ h ∧ h < j := by omega
            clear hhh
            rcases hv : decide (key d[m]! < key d[h]!)
            · have hv1 := Lib.hid hv
              obtain ⟨iN, hiN⟩ : ∃ zz, zz = m := ⟨_, rfl⟩
              have eiN : ((m : Int)).toNat = iN := by omega
              have piN : (0 : Int) ≤ (m : Int) := by omega
              have biN : (m : Int) < (d.size : Int) := by omega
              have riN : IntKind.i64.wrap ((m : Int)) = (m : Int) := by rw [IntKind.wrap_i64]; omega
              obtain ⟨jN, hjN⟩ : ∃ zz, zz = h := ⟨_, rfl⟩
              have ejN : ((h : Int)).toNat = jN := by omega
              have pjN : (0 : Int) ≤ (h : Int) := by omega
              have bjN : (h : Int) < (d.size : Int) := by omega
              have rjN : IntKind.i64.wrap ((h : Int)) = (h : Int) := by rw [IntKind.wrap_i64]; omega
              obtain ⟨x0, hx0⟩ : ∃ zz, zz = d[m]! := ⟨_, rfl⟩
              obtain ⟨y0, hy0⟩ : ∃ zz, zz = d[h]! := ⟨_, rfl⟩
              have c1 := S1.out.cl R (by omega) (m) (by omega)
              have c2 := S1.out.cl R (by omega) (h) (by omega)
              rw [← hx0, ← hiN] at c1
              rw [← hy0, ← hjN] at c2
              have hc := S1.out.cmp HC.out (by omega) x0 y0
              have hd : decide (cf x0 y0 < 0) = false := by rw [hx0, hy0, HLT.out]; exact hv
              have hd2 : ¬ cf x0 y0 < 0 := by simpa using hd
              clear hx0 hy0 hiN hjN
              go_wp2_with fail
              go_quiet_grown (first | (go_at_fn g; refine Calls.grown_of (hc _ _)))
              have S2 : Aside (SW enc w0 blk off d (grow (wr.drewN nq) osq)) := S1.out.grown nq osq
              clear c1 c2 hc S1 hd hd2
              generalize grow (wr.drewN nq) osq = w2 at S2 ⊢
              clear nq osq eiN ejN piN pjN biN bjN riN rjN
              clear hv
              go_wp2_with fail
              go_roundg (j - (h + 1))
              case measure => omega
              case rel => exact ⟨h + 1, j, by go_num, rfl, by omega, by omega, hjb, Nat.le_refl _, S2, fun q q1 q2 => by
                have hle := HL.out.le (i := q) (j := h) q1 (by omega) (by omega)
                have := of_decide_eq_false hv1.out
                omega, HQ.out.2⟩
            · have hv1 := Lib.hid hv
              obtain ⟨iN, hiN⟩ : ∃ zz, zz = m := ⟨_, rfl⟩
              have eiN : ((m : Int)).toNat = iN := by omega
              have piN : (0 : Int) ≤ (m : Int) := by omega
              have biN : (m : Int) < (d.size : Int) := by omega
              have riN : IntKind.i64.wrap ((m : Int)) = (m : Int) := by rw [IntKind.wrap_i64]; omega
              obtain ⟨jN, hjN⟩ : ∃ zz, zz = h := ⟨_, rfl⟩
              have ejN : ((h : Int)).toNat = jN := by omega
              have pjN : (0 : Int) ≤ (h : Int) := by omega
              have bjN : (h : Int) < (d.size : Int) := by omega
              have rjN : IntKind.i64.wrap ((h : Int)) = (h : Int) := by rw [IntKind.wrap_i64]; omega
              obtain ⟨x0, hx0⟩ : ∃ zz, zz = d[m]! := ⟨_, rfl⟩
              obtain ⟨y0, hy0⟩ : ∃ zz, zz = d[h]! := ⟨_, rfl⟩
              have c1 := S1.out.cl R (by omega) (m) (by omega)
              have c2 := S1.out.cl R (by omega) (h) (by omega)
              rw [← hx0, ← hiN] at c1
              rw [← hy0, ← hjN] at c2
              have hc := S1.out.cmp HC.out (by omega) x0 y0
              have hd : decide (cf x0 y0 < 0) = true := by rw [hx0, hy0, HLT.out]; exact hv
              have hd2 : cf x0 y0 < 0 := by simpa using hd
              clear hx0 hy0 hiN hjN
              go_wp2_with fail
              go_quiet_grown (first | (go_at_fn g; refine Calls.grown_of (hc _ _)))
              have S2 : Aside (SW enc w0 blk off d (grow (wr.drewN nq) osq)) := S1.out.grown nq osq
              clear c1 c2 hc S1 hd hd2
              generalize grow (wr.drewN nq) osq = w2 at S2 ⊢
              clear nq osq eiN ejN piN pjN biN bjN riN rjN
              clear hv
              go_wp2_with fail
              go_roundg (h - i)
              case measure => omega
              case rel => exact ⟨i, h, rfl, rfl, hmi, h1.1, by omega, Nat.le_refl _, S2, HQ.out.1, fun q q1 q2 => by
                have hle := HL.out.le (i := h) (j := q) (by omega) q1 q2
                have := of_decide_eq_true hv1.out
                omega⟩
          · have hltz : ¬ (i : Int) < (j : Int) := by omega
            obtain rfl : j = i := by omega
            go_wp2_with fail
            go_loopg [17] (m - j) (fun gx vk wr2 => ∃ (q : Nat) (dk : Array α), vk = .int .i64 q ∧ j ≤ q ∧ q ≤ m ∧ q - j ≤ gx ∧ dk.size = d.size ∧ Aside (SW enc w0 blk off dk wr2) ∧ Hid (Rot d dk q m (m + 1)))
            case atStart => exact ⟨m, d, rfl, by omega, by omega, Nat.le_refl _, rfl, S1, Rot.none_l d m (m + 1)⟩
            case round =>
              clear S1
              obtain ⟨q, dk, rfl, haq, hqi, hgx2, hsk, S3, HRot⟩ := hrel
              by_cases hql : j < q
              · have hqz : (j : Int) < (q : Int) := by omega
                obtain ⟨q1, rfl⟩ : ∃ t, q = t + 1 := ⟨q - 1, by omega⟩
                have hqz2 : (j : Int) < (q1 : Int) + 1 := by omega
                have hqd : decide ((q1 : Int) + 1 > (j : Int)) = true := decide_eq_true (by omega)
                obtain ⟨iN, hiN⟩ : ∃ zz, zz = q1 + 1 := ⟨_, rfl⟩
                have eiN : ((q1 : Int) + 1).toNat = iN := by omega
                have piN : (0 : Int) ≤ (q1 : Int) + 1 := by omega
                have biN : (q1 : Int) + 1 < (d.size : Int) := by omega
                have riN : IntKind.i64.wrap ((q1 : Int) + 1) = (q1 : Int) + 1 := by rw [IntKind.wrap_i64]; omega
                obtain ⟨jN, hjN⟩ : ∃ zz, zz = q1 := ⟨_, rfl⟩
                have ejN : ((q1 : Int)).toNat = jN := by omega
                have pjN : (0 : Int) ≤ (q1 : Int) := by omega
                have bjN : (q1 : Int) < (d.size : Int) := by omega
                have rjN : IntKind.i64.wrap ((q1 : Int)) = (q1 : Int) := by rw [IntKind.wrap_i64]; omega
                obtain ⟨x0, hx0⟩ : ∃ zz, zz = dk[q1 + 1]! := ⟨_, rfl⟩
                obtain ⟨y0, hy0⟩ : ∃ zz, zz = dk[q1]! := ⟨_, rfl⟩
                have S4 : Aside (SW enc w0 blk off (swp dk (q1 + 1) (q1)) ((wr.setCell ⟨blk, off + iN, none⟩ (enc y0)).setCell ⟨blk, off + jN, none⟩ (enc x0)).drew) := by rw [hiN, hjN, hx0, hy0]; exact S3.out.swapped R (q1 + 1) (q1) (by omega) (by omega)
                have c1 := S3.out.c1 R (by omega) (q1 + 1) (by omega)
                have c2 := S3.out.c1 R (by omega) (q1) (by omega)
                have f1 := S3.out.f1 R (by omega) (q1 + 1) (by omega)
                have f2 := S3.out.f1 R (by omega) (q1) (by omega)
                obtain ⟨u0, c3⟩ := S3.out.c2 R (by omega) (q1 + 1) (q1) (by omega) (by omega) (enc y0)
                rw [← hiN, ← hjN] at c3
                rw [← hx0, ← hiN] at c1
                rw [← hy0, ← hjN] at c2
                rw [← hiN] at f1
                rw [← hjN] at f2
                clear S3 hx0 hy0 hiN hjN
                go_wp2_with fail
                go_big_region_o
                clear c1 c2 c3 f1 f2
                generalize ((wr.setCell ⟨blk, off + iN, none⟩ (enc y0)).setCell ⟨blk, off + jN, none⟩ (enc x0)).drew = w4 at S4 ⊢
                clear eiN ejN piN pjN biN bjN riN rjN
                go_wp2_with fail
                go_roundg (q1 - j)
                case measure => omega
                case rel => exact ⟨q1, swp dk (q1 + 1) q1, by first | rfl | go_num, by omega, by omega, Nat.le_refl _, by rw [Stab.swp_size]; exact hsk, S4, HRot.out.down (by omega) (by omega)⟩
              · have hqz : ¬ (j : Int) < (q : Int) := by omega
                obtain rfl : q = j := by omega
                go_wp2_with fail
                (try simp only [Exit.inBlock, Exit.then])
                refine bodyPost_ret (results_none rfl _ _ _) rfl ?_
                have hm := HBM.out
                subst hm
                have C : Cutting key r d dk a q m (m + 1) (m + 1) := ⟨HRot.out, by omega, by omega, by omega, by omega, HL.out, HR.out, HU.out, fun x y x1 x2 y1 y2 => by
                  have : y = m := by omega
                  subst this; exact HQ.out.2 x x1 x2⟩
                exact ⟨rfl, dk, rot_sorted C (fun x y x1 x2 y1 y2 => by omega) (fun x y x1 x2 y1 y2 => by
                  have : y = m := by omega
                  subst this; exact HQ.out.1 x x1 x2) (fun x y x1 x2 y1 y2 => by omega), (HRot.out.mv (by omega) (by omega)).mono (by omega) (by omega), S3.out⟩
      · have hbm : (((b : Int) - (m : Int)) == 1) = false := by simp only [beq_eq_false_iff_ne, ne_eq]; omega
        have hmd : ((a : Int) + (b : Int)) / 2 = (((a + b) / 2 : Nat) : Int) := by omega
        generalize hmid : (a + b) / 2 = mid at hmd
        have hnn : (mid : Int) + (m : Int) = ((mid + m : Nat) : Int) := by omega
        generalize hnm : mid + m = nn at hnn
        have hpp : (nn : Int) - 1 = ((nn - 1 : Nat) : Int) := by omega
        generalize hpm : nn - 1 = p at hpp
        obtain ⟨s0, r0, hst, hF⟩ : ∃ s0 r0 : Nat, (mid < m ∧ (nn : Int) - (b : Int) = (s0 : Int) ∧ r0 = mid ∨ ¬ mid < m ∧ s0 = a ∧ r0 = m) ∧ s0 ≤ r0 ∧ r0 ≤ m ∧ a ≤ s0 ∧ ∀ s e, s0 ≤ s → s ≤ r0 → e + s = nn → (s = s0 → e = b ∨ s = a) ∧ (s = r0 → e = m ∨ s = m) ∧ m ≤ e ∧ e ≤ b ∧ a ≤ s ∧ s ≤ m ∧ mid = s + (e - m) := by
          by_cases hmm : mid < m
          · refine ⟨nn - b, mid, .inl ⟨hmm, by omega, rfl⟩, by omega, by omega, by omega, fun s e h1 h2 h3 => ⟨fun _ => .inl (by omega), fun _ => .inl (by omega), by omega, by omega, by omega, by omega, by omega⟩⟩
          · refine ⟨a, m, .inr ⟨hmm, rfl, rfl⟩, by omega, by omega, by omega, fun s e h1 h2 h3 => ⟨fun h => .inr h, fun h => .inr h, by omega, by omega, by omega, by omega, by omega⟩⟩
        have HF := Lib.hid hF
        have HP : Hid (p + 1 = nn ∧ mid + m = nn) := by constructor <;> omega
        have hmidb : a < mid ∧ mid < b ∧ nn < 2000000 := by omega
        clear hmid hnm hpm hF
        go_enter Try.func71, Try.ntmps71
        go_upto_if 140 with fail
        go_cut [20, 21] from 138 (fun v3 v4 wx => v3 = .int .i64 (s0 : Nat) ∧ v4 = .int .i64 (r0 : Nat) ∧ wx = w)
        case first =>
          rcases hst with ⟨h1, h2, h3⟩ | ⟨h1, h2, h3⟩
          · have h4 : (mid : Int) < (m : Int) := by omega
            go_wp2_with fail
            go_meet
            exact ⟨rfl, by rw [h3], rfl⟩
          · have h4 : ¬ (mid : Int) < (m : Int) := by omega
            go_wp2_with fail
            go_meet
            exact ⟨by rw [h2], by rw [h3], rfl⟩
        case rest =>
          obtain ⟨rfl, rfl, hwc⟩ := hcut
          subst wc
          clear hst
          go_wp2_with fail
          go_loopg [20, 21] (r0 - s0) (fun gx vi vj wr => ∃ i j : Nat, vi = .int .i64 i ∧ vj = .int .i64 j ∧ s0 ≤ i ∧ i ≤ j ∧ j ≤ r0 ∧ j - i ≤ gx ∧ Aside (SW enc w0 blk off d wr) ∧ Hid ((∀ q, s0 ≤ q → q < i → key d[q]! ≤ key d[p - q]!) ∧ (∀ q, j ≤ q → q < r0 → key d[p - q]! < key d[q]!)))
          case atStart => exact ⟨s0, r0, rfl, rfl, by omega, HF.out.1, by omega, by omega, S0, fun q h1 h2 => by omega, fun q h1 h2 => by omega⟩
          case round =>
            clear S0
            obtain ⟨i, j, rfl, rfl, hmi, hij, hjb, hgx, S1, HQ⟩ := hrel
            by_cases hlt : i < j
            · have hltz : (i : Int) < (j : Int) := by omega
              have hh : ((i : Int) + (j : Int)) / 2 = (((i + j) / 2 : Nat) : Int) := by omega
              generalize hhh : (i + j) / 2 = h at hh
              have h1 : i ≤ h ∧ h < j := by omega
              have hin : ∀ c, s0 ≤ c → c < r0 → a ≤ c ∧ c < m ∧ m ≤ p - c ∧ p - c < b ∧ c ≤ p := fun c c1 c2 => by
                have k1 := HF.out.2.2.2 c (nn - c) c1 (by omega) (by have := HP.out; have := HF.out; omega)
                have k2 := HF.out.2.2.2 (c + 1) (nn - (c + 1)) (by omega) (by omega) (by have := HP.out; have := HF.out; omega)
                have := HP.out
                have := HF.out
                omega
              have hin1 := hin h (by omega) (by omega)
              have HIN := Lib.hid hin
              clear hhh hin
              rcases hv : decide (key d[p - h]! < key d[h]!)
              · have hv1 := Lib.hid hv
                obtain ⟨iN, hiN⟩ : ∃ zz, zz = p - h := ⟨_, rfl⟩
                have eiN : ((p : Int) - (h : Int)).toNat = iN := by omega
                have piN : (0 : Int) ≤ (p : Int) - (h : Int) := by omega
                have biN : (p : Int) - (h : Int) < (d.size : Int) := by omega
                have riN : IntKind.i64.wrap ((p : Int) - (h : Int)) = (p : Int) - (h : Int) := by rw [IntKind.wrap_i64]; omega
                obtain ⟨jN, hjN⟩ : ∃ zz, zz = h := ⟨_, rfl⟩
                have ejN : ((h : Int)).toNat = jN := by omega
                have pjN : (0 : Int) ≤ (h : Int) := by omega
                have bjN : (h : Int) < (d.size : Int) := by omega
                have rjN : IntKind.i64.wrap ((h : Int)) = (h : Int) := by rw [IntKind.wrap_i64]; omega
                obtain ⟨x0, hx0⟩ : ∃ zz, zz = d[p - h]! := ⟨_, rfl⟩
                obtain ⟨y0, hy0⟩ : ∃ zz, zz = d[h]! := ⟨_, rfl⟩
                have c1 := S1.out.cl R (by omega) (p - h) (by omega)
                have c2 := S1.out.cl R (by omega) (h) (by omega)
                rw [← hx0, ← hiN] at c1
                rw [← hy0, ← hjN] at c2
                have hc := S1.out.cmp HC.out (by omega) x0 y0
                have hd : decide (cf x0 y0 < 0) = false := by rw [hx0, hy0, HLT.out]; exact hv
                have hd2 : ¬ cf x0 y0 < 0 := by simpa using hd
                clear hx0 hy0 hiN hjN
                go_wp2_with fail
                go_quiet_grown (first | (go_at_fn g; refine Calls.grown_of (hc _ _)))
                have S2 : Aside (SW enc w0 blk off d (grow (wr.drewN nq) osq)) := S1.out.grown nq osq
                clear c1 c2 hc S1 hd hd2
                generalize grow (wr.drewN nq) osq = w2 at S2 ⊢
                clear nq osq eiN ejN piN pjN biN bjN riN rjN
                clear hv
                go_wp2_with fail
                go_roundg (j - (h + 1))
                case measure => omega
                case rel => exact ⟨h + 1, j, by go_num, rfl, by omega, by omega, hjb, Nat.le_refl _, S2, fun q q1 q2 => by
                  have n1 := HIN.out q q1 (by omega)
                  have l1 := HL.out.le (i := q) (j := h) (by omega) (by omega) (by omega)
                  have l2 := HR.out.le (i := p - h) (j := p - q) (by omega) (by omega) (by omega)
                  have := of_decide_eq_false hv1.out
                  omega, HQ.out.2⟩
              · have hv1 := Lib.hid hv
                obtain ⟨iN, hiN⟩ : ∃ zz, zz = p - h := ⟨_, rfl⟩
                have eiN : ((p : Int) - (h : Int)).toNat = iN := by omega
                have piN : (0 : Int) ≤ (p : Int) - (h : Int) := by omega
                have biN : (p : Int) - (h : Int) < (d.size : Int) := by omega
                have riN : IntKind.i64.wrap ((p : Int) - (h : Int)) = (p : Int) - (h : Int) := by rw [IntKind.wrap_i64]; omega
                obtain ⟨jN, hjN⟩ : ∃ zz, zz = h := ⟨_, rfl⟩
                have ejN : ((h : Int)).toNat = jN := by omega
                have pjN : (0 : Int) ≤ (h : Int) := by omega
                have bjN : (h : Int) < (d.size : Int) := by omega
                have rjN : IntKind.i64.wrap ((h : Int)) = (h : Int) := by rw [IntKind.wrap_i64]; omega
                obtain ⟨x0, hx0⟩ : ∃ zz, zz = d[p - h]! := ⟨_, rfl⟩
                obtain ⟨y0, hy0⟩ : ∃ zz, zz = d[h]! := ⟨_, rfl⟩
                have c1 := S1.out.cl R (by omega) (p - h) (by omega)
                have c2 := S1.out.cl R (by omega) (h) (by omega)
                rw [← hx0, ← hiN] at c1
                rw [← hy0, ← hjN] at c2
                have hc := S1.out.cmp HC.out (by omega) x0 y0
                have hd : decide (cf x0 y0 < 0) = true := by rw [hx0, hy0, HLT.out]; exact hv
                have hd2 : cf x0 y0 < 0 := by simpa using hd
                clear hx0 hy0 hiN hjN
                go_wp2_with fail
                go_quiet_grown (first | (go_at_fn g; refine Calls.grown_of (hc _ _)))
                have S2 : Aside (SW enc w0 blk off d (grow (wr.drewN nq) osq)) := S1.out.grown nq osq
                clear c1 c2 hc S1 hd hd2
                generalize grow (wr.drewN nq) osq = w2 at S2 ⊢
                clear nq osq eiN ejN piN pjN biN bjN riN rjN
                clear hv
                go_wp2_with fail
                go_roundg (h - i)
                case measure => omega
                case rel => exact ⟨i, h, rfl, rfl, hmi, h1.1, by omega, Nat.le_refl _, S2, HQ.out.1, fun q q1 q2 => by
                  have n1 := HIN.out q (by omega) q2
                  have l1 := HL.out.le (i := h) (j := q) (by omega) (by omega) (by omega)
                  have l2 := HR.out.le (i := p - q) (j := p - h) (by omega) (by omega) (by omega)
                  have := of_decide_eq_true hv1.out
                  omega⟩
            · have hltz : ¬ (i : Int) < (j : Int) := by omega
              obtain rfl : j = i := by omega
              have hez : (nn : Int) - (j : Int) = ((nn - j : Nat) : Int) := by have := HP.out; have := HF.out; omega
              have hej : (nn - j) + j = nn := by have := HP.out; have := HF.out; omega
              generalize hee : nn - j = e at hez hej
              have k1 := HF.out.2.2.2 j e hmi hjb hej
              have hp1 := HP.out
              have hf1 := HF.out.2.1
              have HH1 : Hid (∀ x y, j ≤ x → x < m → m ≤ y → y < e → key d[y]! < key d[x]!) := fun x y x1 x2 y1 y2 => by
                have hjr : j < r0 := by
                  rcases Nat.lt_or_ge j r0 with h | h
                  · exact h
                  · have := k1.2.1 (by omega); omega
                have t1 := HQ.out.2 j (Nat.le_refl _) hjr
                have l1 := HL.out.le (i := j) (j := x) (by omega) x1 x2
                have l2 := HR.out.le (i := y) (j := p - j) y1 (by omega) (by omega)
                omega
              have HH2 : Hid (∀ x y, a ≤ x → x < j → e ≤ y → y < b → key d[x]! ≤ key d[y]!) := fun x y x1 x2 y1 y2 => by
                have hjs : s0 < j := by
                  rcases Nat.lt_or_ge s0 j with h | h
                  · exact h
                  · have := k1.1 (by omega); omega
                have t1 := HQ.out.1 (j - 1) (by omega) (by omega)
                have l1 := HL.out.le (i := x) (j := j - 1) x1 (by omega) (by omega)
                have l2 := HR.out.le (i := p - (j - 1)) (j := y) (by omega) (by omega) y2
                omega
              have HCUT : Hid (∀ d1, Rot d d1 j m e → Cutting key r d d1 a j m e b) := fun d1 hr => ⟨hr, by omega, by omega, by omega, by omega, HL.out, HR.out, HU.out, HH1.out⟩
              have HK := Lib.hid k1
              have hc0 := k1.2.2.2.2.2.2
              have hbd : m ≤ e ∧ e ≤ b ∧ a ≤ j ∧ j ≤ m ∧ e < 2000000 := by omega
              have HMID := Lib.hid hc0
              clear k1 hp1 hf1 hee hc0 hej
              go_upto_region 39 with fail
              generalize htb : (decide (j < m) && decide (m < e)) = tb
              go_cut [185] from 178 (fun t wx => t = .bool tb ∧ wx = wr)
              case first =>
                rcases e1 : decide (j < m)
                · go_wp2_with fail
                  go_meet
                  exact ⟨by rw [← htb, e1]; rfl, rfl⟩
                · rcases e2 : decide (m < e)
                  all_goals
                    go_wp2_with fail
                    go_meet
                    exact ⟨by rw [← htb, e1, e2]; rfl, rfl⟩
              case rest =>
                obtain ⟨rfl, hwc⟩ := hcut
                subst wc
                go_upto_if 185 with fail
                go_cut [24] from 186 (fun t wx => t = .int .i64 (e : Nat) ∧ ∃ d1, Hid (Rot d d1 j m e) ∧ Aside (SW enc w0 blk off d1 wx) ∧ d1.size = d.size)
                case first =>
                  rcases tb
                  · have hrot : Rot d d j m e := by
                      rw [Bool.and_eq_false_iff, decide_eq_false_iff_not, decide_eq_false_iff_not] at htb
                      rcases htb with h | h
                      · have : j = m := by omega
                        rw [this]; exact Rot.none_l d m e
                      · have : e = m := by omega
                        rw [this]; exact Rot.none_r d j m
                    have HROT := Lib.hid hrot
                    clear hrot
                    go_wp2_with fail
                    go_meet
                    exact ⟨rfl, d, HROT.out, S1, rfl⟩
                  · rw [Bool.and_eq_true, decide_eq_true_eq, decide_eq_true_eq] at htb
                    go_wp2_with (go_at_call 79; refine (rotate_s cap j m e (.func (.func g) #[] cb) R hs S1.out htb.1 htb.2 (by omega) hsz).mono ?_; rintro e' w2 ⟨rfl, d1, hW, hS⟩; have HW := Lib.hid hW; have S2 : Aside (SW enc w0 blk off d1 w2) := hS; clear hW hS)
                    go_meet
                    exact ⟨rfl, d1, HW.out, S2, HW.out.size⟩
                case rest =>
                  obtain ⟨rfl, d1, HROT, S2, hs1⟩ := hcut
                  clear S1 htb
                  have HC1 := Lib.hid (HCUT.out d1 HROT.out)
                  clear HCUT HQ
                  go_upto_region 41 with fail
                  generalize htl : (decide (a < j) && decide (j < mid)) = tl
                  go_cut [199] from 192 (fun t wx => t = .bool tl ∧ wx = wc)
                  case first =>
                    rcases e1 : decide (a < j)
                    · go_wp2_with fail
                      go_meet
                      exact ⟨by rw [← htl, e1]; rfl, rfl⟩
                    · rcases e2 : decide (j < mid)
                      all_goals
                        go_wp2_with fail
                        go_meet
                        exact ⟨by rw [← htl, e1, e2]; rfl, rfl⟩
                  case rest =>
                    obtain ⟨rfl, hwc⟩ := hcut
                    rename_i wcc
                    subst hwc
                    go_upto_if 199 with fail
                    go_cut [18] from 200 (fun t wx => t = .int .i64 (mid : Nat) ∧ ∃ d2, Hid (Srt key r d2 a mid ∧ Mv d1 d2 a mid) ∧ Aside (SW enc w0 blk off d2 wx) ∧ d2.size = d.size)
                    case first =>
                      rcases tl
                      · rw [Bool.and_eq_false_iff, decide_eq_false_iff_not, decide_eq_false_iff_not] at htl
                        have hn : Srt key r d1 a mid := by rw [HMID.out]; exact left_none HC1.out (by rw [← HMID.out]; omega)
                        have HN := Lib.hid hn
                        clear hn
                        go_wp2_with fail
                        go_meet
                        exact ⟨rfl, d1, ⟨HN.out, Mv.refl _ _ _⟩, S2, hs1⟩
                      · rw [Bool.and_eq_true, decide_eq_true_eq, decide_eq_true_eq] at htl
                        have hpre := left_pre HC1.out
                        rw [← HMID.out] at hpre
                        have HPRE := Lib.hid hpre
                        clear hpre
                        go_wp2_with (go_at_call 71; rw [← hs1]; refine (IH.out a j mid d1 _ (by omega) htl.1 htl.2 (by omega) (by omega) (by omega) S2.out HPRE.out.1 HPRE.out.2.1 HPRE.out.2.2).mono ?_; rintro e' w2 ⟨rfl, d2, hA, hB, hS⟩; have HW := Lib.hid (And.intro hA hB); have S3 : Aside (SW enc w0 blk off d2 w2) := hS; clear hA hB hS)
                        go_meet
                        exact ⟨rfl, d2, HW.out, S3, HW.out.2.size.trans hs1⟩
                    case rest =>
                      obtain ⟨rfl, d2, HD2, S3, hs2⟩ := hcut
                      clear S2 htl
                      go_upto_region 43 with fail
                      generalize htr : (decide (mid < e) && decide (e < b)) = tr
                      go_cut [213] from 206 (fun t wx => t = .bool tr ∧ wx = wc)
                      case first =>
                        rcases e1 : decide (mid < e)
                        · go_wp2_with fail
                          go_meet
                          exact ⟨by rw [← htr, e1]; rfl, rfl⟩
                        · rcases e2 : decide (e < b)
                          all_goals
                            go_wp2_with fail
                            go_meet
                            exact ⟨by rw [← htr, e1, e2]; rfl, rfl⟩
                      case rest =>
                        obtain ⟨rfl, hwc⟩ := hcut
                        subst hwc
                        have HFIN : Hid (∀ d3, Mv d2 d3 mid b → Srt key r d3 mid b → Srt key r d3 a b ∧ Mv d d3 a b) := fun d3 h1 h2 => rot_done HC1.out HH2.out HMID.out HD2.out.2 HD2.out.1 h1 h2
                        rcases tr
                        · rw [Bool.and_eq_false_iff, decide_eq_false_iff_not, decide_eq_false_iff_not] at htr
                          have hn : Srt key r d2 mid b := by rw [HMID.out]; exact right_none HC1.out (by rw [← HMID.out]; exact HD2.out.2) (by rw [← HMID.out]; omega)
                          have HN := Lib.hid hn
                          clear hn
                          go_wp2_with fail
                          go_end0
                          exact ⟨rfl, d2, (HFIN.out d2 (Mv.refl _ _ _) HN.out).1, (HFIN.out d2 (Mv.refl _ _ _) HN.out).2, S3.out⟩
                        · rw [Bool.and_eq_true, decide_eq_true_eq, decide_eq_true_eq] at htr
                          have hpre := right_pre HC1.out (d2 := d2) (by rw [← HMID.out]; exact HD2.out.2)
                          rw [← HMID.out] at hpre
                          have HPRE := Lib.hid hpre
                          clear hpre
                          go_wp2_with (go_at_call 71; rw [← hs2]; refine (IH.out mid e b d2 _ (by omega) htr.1 htr.2 (by omega) (by omega) (by omega) S3.out HPRE.out.1 HPRE.out.2.1 HPRE.out.2.2).mono ?_; rintro e' w2 ⟨rfl, d3, hA, hB, hS⟩; have HW := Lib.hid (And.intro hA hB); have S4 : Aside (SW enc w0 blk off d3 w2) := hS; clear hA hB hS)
                          go_end0
                          exact ⟨rfl, d3, (HFIN.out d3 HW.out.2 HW.out.1).1, (HFIN.out d3 HW.out.2 HW.out.1).2, S4.out⟩
end Liv
end Go.Proofs.Ytnnphpfobdcmbaa
