/-
  A WALK: edges. Plain: whose a block is, as span tells it; how long the spans of one are.
-/
import Derived.Test.YtjoemlifpbjdbaaSpaLive
import Derived.Test.YtjoemlifpbjdbaaSpaSort
import Derived.BigQuiet
namespace Go.Proofs.Ytjoemlifpbjdbaa
open Go.ChangeShapes Go.WideShapes Go.ChangeAt Go.RowKit Mem
namespace Spa

theorem whoP_of {l : List Sp} {k o e : Int} (hok : okS l = true) (h : who l k = some (o, e)) : whoP l k = (o, e) := by
  unfold who at h
  unfold whoP findP
  rcases hf : findS l k with _ | s
  · rw [hf] at h; cases h
  · rw [hf] at h
    simp only [Option.map_some, Option.some.injEq] at h
    rw [hok, cond_true]
    exact h
def sumLen (l : List Sp) : Int := (l.map (fun s => s.to - s.fr)).sum
theorem sumLen_snoc (l : List Sp) (x : Sp) : sumLen (l ++ [x]) = sumLen l + (x.to - x.fr) := by unfold sumLen; simp
theorem sumLen_were (l : List Sp) (o : Int) : sumLen (wereS l o) = ownedS l o := by
  unfold sumLen wereS ownedS
  induction l with
  | nil => rfl
  | cons s r ih =>
    rw [List.filter_cons, List.map_cons, List.sum_cons]
    rcases e : (s.own == o)
    · rw [if_neg (by simp), ih]
      unfold partO; rw [e]; simp
    · rw [if_pos rfl, List.map_cons, List.sum_cons, ih]
      unfold partO; rw [e]; rfl
theorem sumLen_take {l : List Sp} (h : ∀ s ∈ l, s.fr < s.to) (k : Nat) : 0 ≤ sumLen (l.take k) ∧ sumLen (l.take k) ≤ sumLen l := by
  unfold sumLen
  induction l generalizing k with
  | nil => simp
  | cons s r ih =>
    rcases k with _ | k
    · have := ih (fun x hx => h x (by simp [hx])) r.length
      rw [List.take_length] at this
      have := h s (by simp)
      simp only [List.take_zero, List.map_nil, List.sum_nil, List.map_cons, List.sum_cons]
      omega
    · have := ih (fun x hx => h x (by simp [hx])) k
      have := h s (by simp)
      simp only [List.take_succ_cons, List.map_cons, List.sum_cons]
      omega

set_option maxRecDepth 100000 in
set_option maxHeartbeats 12800000 in
theorem edges_any {base : Nat} {A B : Option Addr} {n c m d : Nat} {l : List Sp} {qs : List Int} {w : World} (hR : ∀ W, Below base w W → RowL W A n c l) (hok : okS l = true) (ho : Owns ci 3 base w (.slice B m d) m qs) (hb : base ≤ w.heap.size) (hn : n ≤ 1000) (hm : m ≤ 1000) (hq : ∀ q ∈ qs, 0 ≤ q ∧ q ≤ 1099511627776) :
    Calls Try.prog 19 #[.slice A n c, .slice B m d] w fun e w' => (∃ C q f zs, e = .returned (.slice C q f) ∧ q ≤ 20000 ∧ Row ci w' C q f zs ∧ ∀ z ∈ zs, 0 ≤ z ∧ z < endF 0 l) ∧ Below base w w' := by
  have HR := Lib.hid hR
  have HO := Lib.hid ho
  have HQ := Lib.hid hq
  have hlen := Lib.hid (hR w (Below.refl _ _)).len
  have HCH := Lib.hid (And.intro (ok_ch hok) (ok_le hok))
  have hn0 : 0 < n := by
    have := (okS_iff.1 hok).2.2.1
    rcases Nat.eq_zero_or_pos n with h0 | h0
    · exact absurd (List.eq_nil_of_length_eq_zero (by rw [hlen.out, h0])) this
    · exact h0
  clear hR ho hq hok
  have HEND : Hid (∀ (k : Nat) x, n = k + 1 → l[k]? = some x → x.to = endF 0 l) := by
    show ∀ _, _
    intro k x hk hx
    exact (endF_last (by rw [List.getLast?_eq_getElem?, hlen.out, hk]; simpa using hx)).symm
  generalize endF 0 l = N at *
  go_enter Try.func19, Try.ntmps19
  go_wp2_with fail
  go_loopw [1, 7, 14] (fun s _ i wr => ∃ (k : Nat) (P : Option Addr) (q f : Nat), i = .int .i64 k ∧ s = .slice P q f ∧ k ≤ n ∧ q ≤ m + 2 * k ∧ Hid (Below base w wr ∧ ∃ zs, Owns ci 3 base wr (.slice P q f) q zs ∧ ∀ z ∈ zs, 0 ≤ z ∧ z ≤ 1099511627776)) (fun _ _ i _ => n - (intOf i).toNat)
  case atStart => exact ⟨0, B, m, d, rfl, rfl, by omega, by omega, Below.refl _ _, qs, HO.out, HQ.out⟩
  case round =>
    obtain ⟨k, P, q, f, rfl, rfl, hk, hq, hH⟩ := hrel
    by_cases hlt : k < n
    · obtain ⟨hB, zs, hO, hZ⟩ := hH.out
      obtain ⟨x, hx⟩ := (HR.out wr hB).get hlt
      obtain ⟨g, o, hA, d0, d1, d2, d3⟩ := RowS.span_at (HR.out wr hB) hx
      subst hA
      have hk0 : (0 : Int) ≤ (k : Int) := by omega
      have hkn : (k : Int) < (n : Int) := by omega
      have HX : Hid (0 ≤ x.fr ∧ x.fr < x.to ∧ x.to ≤ 1099511627776) := by
        show _ ∧ _
        have := ch_at HCH.out.1 hx
        have := HCH.out.2
        omega
      have hqb : q ≤ 10000 := by omega
      have A1 : Hid (Below base w (wr.alloc (.cells #[.int .i64 x.fr, .int .i64 x.to, .int .i64 x.own, .int .i64 x.ep] 32))) := hB.alloc (Nat.le_trans hb hB.size) _
      have B1 : Hid (LBox (wr.alloc (.cells #[.int .i64 x.fr, .int .i64 x.to, .int .i64 x.own, .int .i64 x.ep] 32)) wr.heap.size x) := Cells.new _ _ _
      have O1 := Lib.hid (Owns.alloc hO (.cells #[.int .i64 x.fr, .int .i64 x.to, .int .i64 x.own, .int .i64 x.ep] 32))
      have Z1 := Lib.hid hZ
      have S1 : Hid (base ≤ (wr.alloc (.cells #[.int .i64 x.fr, .int .i64 x.to, .int .i64 x.own, .int .i64 x.ep] 32)).heap.size) := Nat.le_trans hb A1.out.size
      obtain ⟨n0, n1, n2, n3⟩ := LBox.cells B1.out
      clear hx hB hO hZ hH
      go_upto_region 5 with fail
      generalize wr.alloc (.cells #[.int .i64 x.fr, .int .i64 x.to, .int .i64 x.own, .int .i64 x.ep] 32) = w1 at *
      clear d0 d1 d2 d3
      have A2 : Hid (Below base w (w1.alloc (.cells #[.int .i64 x.fr, .int .i64 x.to] 3))) := A1.out.alloc S1.out _
      have S2 : Hid (base ≤ (w1.alloc (.cells #[.int .i64 x.fr, .int .i64 x.to] 3)).heap.size) := Nat.le_trans hb A2.out.size
      have O2 := Lib.hid (Owns.alloc O1.out (.cells #[.int .i64 x.fr, .int .i64 x.to] 3))
      have R2 : Hid (Row ci (w1.alloc (.cells #[.int .i64 x.fr, .int .i64 x.to] 3)) (some ⟨w1.heap.size, 0, none⟩) 2 2 [x.fr, x.to]) := by
        have hc : Cells (w1.alloc (.cells #[.int .i64 x.fr, .int .i64 x.to] 3)) w1.heap.size 3 #[.int .i64 x.fr, .int .i64 x.to] := Cells.new _ _ _
        refine ⟨rfl, by omega, by omega, fun _ => ⟨_, _, rfl, Cells.lt hc, fun i y hy => ?_⟩⟩
        rw [Nat.zero_add, Cells.cell hc]
        match i, hy with
        | 0, hy => simp at hy; subst hy; rfl
        | 1, hy => simp at hy; subst hy; rfl
      go_wp2_with (at_builtin
                   refine wpList_append_row ci_one Try.underlying23 info_int rfl rfl (.tmp 18) (.tmp 23) rfl rfl base _ q zs rfl O2.out _ 2 2 [x.fr, x.to] rfl R2.out (by omega) (by omega) S2.out ?_
                   intro A' c' w' h1 h2
                   have O3 := Lib.hid h1
                   have A3 := Lib.hid (A2.out.trans h2)
                   clear h1 h2)
      go_roundw
      case rel =>
        refine ⟨k + 1, A', q + 2, c', by go_num, rfl, by omega, by omega, A3.out, _, O3.out, fun z hz => ?_⟩
        have := HX.out
        rcases List.mem_append.1 hz with hz | hz
        · exact Z1.out z hz
        · simp at hz
          rcases hz with rfl | rfl <;> omega
      case measure => simp [intOf]; omega
    · obtain ⟨hB, zs, hO, hZ⟩ := hH.out
      obtain ⟨j, hj⟩ : ∃ j, n = j + 1 := ⟨n - 1, by omega⟩
      obtain ⟨x, hx⟩ := (HR.out wr hB).get (i := j) (by omega)
      obtain ⟨g, o, hA, d0, d1, d2, d3⟩ := RowS.span_at (HR.out wr hB) hx
      subst hA
      have hxt := HEND.out j x hj hx
      have hqb : q ≤ 10000 := by omega
      obtain ⟨P', f', hs, hrow⟩ := Owns.row hO (by omega)
      injection hs with hs1 _ hs3
      subst hs1 hs3
      have P0 := Lib.hid hrow
      have L0 := Lib.hid hB
      have Z0 := Lib.hid hZ
      have hzl := Lib.hid hrow.len
      have HN : Hid (N ≤ 1099511627776) := HCH.out.2
      have hjw : (n : Int) - 1 = (j : Int) := by omega
      have hj0 : (0 : Int) ≤ (j : Int) := by omega
      have hjn : (j : Int) < (n : Int) := by omega
      have hjr : IntKind.i64.wrap (j : Int) = (j : Int) := by rw [IntKind.wrap_i64]; omega
      have hnp : (0 : Int) < (n : Int) := by omega
      have hnd : decide ((0 : Int) < (n : Int)) = true := decide_eq_true hnp
      rw [hxt] at d1
      clear hB hO hZ hH hrow hx hxt HEND HCH HO HQ hj
      have hqbig : q ≤ 140737488351232 := by omega
      generalize wr = w0 at *
      have LW0 := Lib.hid (Nat.le_trans hb L0.out.size)
      go_wp2_with fail
      go_loopw [5, 10, 11, 38] (fun s _ _ i wx => ∃ (k2 : Nat) (C : Option Addr) (p u : Nat), i = .int .i64 k2 ∧ s = .slice C p u ∧ k2 ≤ q ∧ p ≤ 3 * k2 ∧ Hid (Below w0.heap.size w0 wx ∧ ∃ ys, Owns ci 3 w0.heap.size wx (.slice C p u) p ys ∧ ∀ z ∈ ys, 0 ≤ z ∧ z < N)) (fun _ _ _ i _ => q - (intOf i).toNat)
      case atStart => exact ⟨0, none, 0, 0, rfl, rfl, by omega, by omega, Below.refl _ _, [], Owns.nil _ _ _ _, by simp⟩
      case round =>
        obtain ⟨k2, C, p, u, rfl, rfl, hk2, hp, hH⟩ := hrel
        by_cases hlt2 : k2 < q
        · obtain ⟨y, hy⟩ := P0.out.get hlt2
          obtain ⟨g3, o3, hA3, c0⟩ := (P0.out.below hH.out.1).cell hy
          subst hA3
          have c0' : wr.cell? ⟨g3, o3 + k2, none⟩ = some (.int .i64 y) := c0
          have hYB := Lib.hid (Z0.out y (List.mem_of_getElem? hy))
          have hk20 : (0 : Int) ≤ (k2 : Int) := by omega
          have hk2n : (k2 : Int) < (q : Int) := by omega
          have hy1 : IntKind.i64.wrap (y - 1) = y - 1 := by have := hYB.out; rw [IntKind.wrap_i64]; omega
          have hy2 : IntKind.i64.wrap (y + 1) = y + 1 := by have := hYB.out; rw [IntKind.wrap_i64]; omega
          clear hy c0
          go_upto_region 14 with fail
          go_loopw [5, 11] (fun s i wx => ∃ (C : Option Addr) (p u : Nat) (v : Int), i = .int .i64 v ∧ s = .slice C p u ∧ y - 1 ≤ v ∧ v ≤ y + 2 ∧ p ≤ 3 * k2 + (v - (y - 1)).toNat ∧ Hid (Below w0.heap.size w0 wx ∧ ∃ ys, Owns ci 3 w0.heap.size wx (.slice C p u) p ys ∧ ∀ z ∈ ys, 0 ≤ z ∧ z < N)) (fun _ i _ => (y + 2 - intOf i).toNat)
          case atStart => exact ⟨C, p, u, y - 1, rfl, rfl, by omega, by omega, by omega, hH.out⟩
          case round =>
            obtain ⟨C, p, u, v, rfl, rfl, hv1, hv2, hp2, hH⟩ := hrel
            have hvw : IntKind.i64.wrap (v + 1) = v + 1 := by have := hYB.out; rw [IntKind.wrap_i64]; omega
            rcases f1 : decide (v ≤ y + 1)
            · have hv3 : v = y + 2 := by have := of_decide_eq_false f1; omega
              have hH2 := hH
              go_wp2_with fail
              go_roundw
              case rel => exact ⟨k2 + 1, C, p, u, by go_num, rfl, by omega, by omega, hH2.out⟩
              case measure => simp [intOf]; omega
            · have hv3 : v ≤ y + 1 := of_decide_eq_true f1
              rcases f2 : decide (0 ≤ v)
              · go_wp2_with fail
                go_roundw
                case rel => exact ⟨C, p, u, v + 1, rfl, rfl, by omega, by omega, by omega, hH.out⟩
                case measure => simp [intOf]; omega
              · rcases f3 : decide (v < N)
                · go_wp2_with fail
                  go_roundw
                  case rel => exact ⟨C, p, u, v + 1, rfl, rfl, by omega, by omega, by omega, hH.out⟩
                  case measure => simp [intOf]; omega
                · obtain ⟨hB, ys, hO, hZ⟩ := hH.out
                  have A2 : Hid (Below w0.heap.size w0 (wr.alloc (.cells #[.int .i64 v] 3))) := hB.alloc hB.size _
                  have O2 := Lib.hid (Owns.alloc hO (.cells #[.int .i64 v] 3))
                  have Z2 := Lib.hid hZ
                  have R2 : Hid (Row ci (wr.alloc (.cells #[.int .i64 v] 3)) (some ⟨wr.heap.size, 0, none⟩) 1 1 [v]) := by
                    have hc : Cells (wr.alloc (.cells #[.int .i64 v] 3)) wr.heap.size 3 #[.int .i64 v] := Cells.new _ _ _
                    refine ⟨rfl, by omega, by omega, fun _ => ⟨_, _, rfl, Cells.lt hc, fun i y hy => ?_⟩⟩
                    rw [Nat.zero_add, Cells.cell hc]
                    match i, hy with
                    | 0, hy => simp at hy; subst hy; rfl
                  have HV := Lib.hid (And.intro (of_decide_eq_true f2) (of_decide_eq_true f3))
                  have hpb : p ≤ 100000 := by omega
                  clear hB hO hZ hH
                  go_wp2_with (at_builtin
                               refine wpList_append_row ci_one Try.underlying23 info_int rfl rfl (.tmp 57) (.tmp 59) rfl rfl w0.heap.size _ p ys rfl O2.out _ 1 1 [v] rfl R2.out (by omega) (by omega) A2.out.size ?_
                               intro A' c' w' h1 h2
                               have O3 := Lib.hid h1
                               have A3 := Lib.hid (A2.out.trans h2)
                               clear h1 h2)
                  go_roundw
                  case rel =>
                    refine ⟨A', p + 1, c', v + 1, rfl, rfl, by omega, by omega, by omega, A3.out, _, O3.out, fun z hz => ?_⟩
                    rcases List.mem_append.1 hz with hz | hz
                    · exact Z2.out z hz
                    · simp at hz; subst hz; exact HV.out
                  case measure => simp [intOf]; omega
        · obtain ⟨hB, ys, hO, hZ⟩ := hH.out
          obtain ⟨C', u', hs, hrow⟩ := Owns.row hO (by omega)
          injection hs with hs1 _ hs3
          subst hs1 hs3
          have RF := Lib.hid hrow
          have ZF := Lib.hid hZ
          have LF := Lib.hid (L0.out.trans (hB.mono LW0.out))
          clear hB hO hZ hH hrow
          go_wp2_with fail
          go_ret
          exact ⟨⟨_, p, _, rfl, by omega, ys, RF.out, ZF.out⟩, LF.out⟩
end Spa
end Go.Proofs.Ytjoemlifpbjdbaa
