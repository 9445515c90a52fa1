/-
  WALKS: live.whole, live.choose.
-/
import Derived.Test.YtnnphpfobdcmbaaLivCount
import Derived.Test.YtnnphpfobdcmbaaZnsFew
namespace Go.Proofs.Ytnnphpfobdcmbaa
open Go.RowKit Mem Ext Zon Zns
namespace Liv

def wholeP (z : Zn) : Nat := z.data.length / 16
set_option maxRecDepth 100000 in
set_option maxHeartbeats 1600000 in
theorem whole_any (z : Zn) (D : Option Addr) (c : Nat) (hn : z.data.length ≤ 140737488351232) (w : World) : Calls Try.prog 35 #[zv z D c] w fun e w' => e = .returned (.int .i64 (wholeP z : Nat)) ∧ Below w.heap.size w w' := by
  have A1 : Hid (Below w.heap.size w (w.alloc (.cells #[.int .i64 z.st, .int .i64 z.fc, .slice D z.data.length c] 46))) := (Below.refl _ w).alloc (Nat.le_refl _) _
  have B1 := Lib.hid (Box.new w z D c)
  obtain ⟨m0, m1, m2⟩ := B1.out.cells
  unfold zv wholeP
  generalize z.data.length = n at *
  have hw : IntKind.i64.wrap ((n : Int) / 16) = (n : Int) / 16 := Ext.wrap_small (by omega) (by omega)
  go_enter Try.func35, Try.ntmps35
  go_wp2
  go_ret
  exact ⟨by simp, A1.out⟩

/-- Numbers as ints. -/
def iN (l : List Nat) : List Int := l.map fun i : Nat => (i : Int)
theorem iN_len (l : List Nat) : (iN l).length = l.length := by unfold iN; simp
theorem iN_app (a b : List Nat) : iN (a ++ b) = iN a ++ iN b := by unfold iN; simp
theorem iN_get {l : List Nat} {i x : Nat} (h : l[i]? = some x) : (iN l)[i]? = some (x : Int) := by unfold iN; simp [h]
/-- Which of n are as they should be, and not to skip. -/
def chooseP (n : Nat) (p : Nat → Bool) (sk : List Int) : List Nat := (List.range n).filter fun i => p i && !sk.contains (i : Int)
theorem choose_snoc (n : Nat) (p : Nat → Bool) (sk : List Int) : chooseP (n + 1) p sk = chooseP n p sk ++ (bif p n && !sk.contains (n : Int) then [n] else []) := by
  unfold chooseP
  rw [List.range_succ, List.filter_append]
  congr 1
theorem choose_len (n : Nat) (p : Nat → Bool) (sk : List Int) : (chooseP n p sk).length ≤ n := by
  have := List.length_filter_le (fun i => p i && !sk.contains (i : Int)) (List.range n)
  rw [List.length_range] at this; exact this
theorem choose_lt {n : Nat} {p : Nat → Bool} {sk : List Int} {i : Nat} (h : i ∈ chooseP n p sk) : i < n := by
  have := (List.mem_filter.1 h).1
  simpa using this
/-- A question of zones: it answers p, and leaves what lay there. -/
def PredI (n g : Nat) (lb : Array Value) (p : Nat → Bool) (w : World) : Prop :=
  ∀ (W : World) (i : Nat), i < n → Below w.heap.size w W → Calls Try.prog g (#[.int .i64 (i : Int)] ++ lb) W fun e w' => e = .returned (.bool (p i)) ∧ Below W.heap.size W w'
theorem rowI_one {w : World} {q : Nat} {x : Int} (h : Ext.Cells w q 3 #[.int .i64 x]) : Row ci w (some ⟨q, 0, none⟩) 1 1 [x] := by
  refine ⟨rfl, Nat.le_refl _, by omega, fun _ => ⟨q, 0, rfl, Ext.Cells.lt h, fun i y hy => ?_⟩⟩
  match i with
  | 0 =>
    have := Ext.Cells.cell h 0
    simp at hy
    subst hy
    exact this
  | i + 1 => simp at hy

set_option maxRecDepth 100000 in
set_option maxHeartbeats 3200000 in
theorem choose_any {d : Dx} {w : World} (h : DevAt w d) (hn : d.n ≤ 1000) {B : Option Addr} {m e : Nat} {sk : List Int} (hs : Row ci w B m e sk) (g : Nat) (lb : Array Value) (eg : ∀ args w, (callFunc g args).run Try.prog w = .ok (.enter g args) w) (p : Nat → Bool) (hp : PredI d.n g lb p w) :
    Calls Try.prog 33 #[dxv d, .slice B m e, .func (.func g) #[] lb] w fun en w' => (∃ X k c, en = .returned (.slice X k c) ∧ Owns ci 3 w.heap.size w' (.slice X k c) k (iN (chooseP d.n p sk))) ∧ Below w.heap.size w w' := by
  obtain ⟨cap, op, ac, A, n, c, xs⟩ := d
  have HR : Hid (RowS cellsZ 3 w A n c xs) := h.row
  have hn : n ≤ 1000 := hn
  have HS := fun w (h : Row ci w B m e sk) (v : Int) => Lib.hid (contains_any h v)
  have HSK := Lib.hid hs
  have HP : Hid (PredI n g lb p w) := hp
  have L1 := Lib.hid ((Below.refl w.heap.size w).alloc (Nat.le_refl _) (.cells #[.int .i64 cap, .int .i64 op, .int .i64 ac, .slice A n c] 38))
  have B1 := Lib.hid (DBox.new w ⟨cap, op, ac, A, n, c, xs⟩)
  unfold dxv
  dsimp only at *
  clear h hs hp
  go_enter Try.func33, Try.ntmps33
  go_upto_region 1 with fail
  generalize w.alloc (.cells #[.int .i64 cap, .int .i64 op, .int .i64 ac, .slice A n c] 38) = w1 at *
  obtain ⟨m0, m1, m2, m3⟩ := B1.out.cells
  dsimp only at m0 m1 m2 m3
  go_wp2_with fail
  clear m0 m1 m2 m3
  go_loopw [7, 8, 12] (fun s _ i wr => ∃ (k : Nat) (X : Option Addr) (j f : Nat), i = .int .i64 k ∧ s = .slice X j f ∧ k ≤ n ∧ j ≤ k ∧ Hid (Below w.heap.size w wr ∧ Owns ci 3 w.heap.size wr (.slice X j f) j (iN (chooseP k p sk)))) (fun _ _ i _ => n - (intOf i).toNat)
  case atStart => exact ⟨0, none, 0, 0, rfl, rfl, by omega, by omega, L1.out, Owns.nil _ _ _ _⟩
  case round =>
    obtain ⟨k, X, j, f, rfl, rfl, hk, hj, hH⟩ := hrel
    by_cases hlt : k < n
    · have hk0 : (0 : Int) ≤ (k : Int) := by omega
      have hkn : (k : Int) < (n : Int) := by omega
      have HC := Lib.hid (choose_snoc k p sk)
      have HP1 := Lib.hid (HP.out wr k hlt hH.out.1)
      generalize hpk : p k = pk at HP1 HC
      clear hpk
      rcases pk with _ | _
      · go_wp2_with (go_at_fn g; refine HP1.out.mono ?_; rintro e w2 ⟨rfl, hb⟩; have L2 := Lib.hid (hH.out.1.trans (hb.mono hH.out.1.size)); have O2 := Lib.hid (hH.out.2.below hb); clear hb)
        go_roundw
        case rel => exact ⟨k + 1, X, j, f, by go_num, rfl, by omega, by omega, L2.out, by rw [HC.out]; simpa using O2.out⟩
        case measure => simp [intOf]; omega
      · generalize hck : sk.contains (k : Int) = ck at HC
        have HCK := Lib.hid hck
        clear hck
        rcases ck with _ | _
        · go_upto_region 6 with (first | (go_at_fn g; refine HP1.out.mono ?_; rintro e w2 ⟨rfl, hb⟩; have L2 := Lib.hid (hH.out.1.trans (hb.mono hH.out.1.size)); have O2 := Lib.hid (hH.out.2.below hb); clear hb) | (go_at_call 49; refine (HS _ (HSK.out.below L2.out) _).out.mono ?_; rintro e w3 ⟨rfl, hb⟩; have L3 := Lib.hid (L2.out.trans (hb.mono L2.out.size)); have O3 := Lib.hid (O2.out.below hb); rw [HCK.out]; clear hb) | fail)
          have A5 : Hid (Below w.heap.size w (w3.alloc (.cells #[.int .i64 (k : Int)] 3))) := L3.out.alloc L3.out.size _
          have B5 : Hid (Ext.Cells (w3.alloc (.cells #[.int .i64 (k : Int)] 3)) w3.heap.size 3 #[.int .i64 (k : Int)]) := Ext.Cells.new _ _ _
          go_wp2_with (at_builtin
                       refine wpList_append_row ci_one Try.underlying26 info_int rfl rfl (.tmp 24) (.tmp 26) rfl rfl w.heap.size (.slice X j f) j _ rfl (Owns.alloc O3.out _) _ 1 1 [(k : Int)] rfl (rowI_one B5.out) (by omega) (by omega) A5.out.size ?_
                       intro A' c' w' h1 h2
                       have O6 := Lib.hid h1
                       have A6 := Lib.hid (A5.out.trans h2)
                       clear h1 h2)
          go_roundw
          case rel => exact ⟨k + 1, A', j + 1, c', by go_num, rfl, by omega, by omega, A6.out, by rw [HC.out, iN_app]; exact O6.out⟩
          case measure => simp [intOf]; omega
        · go_wp2_with (first | (go_at_fn g; refine HP1.out.mono ?_; rintro e w2 ⟨rfl, hb⟩; have L2 := Lib.hid (hH.out.1.trans (hb.mono hH.out.1.size)); have O2 := Lib.hid (hH.out.2.below hb); clear hb) | (go_at_call 49; refine (HS _ (HSK.out.below L2.out) _).out.mono ?_; rintro e w3 ⟨rfl, hb⟩; have L3 := Lib.hid (L2.out.trans (hb.mono L2.out.size)); have O3 := Lib.hid (O2.out.below hb); rw [HCK.out]; clear hb) | fail)
          go_roundw
          case rel => exact ⟨k + 1, X, j, f, by go_num, rfl, by omega, by omega, L3.out, by rw [HC.out]; simpa using O3.out⟩
          case measure => simp [intOf]; omega
    · have hkn : k = n := by omega
      have HK := Lib.hid hkn
      clear hkn
      go_wp2_with fail
      go_ret
      have hh := hH.out
      rw [HK.out] at hh
      exact ⟨⟨_, _, _, rfl, hh.2⟩, hh.1⟩
end Liv
end Go.Proofs.Ytnnphpfobdcmbaa
