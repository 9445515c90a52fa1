/-
  wire: SEVERAL NUMBERS (Nums, TakeNums), VECTORS (Vec, TakeVec), AND THE DOCUMENT's OWN COMPARISON OF NUMBERS.
-/
import Derived.Test.YtedandbkdjmfhaaWireLive
import Derived.Test.YtedandbkdjmfhaaWireInts
import Derived.Test.YtedandbkdjmfhaaReg
import Derived.Deep.DeepCutAuto
import Derived.Lib.LazyBuf
namespace Go.Proofs.Ytedandbkdjmfhaa
open Go.RowKit Mem
namespace Wire
theorem run_eql_nil (w : World) (a : Addr) (n c : Nat) : (binOp .eql 27 (.slice (some a) n c) (.slice none 0 0)).run Try.prog w = .ok (.bool false) w :=
  Go.run_eql_slice_nil w _ _ (some a) n c Try.underlying27

set_option maxRecDepth 100000 in
theorem clone_any {a : Addr} {n c : Nat} {l : List B8} {w : World} (h : Row cb w (some a) n c l) :
    Calls Try.prog 32 #[.slice (some a) n c] w (Gave cb 5 w.heap.size w l) := by
  have HR := Lib.hid h
  have hb := h.big
  clear h
  have hq := run_eql_nil
  go_enter Try.func32, Try.ntmps32
  go_wp2_with (at_builtin
               refine wpList_append_row cb_one Try.underlying27 info_byte rfl rfl (.tmp 5) (.tmp 6) rfl rfl w.heap.size _ 0 [] rfl (Owns.made cb 5 w [] (by decide) (Nat.le_refl _)) (some a) n c l rfl (HR.out.alloc _) (by omega) (by omega) (by simp) ?_
               intro A' c' w' hown' hb'
               have O := Lib.hid (show Owns cb 5 w.heap.size w' (.slice A' n c') n l by simpa using hown')
               have B := Lib.hid hb'
               clear hown' hb')
  go_ret
  exact ⟨_, _, _, rfl, O.out, ((Below.refl _ w).alloc (Nat.le_refl _) _).trans B.out⟩

set_option maxRecDepth 100000 in
theorem vec_long {A : Option Addr} {n c : Nat} {l : List B8} {w : World} (h : Row cb w A n c l) (hn : 65536 < n) :
    Calls Try.prog 37 #[.slice A n c] w (GaveE cb 5 w.heap.size w [] 2) := by
  have hb := h.big
  clear h
  go_enter Try.func37, Try.ntmps37
  go_wp2
  go_ret2
  exact ⟨_, _, _, rfl, Owns.nil _ _ _ _, Below.refl _ _⟩

set_option maxRecDepth 100000 in
theorem vec_ok {A : Option Addr} {n c : Nat} {l : List B8} {w : World} (h : Row cb w A n c l) (hn : n ≤ 65536) :
    Calls Try.prog 37 #[.slice A n c] w (GaveE cb 5 w.heap.size w (encV l) 0) := by
  have HR := Lib.hid h
  have hwr := wrap_u64_small n (by omega)
  have HP := Lib.hid (fun w => putN_any n (by omega) w)
  have hl := enc_len_le (n := n) (by omega)
  have E : Hid (enc n ++ l = encV l) := by show _ = _; unfold encV; rw [HR.out.len]
  clear h
  generalize enc n = x at *
  go_enter Try.func37, Try.ntmps37
  go_wp2_with (first
    | (go_at_call 47; refine (HP.out _).mono ?_; rintro e w2 ⟨X, k, d, rfl, hX, hb2⟩; have hk := hX.len; have HK : Hid (k ≤ 10) := (by show k ≤ 10; omega); clear hk; have O2 := Lib.hid hX; have B2 := Lib.hid hb2; clear hX hb2)
    | (at_builtin
       refine wpList_append_row cb_one Try.underlying27 info_byte rfl rfl (.tmp 10) (.tmp 11) rfl rfl w.heap.size (.slice X k d) k x rfl O2.out A n c l rfl (HR.out.below B2.out) (by have := HK.out; omega) (by have := HK.out; omega) B2.out.size ?_
       intro A' c' w' hown' hb'
       have O := Lib.hid hown'
       have B := Lib.hid hb'
       clear hown' hb'))
  go_ret2
  exact ⟨_, _, _, rfl, by rw [← E.out]; exact O.out, B2.out.trans B.out⟩

/-- What TakeVec tells. -/
def TookV (v : List B8) (k e : Nat) (w : World) (en : Ending) (w' : World) : Prop :=
  ∃ B j d, en = .returned (.tuple #[.slice B j d, .int .i64 (k : Int), .int .i64 (e : Int)]) ∧ Owns cb 5 w.heap.size w' (.slice B j d) j v ∧ Below w.heap.size w w'

set_option maxRecDepth 100000 in
set_option maxHeartbeats 800000 in
theorem takeVec_at {A : Option Addr} {n c : Nat} {b : List B8} {w : World} (h : Row cb w A n c b) (hn : n ≤ 100000000) {v : List B8} {kk ee : Nat} (hi : vec1 b = (v, kk, ee)) :
    Calls Try.prog 42 #[.slice A n c] w (TookV v kk ee w) := by
  have HR := Lib.hid h
  have hlen := HR.out.len
  have hcap := HR.out.cap
  rcases h1 : int1 b with ⟨m, k1, e1⟩
  have H1 := Lib.hid h1
  unfold vec1 at hi
  rw [h1] at hi
  clear h h1
  by_cases he : e1 = 0
  · subst he
    simp only [if_pos] at hi
    obtain ⟨t1, hx⟩ := int1_one H1.out
    obtain ⟨y1, y2, y3, -⟩ := take1_one t1
    have y2' : k1 ≤ n := by omega
    clear t1 hx
    by_cases hb : 65536 < m
    · rw [if_pos hb] at hi
      simp only [Prod.mk.injEq] at hi
      obtain ⟨rfl, rfl, rfl⟩ := hi
      clear hlen y2
      go_enter Try.func42, Try.ntmps42
      go_wp2_with (go_at_call 52; refine (takeInt_at HR.out H1.out).mono ?_; rintro e w2 ⟨rfl, hb2⟩; have B2 := Lib.hid hb2; clear hb2)
      go_ret3
      exact ⟨none, 0, 0, rfl, Owns.nil _ _ _ _, B2.out⟩
    · rw [if_neg hb] at hi
      by_cases hs : b.length - k1 < m
      · rw [if_pos hs] at hi
        simp only [Prod.mk.injEq] at hi
        obtain ⟨rfl, rfl, rfl⟩ := hi
        have hs' : (n : Int) - (k1 : Int) < (m : Int) := by omega
        clear hlen y2 hs
        go_enter Try.func42, Try.ntmps42
        go_wp2_with (go_at_call 52; refine (takeInt_at HR.out H1.out).mono ?_; rintro e w2 ⟨rfl, hb2⟩; have B2 := Lib.hid hb2; clear hb2)
        go_ret3
        exact ⟨none, 0, 0, rfl, Owns.nil _ _ _ _, B2.out⟩
      · rw [if_neg hs] at hi
        simp only [Prod.mk.injEq] at hi
        obtain ⟨rfl, rfl, rfl⟩ := hi
        have hs' : (m : Int) ≤ (n : Int) - (k1 : Int) := by omega
        have hsn : k1 + m ≤ n := by omega
        have hsl := run_mid A n c k1 (k1 + m) (by omega) (by omega)
        rw [Nat.add_sub_cancel_left] at hsl
        have hrow := HR.out.mid (k := k1) (j := k1 + m) (by omega) hsn
        rw [Nat.add_sub_cancel_left] at hrow
        obtain ⟨a, ha⟩ : ∃ a, tailA A c k1 = some a := by
          obtain ⟨b0, o0, e0, -⟩ := HR.out.at_ (by omega)
          unfold tailA
          rw [e0]
          split
          · exact ⟨_, rfl⟩
          · exact ⟨_, rfl⟩
        rw [ha] at hsl hrow
        have hsl' : ∀ w, (Instr.slice 27 (.slice A n c) (some (.int .i64 (k1 : Int))) (some (.int .i64 ((k1 : Int) + (m : Int)))) none).run Try.prog w = .ok (.slice (some a) m (c - k1)) w := fun w => by have := hsl w; rwa [Int.natCast_add] at this
        have HW := Lib.hid hrow
        clear hlen y2 hs hsl hrow ha
        go_enter Try.func42, Try.ntmps42
        go_wp2_with (first
          | (go_at_call 52; refine (takeInt_at HR.out H1.out).mono ?_; rintro e w2 ⟨rfl, hb2⟩; have B2 := Lib.hid hb2; clear hb2)
          | (go_at_call 32; refine (clone_any (HW.out.below B2.out)).mono ?_; rintro e w3 ⟨X, k, d, rfl, hX, hb3⟩; have O3 := Lib.hid hX; have B3 := Lib.hid hb3; clear hX hb3))
        go_ret3
        refine ⟨X, k, d, ?_, O3.out.mono B2.out.size, B2.out.trans (B3.out.mono B2.out.size)⟩
        rw [Int.natCast_add]; rfl
  · rw [if_neg he] at hi
    simp only [Prod.mk.injEq] at hi
    obtain ⟨rfl, rfl, rfl⟩ := hi
    obtain ⟨rfl, rfl, h3⟩ := int1_bad H1.out he
    clear he hlen
    rcases h3 with rfl | rfl
    all_goals
      go_enter Try.func42, Try.ntmps42
      go_wp2_with (go_at_call 52; refine (takeInt_at HR.out H1.out).mono ?_; rintro e w2 ⟨rfl, hb2⟩; have B2 := Lib.hid hb2; clear hb2)
      go_ret3
      exact ⟨none, 0, 0, rfl, Owns.nil _ _ _ _, B2.out⟩

set_option maxRecDepth 100000 in
set_option maxHeartbeats 800000 in
/-- The document's own comparison, of two rows that read alike. -/
theorem sameInts_any {A B : Option Addr} {n c m d : Nat} {l : List Int} {w : World} (h1 : Row ci w A n c l) (h2 : Row ci w B m d l) :
    Calls Try.prog 17 #[.slice A n c, .slice B m d] w fun e w' => e = .returned (.bool true) ∧ Below w.heap.size w w' := by
  obtain rfl : n = m := by rw [← h1.len, h2.len]
  have H1 := Lib.hid h1
  have H2 := Lib.hid h2
  have hb := h1.big
  clear h1 h2
  go_enter Try.func17, Try.ntmps17
  go_wp2
  go_loopw [13] (fun i wr => ∃ k : Nat, i = .int .i64 k ∧ k ≤ n ∧ Hid (Below w.heap.size w wr)) (fun i _ => n - (intOf i).toNat)
  case atStart => exact ⟨0, rfl, by omega, Below.refl _ _⟩
  case round =>
    obtain ⟨k, rfl, hk, hB⟩ := hrel
    by_cases hlt : k < n
    · obtain ⟨z, hz⟩ := H1.out.get hlt
      obtain ⟨b1, o1, rfl, hc1⟩ := (H1.out.below hB.out).cell hz
      obtain ⟨b2, o2, rfl, hc2⟩ := (H2.out.below hB.out).cell hz
      have hc1' : wr.cell? ⟨b1, o1 + k, none⟩ = some (.int .i64 z) := hc1
      have hc2' : wr.cell? ⟨b2, o2 + k, none⟩ = some (.int .i64 z) := hc2
      have hk0 : (0 : Int) ≤ (k : Int) := by omega
      have hk1 : (k : Int) < (n : Int) := by omega
      clear hc1 hc2 hz
      go_wp2
      go_quiet (fail)
      go_wp2
      go_roundw
      case rel => exact ⟨k + 1, by go_num, by omega, hB.out.trans (below_drewN _ _ _)⟩
      case measure => simp [intOf]; omega
    · go_wp2
      go_ret
      exact ⟨rfl, hB.out⟩
end Wire
end Go.Proofs.Ytedandbkdjmfhaa
