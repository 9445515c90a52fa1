/-
  WALKS: the document's Put, Nums, Vec, Msg.
-/
import Derived.Test.YtamahknnppjegaaNetMsg
import Derived.BigQuiet
namespace Go.Proofs.Ytamahknnppjegaa
open Go.RowKit Mem Box
namespace Net
open Wire (B8 asInts asInts_toNat GaveE MsgBad Gave Numbered enc encs encV encM enc_lt enc_ge enc_len_le encs_len encs_append encs_cons encs_nil info_int row_one wrap_u64_small)

theorem low_byte (n : Nat) (h : n < 256) : (n : Int) = u (BitVec.ofNat 8 n) := Wire.low256 n h
theorem high_byte (n : Nat) : (n : Int) % 128 + 128 = u (BitVec.ofNat 8 (n % 128 + 128)) := by
  rw [← Wire.low256 _ (by omega)]
  omega
theorem wrap8 {z : Int} (h0 : 0 ≤ z) (h1 : z < 256) : IntKind.u8.wrap z = z := by
  simp [IntKind.wrap, IntKind.bits, IntKind.signed]; omega
/-- A row of one's own of one byte. -/
theorem own_byte (w : World) (x : B8) (v : Int) (hv : v = u x) {base : Nat} (hb : base ≤ w.heap.size) : Owns cb 5 base (w.alloc (.cells #[.int .u8 v] 5)) (.slice (some ⟨w.heap.size, 0, none⟩) 1 1) 1 [x] := by
  subst hv
  exact Owns.made cb 5 w [x] (by simp [maxLen]) hb

set_option maxRecDepth 100000 in
set_option maxHeartbeats 1600000 in
theorem put_doc (n : Nat) : n < 18446744073709551616 → ∀ w, Calls Try.prog 52 #[.int .u64 n] w (Gave cb 5 w.heap.size w (enc n)) := by
  induction n using Nat.strongRecOn with
  | ind n ih =>
    intro hn w
    by_cases hlt : n < 128
    · have E := Lib.hid (enc_lt hlt)
      have O := Lib.hid (own_byte w (BitVec.ofNat 8 n) (n : Int) (low_byte n (by omega)) (Nat.le_refl _))
      have hw := wrap8 (z := (n : Int)) (by omega) (by omega)
      clear ih
      go_enter Try.func52, Try.ntmps52
      go_wp2_with fail
      go_ret
      exact ⟨_, _, _, rfl, by rw [E.out]; exact O.out, (Below.refl _ w).alloc (Nat.le_refl _) _⟩
    · have E := Lib.hid (enc_ge (n := n) (by omega))
      have H := fun W => Lib.hid (ih (n / 128) (by omega) (by omega) W)
      have O := Lib.hid (own_byte w (BitVec.ofNat 8 (n % 128 + 128)) ((n : Int) % 128 + 128) (high_byte n) (Nat.le_refl _))
      have L1 : Hid (Below w.heap.size w (w.alloc (.cells #[.int .u8 ((n : Int) % 128 + 128)] 5))) := (Below.refl _ w).alloc (Nat.le_refl _) _
      have h10 := enc_len_le (n := n / 128) (by omega)
      have hw1 := wrap8 (z := (n : Int) % 128) (by omega) (by omega)
      have hw2 := wrap8 (z := (n : Int) % 128 + 128) (by omega) (by omega)
      clear ih
      go_enter Try.func52, Try.ntmps52
      go_wp2_with (first
        | (go_at_call 52; refine (H _).out.mono ?_; rintro e w2 ⟨X, k, d, rfl, hX, hb⟩; have hk := hX.len; have O2 := Lib.hid (O.out.below hb); have L2 := Lib.hid (L1.out.trans (hb.mono L1.out.size)); have R2 := Lib.hid (Wire.gave_row hX (by omega)).1; clear hb hX)
        | (at_builtin
           refine wpList_append_row cb_one Try.underlying23 info_byte rfl rfl (.tmp 12) (.tmp 15) rfl rfl w.heap.size _ 1 _ rfl O2.out X k d _ rfl R2.out (by omega) (by omega) L2.out.size ?_
           intro A' c' w' h1 h2
           have O3 := Lib.hid h1
           have L3 := Lib.hid (L2.out.trans h2)
           clear h1 h2)
        | fail)
      go_ret
      exact ⟨_, _, _, rfl, by rw [E.out]; exact O3.out, L3.out⟩

set_option maxRecDepth 100000 in
set_option maxHeartbeats 1600000 in
theorem nums_doc {A : Option Addr} {n c : Nat} {l : List Int} {w : World} (h : Row ci w A n c l) (hr : ∀ z ∈ l, z < 9223372036854775808) (hn : n ≤ 17592186044416) :
    Calls Try.prog 50 #[.slice A n c] w (Numbered l w) := by
  have HR := Lib.hid h
  have HZ := Lib.hid hr
  clear h hr
  go_enter Try.func50, Try.ntmps50
  go_wp2
  go_loopw [4, 6, 9] (fun s _ i wr => ∃ (B : Option Addr) (j d k : Nat), s = .slice B j d ∧ i = .int .i64 k ∧ k ≤ n ∧
    Hid ((∀ z ∈ l.take k, 0 ≤ z) ∧ Owns cb 5 w.heap.size wr (.slice B j d) j (encs ((l.take k).map Int.toNat)) ∧ Below w.heap.size w wr)) (fun _ _ i _ => n - (intOf i).toNat)
  case atStart => exact ⟨none, 0, 0, 0, rfl, rfl, by omega, by simp, Owns.nil _ _ _ _, Below.refl _ _⟩
  case round =>
    obtain ⟨B, j, d, k, rfl, rfl, hk, hH⟩ := hrel
    by_cases hlt : k < n
    · obtain ⟨z, hz⟩ := HR.out.get hlt
      have hcell := (HR.out.below hH.out.2.2).cell hz
      obtain ⟨b, o, rfl, hcell⟩ := hcell
      have hcell' : wr.cell? ⟨b, o + k, none⟩ = some (.int .i64 z) := hcell
      have HE := Lib.hid hz
      have hk0 : (0 : Int) ≤ (k : Int) := by omega
      have hkn : (k : Int) < (n : Int) := by omega
      clear hcell hz
      by_cases hneg : z < 0
      · go_wp2
        go_ret2
        refine .inr ⟨⟨z, List.mem_of_getElem? HE.out, hneg⟩, rfl, hH.out.2.2⟩
      · obtain ⟨m, rfl⟩ := Int.eq_ofNat_of_zero_le (show 0 ≤ z by omega)
        have hm : m < 9223372036854775808 := by have := HZ.out _ (List.mem_of_getElem? HE.out); omega
        have hwr := wrap_u64_small m hm
        have h10 := enc_len_le (n := m) (by omega)
        have hjl : j ≤ 10 * n := by
          have h1 := hH.out.2.1.len
          have h2 := encs_len (l := (l.take k).map Int.toNat) (fun x hx => by
            obtain ⟨y, hy, rfl⟩ := List.mem_map.1 hx
            have := HZ.out y (List.mem_of_mem_take hy)
            omega)
          simp only [List.length_map, List.length_take] at h2
          omega
        have HP := Lib.hid (put_doc m (by omega) wr)
        have HJ := Lib.hid hjl
        clear hm hjl
        go_wp2_with (first
          | (go_at_call 52; refine HP.out.mono ?_; rintro e w2 ⟨X, q, f, rfl, hX, hb⟩; have hq := hX.len; have O2 := Lib.hid (hH.out.2.1.below hb); have L2 := Lib.hid (hH.out.2.2.trans (hb.mono hH.out.2.2.size)); have R2 := Lib.hid (Wire.gave_row hX (by omega)).1; clear hb hX)
          | (at_builtin
             refine wpList_append_row cb_one Try.underlying23 info_byte rfl rfl (.tmp 15) (.tmp 18) rfl rfl w.heap.size (.slice B j d) j _ rfl O2.out X q f _ rfl R2.out (by have := HJ.out; omega) (by have := HJ.out; omega) L2.out.size ?_
             intro A' c' w' h1 h2
             have O3 := Lib.hid h1
             have L3 := Lib.hid (L2.out.trans h2)
             clear h1 h2)
          | fail)
        go_roundw
        case rel =>
          refine ⟨A', j + q, c', k + 1, rfl, by go_num, by omega, ?_, ?_, L3.out⟩
          · intro y hy
            rw [List.take_add_one, HE.out] at hy
            rcases List.mem_append.1 hy with h | h
            · exact hH.out.1 y h
            · simp at h; omega
          · have := O3.out
            rw [List.take_add_one, HE.out, List.map_append, encs_append]
            simpa [encs_cons, encs_nil] using this
        case measure => simp [intOf]; omega
    · have hkn : l.take k = l := List.take_of_length_le (by have := HR.out.len; omega)
      have HK := Lib.hid hkn
      clear hkn
      go_wp2
      go_ret2
      have h := hH.out
      rw [HK.out] at h
      exact .inl ⟨h.1, _, _, _, rfl, h.2.1, h.2.2⟩
theorem numsD_pos {A : Option Addr} {n c : Nat} {l : List Int} {w : World} (h : Row ci w A n c l) (hr : ∀ z ∈ l, z < 9223372036854775808) (hn : n ≤ 17592186044416) (hp : ∀ z ∈ l, 0 ≤ z) :
    Calls Try.prog 50 #[.slice A n c] w (GaveE cb 5 w.heap.size w (encs (l.map Int.toNat)) 0) :=
  (nums_doc h hr hn).mono fun e w' hN => by
    rcases hN with ⟨-, h⟩ | ⟨⟨z, hz, hneg⟩, -⟩
    · exact h
    · have := hp z hz; omega
theorem numsD_neg {A : Option Addr} {n c : Nat} {l : List Int} {w : World} (h : Row ci w A n c l) (hr : ∀ z ∈ l, z < 9223372036854775808) (hn : n ≤ 17592186044416) (hp : ¬ ∀ z ∈ l, 0 ≤ z) :
    Calls Try.prog 50 #[.slice A n c] w fun e w' => e = .returned (.tuple #[.slice none 0 0, .int .i64 1]) ∧ Below w.heap.size w w' :=
  (nums_doc h hr hn).mono fun e w' hN => by
    rcases hN with ⟨h, -⟩ | ⟨-, h⟩
    · exact absurd h hp
    · exact h

set_option maxRecDepth 100000 in
theorem vecD_long {A : Option Addr} {n c : Nat} {l : List B8} {w : World} (h : Row cb w A n c l) (hn : 65536 < n) :
    Calls Try.prog 51 #[.slice A n c] w fun e w' => e = .returned (.tuple #[.slice none 0 0, .int .i64 2]) ∧ Below w.heap.size w w' := by
  have hb := h.big
  clear h
  go_enter Try.func51, Try.ntmps51
  go_wp2
  go_ret2
  exact ⟨rfl, Below.refl _ _⟩
set_option maxRecDepth 100000 in
theorem vecD_ok {A : Option Addr} {n c : Nat} {l : List B8} {w : World} (h : Row cb w A n c l) (hn : n ≤ 65536) :
    Calls Try.prog 51 #[.slice A n c] w (GaveE cb 5 w.heap.size w (encV l) 0) := by
  have HR := Lib.hid h
  have hwr := wrap_u64_small n (by omega)
  have HP := Lib.hid (fun w => put_doc n (by omega) w)
  have hl := enc_len_le (n := n) (by omega)
  have E : Hid (enc n ++ l = encV l) := by show _ = _; unfold encV; rw [HR.out.len]
  clear h
  generalize enc n = x at *
  go_enter Try.func51, Try.ntmps51
  go_wp2_with (first
    | (go_at_call 52; refine (HP.out _).mono ?_; rintro e w2 ⟨X, k, d, rfl, hX, hb2⟩; have hk := hX.len; have HK : Hid (k ≤ 10) := (by show k ≤ 10; omega); clear hk; have O2 := Lib.hid hX; have B2 := Lib.hid hb2; clear hX hb2)
    | (at_builtin
       refine wpList_append_row cb_one Try.underlying23 info_byte rfl rfl (.tmp 10) (.tmp 11) rfl rfl w.heap.size (.slice X k d) k x rfl O2.out A n c l rfl (HR.out.below B2.out) (by have := HK.out; omega) (by have := HK.out; omega) B2.out.size ?_
       intro A' c' w' hown' hb'
       have O := Lib.hid hown'
       have B := Lib.hid hb'
       clear hown' hb'))
  go_ret2
  exact ⟨_, _, _, rfl, by rw [← E.out]; exact O.out, B2.out.trans B.out⟩
end Net
end Go.Proofs.Ytamahknnppjegaa
