/-
  WALKS: net.Write, net.Read.
-/
import Derived.Test.YtamahknnppjegaaNetReadP
import Derived.Test.YtamahknnppjegaaNetPick
namespace Go.Proofs.Ytamahknnppjegaa
open Go.RowKit Mem Box
namespace Net
open Wire (B8 asInts GaveE MsgBad msg1 TookM NotM takeMsg_ok takeMsg_bad)

theorem write_take {l : List Mp} {k : Nat} {p : Mp} (h : l[k]? = some p) : writeP (l.take (k + 1)) = writeP (l.take k) ++ bytesM p := by
  rw [List.take_add_one, h]
  exact write_snoc _ _
theorem at_fits {w : World} {Q : Option Addr} {n c : Nat} {l : List Mx} (h : NetAt w Q n c l) : ∀ p ∈ l.map Mx.p, Fits p := fun p hp => by
  obtain ⟨x, hx, rfl⟩ := List.mem_map.1 hp
  exact (h.at_ x hx).fits

set_option maxRecDepth 100000 in
set_option maxHeartbeats 3200000 in
theorem write_any {w : World} {cap : Nat} {Q : Option Addr} {n c : Nat} {l : List Mx} (h : NetAt w Q n c l) (hn : n ≤ 5000) :
    Calls Try.prog 23 #[nv cap Q n c] w fun e w' => ((∀ p ∈ l.map Mx.p, okM p = true) ∧ GaveE cb 5 w.heap.size w (writeP (l.map Mx.p)) 0 e w') ∨ ((∃ p ∈ l.map Mx.p, okM p = false) ∧ e = .returned (.tuple #[.slice none 0 0, .int .i64 1]) ∧ Below w.heap.size w w') := by
  have HN := Lib.hid h
  have HF := Lib.hid (at_fits h)
  have HL := Lib.hid h.row.len
  have HW1 := fun W x (h : MAt W x) (hk : okM x.p = true) => Lib.hid (wmsg_ok h hk)
  have HW2 := fun W x (h : MAt W x) (hk : okM x.p = false) => Lib.hid (wmsg_bad h hk)
  have L1 : Hid (Below w.heap.size w (w.alloc (.cells #[.int .i64 (cap : Int), .slice Q n c] 28))) := (Below.refl _ w).alloc (Nat.le_refl _) _
  have X1 : Hid (NBox (w.alloc (.cells #[.int .i64 (cap : Int), .slice Q n c] 28)) w.heap.size cap Q n c) := Cells.new _ _ _
  unfold nv
  unfold mxv at HW1 HW2
  clear h
  go_enter Try.func23, Try.ntmps23
  go_upto_region 1 with fail
  generalize w.alloc (.cells #[.int .i64 (cap : Int), .slice Q n c] 28) = w1 at *
  obtain ⟨k0, k1⟩ := NBox.cells X1.out
  go_wp2_with fail
  clear k0 k1
  go_loopw [4, 6, 7, 8, 12] (fun s _ _ _ i wr => ∃ (k : Nat) (B : Option Addr) (j d : Nat), i = .int .i64 k ∧ s = .slice B j d ∧ k ≤ n ∧ Hid ((∀ p ∈ (l.map Mx.p).take k, okM p = true) ∧ Below w.heap.size w wr ∧ Owns cb 5 w.heap.size wr (.slice B j d) j (writeP ((l.map Mx.p).take k)))) (fun _ _ _ _ i _ => n - (intOf i).toNat)
  case atStart => exact ⟨0, none, 0, 0, rfl, rfl, by omega, by simp, L1.out, Owns.nil _ _ _ _⟩
  case round =>
    obtain ⟨k, B, j, d, rfl, rfl, hk, hH⟩ := hrel
    have HOK := Lib.hid hH.out.1
    have L2 := Lib.hid hH.out.2.1
    have O2 := Lib.hid hH.out.2.2
    have hjb : j ≤ 67000 * k := by
      have h1 := hH.out.2.2.len
      have h2 := write_len (l := (l.map Mx.p).take k) (fun p hp => ⟨hH.out.1 p hp, HF.out p (List.mem_of_mem_take hp)⟩)
      rw [List.length_take] at h2
      omega
    have HJ := Lib.hid hjb
    clear hH hjb
    by_cases hlt : k < n
    · obtain ⟨x, hx, hxm⟩ := HN.out.get hlt
      obtain ⟨b2, o2, hQ, hb2, hcs⟩ := HN.out.cells hx
      obtain ⟨c0, c1, c2, c3, c4, c5⟩ := hcs wr L2.out
      have hxp : (l.map Mx.p)[k]? = some x.p := by rw [List.getElem?_map, hx]; rfl
      have HXP := Lib.hid hxp
      have HTK := Lib.hid (write_take hxp)
      have HXM := Lib.hid hxm
      subst hQ
      have hk0 : (0 : Int) ≤ (k : Int) := by omega
      have hkn : (k : Int) < (n : Int) := by omega
      clear hx hxm hcs hb2 hxp
      go_upto_region 5 with fail
      clear c0 c1 c2 c3 c4 c5
      have bb : Below wr.heap.size wr (wr.alloc (.cells #[.int .i64 x.k, .int .i64 x.f, .int .i64 x.t, .int .i64 x.i, .slice x.A x.n x.c, .slice x.B x.m x.d] 39)) := (Below.refl _ wr).alloc (Nat.le_refl _) _
      have L3 := Lib.hid (L2.out.trans (bb.mono L2.out.size))
      have O3 := Lib.hid (O2.out.below bb)
      have P3 : Hid (MBox (wr.alloc (.cells #[.int .i64 x.k, .int .i64 x.f, .int .i64 x.t, .int .i64 x.i, .slice x.A x.n x.c, .slice x.B x.m x.d] 39)) wr.heap.size x) := Cells.new _ _ _
      obtain ⟨p, hp⟩ : ∃ p, p = wr.heap.size := ⟨_, rfl⟩
      rw [← hp] at P3
      rw [← hp]
      clear bb hp L2 O2
      generalize wr.alloc (.cells #[.int .i64 x.k, .int .i64 x.f, .int .i64 x.t, .int .i64 x.i, .slice x.A x.n x.c, .slice x.B x.m x.d] 39) = w3 at *
      obtain ⟨n0, n1, n2, n3, n4, n5⟩ := MBox.cells P3.out
      rcases e2 : okM x.p
      · have HD := Lib.hid (HW2 w3 x (HXM.out.below L3.out) e2).out
        have HBAD : Hid (∃ p ∈ l.map Mx.p, okM p = false) := ⟨x.p, List.mem_of_getElem? HXP.out, e2⟩
        go_wp2_with (go_at_call 46; refine HD.out.mono ?_; rintro e w4 ⟨er, her, rfl, hb⟩; have L4 := Lib.hid (L3.out.trans (hb.mono L3.out.size)); have hne : (er != 0) = true := (by rcases her with rfl | rfl <;> rfl); clear hb her)
        go_ret2
        exact .inr ⟨HBAD.out, rfl, L4.out⟩
      · have HD := Lib.hid (HW1 w3 x (HXM.out.below L3.out) e2).out
        have hbl := bytes_len e2 (HF.out x.p (List.mem_of_getElem? HXP.out))
        have HBL := Lib.hid hbl
        clear hbl
        go_wp2_with (first
          | (go_at_call 46; refine HD.out.mono ?_; rintro e w4 ⟨V, vk, vc, rfl, hV, hb⟩; have L4 := Lib.hid (L3.out.trans (hb.mono L3.out.size)); have O4 := Lib.hid (O3.out.below hb); have hvk : vk ≤ 67000 := (by rw [← hV.len]; exact HBL.out); have V4 := Lib.hid (Wire.gave_row hV (by have := HBL.out; omega)).1; clear hV hb)
          | (at_builtin
             refine wpList_append_row cb_one Try.underlying23 info_byte rfl rfl (.tmp 23) (.tmp 24) rfl rfl w.heap.size (.slice B j d) j _ rfl O4.out V vk vc _ rfl V4.out (by have := HJ.out; omega) (by have := HJ.out; omega) L4.out.size ?_
             intro A' d' w5 h1 h2
             have O5 := Lib.hid h1
             have L5 := Lib.hid (L4.out.trans h2)
             clear h1 h2)
          | fail)
        go_roundw
        case rel => exact ⟨k + 1, A', j + vk, d', by go_num, rfl, by omega, fun q hq => by
          rw [List.take_add_one, HXP.out] at hq
          rcases List.mem_append.1 hq with hq | hq
          · exact HOK.out q hq
          · simp at hq; rw [hq]; exact e2, L5.out, by rw [HTK.out]; exact O5.out⟩
        case measure => simp [intOf]; omega
    · have htk : (l.map Mx.p).take k = l.map Mx.p := List.take_of_length_le (by rw [List.length_map]; have := HL.out; omega)
      have HK := Lib.hid htk
      clear htk
      go_wp2_with fail
      go_ret2
      have h1 := HOK.out
      have h2 := O2.out
      rw [HK.out] at h1 h2
      exact .inl ⟨h1, B, j, d, rfl, h2, L2.out⟩
end Net
end Go.Proofs.Ytamahknnppjegaa
