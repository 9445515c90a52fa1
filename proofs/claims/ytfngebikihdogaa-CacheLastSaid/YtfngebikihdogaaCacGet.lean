/-
  WALKS: slices.Clone over bytes; Get.
-/
import Derived.Test.YtfngebikihdogaaCacText
namespace Go.Proofs.Ytfngebikihdogaa
open Go.RowKit Mem Box GM
namespace Cac
theorem run_eql_nilB (w : World) (A : Option Addr) (n c : Nat) : (binOp .eql 32 (.slice A n c) (.slice none 0 0)).run Try.prog w = .ok (.bool A.isNone) w :=
  Go.run_eql_slice_nil w _ _ A n c Try.underlying32
set_option maxRecDepth 100000 in
set_option maxHeartbeats 1600000 in
theorem clone_text {a : Addr} {n c : Nat} {l : List (BitVec 8)} {w : World} (h : Row cb w (some a) n c l) (hn : n ≤ 1000000) :
    Calls Try.prog 22 #[.slice (some a) n c] w fun e w' => (∃ B d, e = .returned (.slice B n d) ∧ Owns cb 5 0 w' (.slice B n d) n l) ∧ Below w.heap.size w w' := by
  have HR := Lib.hid h
  have hq := fun w => run_eql_nilB w (some a) n c
  have hd : (some a).isNone = false := rfl
  rw [hd] at hq
  have hmade : Hid (Owns cb 5 w.heap.size (w.alloc (.cells #[] 5)) (.slice (some ⟨w.heap.size, 0, none⟩) 0 0) 0 []) := Owns.made cb 5 w [] (by simp) (Nat.le_refl _)
  clear h
  go_enter Try.func22, Try.ntmps22
  go_wp2_with (at_builtin
               refine wpList_append_row cb_one Try.underlying32 info_byte rfl rfl (.tmp 5) (.tmp 6) rfl rfl w.heap.size _ 0 [] rfl hmade.out (some a) n c l rfl (Row.alloc HR.out _) (by omega) (by omega) (by simp) ?_
               intro A' c' w' hown' hg'
               have O := Lib.hid (show Owns cb 5 w.heap.size w' (.slice A' n c') n l by simpa using hown')
               have B := Lib.hid hg'
               clear hown' hg')
  go_ret
  exact ⟨⟨_, _, rfl, O.out.mono (Nat.zero_le _)⟩, ((Below.refl _ w).alloc (Nat.le_refl _) _).trans B.out⟩

theorem run_whole (p : Nat) (w : World) : (Instr.sliceAt 59 (.pointer (some ⟨p, 2, none⟩)) none none none).run Try.prog w = .ok (.slice (some ⟨p, 2, none⟩) 16 16) w := by
  obtain ⟨i, hi, hz0, hz1, hz2⟩ := info_parts info_byte
  simp [Instr.sliceAt, Instr.sureAddr, Instr.sliceBounds, run_underlying Try.underlying59, sizeOf, typeInfo, hi, Addr.add]

set_option maxRecDepth 100000 in
set_option maxHeartbeats 3200000 in
theorem get_none {w : World} {g r : Nat} {m h s : Int} {ns : List Nd} (H : CacheAt w g r m ns h s) {n v : Int} (hno : ∀ y, who ns n = some y → y.2.ver ≠ v) (h0 : 0 ≤ s) (h1 : s ≤ 4611686018427387904) :
    Calls Try.prog 12 #[.pointer (some ⟨g, 0, none⟩), .int .i64 n, .int .i64 v] w fun e w' => e = .returned (.tuple #[.slice none 0 0, .bool false]) ∧ CacheAt w' g r m ns h (s + 1) ∧ Mov (foot g r ns) w w' ∧ w'.heap.size = w.heap.size := by
  have HC := Lib.hid H
  have HA := fun w => Lib.hid (asked_any g w)
  have HG := Lib.hid (add_any (H.dl.head.cells.2.2.2.2.2) (H.dl.head.frozen 5) h0 h1)
  have hget := run_at_get H.map n
  have c1 := H.dl.head.cells.2.1
  have hng := H.dl.head.ne_seg H.dl.seg
  have F : Hid (CacheAt (w.setCell ⟨g, 5, none⟩ (.int .i64 (s + 1))) g r m ns h (s + 1)) := ⟨⟨H.dl.head.set5 _, H.dl.seg.other hng 5 _, H.dl.nod⟩, H.map.keep (Below.heap_setCell _ _ _ _ (fun e => (nodup_blk H) (by rw [show r = g from e]; exact List.mem_cons_self))), H.keys⟩
  have V : Hid (Mov (foot g r ns) w (w.setCell ⟨g, 5, none⟩ (.int .i64 (s + 1)))) := Mov.set1 w List.mem_cons_self 5 _
  rcases e1 : who ns n with _ | y
  · rw [e1] at hget
    replace hget : (Instr.lookup 49 (.map (some r)) (.int .i64 n) false).run Try.prog w = .ok (.pointer none) w := hget
    clear H hno hng e1
    go_enter Try.func12, Try.ntmps12
    go_wp2_with fail
    refine (HA _).out.mono ?_
    rintro e w1 ⟨rfl, hw⟩
    obtain rfl := hw.symm
    clear HA
    go_wp2_with fail
    refine HG.out.mono ?_
    rintro e w2 ⟨rfl, rfl⟩
    go_wp2_with fail
    go_ret2
    exact ⟨rfl, F.out, V.out, World.size_setCell _ _ _⟩
  · rw [e1] at hget
    replace hget : (Instr.lookup 49 (.map (some r)) (.int .i64 n) false).run Try.prog w = .ok (.pointer (some ⟨y.1, 0, none⟩)) w := hget
    have hne := hno y e1
    obtain ⟨hy, -⟩ := who_some e1
    obtain ⟨a, b, rfl⟩ := List.append_of_mem hy
    have cv := (Seg.node (p := y.1) (x := y.2) H.dl.seg).cells.2.1
    have hb : (y.2.ver != v) = true := by simpa using hne
    clear H hno hng e1 hne hy
    go_enter Try.func12, Try.ntmps12
    go_wp2_with fail
    refine (HA _).out.mono ?_
    rintro e w1 ⟨rfl, hw⟩
    obtain rfl := hw.symm
    clear HA
    go_wp2_with fail
    refine HG.out.mono ?_
    rintro e w2 ⟨rfl, rfl⟩
    go_wp2_with fail
    go_ret2
    exact ⟨rfl, F.out, V.out, World.size_setCell _ _ _⟩
set_option maxRecDepth 100000 in
set_option maxHeartbeats 3200000 in
theorem get_some {w : World} {g r : Nat} {m h s : Int} {a b : List Nd} {p : Nat} {x : Kv} (H : CacheAt w g r m (a ++ (p, x) :: b) h s) (h0 : 0 ≤ h) (h1 : h ≤ 4611686018427387904) :
    Calls Try.prog 12 #[.pointer (some ⟨g, 0, none⟩), .int .i64 x.lba, .int .i64 x.ver] w fun e w' => (∃ A c, e = .returned (.tuple #[.slice A 16 c, .bool true]) ∧ Owns cb 5 0 w' (.slice A 16 c) 16 x.txt) ∧ CacheAt w' g r m ((p, x) :: (a ++ b)) (h + 1) s ∧ Mov (foot g r (a ++ (p, x) :: b)) w w' := by
  have HC := Lib.hid H
  have HA := fun w => Lib.hid (asked_any g w)
  have HG := Lib.hid (add_any (H.dl.head.cells.2.2.2.2.1) (H.dl.head.frozen 4) h0 h1)
  have hget := run_at_get H.map x.lba
  rw [who_mid (y := (p, x)) H.keys] at hget
  replace hget : (Instr.lookup 49 (.map (some r)) (.int .i64 x.lba) false).run Try.prog w = .ok (.pointer (some ⟨p, 0, none⟩)) w := hget
  have c1 := H.dl.head.cells.2.1
  have hng := H.dl.head.ne_seg H.dl.seg
  have F : Hid (CacheAt (w.setCell ⟨g, 4, none⟩ (.int .i64 (h + 1))) g r m (a ++ (p, x) :: b) (h + 1) s) := ⟨⟨H.dl.head.set4 _, H.dl.seg.other hng 4 _, H.dl.nod⟩, H.map.keep (Below.heap_setCell _ _ _ _ (fun e => (nodup_blk H) (by rw [show r = g from e]; exact List.mem_cons_self))), H.keys⟩
  have V : Hid (Mov (foot g r (a ++ (p, x) :: b)) w (w.setCell ⟨g, 4, none⟩ (.int .i64 (h + 1)))) := Mov.set1 w List.mem_cons_self 4 _
  have cv := (Seg.node (p := p) (x := x) H.dl.seg).cells.2.1
  have hb : (x.ver != x.ver) = false := by simp
  have hwh := run_whole p
  clear H hng
  go_enter Try.func12, Try.ntmps12
  go_wp2_with fail
  refine (HA _).out.mono ?_
  rintro e w1 ⟨rfl, hw⟩
  obtain rfl := hw.symm
  clear HA
  go_wp2_with fail
  refine HG.out.mono ?_
  rintro e w2 ⟨rfl, rfl⟩
  clear HG hget c1 cv hb
  generalize w.setCell ⟨g, 4, none⟩ (.int .i64 (h + 1)) = w2 at *
  have HO := Lib.hid (out_any F.out.dl)
  go_wp2_with fail
  refine HO.out.mono ?_
  rintro e w3 ⟨rfl, hD, hN, hV, hz⟩
  clear HO
  obtain ⟨n1, n2, n3, n4, n5, n6⟩ := nodup_parts F.out.dl.nod
  have HP := Lib.hid (putFirst_any hD hN (by simp only [blk, List.map_append, List.mem_append]; exact fun h => h.elim n3 n4))
  clear n1 n2 n3 n4 n5 n6
  have SB : Hid (∀ q ∈ g :: p :: blk (a ++ b), q ∈ g :: blk (a ++ (p, x) :: b)) := fun q hq => by
    simp only [blk, List.map_append, List.map_cons, List.mem_cons, List.mem_append] at hq ⊢
    rcases hq with h | h | h | h
    · exact .inl h
    · exact .inr (.inr (.inl h))
    · exact .inr (.inl h)
    · exact .inr (.inr (.inr h))
  have V3 := Lib.hid (hV.mono (T := g :: blk (a ++ (p, x) :: b)) fun q hq => .inl (SB.out q ((List.mem_cons.1 hq).elim (fun e => by rw [e]; exact List.mem_cons_self) (fun hq => List.mem_cons_of_mem _ (List.mem_cons_of_mem _ hq)))))
  clear hD hN hV hz
  go_wp2_with fail
  refine HP.out.mono ?_
  rintro e w4 ⟨rfl, hD4, hV4, hz4⟩
  have V4 := Lib.hid (V3.out.trans hV4 fun q hq => .inl (SB.out q hq))
  have A4 := Lib.hid (F.out.map.keep (V4.out.block r F.out.map.lt (nodup_blk F.out)))
  have D4 := Lib.hid hD4
  have HT := Lib.hid (clone_text hD4.seg.1.text (by omega))
  have V5 := Lib.hid (V.out.trans (mov_foot V4.out) (fun q hq => .inl hq))
  have KK : Hid (lbas ((p, x) :: (a ++ b))).Nodup := List.nodup_cons.2 ⟨by
    have h := lbas_parts F.out.keys
    simp only [List.map_append, List.mem_append]
    exact fun hm => hm.elim h.1 h.2.1, (lbas_parts F.out.keys).2.2⟩
  clear hD4 hV4 hz4 HP
  go_wp2_with fail
  refine HT.out.mono ?_
  rintro e w5 ⟨⟨B, d, rfl, hR⟩, hb⟩
  have hR5 := Lib.hid hR
  have V6 := Lib.hid (V5.out.trans (Mov.of_below (foot g r (a ++ (p, x) :: b)) hb) (fun q hq => .inl hq))
  have C5 : Hid (CacheAt w5 g r m ((p, x) :: (a ++ b)) (h + 1) s) := (show CacheAt w4 g r m ((p, x) :: (a ++ b)) (h + 1) s from ⟨D4.out, by
    obtain ⟨K, k1, k2, k3⟩ := A4.out.at_
    refine ⟨K, k1, fun n => ?_, by simp only [List.length_cons, List.length_append] at k3 ⊢; omega⟩
    rw [k2, who_cons, who_out F.out.keys]
    by_cases e : n = x.lba
    · rw [e, if_pos rfl, who_mid (y := (p, x)) F.out.keys]
    · rw [if_neg (fun h => e h.symm), if_neg e], KK.out⟩).below hb
  clear hR hb
  go_wp2_with fail
  go_ret2
  exact ⟨⟨_, _, rfl, hR5.out⟩, C5.out, V6.out⟩
end Cac
end Go.Proofs.Ytfngebikihdogaa
