/-
  SEVERAL TEXTS IN ONE FILE: NetDCopy, NetDTake, NetDCut, NetDWrite, NetDSend, NetDLater, NetDDouble.
-/
import Derived.Test.YtamahknnppjegaaNetGot
import Derived.Test.YtamahknnppjegaaNetSame
import Derived.Test.YtamahknnppjegaaOwnB
import Derived.Test.YtamahknnppjegaaNetRowM
import Derived.Test.YtamahknnppjegaaNetSend
import Derived.Test.YtamahknnppjegaaNetWrite
import Derived.Test.YtamahknnppjegaaNetDMsg
/-
  WALKS: the document's Copy, New, To.
-/
namespace Go.Proofs.Ytamahknnppjegaa
open Go.RowKit Mem Box
namespace Net
open Wire (B8 info_int asInts asInts_append)

/-- What a call gave: a row of messages of its own. -/
def GaveL (w : World) (pl : List Mp) (e : Ending) (w' : World) : Prop :=
  ∃ Q n c l, e = .returned (.slice Q n c) ∧ OwnN w.heap.size w.heap.size w' (.slice Q n c) n l ∧ l.map Mx.p = pl ∧ Below w.heap.size w w'
set_option maxRecDepth 100000 in
set_option maxHeartbeats 6400000 in
theorem copy_any {w : World} {Q : Option Addr} {n c : Nat} {l : List Mx} (h : NetAt w Q n c l) (hn : n ≤ 10000) :
    Calls Try.prog 16 #[.slice Q n c] w (GaveL w (l.map Mx.p)) := by
  have HN := Lib.hid h
  have hlen := Lib.hid h.row.len
  clear h
  go_enter Try.func16, Try.ntmps16
  go_wp2_with fail
  go_loopw [3, 5, 8] (fun s _ t wr => ∃ (k : Nat) (R : Option Addr) (d : Nat) (lo : List Mx), t = .int .i64 k ∧ s = .slice R k d ∧ k ≤ n ∧ Hid (Below w.heap.size w wr) ∧ Hid (OwnN w.heap.size w.heap.size wr (.slice R k d) k lo) ∧ Hid (lo.map Mx.p = (l.map Mx.p).take k)) (fun _ _ t _ => n - (intOf t).toNat)
  case atStart => exact ⟨0, none, 0, [], rfl, rfl, by omega, Below.refl _ _, OwnN.nil _ _ _, rfl⟩
  case round =>
    obtain ⟨k, R, dd, lo, rfl, rfl, hk, L1, O1, P1⟩ := hrel
    by_cases hlt : k < n
    · obtain ⟨x, hx, hxm⟩ := HN.out.get hlt
      obtain ⟨b2, o2, hQ, hb2, hcs⟩ := HN.out.cells hx
      subst hQ
      obtain ⟨c0, c1, c2, c3, c4, c5⟩ := hcs wr L1.out
      have hk0 : (0 : Int) ≤ (k : Int) := by omega
      have hkn : (k : Int) < (n : Int) := by omega
      have hxp : (l.map Mx.p)[k]? = some x.p := by rw [List.getElem?_map, hx]; rfl
      have HXP := Lib.hid hxp
      have HXM := Lib.hid hxm
      have hxn : x.n ≤ 17592186044416 := by have h1 := hxm.fits.2.2; have h2 := hxm.ints.len; simp only [Mx.p] at h1; omega
      have hxb : x.m ≤ 140737488351232 := hxm.text.big
      clear hx hxm hcs hb2 hxp
      go_upto_region 5 with fail
      have A2 : Below wr.heap.size wr (wr.alloc (.cells #[.int .i64 x.k, .int .i64 x.f, .int .i64 x.t, .int .i64 x.i, .slice x.A x.n x.c, .slice x.B x.m x.d] 39)) := (Below.refl _ wr).alloc (Nat.le_refl _) _
      have L2 := Lib.hid (L1.out.trans (A2.mono L1.out.size))
      have O2 := Lib.hid (O1.out.below A2)
      have X2 : Hid (MBox (wr.alloc (.cells #[.int .i64 x.k, .int .i64 x.f, .int .i64 x.t, .int .i64 x.i, .slice x.A x.n x.c, .slice x.B x.m x.d] 39)) wr.heap.size x) := Cells.new _ _ _
      have HPL : Hid (w.heap.size ≤ wr.heap.size) := L1.out.size
      obtain ⟨p, hp⟩ : ∃ p, p = wr.heap.size := ⟨_, rfl⟩
      have OL : Hid (∀ q, (Value.slice R k dd).ownBlock = some q → q < p) := fun q hq => by rw [hp]; exact (O1.out.own.lt q hq).2
      have OB : Hid (∀ z ∈ lo, ∀ q, Bl z q → q < p) := fun z hz q hq => by rw [hp]; exact (O1.out.at_ z hz).lt hq
      rw [← hp] at X2 HPL
      rw [← hp]
      clear A2 hp L1 O1 c0 c1 c2 c3 c4 c5
      generalize wr.alloc (.cells #[.int .i64 x.k, .int .i64 x.f, .int .i64 x.t, .int .i64 x.i, .slice x.A x.n x.c, .slice x.B x.m x.d] 39) = w2 at *
      have x4 := (MBox.cells X2.out).2.2.2.2.1
      have RI := Lib.hid (HXM.out.ints.below L2.out)
      have NX : Hid (p < w2.heap.size) := X2.out.lt
      go_upto_region 6 with (first
        | (at_builtin
           refine wpList_append_row ci_one Try.underlying37 info_int rfl rfl (.const (.slice none 0 0)) (.tmp 13) rfl rfl w2.heap.size (.slice none 0 0) 0 [] rfl (Owns.nil _ _ _ _) x.A x.n x.c x.a rfl RI.out (by omega) (by omega) (Nat.le_refl _) ?_
           intro A' c' w3 h1 h2
           rw [List.nil_append, Nat.zero_add] at h1
           rw [Nat.zero_add]
           have I3 := Lib.hid h1
           have L3 := Lib.hid (L2.out.trans (h2.mono L2.out.size))
           have O3 := Lib.hid (O2.out.below h2)
           have X3 := Lib.hid (Cells.below X2.out h2)
           have HS23 : Hid (w2.heap.size ≤ w3.heap.size) := h2.size
           have y4 := (MBox.cells X3.out).2.2.2.2.1
           have f4 := (six_free X3.out).2.2.2.2.1
           clear h1 h2 x4)
        | fail)
      have bt : Mov [p] w3 (w3.setCell ⟨p, 4, none⟩ (.slice A' x.n c')) := Mov.set1 w3 (by simp) 4 _
      have X4 : Hid (MBox (w3.setCell ⟨p, 4, none⟩ (.slice A' x.n c')) p ⟨x.k, x.f, x.t, x.i, A', x.n, c', x.a, x.B, x.m, x.d, x.x⟩) := by show Cells _ _ _ _; simpa using Cells.set_ X3.out 4 (.slice A' x.n c')
      have L4 := Lib.hid (L3.out.trans (bt.up L3.out.size HPL.out))
      have I4 := Lib.hid (owns_mov I3.out X3.out (by decide) bt)
      have O4 := Lib.hid (O3.out.mov_ (fun e => by have := OL.out _ e; omega) (fun z hz q hq => by have := OB.out z hz q hq; omega) bt)
      have HS24 : Hid (w2.heap.size ≤ (w3.setCell ⟨p, 4, none⟩ (.slice A' x.n c')).heap.size) := Nat.le_trans HS23.out bt.size
      clear bt y4 f4 X3 L3 I3 O3 X2 L2 O2 RI HS23
      generalize w3.setCell ⟨p, 4, none⟩ (.slice A' x.n c') = w4 at *
      have x5 := (MBox.cells X4.out).2.2.2.2.2
      dsimp only at x5
      have RT := Lib.hid (HXM.out.text.below L4.out)
      go_upto_region 7 with (first
        | (at_builtin
           refine wpList_append_row cb_one Try.underlying23 info_byte rfl rfl (.const (.slice none 0 0)) (.tmp 17) rfl rfl w4.heap.size (.slice none 0 0) 0 [] rfl (Owns.nil _ _ _ _) x.B x.m x.d x.x rfl RT.out (by omega) (by omega) (Nat.le_refl _) ?_
           intro B' d' w5 h1 h2
           rw [List.nil_append, Nat.zero_add] at h1
           rw [Nat.zero_add]
           have T5 := Lib.hid h1
           have L5 := Lib.hid (L4.out.trans (h2.mono L4.out.size))
           have O5 := Lib.hid (O4.out.below h2)
           have I5 := Lib.hid (Owns.below I4.out h2)
           have X5 := Lib.hid (Cells.below X4.out h2)
           have y5 := (MBox.cells X5.out).2.2.2.2.2
           have f5 := (six_free X5.out).2.2.2.2.2
           clear h1 h2 x5)
        | fail)
      have bt : Mov [p] w5 (w5.setCell ⟨p, 5, none⟩ (.slice B' x.m d')) := Mov.set1 w5 (by simp) 5 _
      have X6 : Hid (MBox (w5.setCell ⟨p, 5, none⟩ (.slice B' x.m d')) p ⟨x.k, x.f, x.t, x.i, A', x.n, c', x.a, B', x.m, d', x.x⟩) := by show Cells _ _ _ _; simpa using Cells.set_ X5.out 5 (.slice B' x.m d')
      have L6 := Lib.hid (L5.out.trans (bt.up L5.out.size HPL.out))
      have I6 := Lib.hid (owns_mov I5.out X5.out (by decide) bt)
      have T6 := Lib.hid (owns_mov T5.out X5.out (by decide) bt)
      have O6 := Lib.hid (O5.out.mov_ (fun e => by have := OL.out _ e; omega) (fun z hz q hq => by have := OB.out z hz q hq; omega) bt)
      clear bt y5 f5 X5 L5 I5 O5 X4 L4 I4 O4 RT T5
      generalize w5.setCell ⟨p, 5, none⟩ (.slice B' x.m d') = w6 at *
      have M6 := Lib.hid (made_msg I6.out (T6.out.mono HS24.out) HXM.out.fits hxb)
      obtain ⟨n0, n1, n2, n3, n4, n5⟩ := MBox.cells X6.out
      dsimp only at n0 n1 n2 n3 n4 n5
      have bb : Below w6.heap.size w6 (w6.alloc (.cells #[.int .i64 x.k, .int .i64 x.f, .int .i64 x.t, .int .i64 x.i, .slice A' x.n c', .slice B' x.m d'] 39)) := (Below.refl _ w6).alloc (Nat.le_refl _) _
      have L7 := Lib.hid (L6.out.trans (bb.mono L6.out.size))
      have O7 := Lib.hid (O6.out.below bb)
      have R7 := Lib.hid (one_msg w6 ⟨x.k, x.f, x.t, x.i, A', x.n, c', x.a, B', x.m, d', x.x⟩)
      have M7 := Lib.hid (M6.out.1.below bb)
      clear bb
      go_wp2_with (first
        | (at_builtin
           refine OwnS.wpList_append fitM Try.underlying26 info_msg rfl (by omega) rfl (.tmp 20) (.tmp 22) rfl rfl w.heap.size (.slice R k dd) k lo rfl O7.out.own _ 1 1 [⟨x.k, x.f, x.t, x.i, A', x.n, c', x.a, B', x.m, d', x.x⟩] rfl R7.out (by omega) L7.out.size ?_
           intro R' e' w8 ho hg hn'
           have L8 := Lib.hid (L7.out.trans (OwnS.below_row O7.out.own hg L7.out.size))
           have O8 := Lib.hid (O7.out.more ho hg hn' (fun y hy => by
             obtain rfl := List.mem_singleton.1 hy
             exact ⟨M7.out, fun q hq => by have h1 := M6.out.2 q hq; have h2 := HPL.out; have h3 := NX.out; omega, fun q hq e => by have h1 := M6.out.2 q hq; have h2 := OL.out _ e; have h3 := NX.out; omega⟩))
           clear ho hg hn')
        | fail)
      go_roundw
      case rel => exact ⟨k + 1, R', e', lo ++ [⟨x.k, x.f, x.t, x.i, A', x.n, c', x.a, B', x.m, d', x.x⟩], by go_num, rfl, by omega, L8, O8, by show _ = _; rw [List.map_append, P1.out, List.take_add_one, HXP.out]; rfl⟩
      case measure => simp [intOf]; omega
    · have hkn : k = n := by omega
      subst hkn
      go_wp2_with fail
      go_ret
      exact ⟨R, k, dd, lo, rfl, O1.out, by rw [P1.out, List.take_of_length_le (by rw [List.length_map, hlen.out]; omega)], L1.out⟩

set_option maxRecDepth 100000 in
set_option maxHeartbeats 1600000 in
theorem docNew_any (most : Int) (w : World) : Calls Try.prog 12 #[.int .i64 most] w fun e w' => e = .returned (.tuple #[.agg #[.int .i64 (bif newB most then 0 else most), .slice none 0 0], .int .i64 (bif newB most then 1 else 0)]) ∧ Below w.heap.size w w' := by
  have L1 : Hid (Below w.heap.size w (w.alloc (.cells #[.int .i64 0, .slice none 0 0] 28))) := (Below.refl _ w).alloc (Nat.le_refl _) _
  have Z1 : Hid (NBox (w.alloc (.cells #[.int .i64 0, .slice none 0 0] 28)) w.heap.size 0 none 0 0) := Cells.new _ _ _
  go_enter Try.func12, Try.ntmps12
  go_upto_region 1 with fail
  generalize w.alloc (.cells #[.int .i64 0, .slice none 0 0] 28) = w1 at *
  obtain ⟨z0, z1⟩ := NBox.cells Z1.out
  have f0 := Cells.frozen Z1.out 0
  have f1 := Cells.frozen Z1.out 1
  have FIN : ∀ (v : Int), Below w.heap.size w ((w1.setCell ⟨w.heap.size, 0, none⟩ (.int .i64 v)).setCell ⟨w.heap.size, 1, none⟩ (.slice none 0 0)) := fun v => L1.out.trans ((Mov.set2 w1 w.heap.size (.int .i64 v) (.slice none 0 0)).up L1.out.size (Nat.le_refl _))
  rcases e1 : decide (most < 1)
  · rcases e2 : decide ((4096 : Int) < most)
    · go_wp2_with fail
      refine bodyPost_ret_by (results_c1 rfl _ _ w.heap.size _ _ _ _ rfl (Cells.set2 Z1.out (.int .i64 most) (.slice none 0 0)) Try.underlying28 rfl (by kernel_rfl)) rfl ?_
      exact ⟨by unfold newB; rw [e1, e2]; rfl, FIN most⟩
    · go_wp2_with fail
      refine bodyPost_ret_by (results_c1 rfl _ _ w.heap.size _ _ _ _ rfl (Cells.set2 Z1.out (.int .i64 0) (.slice none 0 0)) Try.underlying28 rfl (by kernel_rfl)) rfl ?_
      exact ⟨by unfold newB; rw [e1, e2]; rfl, FIN 0⟩
  · go_wp2_with fail
    refine bodyPost_ret_by (results_c1 rfl _ _ w.heap.size _ _ _ _ rfl (Cells.set2 Z1.out (.int .i64 0) (.slice none 0 0)) Try.underlying28 rfl (by kernel_rfl)) rfl ?_
    exact ⟨by unfold newB; rw [e1]; rfl, FIN 0⟩

set_option maxRecDepth 100000 in
set_option maxHeartbeats 3200000 in
theorem docTo_any {w : World} {cap : Nat} {Q : Option Addr} {n c : Nat} {l : List Mx} (h : NetAt w Q n c l) (hn : n ≤ 5000) (node : Int) :
    Calls Try.prog 22 #[nv cap Q n c, .int .i64 node] w (GaveP (toP (l.map Mx.p) node) w) := by
  have HN := Lib.hid h
  have hlen := Lib.hid h.row.len
  have L0 : Hid (Below w.heap.size w (w.alloc (.cells #[.int .i64 (cap : Int), .slice Q n c] 28))) := (Below.refl _ w).alloc (Nat.le_refl _) _
  have X0 : Hid (NBox (w.alloc (.cells #[.int .i64 (cap : Int), .slice Q n c] 28)) w.heap.size cap Q n c) := Cells.new _ _ _
  clear h
  unfold nv
  go_enter Try.func22, Try.ntmps22
  go_upto_region 1 with fail
  generalize w.alloc (.cells #[.int .i64 (cap : Int), .slice Q n c] 28) = w1 at *
  obtain ⟨k0, k1⟩ := NBox.cells X0.out
  go_wp2_with fail
  clear k0 k1
  go_loopw [5, 6, 7, 11] (fun s _ _ t wr => ∃ (k j : Nat) (R : Option Addr) (d : Nat), t = .int .i64 k ∧ s = .slice R j d ∧ k ≤ n ∧ j ≤ k ∧ Hid (Below w.heap.size w wr) ∧ Hid (Owns ci 3 w.heap.size wr (.slice R j d) j (asInts (placesP k (fun i => ((l.map Mx.p)[i]?).any fun x => x.t == node))))) (fun _ _ _ t _ => n - (intOf t).toNat)
  case atStart => exact ⟨0, 0, none, 0, rfl, rfl, by omega, by omega, L0.out, Owns.nil _ _ _ _⟩
  case round =>
    clear L0 X0
    obtain ⟨k, j, R, dd, rfl, rfl, hk, hjk, L1, O1⟩ := hrel
    by_cases hlt : k < n
    · obtain ⟨x, hx, hxm⟩ := HN.out.get hlt
      obtain ⟨b2, o2, hQ, hb2, hcs⟩ := HN.out.cells hx
      subst hQ
      obtain ⟨c0, c1, c2, c3, c4, c5⟩ := hcs wr L1.out
      have hk0 : (0 : Int) ≤ (k : Int) := by omega
      have hkn : (k : Int) < (n : Int) := by omega
      have hst : placesP (k + 1) (fun i => ((l.map Mx.p)[i]?).any fun x => x.t == node) = placesP k (fun i => ((l.map Mx.p)[i]?).any fun x => x.t == node) ++ (bif x.t == node then [k] else []) := by
        unfold placesP
        rw [List.range_succ, List.filter_append, List.filter_cons]
        have e : ((l.map Mx.p)[k]?).any (fun x => x.t == node) = (x.t == node) := by rw [List.getElem?_map, hx]; rfl
        rw [e]
        rcases (x.t == node) <;> rfl
      have HST := Lib.hid hst
      have A2 : Below wr.heap.size wr (wr.alloc (.cells #[.int .i64 x.k, .int .i64 x.f, .int .i64 x.t, .int .i64 x.i, .slice x.A x.n x.c, .slice x.B x.m x.d] 39)) := (Below.refl _ wr).alloc (Nat.le_refl _) _
      have L2 := Lib.hid (L1.out.trans (A2.mono L1.out.size))
      have O2 := Lib.hid (Owns.below O1.out A2)
      have X2 : Hid (MBox (wr.alloc (.cells #[.int .i64 x.k, .int .i64 x.f, .int .i64 x.t, .int .i64 x.i, .slice x.A x.n x.c, .slice x.B x.m x.d] 39)) wr.heap.size x) := Cells.new _ _ _
      clear hx hxm hcs hb2 hst A2 L1 O1
      go_upto_region 5 with fail
      clear c0 c1 c2 c3 c4 c5
      obtain ⟨p, hp⟩ : ∃ p, p = wr.heap.size := ⟨_, rfl⟩
      rw [← hp] at X2
      rw [← hp]
      clear hp
      generalize wr.alloc (.cells #[.int .i64 x.k, .int .i64 x.f, .int .i64 x.t, .int .i64 x.i, .slice x.A x.n x.c, .slice x.B x.m x.d] 39) = w2 at *
      obtain ⟨n0, n1, n2, n3, n4, n5⟩ := MBox.cells X2.out
      rcases e1 : (x.t == node)
      · go_wp2_with fail
        go_roundw
        case rel => exact ⟨k + 1, j, R, dd, by go_num, rfl, by omega, by omega, L2, by show Owns _ _ _ _ _ _ _; rw [HST.out, e1, cond_false, List.append_nil]; exact O2.out⟩
        case measure => simp [intOf]; omega
      · have bb : Below w2.heap.size w2 (w2.alloc (.cells #[.int .i64 (k : Int)] 3)) := (Below.refl _ w2).alloc (Nat.le_refl _) _
        have L3 := Lib.hid (L2.out.trans (bb.mono L2.out.size))
        have O3 := Lib.hid (Owns.below O2.out bb)
        have R3 := Lib.hid (rowI_one w2 (k : Int))
        clear bb
        go_wp2_with (first
          | (at_builtin
             refine wpList_append_row ci_one Try.underlying37 info_int rfl rfl (.tmp 20) (.tmp 22) rfl rfl w.heap.size (.slice R j dd) j _ rfl O3.out _ 1 1 [(k : Int)] rfl R3.out (by omega) (by omega) L3.out.size ?_
             intro R' d' w4 h1 h2
             have O4 := Lib.hid h1
             have L4 := Lib.hid (L3.out.trans h2)
             clear h1 h2)
          | fail)
        go_roundw
        case rel => exact ⟨k + 1, j + 1, R', d', by go_num, rfl, by omega, by omega, L4, by show Owns _ _ _ _ _ _ _; rw [HST.out, e1, cond_true, asInts_append]; exact O4.out⟩
        case measure => simp [intOf]; omega
    · have hkn : k = n := by omega
      subst hkn
      go_wp2_with fail
      go_ret
      exact ⟨⟨R, j, dd, rfl, by unfold toP; rw [List.length_map, hlen.out]; exact O1.out⟩, L1.out⟩
end Net
end Go.Proofs.Ytamahknnppjegaa
/-
  WALKS: the document's Take, Drop, Later.
-/
namespace Go.Proofs.Ytamahknnppjegaa
open Go.RowKit Mem Box
namespace Net
open Wire (B8 info_int asInts asInts_append)

/-- What the document's Take gave. -/
def GotW (w : World) (R : Nat × List Mp × Mp × Int) (e : Ending) (w' : World) : Prop :=
  ∃ Q n c l y, e = .returned (.tuple #[nv R.1 Q n c, mxv y, .int .i64 R.2.2.2]) ∧ OwnN w.heap.size w.heap.size w' (.slice Q n c) n l ∧ l.map Mx.p = R.2.1 ∧ y.p = R.2.2.1 ∧ MAt w' y ∧ New w.heap.size y ∧ (∀ q, Bl y q → (Value.slice Q n c).ownBlock ≠ some q) ∧ Below w.heap.size w w'
set_option maxRecDepth 100000 in
set_option maxHeartbeats 3200000 in
theorem docTake_bad {cap : Nat} {Q : Option Addr} {n c : Nat} {i : Int} (hi : hasB n i = false) (w : World) :
    Calls Try.prog 39 #[nv cap Q n c, .int .i64 i] w fun e w' => e = .returned (.tuple #[nv 0 none 0 0, mxv zeroX, .int .i64 4]) ∧ Below w.heap.size w w' := by
  have L1 : Hid (Below w.heap.size w (((w.alloc (.cells #[.int .i64 (cap : Int), .slice Q n c] 28)).alloc (.cells #[.int .i64 0, .slice none 0 0] 28)).alloc (.cells #[.int .i64 0, .int .i64 0, .int .i64 0, .int .i64 0, .slice none 0 0, .slice none 0 0] 39))) := ((((Below.refl _ w).alloc (by first | exact Nat.le_refl _ | (simp; try omega)) _).alloc (by first | exact Nat.le_refl _ | (simp; try omega)) _).alloc (by first | exact Nat.le_refl _ | (simp; try omega)) _)
  have X1 : Hid (Cells (((w.alloc (.cells #[.int .i64 (cap : Int), .slice Q n c] 28)).alloc (.cells #[.int .i64 0, .slice none 0 0] 28)).alloc (.cells #[.int .i64 0, .int .i64 0, .int .i64 0, .int .i64 0, .slice none 0 0, .slice none 0 0] 39)) (w.heap.size) 28 #[.int .i64 (cap : Int), .slice Q n c]) := by
    have := Cells.new w #[.int .i64 (cap : Int), .slice Q n c] 28
    (try simp only [World.size_alloc] at this)
    exact (Cells.alloc (Cells.alloc this _) _)
  have Z1 : Hid (Cells (((w.alloc (.cells #[.int .i64 (cap : Int), .slice Q n c] 28)).alloc (.cells #[.int .i64 0, .slice none 0 0] 28)).alloc (.cells #[.int .i64 0, .int .i64 0, .int .i64 0, .int .i64 0, .slice none 0 0, .slice none 0 0] 39)) (w.heap.size + 1) 28 #[.int .i64 0, .slice none 0 0]) := by
    have := Cells.new (w.alloc (.cells #[.int .i64 (cap : Int), .slice Q n c] 28)) #[.int .i64 0, .slice none 0 0] 28
    (try simp only [World.size_alloc] at this)
    exact (Cells.alloc this _)
  have Y1 : Hid (Cells (((w.alloc (.cells #[.int .i64 (cap : Int), .slice Q n c] 28)).alloc (.cells #[.int .i64 0, .slice none 0 0] 28)).alloc (.cells #[.int .i64 0, .int .i64 0, .int .i64 0, .int .i64 0, .slice none 0 0, .slice none 0 0] 39)) (w.heap.size + 2) 39 #[.int .i64 0, .int .i64 0, .int .i64 0, .int .i64 0, .slice none 0 0, .slice none 0 0]) := by
    have := Cells.new ((w.alloc (.cells #[.int .i64 (cap : Int), .slice Q n c] 28)).alloc (.cells #[.int .i64 0, .slice none 0 0] 28)) #[.int .i64 0, .int .i64 0, .int .i64 0, .int .i64 0, .slice none 0 0, .slice none 0 0] 39
    (try simp only [World.size_alloc] at this)
    exact this
  have SZ : Hid ((((w.alloc (.cells #[.int .i64 (cap : Int), .slice Q n c] 28)).alloc (.cells #[.int .i64 0, .slice none 0 0] 28)).alloc (.cells #[.int .i64 0, .int .i64 0, .int .i64 0, .int .i64 0, .slice none 0 0, .slice none 0 0] 39)).heap.size = w.heap.size + 3) := by show _ = _; simp
  clear SZ
  have hcase : i < 0 ∨ ((0 : Int) ≤ i ∧ (n : Int) ≤ i) := by unfold hasB at hi; simp at hi; omega
  unfold nv mxv at *
  go_enter Try.func39, Try.ntmps39
  go_upto_region 1 with fail
  generalize (((w.alloc (.cells #[.int .i64 (cap : Int), .slice Q n c] 28)).alloc (.cells #[.int .i64 0, .slice none 0 0] 28)).alloc (.cells #[.int .i64 0, .int .i64 0, .int .i64 0, .int .i64 0, .slice none 0 0, .slice none 0 0] 39)) = w1 at *
  obtain ⟨k0, k1⟩ := NBox.cells X1.out
  obtain ⟨z0, z1⟩ := NBox.cells Z1.out
  have f0 := Cells.frozen Z1.out 0
  have f1 := Cells.frozen Z1.out 1
  have b1 := Mov.set2 w1 (w.heap.size + 1) (.int .i64 0) (.slice none 0 0)
  have HZ := Cells.set2 Z1.out (.int .i64 0) (.slice none 0 0)
  have HY := Cells.mov Y1.out b1 (by simp)
  obtain ⟨s0, q0, s1, q1, s2, q2, s3, q3, s4, q4, s5, q5⟩ := six_steps HY (.int .i64 0) (.int .i64 0) (.int .i64 0) (.int .i64 0) (.slice none 0 0)
  have b2 := Mov.set6 ((w1.setCell ⟨w.heap.size + 1, 0, none⟩ (.int .i64 0)).setCell ⟨w.heap.size + 1, 1, none⟩ (.slice none 0 0)) (w.heap.size + 2) (.int .i64 0) (.int .i64 0) (.int .i64 0) (.int .i64 0) (.slice none 0 0) (.slice none 0 0)
  have FL := Lib.hid ((L1.out.trans (b1.up L1.out.size (by omega))).trans (b2.up (Nat.le_trans L1.out.size b1.size) (by omega)))
  have FZ := Lib.hid (Cells.mov HZ b2 (by simp))
  have FY := Lib.hid (Cells.set6 HY (.int .i64 0) (.int .i64 0) (.int .i64 0) (.int .i64 0) (.slice none 0 0) (.slice none 0 0))
  clear HZ HY b1 b2 L1 X1 Z1 Y1
  rcases hcase with hneg | ⟨hpos, hge⟩
  · have e1 : decide (i < 0) = true := decide_eq_true hneg
    go_wp2_with fail
    refine bodyPost_ret_by (results_cc1 rfl _ _ (w.heap.size + 1) (w.heap.size + 2) _ _ _ _ _ _ _ _ rfl FZ.out Try.underlying28 rfl (by kernel_rfl) rfl FY.out Try.underlying39 rfl (by kernel_rfl)) rfl ?_
    exact ⟨rfl, FL.out⟩
  · have e1 : decide (i < 0) = false := decide_eq_false (by omega)
    have e2 : decide ((n : Int) ≤ i) = true := decide_eq_true hge
    go_wp2_with fail
    refine bodyPost_ret_by (results_cc1 rfl _ _ (w.heap.size + 1) (w.heap.size + 2) _ _ _ _ _ _ _ _ rfl FZ.out Try.underlying28 rfl (by kernel_rfl) rfl FY.out Try.underlying39 rfl (by kernel_rfl)) rfl ?_
    exact ⟨rfl, FL.out⟩
set_option maxRecDepth 100000 in
set_option maxHeartbeats 6400000 in
theorem docTake_ok {w : World} {cap : Nat} {Q : Option Addr} {n c : Nat} {l : List Mx} (h : NetAt w Q n c l) (hn : n ≤ 5000) {j : Nat} {x : Mx} (hx : l[j]? = some x) :
    Calls Try.prog 39 #[nv cap Q n c, .int .i64 (j : Int)] w (GotW w (cap, (l.map Mx.p).eraseIdx j, x.p, 0)) := by
  have HN := Lib.hid h
  have hlen := h.row.len
  have HLN := Lib.hid hlen
  have hj : j < n := by rw [← hlen]; exact (List.getElem?_eq_some_iff.1 hx).1
  have HXP : Hid ((l.map Mx.p)[j]? = some x.p) := by show _ = _; rw [List.getElem?_map, hx]; rfl
  have HC := fun W (h : NetAt W Q n c l) => Lib.hid (copy_any h (by omega))
  have L1 : Hid (Below w.heap.size w (((w.alloc (.cells #[.int .i64 (cap : Int), .slice Q n c] 28)).alloc (.cells #[.int .i64 0, .slice none 0 0] 28)).alloc (.cells #[.int .i64 0, .int .i64 0, .int .i64 0, .int .i64 0, .slice none 0 0, .slice none 0 0] 39))) := ((((Below.refl _ w).alloc (by first | exact Nat.le_refl _ | (simp; try omega)) _).alloc (by first | exact Nat.le_refl _ | (simp; try omega)) _).alloc (by first | exact Nat.le_refl _ | (simp; try omega)) _)
  have X1 : Hid (Cells (((w.alloc (.cells #[.int .i64 (cap : Int), .slice Q n c] 28)).alloc (.cells #[.int .i64 0, .slice none 0 0] 28)).alloc (.cells #[.int .i64 0, .int .i64 0, .int .i64 0, .int .i64 0, .slice none 0 0, .slice none 0 0] 39)) (w.heap.size) 28 #[.int .i64 (cap : Int), .slice Q n c]) := by
    have := Cells.new w #[.int .i64 (cap : Int), .slice Q n c] 28
    (try simp only [World.size_alloc] at this)
    exact (Cells.alloc (Cells.alloc this _) _)
  have Z1 : Hid (Cells (((w.alloc (.cells #[.int .i64 (cap : Int), .slice Q n c] 28)).alloc (.cells #[.int .i64 0, .slice none 0 0] 28)).alloc (.cells #[.int .i64 0, .int .i64 0, .int .i64 0, .int .i64 0, .slice none 0 0, .slice none 0 0] 39)) (w.heap.size + 1) 28 #[.int .i64 0, .slice none 0 0]) := by
    have := Cells.new (w.alloc (.cells #[.int .i64 (cap : Int), .slice Q n c] 28)) #[.int .i64 0, .slice none 0 0] 28
    (try simp only [World.size_alloc] at this)
    exact (Cells.alloc this _)
  have Y1 : Hid (Cells (((w.alloc (.cells #[.int .i64 (cap : Int), .slice Q n c] 28)).alloc (.cells #[.int .i64 0, .slice none 0 0] 28)).alloc (.cells #[.int .i64 0, .int .i64 0, .int .i64 0, .int .i64 0, .slice none 0 0, .slice none 0 0] 39)) (w.heap.size + 2) 39 #[.int .i64 0, .int .i64 0, .int .i64 0, .int .i64 0, .slice none 0 0, .slice none 0 0]) := by
    have := Cells.new ((w.alloc (.cells #[.int .i64 (cap : Int), .slice Q n c] 28)).alloc (.cells #[.int .i64 0, .slice none 0 0] 28)) #[.int .i64 0, .int .i64 0, .int .i64 0, .int .i64 0, .slice none 0 0, .slice none 0 0] 39
    (try simp only [World.size_alloc] at this)
    exact this
  have SZ : Hid ((((w.alloc (.cells #[.int .i64 (cap : Int), .slice Q n c] 28)).alloc (.cells #[.int .i64 0, .slice none 0 0] 28)).alloc (.cells #[.int .i64 0, .int .i64 0, .int .i64 0, .int .i64 0, .slice none 0 0, .slice none 0 0] 39)).heap.size = w.heap.size + 3) := by show _ = _; simp
  have e1 : decide ((j : Int) < 0) = false := decide_eq_false (by omega)
  have e2 : decide (n ≤ j) = false := decide_eq_false (by omega)
  have hj0 : (0 : Int) ≤ (j : Int) := by omega
  have hjn : (j : Int) < (n : Int) := by omega
  clear h hx hlen
  unfold nv at *
  go_enter Try.func39, Try.ntmps39
  go_upto_region 4 with (first | (go_at_call 16; refine (HC _ (HN.out.below L1.out)).out.mono ?_; rintro e w2 ⟨Qc, nc, cc, lc, rfl, hO, hP, hb⟩; have L2 := Lib.hid (L1.out.trans (hb.mono L1.out.size)); have X2 := Lib.hid (Cells.below X1.out hb); have Z2 := Lib.hid (Cells.below Z1.out hb); have Y2 := Lib.hid (Cells.below Y1.out hb); have HO := Lib.hid hO; have HP := Lib.hid hP; have HLOW : Hid (∀ y ∈ lc, ∀ q, Bl y q → w.heap.size + 3 ≤ q) := (fun y hy q hq => by have h1 := hO.low y hy q hq; have h2 := SZ.out; omega); have hnc : n = nc := (by rw [← hO.len, ← List.length_map (f := Mx.p), hP, List.length_map]; exact HLN.out.symm); subst hnc; clear hb hO hP) | fail)
  clear L1 X1 Z1 Y1 SZ HC HN
  have NC := Lib.hid (HO.out.net (by omega))
  obtain ⟨z, hz, hzm⟩ := NC.out.get hj
  have HZP : Hid (z.p = x.p) := by
    have h1 : (lc.map Mx.p)[j]? = some z.p := by rw [List.getElem?_map, hz]; rfl
    rw [HP.out, HXP.out] at h1
    injection h1 with h1
    exact h1.symm
  have HZL : Hid (∀ q, Bl z q → w.heap.size + 3 ≤ q) := HLOW.out z (List.mem_of_getElem? hz)
  obtain ⟨b3, o3, hQ3, hb3, hcs⟩ := NC.out.cells hz
  subst hQ3
  obtain ⟨c0, c1, c2, c3, c4, c5⟩ := hcs w2 (Below.refl _ _)
  have A3 : Below w2.heap.size w2 (w2.alloc (.cells #[.int .i64 z.k, .int .i64 z.f, .int .i64 z.t, .int .i64 z.i, .slice z.A z.n z.c, .slice z.B z.m z.d] 39)) := (Below.refl _ w2).alloc (Nat.le_refl _) _
  have L3 := Lib.hid (L2.out.trans (A3.mono L2.out.size))
  have X3 := Lib.hid (Cells.below X2.out A3)
  have Z3 := Lib.hid (Cells.below Z2.out A3)
  have Y3 := Lib.hid (Cells.below Y2.out A3)
  have P3 : Hid (MBox (w2.alloc (.cells #[.int .i64 z.k, .int .i64 z.f, .int .i64 z.t, .int .i64 z.i, .slice z.A z.n z.c, .slice z.B z.m z.d] 39)) w2.heap.size z) := Cells.new _ _ _
  have NC3 := Lib.hid (NC.out.below A3)
  have M3 := Lib.hid (hzm.below A3)
  clear hz hzm hcs hb3
  go_upto_region 5 with fail
  clear c0 c1 c2 c3 c4 c5
  obtain ⟨p, hp⟩ : ∃ p, p = w2.heap.size := ⟨_, rfl⟩
  have GY : Hid (w.heap.size + 2 < p) := by show _ < _; rw [hp]; exact Cells.lt Y2.out
  rw [← hp] at P3
  rw [← hp]
  clear A3 hp L2 X2 Z2 Y2 NC HO
  generalize w2.alloc (.cells #[.int .i64 z.k, .int .i64 z.f, .int .i64 z.t, .int .i64 z.i, .slice z.A z.n z.c, .slice z.B z.m z.d] 39) = w3 at *
  have GP : Hid (p < w3.heap.size) := Cells.lt P3.out
  have BLE : Hid (w.heap.size ≤ w3.heap.size) := L3.out.size
  have ZBL : Hid (∀ q, Bl z q → q < w3.heap.size) := fun q hq => M3.out.lt hq
  obtain ⟨n0, hn0⟩ : ∃ x, x = j + (n - (j + 1)) := ⟨_, rfl⟩
  have hwr : IntKind.i64.wrap ((j : Int) + 1) = (j : Int) + 1 := by rw [IntKind.wrap_i64]; omega
  have hsl1 := fun w => run_headM (some ⟨b3, o3, none⟩) n cc j (by have := NC3.out.row.cap; omega) w
  have hsl2 : ∀ w, (Instr.slice 26 (.slice (some ⟨b3, o3, none⟩) n cc) (some (.int .i64 ((j : Int) + 1))) none none).run Try.prog w = .ok (.slice (tailM (some ⟨b3, o3, none⟩) cc (j + 1)) (n - (j + 1)) (cc - (j + 1))) w := fun w => run_tailM (some ⟨b3, o3, none⟩) n cc (j + 1) (by omega) w
  have D3 : Hid (Below w3.heap.size w3 w3) := Below.refl _ _
  have L4 := Lib.hid L3.out.drew
  have D4 := Lib.hid (D3.out.drew)
  have X4 := Lib.hid (Cells.below X3.out ((Below.refl _ w3).drew))
  have Z4 := Lib.hid (Cells.below Z3.out ((Below.refl _ w3).drew))
  have Y4 := Lib.hid (Cells.below Y3.out ((Below.refl _ w3).drew))
  have P4 := Lib.hid (Cells.below P3.out ((Below.refl _ w3).drew))
  have M4 := Lib.hid (MAt.below M3.out ((Below.refl _ w3).drew))
  refine wp_region_held_drew (S := fun W => W.cell? ⟨w.heap.size, 0, none⟩ = some (.int .i64 (cap : Int)) ∧ W.cell? ⟨p, 0, none⟩ = some (.int .i64 z.k) ∧ W.cell? ⟨p, 1, none⟩ = some (.int .i64 z.f) ∧ W.cell? ⟨p, 2, none⟩ = some (.int .i64 z.t) ∧ W.cell? ⟨p, 3, none⟩ = some (.int .i64 z.i) ∧ W.cell? ⟨p, 4, none⟩ = some (.slice z.A z.n z.c) ∧ W.cell? ⟨p, 5, none⟩ = some (.slice z.B z.m z.d)) (by kernel_rfl) (And.intro (NBox.cells X4.out).1 (MBox.cells P4.out)) (fun hHeld => ?_)
  generalize w3.drew = w4 at *
  clear L3 D3 X3 Z3 Y3 P3 M3 
  (first | (refine Reg.take 0 (v := ?_) rfl (by kernel_rfl) (by kernel_rfl) (by kernel_rfl) (fun _ _ _ h => h) (Or.inl ⟨by rfl, ?_⟩) (by assumption) ?_; rotate_left; (focus ((intro W hSW); (try dsimp only at hSW); (try go_split_ands); go_simp; (try (with_reducible rfl)); done))) | (refine Reg.take 0 (v := undef) rfl (by kernel_rfl) (by kernel_rfl) (by kernel_rfl) (fun _ _ _ h => h) (Or.inr ⟨by rfl, rfl⟩) (by assumption) ?_))
  (try simp only [Act.put, List.setIfInBounds_toArray, List.set_cons_zero, List.set_cons_succ])
  (first | (refine Reg.take 1 (v := ?_) rfl (by kernel_rfl) (by kernel_rfl) (by kernel_rfl) (fun _ _ _ h => h) (Or.inl ⟨by rfl, ?_⟩) (by assumption) ?_; rotate_left; (focus ((intro W hSW); (try dsimp only at hSW); (try go_split_ands); go_simp; (try (with_reducible rfl)); done))) | (refine Reg.take 1 (v := undef) rfl (by kernel_rfl) (by kernel_rfl) (by kernel_rfl) (fun _ _ _ h => h) (Or.inr ⟨by rfl, rfl⟩) (by assumption) ?_))
  (try simp only [Act.put, List.setIfInBounds_toArray, List.set_cons_zero, List.set_cons_succ])
  (first | (refine Reg.take 2 (v := ?_) rfl (by kernel_rfl) (by kernel_rfl) (by kernel_rfl) (fun _ _ _ h => h) (Or.inl ⟨by rfl, ?_⟩) (by assumption) ?_; rotate_left; (focus ((intro W hSW); (try dsimp only at hSW); (try go_split_ands); go_simp; (try (with_reducible rfl)); done))) | (refine Reg.take 2 (v := undef) rfl (by kernel_rfl) (by kernel_rfl) (by kernel_rfl) (fun _ _ _ h => h) (Or.inr ⟨by rfl, rfl⟩) (by assumption) ?_))
  (try simp only [Act.put, List.setIfInBounds_toArray, List.set_cons_zero, List.set_cons_succ])
  (first | (refine Reg.take 3 (v := ?_) rfl (by kernel_rfl) (by kernel_rfl) (by kernel_rfl) (fun _ _ _ h => h) (Or.inl ⟨by rfl, ?_⟩) (by assumption) ?_; rotate_left; (focus ((intro W hSW); (try dsimp only at hSW); (try go_split_ands); go_simp; (try (with_reducible rfl)); done))) | (refine Reg.take 3 (v := undef) rfl (by kernel_rfl) (by kernel_rfl) (by kernel_rfl) (fun _ _ _ h => h) (Or.inr ⟨by rfl, rfl⟩) (by assumption) ?_))
  (try simp only [Act.put, List.setIfInBounds_toArray, List.set_cons_zero, List.set_cons_succ])
  (first | (refine Reg.take 4 (v := ?_) rfl (by kernel_rfl) (by kernel_rfl) (by kernel_rfl) (fun _ _ _ h => h) (Or.inl ⟨by rfl, ?_⟩) (by assumption) ?_; rotate_left; (focus ((intro W hSW); (try dsimp only at hSW); (try go_split_ands); go_simp; (try (with_reducible rfl)); done))) | (refine Reg.take 4 (v := undef) rfl (by kernel_rfl) (by kernel_rfl) (by kernel_rfl) (fun _ _ _ h => h) (Or.inr ⟨by rfl, rfl⟩) (by assumption) ?_))
  (try simp only [Act.put, List.setIfInBounds_toArray, List.set_cons_zero, List.set_cons_succ])
  (first | (refine Reg.take 6 (v := ?_) rfl (by kernel_rfl) (by kernel_rfl) (by kernel_rfl) (fun _ _ _ h => h) (Or.inl ⟨by rfl, ?_⟩) (by assumption) ?_; rotate_left; (focus ((intro W hSW); (try dsimp only at hSW); (try go_split_ands); go_simp; (try (with_reducible rfl)); done))) | (refine Reg.take 6 (v := undef) rfl (by kernel_rfl) (by kernel_rfl) (by kernel_rfl) (fun _ _ _ h => h) (Or.inr ⟨by rfl, rfl⟩) (by assumption) ?_))
  (try simp only [Act.put, List.setIfInBounds_toArray, List.set_cons_zero, List.set_cons_succ])
  (first | (refine Reg.take 7 (v := ?_) rfl (by kernel_rfl) (by kernel_rfl) (by kernel_rfl) (fun _ _ _ h => h) (Or.inl ⟨by rfl, ?_⟩) (by assumption) ?_; rotate_left; (focus ((intro W hSW); (try dsimp only at hSW); (try go_split_ands); go_simp; (try (with_reducible rfl)); done))) | (refine Reg.take 7 (v := undef) rfl (by kernel_rfl) (by kernel_rfl) (by kernel_rfl) (fun _ _ _ h => h) (Or.inr ⟨by rfl, rfl⟩) (by assumption) ?_))
  (try simp only [Act.put, List.setIfInBounds_toArray, List.set_cons_zero, List.set_cons_succ])
  (first | (refine Reg.take 8 (v := ?_) rfl (by kernel_rfl) (by kernel_rfl) (by kernel_rfl) (fun _ _ _ h => h) (Or.inl ⟨by rfl, ?_⟩) (by assumption) ?_; rotate_left; (focus ((intro W hSW); (try dsimp only at hSW); (try go_split_ands); go_simp; (try (with_reducible rfl)); done))) | (refine Reg.take 8 (v := undef) rfl (by kernel_rfl) (by kernel_rfl) (by kernel_rfl) (fun _ _ _ h => h) (Or.inr ⟨by rfl, rfl⟩) (by assumption) ?_))
  (try simp only [Act.put, List.setIfInBounds_toArray, List.set_cons_zero, List.set_cons_succ])
  (try rw [hwr])
  (first | (refine Reg.take 9 (v := ?_) rfl (by kernel_rfl) (by kernel_rfl) (by kernel_rfl) (fun _ _ _ h => h) (Or.inl ⟨by rfl, ?_⟩) (by assumption) ?_; rotate_left; (focus ((intro W hSW); (try dsimp only at hSW); (try go_split_ands); go_simp; (try (with_reducible rfl)); done))) | (refine Reg.take 9 (v := undef) rfl (by kernel_rfl) (by kernel_rfl) (by kernel_rfl) (fun _ _ _ h => h) (Or.inr ⟨by rfl, rfl⟩) (by assumption) ?_))
  (try simp only [Act.put, List.setIfInBounds_toArray, List.set_cons_zero, List.set_cons_succ])
  (first | (refine Reg.take 12 (v := ?_) rfl (by kernel_rfl) (by kernel_rfl) (by kernel_rfl) (fun _ _ _ h => h) (Or.inl ⟨by rfl, ?_⟩) (by assumption) ?_; rotate_left; (focus ((intro W hSW); (try dsimp only at hSW); (try go_split_ands); go_simp; (try (with_reducible rfl)); done))) | (refine Reg.take 12 (v := undef) rfl (by kernel_rfl) (by kernel_rfl) (by kernel_rfl) (fun _ _ _ h => h) (Or.inr ⟨by rfl, rfl⟩) (by assumption) ?_))
  (try simp only [Act.put, List.setIfInBounds_toArray, List.set_cons_zero, List.set_cons_succ])
  refine Reg.step 5 rfl (by kernel_rfl) (by rfl) (fun K hK => ?_)
  have hown := OwnN.nil w.heap.size w3.heap.size w4
  refine OwnS.wp_append1 fitM Try.underlying26 info_msg rfl (by omega) (.const (.slice none 0 0)) (.tmp 31) rfl rfl w3.heap.size (.slice none 0 0) 0 ([]) rfl hown.own (some ⟨b3, o3, none⟩) j cc (lc.take j) rfl (row_head (NC3.out.row.below D4.out) (by omega)) (by omega) D4.out.size ?_
  intro A1 c1 w5 ho hg hn'
  have bl := OwnS.below_row hown.own hg D4.out.size
  have D5 := Lib.hid (D4.out.trans bl)
  have M5 := Lib.hid (M4.out.keepB bl.size (fun q hq => bl.block q (ZBL.out q hq)))
  have L5 := Lib.hid (L4.out.trans (bl.mono BLE.out))
  have X5 := Lib.hid (Cells.low X4.out (by have := GY.out; have := GP.out; omega) bl)
  have Z5 := Lib.hid (Cells.low Z4.out (by have := GY.out; have := GP.out; omega) bl)
  have Y5 := Lib.hid (Cells.low Y4.out (by have := GY.out; have := GP.out; omega) bl)
  have P5 := Lib.hid (Cells.low P4.out (by have := GP.out; omega) bl)
  have ow := hown.more ho hg hn' (fun y hy => ⟨((NC3.out.at_ y (List.mem_of_mem_take hy)).below D4.out), fun q hq => by have h1 := HLOW.out y (List.mem_of_mem_take hy) q hq; omega, fun q hq e => by have h1 := (NC3.out.at_ y (List.mem_of_mem_take hy)).lt hq; have h2 := (hown.own.lt q e).1; omega⟩)
  rw [Nat.zero_add, List.nil_append] at ow
  rw [Nat.zero_add]
  have O5 := Lib.hid ow
  clear ho hg hn' hown bl ow hHeld L4 D4 X4 Z4 Y4 P4 M4
  refine hK.out _ _ (And.intro (NBox.cells X5.out).1 (MBox.cells P5.out)) (fun hHeld => ?_)
  clear hK K
  (try simp only [Act.put, List.setIfInBounds_toArray, List.set_cons_zero, List.set_cons_succ])
  refine Reg.step 10 rfl (by kernel_rfl) (by rfl) (fun K hK => ?_)
  have hown := O5.out
  refine OwnS.wp_append1 fitM Try.underlying26 info_msg rfl (by omega) (.tmp 32) (.tmp 36) rfl rfl w3.heap.size (.slice A1 j c1) j (lc.take j) rfl hown.own (tailM (some ⟨b3, o3, none⟩) cc (j + 1)) (n - (j + 1)) (cc - (j + 1)) (lc.drop (j + 1)) rfl (row_tail (NC3.out.row.below D5.out) (by omega)) (by omega) D5.out.size ?_
  intro A2 c2 w6 ho hg hn'
  have bl := OwnS.below_row hown.own hg D5.out.size
  have D6 := Lib.hid (D5.out.trans bl)
  have M6 := Lib.hid (M5.out.keepB bl.size (fun q hq => bl.block q (ZBL.out q hq)))
  have L6 := Lib.hid (L5.out.trans (bl.mono BLE.out))
  have X6 := Lib.hid (Cells.low X5.out (by have := GY.out; have := GP.out; omega) bl)
  have Z6 := Lib.hid (Cells.low Z5.out (by have := GY.out; have := GP.out; omega) bl)
  have Y6 := Lib.hid (Cells.low Y5.out (by have := GY.out; have := GP.out; omega) bl)
  have P6 := Lib.hid (Cells.low P5.out (by have := GP.out; omega) bl)
  have ow := hown.more ho hg hn' (fun y hy => ⟨((NC3.out.at_ y (List.mem_of_mem_drop hy)).below D5.out), fun q hq => by have h1 := HLOW.out y (List.mem_of_mem_drop hy) q hq; omega, fun q hq e => by have h1 := (NC3.out.at_ y (List.mem_of_mem_drop hy)).lt hq; have h2 := (hown.own.lt q e).1; omega⟩)
  skip
  skip
  have O6 := Lib.hid ow
  clear ho hg hn' hown bl ow hHeld L5 D5 X5 Z5 Y5 P5 M5
  clear O5
  refine hK.out _ _ (And.intro (NBox.cells X6.out).1 (MBox.cells P6.out)) (fun hHeld => ?_)
  clear hK K
  (try simp only [Act.put, List.setIfInBounds_toArray, List.set_cons_zero, List.set_cons_succ])
  (first | (refine Reg.take 11 (v := ?_) rfl (by kernel_rfl) (by kernel_rfl) (by kernel_rfl) (fun _ _ _ h => h) (Or.inl ⟨by rfl, ?_⟩) (by assumption) ?_; rotate_left; (focus ((intro W hSW); (try dsimp only at hSW); (try go_split_ands); go_simp; (try (with_reducible rfl)); done))) | (refine Reg.take 11 (v := undef) rfl (by kernel_rfl) (by kernel_rfl) (by kernel_rfl) (fun _ _ _ h => h) (Or.inr ⟨by rfl, rfl⟩) (by assumption) ?_))
  (try simp only [Act.put, List.setIfInBounds_toArray, List.set_cons_zero, List.set_cons_succ])
  have OB : Hid (∀ q, (Value.slice A2 (j + (n - (j + 1))) c2).ownBlock = some q → w3.heap.size ≤ q) := fun q hq => (O6.out.own.lt q hq).1
  have LL : Hid (∀ y ∈ lc.take j ++ lc.drop (j + 1), ∀ q, Bl y q → w.heap.size + 3 ≤ q) := fun y hy q hq => by
    rcases List.mem_append.1 hy with hy | hy
    · exact HLOW.out y (List.mem_of_mem_take hy) q hq
    · exact HLOW.out y (List.mem_of_mem_drop hy) q hq
  clear D6
  have N6 := O6
  clear O6
  have y0 := Cells.cell Z6.out 0
  have f0 := Cells.frozen Z6.out 0
  have y1 := Cells.cell Z6.out 1
  have f1 := Cells.frozen Z6.out 1
  refine Reg.step 13 rfl (by kernel_rfl) (by rfl) (fun K hK => ?_)
  go_simp
  have bt : Mov [w.heap.size + 1] w6 ((w6.setCell ⟨w.heap.size + 1, 0, none⟩ (.int .i64 (cap : Int))).setCell ⟨w.heap.size + 1, 1, none⟩ (.slice A2 (j + (n - (j + 1))) c2)) := Mov.set2 _ _ _ _
  have L7 := Lib.hid (L6.out.trans (bt.up L6.out.size (by omega)))
  have X7 := Lib.hid (Cells.mov X6.out bt (by simp))
  have Z7 : Hid (Cells ((w6.setCell ⟨w.heap.size + 1, 0, none⟩ (.int .i64 (cap : Int))).setCell ⟨w.heap.size + 1, 1, none⟩ (.slice A2 (j + (n - (j + 1))) c2)) (w.heap.size + 1) 28 #[.int .i64 (cap : Int), .slice A2 (j + (n - (j + 1))) c2]) := Cells.set2 Z6.out _ _
  have Y7 := Lib.hid (Cells.mov Y6.out bt (by simp))
  have P7 := Lib.hid (Cells.mov P6.out bt (by have := GY.out; simp; omega))
  have M7 := Lib.hid (M6.out.keepB bt.size (fun q hq => bt.block q (M6.out.lt hq) (by have h1 := HZL.out q hq; simp; omega)))
  have N7 := Lib.hid (N6.out.mov Z6.out (by decide) (fun x hx q hq => by have h1 := LL.out x hx q hq; omega) bt)
  clear bt hHeld y0 f0 y1 f1
  clear L6 X6 Z6 Y6 P6 M6 N6 
  generalize (w6.setCell ⟨w.heap.size + 1, 0, none⟩ (.int .i64 (cap : Int))).setCell ⟨w.heap.size + 1, 1, none⟩ (.slice A2 (j + (n - (j + 1))) c2) = w7 at *
  refine hK.out _ _ (And.intro (NBox.cells X7.out).1 (MBox.cells P7.out)) (fun hHeld => ?_)
  clear hK K
  (try simp only [Act.put, List.setIfInBounds_toArray, List.set_cons_zero, List.set_cons_succ])
  have y0 := Cells.cell Y7.out 0
  have f0 := Cells.frozen Y7.out 0
  have y1 := Cells.cell Y7.out 1
  have f1 := Cells.frozen Y7.out 1
  have y2 := Cells.cell Y7.out 2
  have f2 := Cells.frozen Y7.out 2
  have y3 := Cells.cell Y7.out 3
  have f3 := Cells.frozen Y7.out 3
  have y4 := Cells.cell Y7.out 4
  have f4 := Cells.frozen Y7.out 4
  have y5 := Cells.cell Y7.out 5
  have f5 := Cells.frozen Y7.out 5
  refine Reg.step 14 rfl (by kernel_rfl) (by rfl) (fun K hK => ?_)
  go_simp
  have bt : Mov [w.heap.size + 2] w7 ((((((w7.setCell ⟨w.heap.size + 2, 0, none⟩ (.int .i64 z.k)).setCell ⟨w.heap.size + 2, 1, none⟩ (.int .i64 z.f)).setCell ⟨w.heap.size + 2, 2, none⟩ (.int .i64 z.t)).setCell ⟨w.heap.size + 2, 3, none⟩ (.int .i64 z.i)).setCell ⟨w.heap.size + 2, 4, none⟩ (.slice z.A z.n z.c)).setCell ⟨w.heap.size + 2, 5, none⟩ (.slice z.B z.m z.d)) := Mov.set6 _ _ _ _ _ _ _ _
  have L8 := Lib.hid (L7.out.trans (bt.up L7.out.size (by omega)))
  have X8 := Lib.hid (Cells.mov X7.out bt (by simp))
  have Z8 := Lib.hid (Cells.mov Z7.out bt (by simp))
  have Y8 : Hid (Cells ((((((w7.setCell ⟨w.heap.size + 2, 0, none⟩ (.int .i64 z.k)).setCell ⟨w.heap.size + 2, 1, none⟩ (.int .i64 z.f)).setCell ⟨w.heap.size + 2, 2, none⟩ (.int .i64 z.t)).setCell ⟨w.heap.size + 2, 3, none⟩ (.int .i64 z.i)).setCell ⟨w.heap.size + 2, 4, none⟩ (.slice z.A z.n z.c)).setCell ⟨w.heap.size + 2, 5, none⟩ (.slice z.B z.m z.d)) (w.heap.size + 2) 39 #[.int .i64 z.k, .int .i64 z.f, .int .i64 z.t, .int .i64 z.i, .slice z.A z.n z.c, .slice z.B z.m z.d]) := Cells.set6 Y7.out _ _ _ _ _ _
  have P8 := Lib.hid (Cells.mov P7.out bt (by have := GY.out; simp; omega))
  have M8 := Lib.hid (M7.out.keepB bt.size (fun q hq => bt.block q (M7.out.lt hq) (by have h1 := HZL.out q hq; simp; omega)))
  have N8 := Lib.hid (N7.out.mov_ (fun e => by have h1 := OB.out _ e; have := GY.out; have := GP.out; omega) (fun x hx q hq => by have h1 := LL.out x hx q hq; omega) bt)
  clear bt hHeld y0 f0 y1 f1 y2 f2 y3 f3 y4 f4 y5 f5
  clear L7 X7 Z7 Y7 P7 M7 N7 
  generalize (((((w7.setCell ⟨w.heap.size + 2, 0, none⟩ (.int .i64 z.k)).setCell ⟨w.heap.size + 2, 1, none⟩ (.int .i64 z.f)).setCell ⟨w.heap.size + 2, 2, none⟩ (.int .i64 z.t)).setCell ⟨w.heap.size + 2, 3, none⟩ (.int .i64 z.i)).setCell ⟨w.heap.size + 2, 4, none⟩ (.slice z.A z.n z.c)).setCell ⟨w.heap.size + 2, 5, none⟩ (.slice z.B z.m z.d) = w8 at *
  refine hK.out _ _ (And.intro (NBox.cells X8.out).1 (MBox.cells P8.out)) (fun hHeld => ?_)
  clear hK K
  (try simp only [Act.put, List.setIfInBounds_toArray, List.set_cons_zero, List.set_cons_succ])
  (first | (refine Reg.take 15 (v := ?_) rfl (by kernel_rfl) (by kernel_rfl) (by kernel_rfl) (fun _ _ _ h => h) (Or.inl ⟨by rfl, ?_⟩) (by assumption) ?_; rotate_left; (focus ((intro W hSW); (try dsimp only at hSW); (try go_split_ands); go_simp; (try (with_reducible rfl)); done))) | (refine Reg.take 15 (v := undef) rfl (by kernel_rfl) (by kernel_rfl) (by kernel_rfl) (fun _ _ _ h => h) (Or.inr ⟨by rfl, rfl⟩) (by assumption) ?_))
  (try simp only [Act.put, List.setIfInBounds_toArray, List.set_cons_zero, List.set_cons_succ])
  refine wpAnyH_done (by kernel_rfl) ?_ _
  clear hHeld
  go_wp2_with fail
  refine bodyPost_ret_by (results_cc1 rfl _ _ (w.heap.size + 1) (w.heap.size + 2) _ _ _ _ _ _ _ _ rfl Z8.out Try.underlying28 rfl (by kernel_rfl) rfl Y8.out Try.underlying39 rfl (by kernel_rfl)) rfl ?_
  exact ⟨A2, _, c2, _, z, rfl, N8.out.base_ BLE.out, by show _ = _; rw [← HP.out, List.map_append, List.map_take, List.map_drop, List.eraseIdx_eq_take_drop_succ], HZP.out, M8.out, fun q hq => by have h1 := HZL.out q hq; omega, fun q hq e => by have h1 := OB.out q e; have h2 := ZBL.out q hq; omega, L8.out⟩

theorem docTake_any {w : World} {cap : Nat} {Q : Option Addr} {n c : Nat} {l : List Mx} (h : NetAt w Q n c l) (hn : n ≤ 5000) (i : Int) : Calls Try.prog 39 #[nv cap Q n c, .int .i64 i] w (GotW w (takeR cap (l.map Mx.p) i)) := by
  unfold takeR
  rcases e : atP (l.map Mx.p) i with _ | p
  · refine (docTake_bad (at_none h.row.len e) w).mono ?_
    rintro en w' ⟨rfl, hb⟩
    exact ⟨none, 0, 0, [], zeroX, rfl, OwnN.nil _ _ _, rfl, rfl, zero_at w', fun q hq => absurd hq zero_bl, fun q hq => absurd hq zero_bl, hb⟩
  · obtain ⟨j, x, rfl, hx, rfl⟩ := at_some e
    rw [Int.toNat_natCast]
    exact docTake_ok h hn hx
end Net
end Go.Proofs.Ytamahknnppjegaa
/-
  WALKS: the document's Cut.
-/
namespace Go.Proofs.Ytamahknnppjegaa
open Go.RowKit Mem Box
namespace Net
open Wire (B8 info_int asInts asInts_append)

theorem off_snoc {l : List Mp} {k : Nat} {x : Mp} (h : l[k]? = some x) (node : Int) : (l.take (k + 1)).filter (offB node) = (l.take k).filter (offB node) ++ (bif offB node x then [x] else []) := by
  rw [List.take_add_one, h, List.filter_append]
  rcases e : offB node x <;> simp [List.filter, e]
set_option maxRecDepth 100000 in
set_option maxHeartbeats 12800000 in
theorem docCut_any {w : World} {cap : Nat} {Q : Option Addr} {n c : Nat} {l : List Mx} (h : NetAt w Q n c l) (hn : n ≤ 5000) (node : Int) : Calls Try.prog 43 #[nv cap Q n c, .int .i64 node] w (Got w (cutR cap (l.map Mx.p) node)) := by
  have HN := Lib.hid h
  have hlen := Lib.hid h.row.len
  unfold cutR
  have L1 : Hid (Below w.heap.size w ((w.alloc (.cells #[.int .i64 (cap : Int), .slice Q n c] 28)).alloc (.cells #[.int .i64 0, .slice none 0 0] 28))) := (((Below.refl _ w).alloc (by first | exact Nat.le_refl _ | (simp; try omega)) _).alloc (by first | exact Nat.le_refl _ | (simp; try omega)) _)
  have X1 : Hid (Cells ((w.alloc (.cells #[.int .i64 (cap : Int), .slice Q n c] 28)).alloc (.cells #[.int .i64 0, .slice none 0 0] 28)) (w.heap.size) 28 #[.int .i64 (cap : Int), .slice Q n c]) := by
    have := Cells.new w #[.int .i64 (cap : Int), .slice Q n c] 28
    (try simp only [World.size_alloc] at this)
    exact (Cells.alloc this _)
  have Z1 : Hid (Cells ((w.alloc (.cells #[.int .i64 (cap : Int), .slice Q n c] 28)).alloc (.cells #[.int .i64 0, .slice none 0 0] 28)) (w.heap.size + 1) 28 #[.int .i64 0, .slice none 0 0]) := by
    have := Cells.new (w.alloc (.cells #[.int .i64 (cap : Int), .slice Q n c] 28)) #[.int .i64 0, .slice none 0 0] 28
    (try simp only [World.size_alloc] at this)
    exact this
  have SZ : Hid (((w.alloc (.cells #[.int .i64 (cap : Int), .slice Q n c] 28)).alloc (.cells #[.int .i64 0, .slice none 0 0] 28)).heap.size = w.heap.size + 2) := by show _ = _; simp
  clear h
  unfold nv at *
  go_enter Try.func43, Try.ntmps43
  go_upto_region 1 with fail
  generalize ((w.alloc (.cells #[.int .i64 (cap : Int), .slice Q n c] 28)).alloc (.cells #[.int .i64 0, .slice none 0 0] 28)) = w1 at *
  obtain ⟨k0, k1⟩ := NBox.cells X1.out
  go_upto_region 2 with fail
  clear k0 k1
  have A2 : Below w1.heap.size w1 (w1.alloc (.cells #[.int .i64 (cap : Int), .slice none 0 0] 28)) := (Below.refl _ w1).alloc (Nat.le_refl _) _
  have I0 : Hid (OutI w.heap.size w (w1.alloc (.cells #[.int .i64 (cap : Int), .slice none 0 0] 28)) cap Q n c w1.heap.size none 0 0 []) := ⟨L1.out.trans (A2.mono L1.out.size), Cells.below X1.out A2, Cells.below Z1.out A2, Cells.new _ _ _, OwnN.nil _ _ _, by have := Cells.lt Z1.out; omega, by simp⟩
  obtain ⟨g, hg⟩ : ∃ g, g = w1.heap.size := ⟨_, rfl⟩
  rw [← hg] at I0
  rw [← hg]
  clear hg A2 L1 X1 Z1 SZ
  generalize w1.alloc (.cells #[.int .i64 (cap : Int), .slice none 0 0] 28) = w0 at *
  obtain ⟨k0, k1⟩ := NBox.cells I0.out.nb
  go_wp2_with fail
  clear k0 k1
  go_loopw [8, 15] (fun _ t wr => ∃ (k : Nat) (R : Option Addr) (j d : Nat) (l' : List Mx), t = .int .i64 k ∧ k ≤ n ∧ j ≤ k ∧ Hid (OutI w.heap.size w wr cap Q n c g R j d l') ∧ Hid (l'.map Mx.p = ((l.map Mx.p).take k).filter (offB node))) (fun _ t _ => n - (intOf t).toNat)
  case atStart => exact ⟨0, none, 0, 0, [], rfl, by omega, by omega, I0, rfl⟩
  case round =>
    clear I0
    obtain ⟨k, R, j, d, l', rfl, hk, hjk, I1, HPR⟩ := hrel
    by_cases hlt : k < n
    · obtain ⟨x, hx, hxm⟩ := HN.out.get hlt
      obtain ⟨b2, o2, hQ, hb2, hcs⟩ := HN.out.cells hx
      obtain ⟨c0, c1, c2, c3, c4, c5⟩ := hcs wr I1.out.below
      have HSN := Lib.hid (off_snoc (l := l.map Mx.p) (x := x.p) (k := k) (by rw [List.getElem?_map, hx]; rfl) node)
      have HXM := Lib.hid hxm
      have hk0 : (0 : Int) ≤ (k : Int) := by omega
      have hkm : (k : Int) < (n : Int) := by omega
      clear hx hxm hcs hb2
      subst hQ
      go_upto_region 5 with fail
      clear c0 c1 c2 c3 c4 c5
      have bb : Below wr.heap.size wr (wr.alloc (.cells #[.int .i64 x.k, .int .i64 x.f, .int .i64 x.t, .int .i64 x.i, .slice x.A x.n x.c, .slice x.B x.m x.d] 39)) := (Below.refl _ wr).alloc (Nat.le_refl _) _
      have I4 := Lib.hid (I1.out.keep bb)
      have B4 : Hid (MBox (wr.alloc (.cells #[.int .i64 x.k, .int .i64 x.f, .int .i64 x.t, .int .i64 x.i, .slice x.A x.n x.c, .slice x.B x.m x.d] 39)) wr.heap.size x) := Cells.new _ _ _
      have PBN : Hid ((Value.slice R j d).ownBlock ≠ some wr.heap.size) := fun e => by have := (I1.out.own.own.lt _ e).2; omega
      obtain ⟨p, hp⟩ : ∃ p, p = wr.heap.size := ⟨_, rfl⟩
      rw [← hp] at B4 PBN
      rw [← hp]
      clear bb hp I1
      generalize wr.alloc (.cells #[.int .i64 x.k, .int .i64 x.f, .int .i64 x.t, .int .i64 x.i, .slice x.A x.n x.c, .slice x.B x.m x.d] 39) = w4 at *
      obtain ⟨n0, n1, n2, n3, n4, n5⟩ := MBox.cells B4.out
      rcases e1 : (x.f != node)
      · have HPU : Hid (((l.map Mx.p).take (k + 1)).filter (offB node) = ((l.map Mx.p).take k).filter (offB node)) := by show _ = _; rw [HSN.out, show offB node x.p = false from by show ((x.f != node) && (x.t != node)) = false; rw [e1]; rfl]; simp
        go_wp2_with fail
        go_roundw
        case rel => exact ⟨k + 1, R, j, d, l', by go_num, by omega, by omega, I4, by show _ = _; rw [HPU.out, HPR.out]⟩
        case measure => simp [intOf]; omega
      · rcases e2 : (x.t != node)
        · have HPU : Hid (((l.map Mx.p).take (k + 1)).filter (offB node) = ((l.map Mx.p).take k).filter (offB node)) := by show _ = _; rw [HSN.out, show offB node x.p = false from by show ((x.f != node) && (x.t != node)) = false; rw [e1, e2]; rfl]; simp
          go_wp2_with fail
          go_roundw
          case rel => exact ⟨k + 1, R, j, d, l', by go_num, by omega, by omega, I4, by show _ = _; rw [HPU.out, HPR.out]⟩
          case measure => simp [intOf]; omega
        · have HPU : Hid (((l.map Mx.p).take (k + 1)).filter (offB node) = ((l.map Mx.p).take k).filter (offB node) ++ [x.p]) := by show _ = _; rw [HSN.out, show offB node x.p = true from by show ((x.f != node) && (x.t != node)) = true; rw [e1, e2]; rfl]; rfl
          go_upto_region 6 with fail
          clear n0 n1 n2 n3 n4 n5
          have HS := fun W cp Q' n' c' g' R' k' d' l'' (hW : OutI w.heap.size w W cp Q' n' c' g' R' k' d' l'') (hB : MBox W p x) => And.intro (NBox.cells hW.gb).2 (MBox.cells hB)
          have I2 := Lib.hid (I4.out.keep ((Below.refl _ w4).drew))
          have B2 := Lib.hid (Cells.below B4.out ((Below.refl _ w4).drew))
          refine RegK.start (S := fun W => W.cell? ⟨g, 1, none⟩ = some (.slice R j d) ∧ W.cell? ⟨p, 0, none⟩ = some (.int .i64 x.k) ∧ W.cell? ⟨p, 1, none⟩ = some (.int .i64 x.f) ∧ W.cell? ⟨p, 2, none⟩ = some (.int .i64 x.t) ∧ W.cell? ⟨p, 3, none⟩ = some (.int .i64 x.i) ∧ W.cell? ⟨p, 4, none⟩ = some (.slice x.A x.n x.c) ∧ W.cell? ⟨p, 5, none⟩ = some (.slice x.B x.m x.d)) 7 (by kernel_rfl) (HS _ _ _ _ _ _ _ _ _ _ I2.out B2.out) (fun hHeld => ?_)
          generalize w4.drew = w2 at *
          clear I4 B4
          (first | (refine RegK.take 0 [7] (v := ?_) rfl (by kernel_rfl) (by kernel_rfl) (by kernel_rfl) (by kernel_rfl) rfl (by kernel_rfl) (fun _ _ _ h => h) (Or.inl ⟨by rfl, ?_⟩) (by assumption) ?_; rotate_left; (focus ((intro W hSW; (try dsimp only at hSW); (try go_split_ands); go_simp; (try (with_reducible rfl)); done)))) | (refine RegK.take 0 [7] (v := undef) rfl (by kernel_rfl) (by kernel_rfl) (by kernel_rfl) (by kernel_rfl) rfl (by kernel_rfl) (fun _ _ _ h => h) (Or.inr ⟨by rfl, rfl⟩) (by assumption) ?_))
          (try simp only [Act.put, List.setIfInBounds_toArray, List.set_cons_zero, List.set_cons_succ])
          (first | (refine RegK.take 1 [7] (v := ?_) rfl (by kernel_rfl) (by kernel_rfl) (by kernel_rfl) (by kernel_rfl) rfl (by kernel_rfl) (fun _ _ _ h => h) (Or.inl ⟨by rfl, ?_⟩) (by assumption) ?_; rotate_left; (focus ((intro W hSW; (try dsimp only at hSW); (try go_split_ands); go_simp; (try (with_reducible rfl)); done)))) | (refine RegK.take 1 [7] (v := undef) rfl (by kernel_rfl) (by kernel_rfl) (by kernel_rfl) (by kernel_rfl) rfl (by kernel_rfl) (fun _ _ _ h => h) (Or.inr ⟨by rfl, rfl⟩) (by assumption) ?_))
          (try simp only [Act.put, List.setIfInBounds_toArray, List.set_cons_zero, List.set_cons_succ])
          (first | (refine RegK.take 2 [7] (v := ?_) rfl (by kernel_rfl) (by kernel_rfl) (by kernel_rfl) (by kernel_rfl) rfl (by kernel_rfl) (fun _ _ _ h => h) (Or.inl ⟨by rfl, ?_⟩) (by assumption) ?_; rotate_left; (focus ((intro W hSW; (try dsimp only at hSW); (try go_split_ands); go_simp; (try (with_reducible rfl)); done)))) | (refine RegK.take 2 [7] (v := undef) rfl (by kernel_rfl) (by kernel_rfl) (by kernel_rfl) (by kernel_rfl) rfl (by kernel_rfl) (fun _ _ _ h => h) (Or.inr ⟨by rfl, rfl⟩) (by assumption) ?_))
          (try simp only [Act.put, List.setIfInBounds_toArray, List.set_cons_zero, List.set_cons_succ])
          refine RegK.step 3 rfl (by kernel_rfl) (by rfl) (fun K hK => ?_)
          go_simp
          have bb : Below w2.heap.size w2 (w2.alloc (.cells #[.int .i64 x.k, .int .i64 x.f, .int .i64 x.t, .int .i64 x.i, .slice x.A x.n x.c, .slice x.B x.m x.d] 39)) := (Below.refl _ w2).alloc (Nat.le_refl _) _
          have I3 := Lib.hid (I2.out.keep bb)
          have B3 := Lib.hid (Cells.below B2.out bb)
          have XN3 : Hid (NetAt (w2.alloc (.cells #[.int .i64 x.k, .int .i64 x.f, .int .i64 x.t, .int .i64 x.i, .slice x.A x.n x.c, .slice x.B x.m x.d] 39)) (some ⟨w2.heap.size, 0, none⟩) 1 1 [x]) := ⟨one_msg w2 x, fun z hz => by rw [List.mem_singleton.1 hz]; exact HXM.out.below I3.out.below⟩
          clear bb hHeld I2 B2
          have hHeld := HS _ _ _ _ _ _ _ _ _ _ I3.out B3.out
          refine hK.out _ _ (fun _ => hHeld) ?_
          clear hK K
          (try simp only [Act.put, List.setIfInBounds_toArray, List.set_cons_zero, List.set_cons_succ])
          obtain ⟨p1, hp1⟩ : ∃ p, p = w2.heap.size := ⟨_, rfl⟩
          rw [← hp1] at XN3
          rw [← hp1]
          clear hp1
          generalize w2.alloc (.cells #[.int .i64 x.k, .int .i64 x.f, .int .i64 x.t, .int .i64 x.i, .slice x.A x.n x.c, .slice x.B x.m x.d] 39) = w3 at *
          refine RegK.step 4 rfl (by kernel_rfl) (by rfl) (fun K hK => ?_)
          go_simp
          refine (copy_any XN3.out (by omega)).mono ?_
          rintro e w4 ⟨Qd, nd, cd, ld, rfl, hO, hP, hb⟩
          obtain ⟨y, hl, hyp⟩ := map_one hP
          subst hl
          have hnd : 1 = nd := hO.len
          subst hnd
          have I4 := Lib.hid (I3.out.keep hb)
          have B4 := Lib.hid (Cells.below B3.out hb)
          have YA4 := Lib.hid (hO.at_ y (by simp))
          have YP := Lib.hid hyp
          have YL : Hid (∀ q, Bl y q → (Value.slice R j d).ownBlock ≠ some q ∧ q ≠ g ∧ q ≠ w.heap.size + 1) := I3.out.apart (hO.low y (by simp))
          have YB : Hid (New w.heap.size y) := (hO.low y (by simp)).mono I3.out.base_
          have R4 := Lib.hid (hO.net (by omega)).row
          clear hO hP hyp hb hHeld XN3
          have hHeld := HS _ _ _ _ _ _ _ _ _ _ I4.out B4.out
          refine hK.out _ _ (fun _ => hHeld) ?_
          clear hK K I3 B3
          (try simp only [Act.put, List.setIfInBounds_toArray, List.set_cons_zero, List.set_cons_succ])
          refine RegK.step 5 rfl (by kernel_rfl) (by rfl) (fun K hK => ?_)
          refine OwnS.wp_append1 fitM Try.underlying26 info_msg rfl (by omega) (.tmp 30) (.tmp 33) rfl rfl w.heap.size (.slice R j d) j l' rfl I4.out.own.own Qd 1 cd [y] rfl R4.out (by omega) I4.out.base_ ?_
          intro R' d' w5 ho hg hn
          obtain ⟨G1, G2, G3, G4⟩ := I4.out.grown hg
          have PU := Lib.hid (I4.out.push ho hg hn YA4.out YB.out YL.out)
          have B5 := Lib.hid (cells_grown B4.out hg PBN.out)
          have y1 := (NBox.cells G4).2
          have f1 : w5.frozen? ⟨g, 1, none⟩ = false := Cells.frozen G4 1
          clear hHeld
          have hHeld := And.intro y1 (MBox.cells B5.out)
          refine hK.out _ _ (fun _ => hHeld) ?_
          clear hK K ho hg hn G1 G2 G3 G4 I4 YA4 YB YL R4 B4 B5
          (try simp only [Act.put, List.setIfInBounds_toArray, List.set_cons_zero, List.set_cons_succ])
          (first | (refine RegK.take 6 [7] (v := ?_) rfl (by kernel_rfl) (by kernel_rfl) (by kernel_rfl) (by kernel_rfl) rfl (by kernel_rfl) (fun _ _ _ h => h) (Or.inl ⟨by rfl, ?_⟩) (by assumption) ?_; rotate_left; (focus ((intro W hSW; (try dsimp only at hSW); (try go_split_ands); go_simp; (try (with_reducible rfl)); done)))) | (refine RegK.take 6 [7] (v := undef) rfl (by kernel_rfl) (by kernel_rfl) (by kernel_rfl) (by kernel_rfl) rfl (by kernel_rfl) (fun _ _ _ h => h) (Or.inr ⟨by rfl, rfl⟩) (by assumption) ?_))
          (try simp only [Act.put, List.setIfInBounds_toArray, List.set_cons_zero, List.set_cons_succ])
          refine RegK.step 7 rfl (by kernel_rfl) (by rfl) (fun K hK => ?_)
          go_simp
          refine hK.out _ _ (fun h => absurd rfl h) ?_
          clear hK K hHeld y1 f1
          (try simp only [Act.put, List.setIfInBounds_toArray, List.set_cons_zero, List.set_cons_succ])
          refine RegK.done (by kernel_rfl) ?_ _
          go_wp2_with fail
          go_roundw
          case rel => exact ⟨k + 1, R', j + 1, d', l' ++ [y], by go_num, by omega, by omega, PU, by show _ = _; rw [HPU.out, List.map_append, HPR.out]; show _ ++ [y.p] = _; rw [YP.out]⟩
          case measure => simp [intOf]; omega
    · have FE : Hid (l'.map Mx.p = (l.map Mx.p).filter (offB node)) := by show _ = _; rw [HPR.out, List.take_of_length_le (by rw [List.length_map]; have := hlen.out; omega)]
      go_upto_region 8 with fail
      have hwr : IntKind.i64.wrap ((n : Int) - (j : Int)) = (n : Int) - (j : Int) := by rw [IntKind.wrap_i64]; omega
      have I9 := Lib.hid (I1.out.keep ((Below.refl _ wr).drew))
      refine wp_region_held_drew (S := fun W => (W.cell? ⟨g, 0, none⟩ = some (.int .i64 (cap : Int)) ∧ W.cell? ⟨g, 1, none⟩ = some (.slice R j d)) ∧ W.cell? ⟨w.heap.size, 1, none⟩ = some (.slice Q n c)) (by kernel_rfl) ⟨NBox.cells I9.out.gb, (NBox.cells I9.out.nb).2⟩ (fun hHeld => ?_)
      generalize wr.drew = w9 at *
      (first | (refine Reg.take 0 (v := ?_) rfl (by kernel_rfl) (by kernel_rfl) (by kernel_rfl) (fun _ _ _ h => h) (Or.inl ⟨by rfl, ?_⟩) (by assumption) ?_; rotate_left; (focus ((intro W hSW); (try dsimp only at hSW); (try go_split_ands); go_simp; (try (with_reducible rfl)); done))) | (refine Reg.take 0 (v := undef) rfl (by kernel_rfl) (by kernel_rfl) (by kernel_rfl) (fun _ _ _ h => h) (Or.inr ⟨by rfl, rfl⟩) (by assumption) ?_))
      (try simp only [Act.put, List.setIfInBounds_toArray, List.set_cons_zero, List.set_cons_succ])
      (first | (refine Reg.take 1 (v := ?_) rfl (by kernel_rfl) (by kernel_rfl) (by kernel_rfl) (fun _ _ _ h => h) (Or.inl ⟨by rfl, ?_⟩) (by assumption) ?_; rotate_left; (focus ((intro W hSW); (try dsimp only at hSW); (try go_split_ands); go_simp; (try (with_reducible rfl)); done))) | (refine Reg.take 1 (v := undef) rfl (by kernel_rfl) (by kernel_rfl) (by kernel_rfl) (fun _ _ _ h => h) (Or.inr ⟨by rfl, rfl⟩) (by assumption) ?_))
      (try simp only [Act.put, List.setIfInBounds_toArray, List.set_cons_zero, List.set_cons_succ])
      (first | (refine Reg.take 2 (v := ?_) rfl (by kernel_rfl) (by kernel_rfl) (by kernel_rfl) (fun _ _ _ h => h) (Or.inl ⟨by rfl, ?_⟩) (by assumption) ?_; rotate_left; (focus ((intro W hSW); (try dsimp only at hSW); (try go_split_ands); go_simp; (try (with_reducible rfl)); done))) | (refine Reg.take 2 (v := undef) rfl (by kernel_rfl) (by kernel_rfl) (by kernel_rfl) (fun _ _ _ h => h) (Or.inr ⟨by rfl, rfl⟩) (by assumption) ?_))
      (try simp only [Act.put, List.setIfInBounds_toArray, List.set_cons_zero, List.set_cons_succ])
      (first | (refine Reg.take 3 (v := ?_) rfl (by kernel_rfl) (by kernel_rfl) (by kernel_rfl) (fun _ _ _ h => h) (Or.inl ⟨by rfl, ?_⟩) (by assumption) ?_; rotate_left; (focus ((intro W hSW); (try dsimp only at hSW); (try go_split_ands); go_simp; (try (with_reducible rfl)); done))) | (refine Reg.take 3 (v := undef) rfl (by kernel_rfl) (by kernel_rfl) (by kernel_rfl) (fun _ _ _ h => h) (Or.inr ⟨by rfl, rfl⟩) (by assumption) ?_))
      (try simp only [Act.put, List.setIfInBounds_toArray, List.set_cons_zero, List.set_cons_succ])
      (first | (refine Reg.take 4 (v := ?_) rfl (by kernel_rfl) (by kernel_rfl) (by kernel_rfl) (fun _ _ _ h => h) (Or.inl ⟨by rfl, ?_⟩) (by assumption) ?_; rotate_left; (focus ((intro W hSW); (try dsimp only at hSW); (try go_split_ands); go_simp; (try (with_reducible rfl)); done))) | (refine Reg.take 4 (v := undef) rfl (by kernel_rfl) (by kernel_rfl) (by kernel_rfl) (fun _ _ _ h => h) (Or.inr ⟨by rfl, rfl⟩) (by assumption) ?_))
      (try simp only [Act.put, List.setIfInBounds_toArray, List.set_cons_zero, List.set_cons_succ])
      (first | (refine Reg.take 5 (v := ?_) rfl (by kernel_rfl) (by kernel_rfl) (by kernel_rfl) (fun _ _ _ h => h) (Or.inl ⟨by rfl, ?_⟩) (by assumption) ?_; rotate_left; (focus ((intro W hSW); (try dsimp only at hSW); (try go_split_ands); go_simp; (try (with_reducible rfl)); done))) | (refine Reg.take 5 (v := undef) rfl (by kernel_rfl) (by kernel_rfl) (by kernel_rfl) (fun _ _ _ h => h) (Or.inr ⟨by rfl, rfl⟩) (by assumption) ?_))
      (try simp only [Act.put, List.setIfInBounds_toArray, List.set_cons_zero, List.set_cons_succ])
      (first | (refine Reg.take 6 (v := ?_) rfl (by kernel_rfl) (by kernel_rfl) (by kernel_rfl) (fun _ _ _ h => h) (Or.inl ⟨by rfl, ?_⟩) (by assumption) ?_; rotate_left; (focus ((intro W hSW); (try dsimp only at hSW); (try go_split_ands); go_simp; (try (with_reducible rfl)); done))) | (refine Reg.take 6 (v := undef) rfl (by kernel_rfl) (by kernel_rfl) (by kernel_rfl) (fun _ _ _ h => h) (Or.inr ⟨by rfl, rfl⟩) (by assumption) ?_))
      (try simp only [Act.put, List.setIfInBounds_toArray, List.set_cons_zero, List.set_cons_succ])
      (first | (refine Reg.take 7 (v := ?_) rfl (by kernel_rfl) (by kernel_rfl) (by kernel_rfl) (fun _ _ _ h => h) (Or.inl ⟨by rfl, ?_⟩) (by assumption) ?_; rotate_left; (focus ((intro W hSW); (try dsimp only at hSW); (try go_split_ands); go_simp; (try (with_reducible rfl)); done))) | (refine Reg.take 7 (v := undef) rfl (by kernel_rfl) (by kernel_rfl) (by kernel_rfl) (fun _ _ _ h => h) (Or.inr ⟨by rfl, rfl⟩) (by assumption) ?_))
      (try simp only [Act.put, List.setIfInBounds_toArray, List.set_cons_zero, List.set_cons_succ])
      have z0 := (NBox.cells I9.out.zb).1
      have z1 := (NBox.cells I9.out.zb).2
      have f0 : w9.frozen? ⟨w.heap.size + 1, 0, none⟩ = false := Cells.frozen I9.out.zb 0
      have f1 : w9.frozen? ⟨w.heap.size + 1, 1, none⟩ = false := Cells.frozen I9.out.zb 1
      refine Reg.step 8 rfl (by kernel_rfl) (by rfl) (fun K hK => ?_)
      go_simp
      have bt := Mov.set2 w9 (w.heap.size + 1) (.int .i64 (cap : Int)) (.slice R j d)
      have HR := Cells.set2 I9.out.zb (.int .i64 (cap : Int)) (.slice R j d)
      have HO9 := Lib.hid (I9.out.own.mov I9.out.zb (by decide) (fun x hx q hq => (I9.out.bn x hx q hq).2) bt)
      have LF := Lib.hid (I9.out.below.trans (bt.up I9.out.base_ (by omega)))
      have XG := Cells.mov I9.out.gb bt (by have := I9.out.ne; simp; omega)
      have XB := Cells.mov I9.out.nb bt (by simp)
      have HR := Lib.hid HR
      clear z0 z1 f0 f1 hHeld bt I9
      generalize (w9.setCell ⟨w.heap.size + 1, 0, none⟩ (.int .i64 (cap : Int))).setCell ⟨w.heap.size + 1, 1, none⟩ (.slice R j d) = w10 at *
      refine hK.out _ _ ⟨NBox.cells XG, (NBox.cells XB).2⟩ (fun hHeld => ?_)
      clear hK K XG XB
      (try simp only [Act.put, List.setIfInBounds_toArray, List.set_cons_zero, List.set_cons_succ])
      (first | (refine Reg.take 9 (v := ?_) rfl (by kernel_rfl) (by kernel_rfl) (by kernel_rfl) (fun _ _ _ h => h) (Or.inl ⟨by rfl, ?_⟩) (by assumption) ?_; rotate_left; (focus ((intro W hSW); (try dsimp only at hSW); (try go_split_ands); go_simp; (try (with_reducible rfl)); done))) | (refine Reg.take 9 (v := undef) rfl (by kernel_rfl) (by kernel_rfl) (by kernel_rfl) (fun _ _ _ h => h) (Or.inr ⟨by rfl, rfl⟩) (by assumption) ?_))
      (try simp only [Act.put, List.setIfInBounds_toArray, List.set_cons_zero, List.set_cons_succ])
      refine wpAnyH_done (by kernel_rfl) ?_ _
      clear hHeld
      go_wp2_with fail
      refine bodyPost_ret_by (results_c1 rfl _ _ (w.heap.size + 1) _ _ _ _ rfl HR.out Try.underlying28 rfl (by kernel_rfl)) rfl ?_
      have HK : ((l.map Mx.p).length : Int) - (((l.map Mx.p).filter (offB node)).length : Int) = (n : Int) - (j : Int) := by rw [← FE.out, List.length_map, List.length_map, HO9.out.len, hlen.out]
      exact ⟨R, j, d, l', by show _ = Ending.returned (.tuple #[nv cap R j d, .int .i64 (((l.map Mx.p).length : Int) - (((l.map Mx.p).filter (offB node)).length : Int))]); rw [HK]; rfl, HO9.out, FE.out, LF.out⟩
end Net
end Go.Proofs.Ytamahknnppjegaa
/-
  WALKS: the document's Write.
-/
namespace Go.Proofs.Ytamahknnppjegaa
open Go.RowKit Mem Box
namespace Net
open Wire (B8 asInts GaveE MsgBad)

set_option maxRecDepth 100000 in
set_option maxHeartbeats 3200000 in
theorem docWrite_any {w : World} {cap : Nat} {Q : Option Addr} {n c : Nat} {l : List Mx} (h : NetAt w Q n c l) (hn : n ≤ 5000) :
    Calls Try.prog 24 #[nv cap Q n c] w fun e w' => ((∀ p ∈ l.map Mx.p, okM p = true) ∧ GaveE cb 5 w.heap.size w (writeP (l.map Mx.p)) 0 e w') ∨ ((∃ p ∈ l.map Mx.p, okM p = false) ∧ e = .returned (.tuple #[.slice none 0 0, .int .i64 1]) ∧ Below w.heap.size w w') := by
  have HN := Lib.hid h
  have HF := Lib.hid (at_fits h)
  have HL := Lib.hid h.row.len
  have HW1 := fun W x (h : MAt W x) (hk : okM x.p = true) => Lib.hid (dmsg_ok h hk)
  have HW2 := fun W x (h : MAt W x) (hk : okM x.p = false) => Lib.hid (dmsg_bad h hk)
  have L1 : Hid (Below w.heap.size w (w.alloc (.cells #[.int .i64 (cap : Int), .slice Q n c] 28))) := (Below.refl _ w).alloc (Nat.le_refl _) _
  have X1 : Hid (NBox (w.alloc (.cells #[.int .i64 (cap : Int), .slice Q n c] 28)) w.heap.size cap Q n c) := Cells.new _ _ _
  unfold nv
  unfold mxv at HW1 HW2
  clear h
  go_enter Try.func24, Try.ntmps24
  go_upto_region 1 with fail
  generalize w.alloc (.cells #[.int .i64 (cap : Int), .slice Q n c] 28) = w1 at *
  obtain ⟨k0, k1⟩ := NBox.cells X1.out
  go_wp2_with fail
  clear k0 k1
  go_loopw [4, 6, 7, 8, 12] (fun s _ _ _ i wr => ∃ (k : Nat) (B : Option Addr) (j d : Nat), i = .int .i64 k ∧ s = .slice B j d ∧ k ≤ n ∧ Hid ((∀ p ∈ (l.map Mx.p).take k, okM p = true) ∧ Below w.heap.size w wr ∧ Owns cb 5 w.heap.size wr (.slice B j d) j (writeP ((l.map Mx.p).take k)))) (fun _ _ _ _ i _ => n - (intOf i).toNat)
  case atStart => exact ⟨0, none, 0, 0, rfl, rfl, by omega, by simp, L1.out, Owns.nil _ _ _ _⟩
  case round =>
    obtain ⟨k, B, j, d, rfl, rfl, hk, hH⟩ := hrel
    have HOK := Lib.hid hH.out.1
    have L2 := Lib.hid hH.out.2.1
    have O2 := Lib.hid hH.out.2.2
    have hjb : j ≤ 67000 * k := by
      have h1 := hH.out.2.2.len
      have h2 := write_len (l := (l.map Mx.p).take k) (fun p hp => ⟨hH.out.1 p hp, HF.out p (List.mem_of_mem_take hp)⟩)
      rw [List.length_take] at h2
      omega
    have HJ := Lib.hid hjb
    clear hH hjb
    by_cases hlt : k < n
    · obtain ⟨x, hx, hxm⟩ := HN.out.get hlt
      obtain ⟨b2, o2, hQ, hb2, hcs⟩ := HN.out.cells hx
      obtain ⟨c0, c1, c2, c3, c4, c5⟩ := hcs wr L2.out
      have hxp : (l.map Mx.p)[k]? = some x.p := by rw [List.getElem?_map, hx]; rfl
      have HXP := Lib.hid hxp
      have HTK := Lib.hid (write_take hxp)
      have HXM := Lib.hid hxm
      subst hQ
      have hk0 : (0 : Int) ≤ (k : Int) := by omega
      have hkn : (k : Int) < (n : Int) := by omega
      clear hx hxm hcs hb2 hxp
      go_upto_region 5 with fail
      clear c0 c1 c2 c3 c4 c5
      have bb : Below wr.heap.size wr (wr.alloc (.cells #[.int .i64 x.k, .int .i64 x.f, .int .i64 x.t, .int .i64 x.i, .slice x.A x.n x.c, .slice x.B x.m x.d] 39)) := (Below.refl _ wr).alloc (Nat.le_refl _) _
      have L3 := Lib.hid (L2.out.trans (bb.mono L2.out.size))
      have O3 := Lib.hid (O2.out.below bb)
      have P3 : Hid (MBox (wr.alloc (.cells #[.int .i64 x.k, .int .i64 x.f, .int .i64 x.t, .int .i64 x.i, .slice x.A x.n x.c, .slice x.B x.m x.d] 39)) wr.heap.size x) := Cells.new _ _ _
      obtain ⟨p, hp⟩ : ∃ p, p = wr.heap.size := ⟨_, rfl⟩
      rw [← hp] at P3
      rw [← hp]
      clear bb hp L2 O2
      generalize wr.alloc (.cells #[.int .i64 x.k, .int .i64 x.f, .int .i64 x.t, .int .i64 x.i, .slice x.A x.n x.c, .slice x.B x.m x.d] 39) = w3 at *
      obtain ⟨n0, n1, n2, n3, n4, n5⟩ := MBox.cells P3.out
      rcases e2 : okM x.p
      · have HD := Lib.hid (HW2 w3 x (HXM.out.below L3.out) e2).out
        have HBAD : Hid (∃ p ∈ l.map Mx.p, okM p = false) := ⟨x.p, List.mem_of_getElem? HXP.out, e2⟩
        go_wp2_with (go_at_call 28; refine HD.out.mono ?_; rintro e w4 ⟨er, her, rfl, hb⟩; have L4 := Lib.hid (L3.out.trans (hb.mono L3.out.size)); have hne : (er != 0) = true := (by rcases her with rfl | rfl <;> rfl); clear hb her)
        go_ret2
        exact .inr ⟨HBAD.out, rfl, L4.out⟩
      · have HD := Lib.hid (HW1 w3 x (HXM.out.below L3.out) e2).out
        have hbl := bytes_len e2 (HF.out x.p (List.mem_of_getElem? HXP.out))
        have HBL := Lib.hid hbl
        clear hbl
        go_wp2_with (first
          | (go_at_call 28; refine HD.out.mono ?_; rintro e w4 ⟨V, vk, vc, rfl, hV, hb⟩; have L4 := Lib.hid (L3.out.trans (hb.mono L3.out.size)); have O4 := Lib.hid (O3.out.below hb); have hvk : vk ≤ 67000 := (by rw [← hV.len]; exact HBL.out); have V4 := Lib.hid (Wire.gave_row hV (by have := HBL.out; omega)).1; clear hV hb)
          | (at_builtin
             refine wpList_append_row cb_one Try.underlying23 info_byte rfl rfl (.tmp 23) (.tmp 24) rfl rfl w.heap.size (.slice B j d) j _ rfl O4.out V vk vc _ rfl V4.out (by have := HJ.out; omega) (by have := HJ.out; omega) L4.out.size ?_
             intro A' d' w5 h1 h2
             have O5 := Lib.hid h1
             have L5 := Lib.hid (L4.out.trans h2)
             clear h1 h2)
          | fail)
        go_roundw
        case rel => exact ⟨k + 1, A', j + vk, d', by go_num, rfl, by omega, fun q hq => by
          rw [List.take_add_one, HXP.out] at hq
          rcases List.mem_append.1 hq with hq | hq
          · exact HOK.out q hq
          · simp at hq; rw [hq]; exact e2, L5.out, by rw [HTK.out]; exact O5.out⟩
        case measure => simp [intOf]; omega
    · have htk : (l.map Mx.p).take k = l.map Mx.p := List.take_of_length_le (by rw [List.length_map]; have := HL.out; omega)
      have HK := Lib.hid htk
      clear htk
      go_wp2_with fail
      go_ret2
      have h1 := HOK.out
      have h2 := O2.out
      rw [HK.out] at h1 h2
      exact .inl ⟨h1, B, j, d, rfl, h2, L2.out⟩
end Net
end Go.Proofs.Ytamahknnppjegaa
/-
  WALKS: the document's Send.
-/
namespace Go.Proofs.Ytamahknnppjegaa
open Go.RowKit Mem Box
namespace Net
open Wire (B8 info_int asInts asInts_append GaveE MsgBad)

set_option maxRecDepth 100000 in
set_option maxHeartbeats 12800000 in
theorem docSend_any {w : World} {cap : Nat} {Q : Option Addr} {n c : Nat} {l : List Mx} (h : NetAt w Q n c l) (hn : n ≤ 5000) (hcap : cap ≤ 5000) {M : Option Addr} {m e : Nat} {ls : List Mx} (h2 : NetAt w M m e ls) : Calls Try.prog 38 #[nv cap Q n c, .slice M m e] w (Got w (sendR cap (l.map Mx.p) (ls.map Mx.p))) := by
  have HN := Lib.hid h
  have HM := Lib.hid h2
  have hlen := Lib.hid h.row.len
  have hmlen := Lib.hid h2.row.len
  have hmb := h2.row.big
  have HC := fun W (h : NetAt W Q n c l) => Lib.hid (copy_any h (by omega))
  unfold sendR
  have L1 : Hid (Below w.heap.size w ((w.alloc (.cells #[.int .i64 (cap : Int), .slice Q n c] 28)).alloc (.cells #[.int .i64 0, .slice none 0 0] 28))) := (((Below.refl _ w).alloc (by first | exact Nat.le_refl _ | (simp; try omega)) _).alloc (by first | exact Nat.le_refl _ | (simp; try omega)) _)
  have X1 : Hid (Cells ((w.alloc (.cells #[.int .i64 (cap : Int), .slice Q n c] 28)).alloc (.cells #[.int .i64 0, .slice none 0 0] 28)) (w.heap.size) 28 #[.int .i64 (cap : Int), .slice Q n c]) := by
    have := Cells.new w #[.int .i64 (cap : Int), .slice Q n c] 28
    (try simp only [World.size_alloc] at this)
    exact (Cells.alloc this _)
  have Z1 : Hid (Cells ((w.alloc (.cells #[.int .i64 (cap : Int), .slice Q n c] 28)).alloc (.cells #[.int .i64 0, .slice none 0 0] 28)) (w.heap.size + 1) 28 #[.int .i64 0, .slice none 0 0]) := by
    have := Cells.new (w.alloc (.cells #[.int .i64 (cap : Int), .slice Q n c] 28)) #[.int .i64 0, .slice none 0 0] 28
    (try simp only [World.size_alloc] at this)
    exact this
  have SZ : Hid (((w.alloc (.cells #[.int .i64 (cap : Int), .slice Q n c] 28)).alloc (.cells #[.int .i64 0, .slice none 0 0] 28)).heap.size = w.heap.size + 2) := by show _ = _; simp
  clear h h2
  unfold nv at *
  go_enter Try.func38, Try.ntmps38
  go_upto_region 1 with fail
  generalize ((w.alloc (.cells #[.int .i64 (cap : Int), .slice Q n c] 28)).alloc (.cells #[.int .i64 0, .slice none 0 0] 28)) = w1 at *
  go_cut [6] (fun s wx => ∃ g R d l', s = .pointer (some ⟨g, 0, none⟩) ∧ Hid (OutI w.heap.size w wx cap Q n c g R n d l' ∧ l'.map Mx.p = l.map Mx.p))
  case first =>
    have L2 := Lib.hid L1.out.drew
    have X2 := Lib.hid (Cells.below X1.out ((Below.refl _ w1).drew))
    have Z2 := Lib.hid (Cells.below Z1.out ((Below.refl _ w1).drew))
    refine wp_region_held_drew (S := fun W => W.cell? ⟨w.heap.size, 0, none⟩ = some (.int .i64 (cap : Int)) ∧ W.cell? ⟨w.heap.size, 1, none⟩ = some (.slice Q n c)) (by kernel_rfl) (And.intro (NBox.cells X2.out).1 (NBox.cells X2.out).2) (fun hHeld => ?_)
    generalize w1.drew = w2 at *
    clear L1 X1 Z1 
    (first | (refine Reg.take 0 (v := ?_) rfl (by kernel_rfl) (by kernel_rfl) (by kernel_rfl) (fun _ _ _ h => h) (Or.inl ⟨by rfl, ?_⟩) (by assumption) ?_; rotate_left; (focus ((intro W hSW); (try dsimp only at hSW); (try go_split_ands); go_simp; (try (with_reducible rfl)); done))) | (refine Reg.take 0 (v := undef) rfl (by kernel_rfl) (by kernel_rfl) (by kernel_rfl) (fun _ _ _ h => h) (Or.inr ⟨by rfl, rfl⟩) (by assumption) ?_))
    (try simp only [Act.put, List.setIfInBounds_toArray, List.set_cons_zero, List.set_cons_succ])
    (first | (refine Reg.take 1 (v := ?_) rfl (by kernel_rfl) (by kernel_rfl) (by kernel_rfl) (fun _ _ _ h => h) (Or.inl ⟨by rfl, ?_⟩) (by assumption) ?_; rotate_left; (focus ((intro W hSW); (try dsimp only at hSW); (try go_split_ands); go_simp; (try (with_reducible rfl)); done))) | (refine Reg.take 1 (v := undef) rfl (by kernel_rfl) (by kernel_rfl) (by kernel_rfl) (fun _ _ _ h => h) (Or.inr ⟨by rfl, rfl⟩) (by assumption) ?_))
    (try simp only [Act.put, List.setIfInBounds_toArray, List.set_cons_zero, List.set_cons_succ])
    (first | (refine Reg.take 2 (v := ?_) rfl (by kernel_rfl) (by kernel_rfl) (by kernel_rfl) (fun _ _ _ h => h) (Or.inl ⟨by rfl, ?_⟩) (by assumption) ?_; rotate_left; (focus ((intro W hSW); (try dsimp only at hSW); (try go_split_ands); go_simp; (try (with_reducible rfl)); done))) | (refine Reg.take 2 (v := undef) rfl (by kernel_rfl) (by kernel_rfl) (by kernel_rfl) (fun _ _ _ h => h) (Or.inr ⟨by rfl, rfl⟩) (by assumption) ?_))
    (try simp only [Act.put, List.setIfInBounds_toArray, List.set_cons_zero, List.set_cons_succ])
    (first | (refine Reg.take 3 (v := ?_) rfl (by kernel_rfl) (by kernel_rfl) (by kernel_rfl) (fun _ _ _ h => h) (Or.inl ⟨by rfl, ?_⟩) (by assumption) ?_; rotate_left; (focus ((intro W hSW); (try dsimp only at hSW); (try go_split_ands); go_simp; (try (with_reducible rfl)); done))) | (refine Reg.take 3 (v := undef) rfl (by kernel_rfl) (by kernel_rfl) (by kernel_rfl) (fun _ _ _ h => h) (Or.inr ⟨by rfl, rfl⟩) (by assumption) ?_))
    (try simp only [Act.put, List.setIfInBounds_toArray, List.set_cons_zero, List.set_cons_succ])
    refine Reg.step2 4 6 rfl rfl (by kernel_rfl) (by rfl) (by rfl) (fun K hK => ?_) (fun K hK => ?_)
    · skip
      go_simp
      refine ((HC _ (HN.out.below L2.out)).out).mono ?_
      rintro e w3 ⟨Q2, n2, c2, l2, rfl, hO, hP, hb⟩
      have L3 := Lib.hid (L2.out.trans (hb.mono L2.out.size))
      have X3 := Lib.hid (Cells.below X2.out hb)
      have Z3 := Lib.hid (Cells.below Z2.out hb)
      have hn2 : n2 = n := by have h1 := congrArg List.length hP; rw [List.length_map, List.length_map] at h1; have h3 := hO.len; have h4 := hlen.out; omega
      subst hn2
      have N3 := Lib.hid ((hO.lower L2.out.size).base_ L2.out.size)
      have NZ : Hid (∀ x ∈ l2, ∀ q, Bl x q → q ≠ w.heap.size + 1) := fun x hx q hq => by have h1 := hO.low x hx q hq; have h2 := Cells.lt Z2.out; omega
      skip
      have LP := Lib.hid hP
      clear hO hP
      clear hb hHeld 
      clear L2 X2 Z2 
      refine hK.out _ _ (And.intro (NBox.cells X3.out).1 (NBox.cells X3.out).2) (fun hHeld => ?_)
      clear hK K
      (try simp only [Act.put, List.setIfInBounds_toArray, List.set_cons_zero, List.set_cons_succ])
      (first | (refine Reg.take 5 (v := ?_) rfl (by kernel_rfl) (by kernel_rfl) (by kernel_rfl) (fun _ _ _ h => h) (Or.inl ⟨by rfl, ?_⟩) (by assumption) ?_; rotate_left; (focus ((intro W hSW); (try dsimp only at hSW); (try go_split_ands); go_simp; (try (with_reducible rfl)); done))) | (refine Reg.take 5 (v := undef) rfl (by kernel_rfl) (by kernel_rfl) (by kernel_rfl) (fun _ _ _ h => h) (Or.inr ⟨by rfl, rfl⟩) (by assumption) ?_))
      (try simp only [Act.put, List.setIfInBounds_toArray, List.set_cons_zero, List.set_cons_succ])
      refine Reg.step 6 rfl (by kernel_rfl) (by rfl) (fun K hK => ?_)
      go_simp
      have bb : Below w3.heap.size w3 (w3.alloc (.cells #[.int .i64 0, .slice none 0 0] 28)) := (Below.refl _ w3).alloc (Nat.le_refl _) _
      have G4 := Lib.hid ((Cells.new _ _ _ : NBox _ w3.heap.size 0 none 0 0))
      have L4 := Lib.hid (L3.out.trans (bb.mono L3.out.size))
      have X4 := Lib.hid (Cells.below X3.out bb)
      have Z4 := Lib.hid (Cells.below Z3.out bb)
      have N4 := Lib.hid (OwnN.below N3.out bb)
      obtain ⟨g, hg⟩ : ∃ p, p = w3.heap.size := ⟨_, rfl⟩
      rw [← hg] at G4
      rw [← hg]
      have Gg : Hid (g = w3.heap.size) := hg
      have EG : Hid (w.heap.size + 1 < g) := by have h2 := Cells.lt Z3.out; show _ < _; omega
      have NG : Hid (∀ x ∈ l2, ∀ q, Bl x q → q ≠ g) := fun x hx q hq => by have h1 := (N3.out.at_ x hx).lt hq; omega
      clear bb hHeld hg
      clear L3 X3 Z3 N3 
      generalize w3.alloc (.cells #[.int .i64 0, .slice none 0 0] 28) = w4 at *
      refine hK.out _ _ (And.intro (NBox.cells X4.out).1 (NBox.cells X4.out).2) (fun hHeld => ?_)
      clear hK K
      (try simp only [Act.put, List.setIfInBounds_toArray, List.set_cons_zero, List.set_cons_succ])
      have y0 := Cells.cell G4.out 0
      have f0 := Cells.frozen G4.out 0
      have y1 := Cells.cell G4.out 1
      have f1 := Cells.frozen G4.out 1
      refine Reg.step 7 rfl (by kernel_rfl) (by rfl) (fun K hK => ?_)
      go_simp
      have bt : Mov [g] w4 ((w4.setCell ⟨g, 0, none⟩ (.int .i64 (cap : Int))).setCell ⟨g, 1, none⟩ (.slice Q2 n2 c2)) := Mov.set2 _ _ _ _
      have L5 := Lib.hid (L4.out.trans (bt.up L4.out.size (by have := EG.out; omega)))
      have X5 := Lib.hid (Cells.mov X4.out bt (by have := EG.out; simp; omega))
      have Z5 := Lib.hid (Cells.mov Z4.out bt (by have := EG.out; simp; omega))
      have N5 := Lib.hid (N4.out.mov G4.out (by decide) (fun x hx q hq => NG.out x hx q hq) bt)
      have G5 : Hid (Cells ((w4.setCell ⟨g, 0, none⟩ (.int .i64 (cap : Int))).setCell ⟨g, 1, none⟩ (.slice Q2 n2 c2)) (g) 28 #[.int .i64 (cap : Int), .slice Q2 n2 c2]) := Cells.set2 G4.out _ _
      clear bt hHeld y0 f0 y1 f1
      clear L4 X4 Z4 N4 G4 
      generalize (w4.setCell ⟨g, 0, none⟩ (.int .i64 (cap : Int))).setCell ⟨g, 1, none⟩ (.slice Q2 n2 c2) = w5 at *
      refine hK.out _ _ (And.intro (NBox.cells X5.out).1 (NBox.cells X5.out).2) (fun hHeld => ?_)
      clear hK K
      (try simp only [Act.put, List.setIfInBounds_toArray, List.set_cons_zero, List.set_cons_succ])
      refine wpAnyH_done (by kernel_rfl) ?_ _
      clear hHeld
      go_wp2_with fail
      go_meet
      exact ⟨g, Q2, c2, l2, rfl, ⟨L5.out, X5.out, Z5.out, G5.out, N5.out, EG.out, fun x hx q hq => ⟨NG.out x hx q hq, NZ.out x hx q hq⟩⟩, LP.out⟩
    · skip
      go_simp
      have bb : Below w2.heap.size w2 (w2.alloc (.cells #[.int .i64 0, .slice none 0 0] 28)) := (Below.refl _ w2).alloc (Nat.le_refl _) _
      have G3 := Lib.hid ((Cells.new _ _ _ : NBox _ w2.heap.size 0 none 0 0))
      have L3 := Lib.hid (L2.out.trans (bb.mono L2.out.size))
      have X3 := Lib.hid (Cells.below X2.out bb)
      have Z3 := Lib.hid (Cells.below Z2.out bb)
      obtain ⟨g, hg⟩ : ∃ p, p = w2.heap.size := ⟨_, rfl⟩
      rw [← hg] at G3
      rw [← hg]
      have Gg : Hid (g = w2.heap.size) := hg
      have EG : Hid (w.heap.size + 1 < g) := by have h2 := Cells.lt Z2.out; show _ < _; omega
      skip
      clear bb hHeld hg
      clear L2 X2 Z2 
      generalize w2.alloc (.cells #[.int .i64 0, .slice none 0 0] 28) = w3 at *
      refine hK.out _ _ (And.intro (NBox.cells X3.out).1 (NBox.cells X3.out).2) (fun hHeld => ?_)
      clear hK K
      (try simp only [Act.put, List.setIfInBounds_toArray, List.set_cons_zero, List.set_cons_succ])
      refine Reg.step 4 rfl (by kernel_rfl) (by rfl) (fun K hK => ?_)
      go_simp
      refine ((HC _ (HN.out.below L3.out)).out).mono ?_
      rintro e w4 ⟨Q2, n2, c2, l2, rfl, hO, hP, hb⟩
      have L4 := Lib.hid (L3.out.trans (hb.mono L3.out.size))
      have X4 := Lib.hid (Cells.below X3.out hb)
      have Z4 := Lib.hid (Cells.below Z3.out hb)
      have G4 := Lib.hid (Cells.below G3.out hb)
      have hn2 : n2 = n := by have h1 := congrArg List.length hP; rw [List.length_map, List.length_map] at h1; have h3 := hO.len; have h4 := hlen.out; omega
      subst hn2
      have N4 := Lib.hid ((hO.lower L3.out.size).base_ L3.out.size)
      have NZ : Hid (∀ x ∈ l2, ∀ q, Bl x q → q ≠ w.heap.size + 1) := fun x hx q hq => by have h1 := hO.low x hx q hq; have h2 := Cells.lt Z3.out; omega
      have NG : Hid (∀ x ∈ l2, ∀ q, Bl x q → q ≠ g) := fun x hx q hq => by have h1 := hO.low x hx q hq; have h2 := Cells.lt G3.out; omega
      have LP := Lib.hid hP
      clear hO hP
      clear hb hHeld 
      clear L3 X3 Z3 G3 
      refine hK.out _ _ (And.intro (NBox.cells X4.out).1 (NBox.cells X4.out).2) (fun hHeld => ?_)
      clear hK K
      (try simp only [Act.put, List.setIfInBounds_toArray, List.set_cons_zero, List.set_cons_succ])
      (first | (refine Reg.take 5 (v := ?_) rfl (by kernel_rfl) (by kernel_rfl) (by kernel_rfl) (fun _ _ _ h => h) (Or.inl ⟨by rfl, ?_⟩) (by assumption) ?_; rotate_left; (focus ((intro W hSW); (try dsimp only at hSW); (try go_split_ands); go_simp; (try (with_reducible rfl)); done))) | (refine Reg.take 5 (v := undef) rfl (by kernel_rfl) (by kernel_rfl) (by kernel_rfl) (fun _ _ _ h => h) (Or.inr ⟨by rfl, rfl⟩) (by assumption) ?_))
      (try simp only [Act.put, List.setIfInBounds_toArray, List.set_cons_zero, List.set_cons_succ])
      have y0 := Cells.cell G4.out 0
      have f0 := Cells.frozen G4.out 0
      have y1 := Cells.cell G4.out 1
      have f1 := Cells.frozen G4.out 1
      refine Reg.step 7 rfl (by kernel_rfl) (by rfl) (fun K hK => ?_)
      go_simp
      have bt : Mov [g] w4 ((w4.setCell ⟨g, 0, none⟩ (.int .i64 (cap : Int))).setCell ⟨g, 1, none⟩ (.slice Q2 n2 c2)) := Mov.set2 _ _ _ _
      have L5 := Lib.hid (L4.out.trans (bt.up L4.out.size (by have := EG.out; omega)))
      have X5 := Lib.hid (Cells.mov X4.out bt (by have := EG.out; simp; omega))
      have Z5 := Lib.hid (Cells.mov Z4.out bt (by have := EG.out; simp; omega))
      have G5 : Hid (Cells ((w4.setCell ⟨g, 0, none⟩ (.int .i64 (cap : Int))).setCell ⟨g, 1, none⟩ (.slice Q2 n2 c2)) (g) 28 #[.int .i64 (cap : Int), .slice Q2 n2 c2]) := Cells.set2 G4.out _ _
      have N5 := Lib.hid (N4.out.mov G4.out (by decide) (fun x hx q hq => NG.out x hx q hq) bt)
      clear bt hHeld y0 f0 y1 f1
      clear L4 X4 Z4 G4 N4 
      generalize (w4.setCell ⟨g, 0, none⟩ (.int .i64 (cap : Int))).setCell ⟨g, 1, none⟩ (.slice Q2 n2 c2) = w5 at *
      refine hK.out _ _ (And.intro (NBox.cells X5.out).1 (NBox.cells X5.out).2) (fun hHeld => ?_)
      clear hK K
      (try simp only [Act.put, List.setIfInBounds_toArray, List.set_cons_zero, List.set_cons_succ])
      refine wpAnyH_done (by kernel_rfl) ?_ _
      clear hHeld
      go_wp2_with fail
      go_meet
      exact ⟨g, Q2, c2, l2, rfl, ⟨L5.out, X5.out, Z5.out, G5.out, N5.out, EG.out, fun x hx q hq => ⟨NG.out x hx q hq, NZ.out x hx q hq⟩⟩, LP.out⟩
  case rest =>
    obtain ⟨g, R0, d0, l0, rfl, hO1⟩ := hcut
    clear L1 X1 Z1 SZ HC
    go_wp2_with fail
    go_loopw [7, 9, 10, 11, 20] (fun s _ _ _ t wr => ∃ (k kk : Nat) (R : Option Addr) (d : Nat) (l' : List Mx), t = .int .i64 k ∧ s = .int .i64 kk ∧ k ≤ m ∧ kk ≤ 5000 ∧ Hid (OutI w.heap.size w wr cap Q n c g R (n + kk) d l') ∧ Hid (l'.map Mx.p = sendP cap (l.map Mx.p) ((ls.map Mx.p).take k))) (fun _ _ _ _ t _ => m - (intOf t).toNat)
    case atStart => exact ⟨0, 0, R0, d0, l0, rfl, rfl, by omega, by omega, hO1.out.1, hO1.out.2⟩
    case round =>
      clear hO1
      obtain ⟨k, kk, R, d, l', rfl, rfl, hk, hkk, I1, HPR⟩ := hrel
      obtain ⟨j, hjd⟩ : ∃ j, j = n + kk := ⟨_, rfl⟩
      rw [← hjd] at I1
      have hj : j ≤ 10000 := by omega
      have HJD := Lib.hid hjd
      clear hjd
      by_cases hlt : k < m
      · obtain ⟨x, hx, hxm⟩ := HM.out.get hlt
        obtain ⟨b2, o2, hQ, hb2, hcs⟩ := HM.out.cells hx
        obtain ⟨c0, c1, c2, c3, c4, c5⟩ := hcs wr I1.out.below
        have HSN := Lib.hid (send_snoc (cap := cap) (q := l.map Mx.p) (l := ls.map Mx.p) (m := x.p) (k := k) (by rw [List.getElem?_map, hx]; rfl))
        have HXM := Lib.hid hxm
        have hk0 : (0 : Int) ≤ (k : Int) := by omega
        have hkm : (k : Int) < (m : Int) := by omega
        clear hx hxm hcs hb2
        subst hQ
        go_upto_region 6 with fail
        clear c0 c1 c2 c3 c4 c5
        have bb : Below wr.heap.size wr (wr.alloc (.cells #[.int .i64 x.k, .int .i64 x.f, .int .i64 x.t, .int .i64 x.i, .slice x.A x.n x.c, .slice x.B x.m x.d] 39)) := (Below.refl _ wr).alloc (Nat.le_refl _) _
        have I3 := Lib.hid (I1.out.keep bb)
        have B3 : Hid (MBox (wr.alloc (.cells #[.int .i64 x.k, .int .i64 x.f, .int .i64 x.t, .int .i64 x.i, .slice x.A x.n x.c, .slice x.B x.m x.d] 39)) wr.heap.size x) := Cells.new _ _ _
        have PBN : Hid ((Value.slice R j d).ownBlock ≠ some wr.heap.size) := fun e => by have := (I1.out.own.own.lt _ e).2; omega
        obtain ⟨p, hp⟩ : ∃ p, p = wr.heap.size := ⟨_, rfl⟩
        rw [← hp] at B3 PBN
        rw [← hp]
        clear bb hp I1
        generalize wr.alloc (.cells #[.int .i64 x.k, .int .i64 x.f, .int .i64 x.t, .int .i64 x.i, .slice x.A x.n x.c, .slice x.B x.m x.d] 39) = w3 at *
        obtain ⟨n0, n1, n2, n3, n4, n5⟩ := MBox.cells B3.out
        rcases e2 : okM x.p
        · have HW := fun W (h : MAt W x) => Lib.hid (dmsg_bad h e2)
          unfold mxv at HW
          have HPU : Hid (sendP cap (l.map Mx.p) ((ls.map Mx.p).take (k + 1)) = sendP cap (l.map Mx.p) ((ls.map Mx.p).take k)) := by show _ = _; rw [HSN.out]; unfold pushP; rw [e2]; rfl
          go_wp2_with (go_at_call 28; refine (HW _ (HXM.out.below I3.out.below)).out.mono ?_; rintro e w4 ⟨er, her, rfl, hb⟩; have I4 := Lib.hid (I3.out.keep hb); have hne : (er == 0) = false := (by rcases her with rfl | rfl <;> rfl); clear hb her)
          go_roundw
          case rel => exact ⟨k + 1, kk, R, d, l', by go_num, rfl, by omega, hkk, by rw [← HJD.out]; exact I4, by show _ = _; rw [HPU.out, HPR.out]⟩
          case measure => simp [intOf]; omega
        · have HW := fun W (h : MAt W x) => Lib.hid (dmsg_ok h e2)
          unfold mxv at HW
          go_upto_region 7 with (first | (go_at_call 28; refine (HW _ (HXM.out.below I3.out.below)).out.mono ?_; rintro e w4 ⟨V, vk, vc, rfl, -, hb⟩; have I4 := Lib.hid (I3.out.keep hb); have B4 := Lib.hid (Cells.below B3.out hb); clear hb) | fail)
          clear n0 n1 n2 n3 n4 n5 I3 B3 HW
          obtain ⟨k0, k1⟩ := NBox.cells I4.out.gb
          obtain ⟨m0, m1⟩ := NBox.cells I4.out.nb
          rcases e1 : decide (j < cap)
          · have HPU : Hid (sendP cap (l.map Mx.p) ((ls.map Mx.p).take (k + 1)) = sendP cap (l.map Mx.p) ((ls.map Mx.p).take k)) := by
              show _ = _
              rw [HSN.out]; unfold pushP; rw [e2, ← HPR.out, List.length_map, I4.out.own.len, e1]; rfl
            go_wp2_with fail
            go_roundw
            case rel => exact ⟨k + 1, kk, R, d, l', by go_num, rfl, by omega, hkk, by rw [← HJD.out]; exact I4, by show _ = _; rw [HPU.out, HPR.out]⟩
            case measure => simp [intOf]; omega
          · have HPU : Hid (sendP cap (l.map Mx.p) ((ls.map Mx.p).take (k + 1)) = sendP cap (l.map Mx.p) ((ls.map Mx.p).take k) ++ [x.p]) := by
              show _ = _
              rw [HSN.out]; unfold pushP; rw [e2, ← HPR.out, List.length_map, I4.out.own.len, e1]; rfl
            have hjc : j < cap := of_decide_eq_true e1
            go_upto_region 8 with fail
            clear k0 k1 m0 m1
            have HS := fun W cp Q' n' c' g' R' k' d' l'' (hW : OutI w.heap.size w W cp Q' n' c' g' R' k' d' l'') (hB : MBox W p x) => And.intro (NBox.cells hW.gb).2 (MBox.cells hB)
            have I2 := Lib.hid (I4.out.keep ((Below.refl _ w4).drew))
            have B2 := Lib.hid (Cells.below B4.out ((Below.refl _ w4).drew))
            refine RegK.start (S := fun W => W.cell? ⟨g, 1, none⟩ = some (.slice R j d) ∧ W.cell? ⟨p, 0, none⟩ = some (.int .i64 x.k) ∧ W.cell? ⟨p, 1, none⟩ = some (.int .i64 x.f) ∧ W.cell? ⟨p, 2, none⟩ = some (.int .i64 x.t) ∧ W.cell? ⟨p, 3, none⟩ = some (.int .i64 x.i) ∧ W.cell? ⟨p, 4, none⟩ = some (.slice x.A x.n x.c) ∧ W.cell? ⟨p, 5, none⟩ = some (.slice x.B x.m x.d)) 7 (by kernel_rfl) (HS _ _ _ _ _ _ _ _ _ _ I2.out B2.out) (fun hHeld => ?_)
            generalize w4.drew = w2 at *
            clear I4 B4
            (first | (refine RegK.take 0 [7] (v := ?_) rfl (by kernel_rfl) (by kernel_rfl) (by kernel_rfl) (by kernel_rfl) rfl (by kernel_rfl) (fun _ _ _ h => h) (Or.inl ⟨by rfl, ?_⟩) (by assumption) ?_; rotate_left; (focus ((intro W hSW; (try dsimp only at hSW); (try go_split_ands); go_simp; (try (with_reducible rfl)); done)))) | (refine RegK.take 0 [7] (v := undef) rfl (by kernel_rfl) (by kernel_rfl) (by kernel_rfl) (by kernel_rfl) rfl (by kernel_rfl) (fun _ _ _ h => h) (Or.inr ⟨by rfl, rfl⟩) (by assumption) ?_))
            (try simp only [Act.put, List.setIfInBounds_toArray, List.set_cons_zero, List.set_cons_succ])
            (first | (refine RegK.take 1 [7] (v := ?_) rfl (by kernel_rfl) (by kernel_rfl) (by kernel_rfl) (by kernel_rfl) rfl (by kernel_rfl) (fun _ _ _ h => h) (Or.inl ⟨by rfl, ?_⟩) (by assumption) ?_; rotate_left; (focus ((intro W hSW; (try dsimp only at hSW); (try go_split_ands); go_simp; (try (with_reducible rfl)); done)))) | (refine RegK.take 1 [7] (v := undef) rfl (by kernel_rfl) (by kernel_rfl) (by kernel_rfl) (by kernel_rfl) rfl (by kernel_rfl) (fun _ _ _ h => h) (Or.inr ⟨by rfl, rfl⟩) (by assumption) ?_))
            (try simp only [Act.put, List.setIfInBounds_toArray, List.set_cons_zero, List.set_cons_succ])
            (first | (refine RegK.take 2 [7] (v := ?_) rfl (by kernel_rfl) (by kernel_rfl) (by kernel_rfl) (by kernel_rfl) rfl (by kernel_rfl) (fun _ _ _ h => h) (Or.inl ⟨by rfl, ?_⟩) (by assumption) ?_; rotate_left; (focus ((intro W hSW; (try dsimp only at hSW); (try go_split_ands); go_simp; (try (with_reducible rfl)); done)))) | (refine RegK.take 2 [7] (v := undef) rfl (by kernel_rfl) (by kernel_rfl) (by kernel_rfl) (by kernel_rfl) rfl (by kernel_rfl) (fun _ _ _ h => h) (Or.inr ⟨by rfl, rfl⟩) (by assumption) ?_))
            (try simp only [Act.put, List.setIfInBounds_toArray, List.set_cons_zero, List.set_cons_succ])
            refine RegK.step 3 rfl (by kernel_rfl) (by rfl) (fun K hK => ?_)
            go_simp
            have bb : Below w2.heap.size w2 (w2.alloc (.cells #[.int .i64 x.k, .int .i64 x.f, .int .i64 x.t, .int .i64 x.i, .slice x.A x.n x.c, .slice x.B x.m x.d] 39)) := (Below.refl _ w2).alloc (Nat.le_refl _) _
            have I3 := Lib.hid (I2.out.keep bb)
            have B3 := Lib.hid (Cells.below B2.out bb)
            have XN3 : Hid (NetAt (w2.alloc (.cells #[.int .i64 x.k, .int .i64 x.f, .int .i64 x.t, .int .i64 x.i, .slice x.A x.n x.c, .slice x.B x.m x.d] 39)) (some ⟨w2.heap.size, 0, none⟩) 1 1 [x]) := ⟨one_msg w2 x, fun z hz => by rw [List.mem_singleton.1 hz]; exact HXM.out.below I3.out.below⟩
            clear bb hHeld I2 B2
            have hHeld := HS _ _ _ _ _ _ _ _ _ _ I3.out B3.out
            refine hK.out _ _ (fun _ => hHeld) ?_
            clear hK K
            (try simp only [Act.put, List.setIfInBounds_toArray, List.set_cons_zero, List.set_cons_succ])
            obtain ⟨p1, hp1⟩ : ∃ p, p = w2.heap.size := ⟨_, rfl⟩
            rw [← hp1] at XN3
            rw [← hp1]
            clear hp1
            generalize w2.alloc (.cells #[.int .i64 x.k, .int .i64 x.f, .int .i64 x.t, .int .i64 x.i, .slice x.A x.n x.c, .slice x.B x.m x.d] 39) = w3 at *
            refine RegK.step 4 rfl (by kernel_rfl) (by rfl) (fun K hK => ?_)
            go_simp
            refine (copy_any XN3.out (by omega)).mono ?_
            rintro e w4 ⟨Qd, nd, cd, ld, rfl, hO, hP, hb⟩
            obtain ⟨y, hl, hyp⟩ := map_one hP
            subst hl
            have hnd : 1 = nd := hO.len
            subst hnd
            have I4 := Lib.hid (I3.out.keep hb)
            have B4 := Lib.hid (Cells.below B3.out hb)
            have YA4 := Lib.hid (hO.at_ y (by simp))
            have YP := Lib.hid hyp
            have YL : Hid (∀ q, Bl y q → (Value.slice R j d).ownBlock ≠ some q ∧ q ≠ g ∧ q ≠ w.heap.size + 1) := I3.out.apart (hO.low y (by simp))
            have YB : Hid (New w.heap.size y) := (hO.low y (by simp)).mono I3.out.base_
            have R4 := Lib.hid (hO.net (by omega)).row
            clear hO hP hyp hb hHeld XN3
            have hHeld := HS _ _ _ _ _ _ _ _ _ _ I4.out B4.out
            refine hK.out _ _ (fun _ => hHeld) ?_
            clear hK K I3 B3
            (try simp only [Act.put, List.setIfInBounds_toArray, List.set_cons_zero, List.set_cons_succ])
            refine RegK.step 5 rfl (by kernel_rfl) (by rfl) (fun K hK => ?_)
            refine OwnS.wp_append1 fitM Try.underlying26 info_msg rfl (by omega) (.tmp 40) (.tmp 43) rfl rfl w.heap.size (.slice R j d) j l' rfl I4.out.own.own Qd 1 cd [y] rfl R4.out (by omega) I4.out.base_ ?_
            intro R' d' w5 ho hg hn
            obtain ⟨G1, G2, G3, G4⟩ := I4.out.grown hg
            have PU := Lib.hid (I4.out.push ho hg hn YA4.out YB.out YL.out)
            have B5 := Lib.hid (cells_grown B4.out hg PBN.out)
            have y1 := (NBox.cells G4).2
            have f1 : w5.frozen? ⟨g, 1, none⟩ = false := Cells.frozen G4 1
            clear hHeld
            have hHeld := And.intro y1 (MBox.cells B5.out)
            refine hK.out _ _ (fun _ => hHeld) ?_
            clear hK K ho hg hn G1 G2 G3 G4 I4 YA4 YB YL R4 B4 B5
            (try simp only [Act.put, List.setIfInBounds_toArray, List.set_cons_zero, List.set_cons_succ])
            (first | (refine RegK.take 6 [7] (v := ?_) rfl (by kernel_rfl) (by kernel_rfl) (by kernel_rfl) (by kernel_rfl) rfl (by kernel_rfl) (fun _ _ _ h => h) (Or.inl ⟨by rfl, ?_⟩) (by assumption) ?_; rotate_left; (focus ((intro W hSW; (try dsimp only at hSW); (try go_split_ands); go_simp; (try (with_reducible rfl)); done)))) | (refine RegK.take 6 [7] (v := undef) rfl (by kernel_rfl) (by kernel_rfl) (by kernel_rfl) (by kernel_rfl) rfl (by kernel_rfl) (fun _ _ _ h => h) (Or.inr ⟨by rfl, rfl⟩) (by assumption) ?_))
            (try simp only [Act.put, List.setIfInBounds_toArray, List.set_cons_zero, List.set_cons_succ])
            refine RegK.step 7 rfl (by kernel_rfl) (by rfl) (fun K hK => ?_)
            go_simp
            refine hK.out _ _ (fun h => absurd rfl h) ?_
            clear hK K hHeld y1 f1
            (try simp only [Act.put, List.setIfInBounds_toArray, List.set_cons_zero, List.set_cons_succ])
            refine RegK.done (by kernel_rfl) ?_ _
            go_wp2_with fail
            go_roundw
            case rel => exact ⟨k + 1, kk + 1, R', d', l' ++ [y], by go_num, by go_num, by omega, by have := HJD.out; omega, by rw [← Nat.add_assoc, ← HJD.out]; exact PU, by show _ = _; rw [HPU.out, List.map_append, HPR.out]; show _ ++ [y.p] = _; rw [YP.out]⟩
            case measure => simp [intOf]; omega
      · have FE : Hid (l'.map Mx.p = sendP cap (l.map Mx.p) (ls.map Mx.p)) := by
          show _ = _
          rw [HPR.out, List.take_of_length_le (by rw [List.length_map]; have := hmlen.out; omega)]
        obtain ⟨k0, k1⟩ := NBox.cells I1.out.gb
        obtain ⟨z0, z1⟩ := NBox.cells I1.out.zb
        have f0 := Cells.frozen I1.out.zb 0
        have f1 := Cells.frozen I1.out.zb 1
        go_wp2_with fail
        have bt := Mov.set2 wr (w.heap.size + 1) (.int .i64 (cap : Int)) (.slice R j d)
        refine bodyPost_ret_by (results_c1 rfl _ _ (w.heap.size + 1) _ _ _ _ rfl (Cells.set2 I1.out.zb (.int .i64 (cap : Int)) (.slice R j d)) Try.underlying28 rfl (by kernel_rfl)) rfl ?_
        have HK : ((sendP cap (l.map Mx.p) (ls.map Mx.p)).length : Int) - ((l.map Mx.p).length : Int) = (kk : Int) := by
          rw [← FE.out, List.length_map, List.length_map, I1.out.own.len, hlen.out]; have := HJD.out; omega
        exact ⟨R, j, d, l', by show _ = Ending.returned (.tuple #[nv cap R j d, .int .i64 (((sendP cap (l.map Mx.p) (ls.map Mx.p)).length : Int) - ((l.map Mx.p).length : Int))]); rw [HK]; rfl, I1.out.own.mov I1.out.zb (by decide) (fun x hx q hq => (I1.out.bn x hx q hq).2) bt, FE.out, I1.out.below.trans (bt.up I1.out.base_ (by omega))⟩
end Net
end Go.Proofs.Ytamahknnppjegaa
/-
  WALKS: the document's Drop, Later.
-/
namespace Go.Proofs.Ytamahknnppjegaa
open Go.RowKit Mem Box
namespace Net
open Wire (B8 info_int asInts asInts_append)

theorem drop_take (cap : Nat) (N : List Mp) (i : Int) : dropR cap N i = ((takeR cap N i).1, (takeR cap N i).2.1, (takeR cap N i).2.2.2) := by
  unfold dropR takeR
  rcases atP N i <;> rfl
set_option maxRecDepth 100000 in
set_option maxHeartbeats 3200000 in
theorem docDrop_any {w : World} {cap : Nat} {Q : Option Addr} {n c : Nat} {l : List Mx} (h : NetAt w Q n c l) (hn : n ≤ 5000) (i : Int) : Calls Try.prog 40 #[nv cap Q n c, .int .i64 i] w (Got w (dropR cap (l.map Mx.p) i)) := by
  rw [drop_take]
  have HT := fun W (h : NetAt W Q n c l) => Lib.hid (docTake_any (cap := cap) h hn i)
  have HN := Lib.hid h
  generalize takeR cap (l.map Mx.p) i = R at *
  obtain ⟨cap2, pl, p2, er⟩ := R
  show Calls _ _ _ _ (Got w (cap2, pl, er))
  have L1 : Hid (Below w.heap.size w ((w.alloc (.cells #[.int .i64 (cap : Int), .slice Q n c] 28)).alloc (.cells #[.int .i64 0, .slice none 0 0] 28))) := (((Below.refl _ w).alloc (by first | exact Nat.le_refl _ | (simp; try omega)) _).alloc (by first | exact Nat.le_refl _ | (simp; try omega)) _)
  have X1 : Hid (Cells ((w.alloc (.cells #[.int .i64 (cap : Int), .slice Q n c] 28)).alloc (.cells #[.int .i64 0, .slice none 0 0] 28)) (w.heap.size) 28 #[.int .i64 (cap : Int), .slice Q n c]) := by
    have := Cells.new w #[.int .i64 (cap : Int), .slice Q n c] 28
    (try simp only [World.size_alloc] at this)
    exact (Cells.alloc this _)
  have Z1 : Hid (Cells ((w.alloc (.cells #[.int .i64 (cap : Int), .slice Q n c] 28)).alloc (.cells #[.int .i64 0, .slice none 0 0] 28)) (w.heap.size + 1) 28 #[.int .i64 0, .slice none 0 0]) := by
    have := Cells.new (w.alloc (.cells #[.int .i64 (cap : Int), .slice Q n c] 28)) #[.int .i64 0, .slice none 0 0] 28
    (try simp only [World.size_alloc] at this)
    exact this
  have SZ : Hid (((w.alloc (.cells #[.int .i64 (cap : Int), .slice Q n c] 28)).alloc (.cells #[.int .i64 0, .slice none 0 0] 28)).heap.size = w.heap.size + 2) := by show _ = _; simp
  clear h
  unfold nv at *
  go_enter Try.func40, Try.ntmps40
  go_upto_region 2 with (first | (go_at_call 39; refine (HT _ (HN.out.below L1.out)).out.mono ?_; rintro en w2 ⟨Q2, n2, c2, l2, y, rfl, hO, hP, hyp, hya, hyn, hap, hb⟩; (try dsimp only at hP hyp); have L2 := Lib.hid (L1.out.trans (hb.mono L1.out.size)); have Z2 := Lib.hid (Cells.below Z1.out hb); have N2 := Lib.hid ((hO.lower L1.out.size).base_ L1.out.size); have NW : Hid (∀ x ∈ l2, ∀ q, Bl x q → w.heap.size + 2 ≤ q) := (fun x hx q hq => by have h1 := hO.low x hx q hq; have h2 := SZ.out; omega); have NB : Hid (∀ q, (Value.slice Q2 n2 c2).ownBlock = some q → w.heap.size + 2 ≤ q ∧ q < w2.heap.size) := (fun q hq => by have h1 := hO.own.lt q hq; have h2 := SZ.out; omega); have LP := Lib.hid hP; have YP := Lib.hid hyp; have YA2 := Lib.hid hya; have YW : Hid (∀ q, Bl y q → w.heap.size + 2 ≤ q ∧ q < w2.heap.size) := (fun q hq => by have h1 := hyn q hq; have h2 := hya.lt hq; have h3 := SZ.out; omega); have YAP := Lib.hid hap; (try unfold nv); (try unfold mxv); (try dsimp only); clear hb hO hP hyp hya hyn hap) | fail)
  have A3 : Below w2.heap.size w2 ((w2.alloc (.cells #[.int .i64 (cap2 : Int), .slice Q2 n2 c2] 28)).alloc (.cells #[.int .i64 y.k, .int .i64 y.f, .int .i64 y.t, .int .i64 y.i, .slice y.A y.n y.c, .slice y.B y.m y.d] 39)) := ((Below.refl _ _).alloc (Nat.le_refl _) _).alloc (by simp) _
  have L3 := Lib.hid (L2.out.trans (A3.mono L2.out.size))
  have Z3 := Lib.hid (Cells.below Z2.out A3)
  have N3 := Lib.hid (N2.out.below A3)
  have YA3 := Lib.hid (YA2.out.below A3)
  have T3 : Hid (NBox ((w2.alloc (.cells #[.int .i64 (cap2 : Int), .slice Q2 n2 c2] 28)).alloc (.cells #[.int .i64 y.k, .int .i64 y.f, .int .i64 y.t, .int .i64 y.i, .slice y.A y.n y.c, .slice y.B y.m y.d] 39)) w2.heap.size (cap2) Q2 n2 c2) := Cells.alloc (Cells.new _ _ _) _
  have Y3 : Hid (MBox ((w2.alloc (.cells #[.int .i64 (cap2 : Int), .slice Q2 n2 c2] 28)).alloc (.cells #[.int .i64 y.k, .int .i64 y.f, .int .i64 y.t, .int .i64 y.i, .slice y.A y.n y.c, .slice y.B y.m y.d] 39)) (w2.heap.size + 1) y) := by
    have := Cells.new (w2.alloc (.cells #[.int .i64 (cap2 : Int), .slice Q2 n2 c2] 28)) #[.int .i64 y.k, .int .i64 y.f, .int .i64 y.t, .int .i64 y.i, .slice y.A y.n y.c, .slice y.B y.m y.d] 39
    rw [World.size_alloc] at this
    exact this
  have LZ : Hid (w.heap.size + 1 < w2.heap.size) := Cells.lt Z2.out
  have LL2 : Hid (∀ x ∈ l2, ∀ q, Bl x q → q < w2.heap.size) := fun x hx q hq => (N2.out.at_ x hx).lt hq
  obtain ⟨g, hg⟩ : ∃ g, g = w2.heap.size := ⟨_, rfl⟩
  rw [← hg] at T3 Y3 LZ NB YW LL2
  rw [← hg]
  clear A3 hg L2 Z2 N2 YA2 L1 X1 Z1 SZ HT HN
  generalize ((w2.alloc (.cells #[.int .i64 (cap2 : Int), .slice Q2 n2 c2] 28)).alloc (.cells #[.int .i64 y.k, .int .i64 y.f, .int .i64 y.t, .int .i64 y.i, .slice y.A y.n y.c, .slice y.B y.m y.d] 39)) = w3 at *
  obtain ⟨t0, t1⟩ := NBox.cells T3.out
  obtain ⟨z0, z1⟩ := NBox.cells Z3.out
  have f0 := Cells.frozen Z3.out 0
  have f1 := Cells.frozen Z3.out 1
  go_wp2_with fail
  have bt := Mov.set2 w3 (w.heap.size + 1) (.int .i64 (cap2 : Int)) (.slice Q2 n2 c2)
  refine bodyPost_ret_by (results_c1 rfl _ _ (w.heap.size + 1) _ _ _ _ rfl (Cells.set2 Z3.out (.int .i64 (cap2 : Int)) (.slice Q2 n2 c2)) Try.underlying28 rfl (by kernel_rfl)) rfl ?_
  exact ⟨Q2, n2, c2, l2, rfl, N3.out.mov_ (fun e => by have h1 := NB.out _ e; omega) (fun x hx q hq => by have h1 := NW.out x hx q hq; omega) bt, LP.out, L3.out.trans (bt.up L3.out.size (by omega))⟩
set_option maxRecDepth 100000 in
set_option maxHeartbeats 3200000 in
theorem docLater_bad {w : World} {cap : Nat} {Q : Option Addr} {n c : Nat} {l : List Mx} (h : NetAt w Q n c l) (hn : n ≤ 5000) {i : Int} (hi : atP (l.map Mx.p) i = none) : Calls Try.prog 42 #[nv cap Q n c, .int .i64 i] w (Got w (0, [], 4)) := by
  have HT := fun W (h : NetAt W Q n c l) => Lib.hid (docTake_any (cap := cap) h hn i)
  have HN := Lib.hid h
  unfold takeR at HT
  rw [hi] at HT
  have L1 : Hid (Below w.heap.size w ((w.alloc (.cells #[.int .i64 (cap : Int), .slice Q n c] 28)).alloc (.cells #[.int .i64 0, .slice none 0 0] 28))) := (((Below.refl _ w).alloc (by first | exact Nat.le_refl _ | (simp; try omega)) _).alloc (by first | exact Nat.le_refl _ | (simp; try omega)) _)
  have X1 : Hid (Cells ((w.alloc (.cells #[.int .i64 (cap : Int), .slice Q n c] 28)).alloc (.cells #[.int .i64 0, .slice none 0 0] 28)) (w.heap.size) 28 #[.int .i64 (cap : Int), .slice Q n c]) := by
    have := Cells.new w #[.int .i64 (cap : Int), .slice Q n c] 28
    (try simp only [World.size_alloc] at this)
    exact (Cells.alloc this _)
  have Z1 : Hid (Cells ((w.alloc (.cells #[.int .i64 (cap : Int), .slice Q n c] 28)).alloc (.cells #[.int .i64 0, .slice none 0 0] 28)) (w.heap.size + 1) 28 #[.int .i64 0, .slice none 0 0]) := by
    have := Cells.new (w.alloc (.cells #[.int .i64 (cap : Int), .slice Q n c] 28)) #[.int .i64 0, .slice none 0 0] 28
    (try simp only [World.size_alloc] at this)
    exact this
  have SZ : Hid (((w.alloc (.cells #[.int .i64 (cap : Int), .slice Q n c] 28)).alloc (.cells #[.int .i64 0, .slice none 0 0] 28)).heap.size = w.heap.size + 2) := by show _ = _; simp
  clear h
  unfold nv at *
  go_enter Try.func42, Try.ntmps42
  go_upto_region 2 with (first | (go_at_call 39; refine (HT _ (HN.out.below L1.out)).out.mono ?_; rintro en w2 ⟨Q2, n2, c2, l2, y, rfl, hO, hP, hyp, hya, hyn, hap, hb⟩; (try dsimp only at hP hyp); have L2 := Lib.hid (L1.out.trans (hb.mono L1.out.size)); have Z2 := Lib.hid (Cells.below Z1.out hb); have N2 := Lib.hid ((hO.lower L1.out.size).base_ L1.out.size); have NW : Hid (∀ x ∈ l2, ∀ q, Bl x q → w.heap.size + 2 ≤ q) := (fun x hx q hq => by have h1 := hO.low x hx q hq; have h2 := SZ.out; omega); have NB : Hid (∀ q, (Value.slice Q2 n2 c2).ownBlock = some q → w.heap.size + 2 ≤ q ∧ q < w2.heap.size) := (fun q hq => by have h1 := hO.own.lt q hq; have h2 := SZ.out; omega); have LP := Lib.hid hP; have YP := Lib.hid hyp; have YA2 := Lib.hid hya; have YW : Hid (∀ q, Bl y q → w.heap.size + 2 ≤ q ∧ q < w2.heap.size) := (fun q hq => by have h1 := hyn q hq; have h2 := hya.lt hq; have h3 := SZ.out; omega); have YAP := Lib.hid hap; (try unfold nv); (try unfold mxv); (try dsimp only); clear hb hO hP hyp hya hyn hap) | fail)
  have A3 : Below w2.heap.size w2 ((w2.alloc (.cells #[.int .i64 ((0 : Nat) : Int), .slice Q2 n2 c2] 28)).alloc (.cells #[.int .i64 y.k, .int .i64 y.f, .int .i64 y.t, .int .i64 y.i, .slice y.A y.n y.c, .slice y.B y.m y.d] 39)) := ((Below.refl _ _).alloc (Nat.le_refl _) _).alloc (by simp) _
  have L3 := Lib.hid (L2.out.trans (A3.mono L2.out.size))
  have Z3 := Lib.hid (Cells.below Z2.out A3)
  have N3 := Lib.hid (N2.out.below A3)
  have YA3 := Lib.hid (YA2.out.below A3)
  have T3 : Hid (NBox ((w2.alloc (.cells #[.int .i64 ((0 : Nat) : Int), .slice Q2 n2 c2] 28)).alloc (.cells #[.int .i64 y.k, .int .i64 y.f, .int .i64 y.t, .int .i64 y.i, .slice y.A y.n y.c, .slice y.B y.m y.d] 39)) w2.heap.size ((0 : Nat)) Q2 n2 c2) := Cells.alloc (Cells.new _ _ _) _
  have Y3 : Hid (MBox ((w2.alloc (.cells #[.int .i64 ((0 : Nat) : Int), .slice Q2 n2 c2] 28)).alloc (.cells #[.int .i64 y.k, .int .i64 y.f, .int .i64 y.t, .int .i64 y.i, .slice y.A y.n y.c, .slice y.B y.m y.d] 39)) (w2.heap.size + 1) y) := by
    have := Cells.new (w2.alloc (.cells #[.int .i64 ((0 : Nat) : Int), .slice Q2 n2 c2] 28)) #[.int .i64 y.k, .int .i64 y.f, .int .i64 y.t, .int .i64 y.i, .slice y.A y.n y.c, .slice y.B y.m y.d] 39
    rw [World.size_alloc] at this
    exact this
  have LZ : Hid (w.heap.size + 1 < w2.heap.size) := Cells.lt Z2.out
  have LL2 : Hid (∀ x ∈ l2, ∀ q, Bl x q → q < w2.heap.size) := fun x hx q hq => (N2.out.at_ x hx).lt hq
  obtain ⟨g, hg⟩ : ∃ g, g = w2.heap.size := ⟨_, rfl⟩
  rw [← hg] at T3 Y3 LZ NB YW LL2
  rw [← hg]
  clear A3 hg L2 Z2 N2 YA2 L1 X1 Z1 SZ HT HN
  generalize ((w2.alloc (.cells #[.int .i64 ((0 : Nat) : Int), .slice Q2 n2 c2] 28)).alloc (.cells #[.int .i64 y.k, .int .i64 y.f, .int .i64 y.t, .int .i64 y.i, .slice y.A y.n y.c, .slice y.B y.m y.d] 39)) = w3 at *
  obtain ⟨z0, z1⟩ := NBox.cells Z3.out
  have f0 := Cells.frozen Z3.out 0
  have f1 := Cells.frozen Z3.out 1
  go_wp2_with fail
  have bt := Mov.set2 w3 (w.heap.size + 1) (.int .i64 0) (.slice none 0 0)
  refine bodyPost_ret_by (results_c1 rfl _ _ (w.heap.size + 1) _ _ _ _ rfl (Cells.set2 Z3.out (.int .i64 0) (.slice none 0 0)) Try.underlying28 rfl (by kernel_rfl)) rfl ?_
  exact got_err (L3.out.trans (bt.up L3.out.size (by omega)))
set_option maxRecDepth 100000 in
set_option maxHeartbeats 6400000 in
theorem docLater_ok {w : World} {cap : Nat} {Q : Option Addr} {n c : Nat} {l : List Mx} (h : NetAt w Q n c l) (hn : n ≤ 5000) {j : Nat} {xp : Mp} (hx : (l.map Mx.p)[j]? = some xp) : Calls Try.prog 42 #[nv cap Q n c, .int .i64 (j : Int)] w (Got w (cap, (l.map Mx.p).eraseIdx j ++ [xp], 0)) := by
  have HT := fun W (h : NetAt W Q n c l) => Lib.hid (docTake_any (cap := cap) h hn (j : Int))
  have HN := Lib.hid h
  have hat : atP (l.map Mx.p) (j : Int) = some xp := by unfold atP; rw [if_pos (by omega), Int.toNat_natCast, hx]
  have hlen := h.row.len
  have hln : (l.map Mx.p).length = n := by rw [List.length_map, hlen]
  unfold takeR at HT
  rw [hat] at HT
  have HLN := Lib.hid hln
  clear hat hx hlen hln
  have L1 : Hid (Below w.heap.size w ((w.alloc (.cells #[.int .i64 (cap : Int), .slice Q n c] 28)).alloc (.cells #[.int .i64 0, .slice none 0 0] 28))) := (((Below.refl _ w).alloc (by first | exact Nat.le_refl _ | (simp; try omega)) _).alloc (by first | exact Nat.le_refl _ | (simp; try omega)) _)
  have X1 : Hid (Cells ((w.alloc (.cells #[.int .i64 (cap : Int), .slice Q n c] 28)).alloc (.cells #[.int .i64 0, .slice none 0 0] 28)) (w.heap.size) 28 #[.int .i64 (cap : Int), .slice Q n c]) := by
    have := Cells.new w #[.int .i64 (cap : Int), .slice Q n c] 28
    (try simp only [World.size_alloc] at this)
    exact (Cells.alloc this _)
  have Z1 : Hid (Cells ((w.alloc (.cells #[.int .i64 (cap : Int), .slice Q n c] 28)).alloc (.cells #[.int .i64 0, .slice none 0 0] 28)) (w.heap.size + 1) 28 #[.int .i64 0, .slice none 0 0]) := by
    have := Cells.new (w.alloc (.cells #[.int .i64 (cap : Int), .slice Q n c] 28)) #[.int .i64 0, .slice none 0 0] 28
    (try simp only [World.size_alloc] at this)
    exact this
  have SZ : Hid (((w.alloc (.cells #[.int .i64 (cap : Int), .slice Q n c] 28)).alloc (.cells #[.int .i64 0, .slice none 0 0] 28)).heap.size = w.heap.size + 2) := by show _ = _; simp
  clear h
  unfold nv at *
  go_enter Try.func42, Try.ntmps42
  go_upto_region 2 with (first | (go_at_call 39; refine (HT _ (HN.out.below L1.out)).out.mono ?_; rintro en w2 ⟨Q2, n2, c2, l2, y, rfl, hO, hP, hyp, hya, hyn, hap, hb⟩; (try dsimp only at hP hyp); have L2 := Lib.hid (L1.out.trans (hb.mono L1.out.size)); have Z2 := Lib.hid (Cells.below Z1.out hb); have N2 := Lib.hid ((hO.lower L1.out.size).base_ L1.out.size); have NW : Hid (∀ x ∈ l2, ∀ q, Bl x q → w.heap.size + 2 ≤ q) := (fun x hx q hq => by have h1 := hO.low x hx q hq; have h2 := SZ.out; omega); have NB : Hid (∀ q, (Value.slice Q2 n2 c2).ownBlock = some q → w.heap.size + 2 ≤ q ∧ q < w2.heap.size) := (fun q hq => by have h1 := hO.own.lt q hq; have h2 := SZ.out; omega); have LP := Lib.hid hP; have YP := Lib.hid hyp; have YA2 := Lib.hid hya; have YW : Hid (∀ q, Bl y q → w.heap.size + 2 ≤ q ∧ q < w2.heap.size) := (fun q hq => by have h1 := hyn q hq; have h2 := hya.lt hq; have h3 := SZ.out; omega); have YAP := Lib.hid hap; (try unfold nv); (try unfold mxv); (try dsimp only); clear hb hO hP hyp hya hyn hap) | fail)
  have A3 : Below w2.heap.size w2 ((w2.alloc (.cells #[.int .i64 (cap : Int), .slice Q2 n2 c2] 28)).alloc (.cells #[.int .i64 y.k, .int .i64 y.f, .int .i64 y.t, .int .i64 y.i, .slice y.A y.n y.c, .slice y.B y.m y.d] 39)) := ((Below.refl _ _).alloc (Nat.le_refl _) _).alloc (by simp) _
  have L3 := Lib.hid (L2.out.trans (A3.mono L2.out.size))
  have Z3 := Lib.hid (Cells.below Z2.out A3)
  have N3 := Lib.hid (N2.out.below A3)
  have YA3 := Lib.hid (YA2.out.below A3)
  have T3 : Hid (NBox ((w2.alloc (.cells #[.int .i64 (cap : Int), .slice Q2 n2 c2] 28)).alloc (.cells #[.int .i64 y.k, .int .i64 y.f, .int .i64 y.t, .int .i64 y.i, .slice y.A y.n y.c, .slice y.B y.m y.d] 39)) w2.heap.size (cap) Q2 n2 c2) := Cells.alloc (Cells.new _ _ _) _
  have Y3 : Hid (MBox ((w2.alloc (.cells #[.int .i64 (cap : Int), .slice Q2 n2 c2] 28)).alloc (.cells #[.int .i64 y.k, .int .i64 y.f, .int .i64 y.t, .int .i64 y.i, .slice y.A y.n y.c, .slice y.B y.m y.d] 39)) (w2.heap.size + 1) y) := by
    have := Cells.new (w2.alloc (.cells #[.int .i64 (cap : Int), .slice Q2 n2 c2] 28)) #[.int .i64 y.k, .int .i64 y.f, .int .i64 y.t, .int .i64 y.i, .slice y.A y.n y.c, .slice y.B y.m y.d] 39
    rw [World.size_alloc] at this
    exact this
  have LZ : Hid (w.heap.size + 1 < w2.heap.size) := Cells.lt Z2.out
  have LL2 : Hid (∀ x ∈ l2, ∀ q, Bl x q → q < w2.heap.size) := fun x hx q hq => (N2.out.at_ x hx).lt hq
  obtain ⟨g, hg⟩ : ∃ g, g = w2.heap.size := ⟨_, rfl⟩
  rw [← hg] at T3 Y3 LZ NB YW LL2
  rw [← hg]
  clear A3 hg L2 Z2 N2 YA2 L1 X1 Z1 SZ HT HN
  generalize ((w2.alloc (.cells #[.int .i64 (cap : Int), .slice Q2 n2 c2] 28)).alloc (.cells #[.int .i64 y.k, .int .i64 y.f, .int .i64 y.t, .int .i64 y.i, .slice y.A y.n y.c, .slice y.B y.m y.d] 39)) = w3 at *
  have hn2 : n2 ≤ 5000 := by
    rw [← N3.out.len, ← List.length_map (f := Mx.p), LP.out]
    have h1 := (List.eraseIdx_sublist (l.map Mx.p) ((j : Int).toNat)).length_le
    have h2 := HLN.out
    omega
  obtain ⟨t0, t1⟩ := NBox.cells T3.out
  obtain ⟨m0, m1, m2, m3, m4, m5⟩ := MBox.cells Y3.out
  have bb : Below w3.heap.size w3 (w3.alloc (.cells #[.int .i64 y.k, .int .i64 y.f, .int .i64 y.t, .int .i64 y.i, .slice y.A y.n y.c, .slice y.B y.m y.d] 39)) := (Below.refl _ w3).alloc (Nat.le_refl _) _
  have L4 := Lib.hid (L3.out.trans (bb.mono L3.out.size))
  have Z4 := Lib.hid (Cells.below Z3.out bb)
  have T4 := Lib.hid (Cells.below T3.out bb)
  have N4 := Lib.hid (N3.out.below bb)
  have YA4 := Lib.hid (YA3.out.below bb)
  have R4 := Lib.hid (one_msg w3 y)
  have LG : Hid (g < w3.heap.size) := Cells.lt T3.out
  clear bb L3 Z3 T3 N3 YA3
  go_upto_region 5 with (first
    | (at_builtin
       refine OwnS.wpList_append fitM Try.underlying26 info_msg rfl (by omega) rfl (.tmp 21) (.tmp 23) rfl rfl w.heap.size (.slice Q2 n2 c2) n2 l2 rfl N4.out.own _ 1 1 [y] rfl R4.out (by omega) L4.out.size ?_
       intro A5 c5 w5 ho hg hn'
       have L5 := Lib.hid (L4.out.trans (OwnS.below_row N4.out.own hg L4.out.size))
       have N5 := Lib.hid (N4.out.more ho hg hn' (fun z hz => by
         obtain rfl := List.mem_singleton.1 hz
         exact ⟨YA4.out, fun q hq => by have h1 := YW.out q hq; omega, fun q hq => YAP.out q hq⟩))
       have Z5 := Lib.hid (cells_grown Z4.out hg (own_ne N4.out.own Z4.out (by decide)))
       have T5 := Lib.hid (cells_grown T4.out hg (own_ne N4.out.own T4.out (by decide)))
       have NE5 : Hid ((Value.slice A5 (n2 + 1) c5).ownBlock ≠ some g ∧ (Value.slice A5 (n2 + 1) c5).ownBlock ≠ some (w.heap.size + 1)) := (by
         rcases hn' with hn' | hn'
         · rw [hn']
           exact ⟨fun e => by have h1 := NB.out _ e; omega, fun e => by have h1 := NB.out _ e; omega⟩
         · rw [hn', World.size_alloc]
           have h1 := LG.out
           have h2 := LZ.out
           exact ⟨fun e => by injection e with e; omega, fun e => by injection e with e; omega⟩)
       have t1 := (NBox.cells T5.out).2
       have ft := Cells.frozen T5.out 1
       clear ho hg hn' m0 m1 m2 m3 m4 m5)
    | fail)
  have LN5 : Hid (∀ x ∈ l2 ++ [y], ∀ q, Bl x q → w.heap.size + 2 ≤ q ∧ q < g) := fun x hx q hq => by
    rcases List.mem_append.1 hx with hx | hx
    · have h1 := NW.out x hx q hq
      have h2 := LL2.out x hx q hq
      omega
    · rw [List.mem_singleton.1 hx] at hq
      have h1 := YW.out q hq
      omega
  have bt : Mov [g] w5 (w5.setCell ⟨g, 1, none⟩ (.slice A5 (n2 + 1) c5)) := Mov.set1 w5 (by simp) 1 _
  have L6 := Lib.hid (L5.out.trans (bt.up L5.out.size (by have := LZ.out; omega)))
  have T6 : Hid (NBox (w5.setCell ⟨g, 1, none⟩ (.slice A5 (n2 + 1) c5)) g cap A5 (n2 + 1) c5) := by show Cells _ _ _ _; simpa using Cells.set_ T5.out 1 (.slice A5 (n2 + 1) c5)
  have Z6 := Lib.hid (Cells.mov Z5.out bt (by have := LZ.out; simp; omega))
  have N6 := Lib.hid (N5.out.mov_ NE5.out.1 (fun x hx q hq => by have h1 := LN5.out x hx q hq; omega) bt)
  clear bt t1 ft L5 T5 Z5 N5 L4 Z4 T4 N4
  generalize w5.setCell ⟨g, 1, none⟩ (.slice A5 (n2 + 1) c5) = w6 at *
  obtain ⟨t0, t1⟩ := NBox.cells T6.out
  obtain ⟨z0, z1⟩ := NBox.cells Z6.out
  have f0 := Cells.frozen Z6.out 0
  have f1 := Cells.frozen Z6.out 1
  go_wp2_with fail
  have bt := Mov.set2 w6 (w.heap.size + 1) (.int .i64 (cap : Int)) (.slice A5 (n2 + 1) c5)
  refine bodyPost_ret_by (results_c1 rfl _ _ (w.heap.size + 1) _ _ _ _ rfl (Cells.set2 Z6.out (.int .i64 (cap : Int)) (.slice A5 (n2 + 1) c5)) Try.underlying28 rfl (by kernel_rfl)) rfl ?_
  exact ⟨A5, n2 + 1, c5, l2 ++ [y], rfl, N6.out.mov_ NE5.out.2 (fun x hx q hq => by have h1 := LN5.out x hx q hq; omega) bt, by rw [List.map_append, LP.out, Int.toNat_natCast]; show _ ++ [y.p] = _; rw [YP.out], L6.out.trans (bt.up L6.out.size (by omega))⟩
theorem docLater_any {w : World} {cap : Nat} {Q : Option Addr} {n c : Nat} {l : List Mx} (h : NetAt w Q n c l) (hn : n ≤ 5000) (i : Int) : Calls Try.prog 42 #[nv cap Q n c, .int .i64 i] w (Got w (laterR cap (l.map Mx.p) i)) := by
  unfold laterR
  rcases e : atP (l.map Mx.p) i with _ | p
  · exact docLater_bad h hn e
  · obtain ⟨j, x, rfl, hx, rfl⟩ := at_some e
    rw [Int.toNat_natCast]
    exact docLater_ok h hn (by rw [List.getElem?_map, hx]; rfl)
end Net
end Go.Proofs.Ytamahknnppjegaa
/-
  WALKS: the document's Double.
-/
namespace Go.Proofs.Ytamahknnppjegaa
open Go.RowKit Mem Box
namespace Net
open Wire (B8 info_int asInts asInts_append)

set_option maxRecDepth 100000 in
set_option maxHeartbeats 3200000 in
theorem docDouble_bad {cap : Nat} {Q : Option Addr} {n c : Nat} {i : Int} (hi : hasB n i = false) (w : World) : Calls Try.prog 41 #[nv cap Q n c, .int .i64 i] w (Got w (0, [], 4)) := by
  have L1 : Hid (Below w.heap.size w ((w.alloc (.cells #[.int .i64 (cap : Int), .slice Q n c] 28)).alloc (.cells #[.int .i64 0, .slice none 0 0] 28))) := (((Below.refl _ w).alloc (by first | exact Nat.le_refl _ | (simp; try omega)) _).alloc (by first | exact Nat.le_refl _ | (simp; try omega)) _)
  have X1 : Hid (Cells ((w.alloc (.cells #[.int .i64 (cap : Int), .slice Q n c] 28)).alloc (.cells #[.int .i64 0, .slice none 0 0] 28)) (w.heap.size) 28 #[.int .i64 (cap : Int), .slice Q n c]) := by
    have := Cells.new w #[.int .i64 (cap : Int), .slice Q n c] 28
    (try simp only [World.size_alloc] at this)
    exact (Cells.alloc this _)
  have Z1 : Hid (Cells ((w.alloc (.cells #[.int .i64 (cap : Int), .slice Q n c] 28)).alloc (.cells #[.int .i64 0, .slice none 0 0] 28)) (w.heap.size + 1) 28 #[.int .i64 0, .slice none 0 0]) := by
    have := Cells.new (w.alloc (.cells #[.int .i64 (cap : Int), .slice Q n c] 28)) #[.int .i64 0, .slice none 0 0] 28
    (try simp only [World.size_alloc] at this)
    exact this
  have SZ : Hid (((w.alloc (.cells #[.int .i64 (cap : Int), .slice Q n c] 28)).alloc (.cells #[.int .i64 0, .slice none 0 0] 28)).heap.size = w.heap.size + 2) := by show _ = _; simp
  clear SZ
  have hcase : i < 0 ∨ ((0 : Int) ≤ i ∧ (n : Int) ≤ i) := by unfold hasB at hi; simp at hi; omega
  unfold nv at *
  go_enter Try.func41, Try.ntmps41
  go_upto_region 1 with fail
  generalize ((w.alloc (.cells #[.int .i64 (cap : Int), .slice Q n c] 28)).alloc (.cells #[.int .i64 0, .slice none 0 0] 28)) = w1 at *
  obtain ⟨k0, k1⟩ := NBox.cells X1.out
  obtain ⟨z0, z1⟩ := NBox.cells Z1.out
  have f0 := Cells.frozen Z1.out 0
  have f1 := Cells.frozen Z1.out 1
  have FIN := Lib.hid (L1.out.trans ((Mov.set2 w1 (w.heap.size + 1) (.int .i64 0) (.slice none 0 0)).up L1.out.size (by omega)))
  have HZ := Lib.hid (Cells.set2 Z1.out (.int .i64 0) (.slice none 0 0))
  rcases hcase with hneg | ⟨hpos, hge⟩
  · have e1 : decide (i < 0) = true := decide_eq_true hneg
    go_wp2_with fail
    refine bodyPost_ret_by (results_c1 rfl _ _ (w.heap.size + 1) _ _ _ _ rfl HZ.out Try.underlying28 rfl (by kernel_rfl)) rfl ?_
    exact got_err FIN.out
  · have e1 : decide (i < 0) = false := decide_eq_false (by omega)
    have e2 : decide ((n : Int) ≤ i) = true := decide_eq_true hge
    go_wp2_with fail
    refine bodyPost_ret_by (results_c1 rfl _ _ (w.heap.size + 1) _ _ _ _ rfl HZ.out Try.underlying28 rfl (by kernel_rfl)) rfl ?_
    exact got_err FIN.out

set_option maxRecDepth 100000 in
set_option maxHeartbeats 3200000 in
theorem docDouble_long {cap : Nat} {Q : Option Addr} {n c : Nat} {i : Int} (h0 : 0 ≤ i) (h1 : i < (n : Int)) (hr : ¬ n < cap) (w : World) : Calls Try.prog 41 #[nv cap Q n c, .int .i64 i] w (Got w (0, [], 2)) := by
  have L1 : Hid (Below w.heap.size w ((w.alloc (.cells #[.int .i64 (cap : Int), .slice Q n c] 28)).alloc (.cells #[.int .i64 0, .slice none 0 0] 28))) := (((Below.refl _ w).alloc (by first | exact Nat.le_refl _ | (simp; try omega)) _).alloc (by first | exact Nat.le_refl _ | (simp; try omega)) _)
  have X1 : Hid (Cells ((w.alloc (.cells #[.int .i64 (cap : Int), .slice Q n c] 28)).alloc (.cells #[.int .i64 0, .slice none 0 0] 28)) (w.heap.size) 28 #[.int .i64 (cap : Int), .slice Q n c]) := by
    have := Cells.new w #[.int .i64 (cap : Int), .slice Q n c] 28
    (try simp only [World.size_alloc] at this)
    exact (Cells.alloc this _)
  have Z1 : Hid (Cells ((w.alloc (.cells #[.int .i64 (cap : Int), .slice Q n c] 28)).alloc (.cells #[.int .i64 0, .slice none 0 0] 28)) (w.heap.size + 1) 28 #[.int .i64 0, .slice none 0 0]) := by
    have := Cells.new (w.alloc (.cells #[.int .i64 (cap : Int), .slice Q n c] 28)) #[.int .i64 0, .slice none 0 0] 28
    (try simp only [World.size_alloc] at this)
    exact this
  have SZ : Hid (((w.alloc (.cells #[.int .i64 (cap : Int), .slice Q n c] 28)).alloc (.cells #[.int .i64 0, .slice none 0 0] 28)).heap.size = w.heap.size + 2) := by show _ = _; simp
  clear SZ
  have e1 : decide (i < 0) = false := decide_eq_false (by omega)
  have e2 : decide ((n : Int) ≤ i) = false := decide_eq_false (by omega)
  have e3 : decide (cap ≤ n) = true := decide_eq_true (by omega)
  unfold nv at *
  go_enter Try.func41, Try.ntmps41
  go_upto_region 1 with fail
  generalize ((w.alloc (.cells #[.int .i64 (cap : Int), .slice Q n c] 28)).alloc (.cells #[.int .i64 0, .slice none 0 0] 28)) = w1 at *
  obtain ⟨k0, k1⟩ := NBox.cells X1.out
  obtain ⟨z0, z1⟩ := NBox.cells Z1.out
  have f0 := Cells.frozen Z1.out 0
  have f1 := Cells.frozen Z1.out 1
  have FIN := Lib.hid (L1.out.trans ((Mov.set2 w1 (w.heap.size + 1) (.int .i64 0) (.slice none 0 0)).up L1.out.size (by omega)))
  have HZ := Lib.hid (Cells.set2 Z1.out (.int .i64 0) (.slice none 0 0))
  go_wp2_with fail
  refine bodyPost_ret_by (results_c1 rfl _ _ (w.heap.size + 1) _ _ _ _ rfl HZ.out Try.underlying28 rfl (by kernel_rfl)) rfl ?_
  exact got_err FIN.out

theorem run_midM (A : Option Addr) (n c k : Nat) (hk : k < n) (hc : n ≤ c) (w : World) : (Instr.slice 26 (.slice A n c) (some (.int .i64 (k : Int))) (some (.int .i64 ((k : Int) + 1))) none).run Try.prog w = .ok (.slice (tailM A c k) 1 (c - k)) w := by
  obtain ⟨i, hi, hz0, hz1, hz2⟩ := info_parts info_msg
  have h1 : (k : Int) ≤ (n : Int) := by omega
  have h0 : (0 : Int) ≤ (k : Int) := by omega
  have h2 : (k : Int) ≤ (k : Int) + 1 := by omega
  have h3 : (0 : Int) ≤ (k : Int) + 1 := by omega
  have h4 : (k : Int) + 1 ≤ (c : Int) := by omega
  have h5 : ((k : Int) + 1).toNat = k + 1 := by omega
  have h6 : k + 1 - k = 1 := by omega
  have h7 : k ≤ c := by omega
  have h8 : k + 1 ≤ c := by omega
  simp [Instr.slice, Instr.sliceBounds, run_sliceBound, h0, h1, h2, h3, h4, h5, h6, h7, h8, run_underlying Try.underlying26, sizeOf, typeInfo, hi, hz1, tailM]
set_option maxRecDepth 100000 in
set_option maxHeartbeats 6400000 in
theorem docDouble_ok {w : World} {cap : Nat} {Q : Option Addr} {n c : Nat} {l : List Mx} (h : NetAt w Q n c l) (hn : n ≤ 5000) {j : Nat} {x : Mx} (hx : l[j]? = some x) (hr : n < cap) : Calls Try.prog 41 #[nv cap Q n c, .int .i64 (j : Int)] w (Got w (cap, l.map Mx.p ++ [x.p], 0)) := by
  have HN := Lib.hid h
  have hlen := h.row.len
  have HLN := Lib.hid hlen
  have hj : j < n := by rw [← hlen]; exact (List.getElem?_eq_some_iff.1 hx).1
  have HXP : Hid ((l.map Mx.p)[j]? = some x.p) := by show _ = _; rw [List.getElem?_map, hx]; rfl
  have HC := fun W (h : NetAt W Q n c l) => Lib.hid (copy_any h (by omega))
  have L1 : Hid (Below w.heap.size w ((w.alloc (.cells #[.int .i64 (cap : Int), .slice Q n c] 28)).alloc (.cells #[.int .i64 0, .slice none 0 0] 28))) := (((Below.refl _ w).alloc (by first | exact Nat.le_refl _ | (simp; try omega)) _).alloc (by first | exact Nat.le_refl _ | (simp; try omega)) _)
  have X1 : Hid (Cells ((w.alloc (.cells #[.int .i64 (cap : Int), .slice Q n c] 28)).alloc (.cells #[.int .i64 0, .slice none 0 0] 28)) (w.heap.size) 28 #[.int .i64 (cap : Int), .slice Q n c]) := by
    have := Cells.new w #[.int .i64 (cap : Int), .slice Q n c] 28
    (try simp only [World.size_alloc] at this)
    exact (Cells.alloc this _)
  have Z1 : Hid (Cells ((w.alloc (.cells #[.int .i64 (cap : Int), .slice Q n c] 28)).alloc (.cells #[.int .i64 0, .slice none 0 0] 28)) (w.heap.size + 1) 28 #[.int .i64 0, .slice none 0 0]) := by
    have := Cells.new (w.alloc (.cells #[.int .i64 (cap : Int), .slice Q n c] 28)) #[.int .i64 0, .slice none 0 0] 28
    (try simp only [World.size_alloc] at this)
    exact this
  have SZ : Hid (((w.alloc (.cells #[.int .i64 (cap : Int), .slice Q n c] 28)).alloc (.cells #[.int .i64 0, .slice none 0 0] 28)).heap.size = w.heap.size + 2) := by show _ = _; simp
  have e1 : decide ((j : Int) < 0) = false := decide_eq_false (by omega)
  have e2 : decide (n ≤ j) = false := decide_eq_false (by omega)
  have e3 : decide (cap ≤ n) = false := decide_eq_false (by omega)
  have hj0 : (0 : Int) ≤ (j : Int) := by omega
  have hjn : (j : Int) < (n : Int) := by omega
  clear h hx hlen
  unfold nv at *
  go_enter Try.func41, Try.ntmps41
  go_upto_region 6 with (first | (go_at_call 16; refine (HC _ (HN.out.below L1.out)).out.mono ?_; rintro e w2 ⟨Qc, nc, cc, lc, rfl, hO, hP, hb⟩; have L2 := Lib.hid (L1.out.trans (hb.mono L1.out.size)); have X2 := Lib.hid (Cells.below X1.out hb); have Z2 := Lib.hid (Cells.below Z1.out hb); have N2 := Lib.hid ((hO.lower L1.out.size).base_ L1.out.size); have HP := Lib.hid hP; have NLO : Hid (∀ y ∈ lc, ∀ q, Bl y q → w.heap.size + 2 ≤ q) := (fun y hy q hq => by have h1 := hO.low y hy q hq; have h2 := SZ.out; omega); have hnc : n = nc := (by rw [← hO.len, ← List.length_map (f := Mx.p), hP, List.length_map]; exact HLN.out.symm); subst hnc; clear hb hO hP) | fail)
  clear L1 X1 Z1 SZ HC HN
  have hcc : n ≤ cc := (N2.out.net (by omega)).row.cap
  have hwr : IntKind.i64.wrap ((j : Int) + 1) = (j : Int) + 1 := by rw [IntKind.wrap_i64]; omega
  have hsl := fun w => run_midM Qc n cc j hj hcc w
  have HONE : Hid (((lc.drop j).take 1).map Mx.p = [x.p]) := by
    show _ = _
    rw [List.map_take, List.map_drop, HP.out]
    have h1 := HXP.out
    have hlt := (List.getElem?_eq_some_iff.1 h1).1
    have he := (List.getElem?_eq_some_iff.1 h1).2
    rw [List.drop_eq_getElem_cons hlt, he]
    rfl
  have L3 := Lib.hid L2.out.drew
  have X3 := Lib.hid (Cells.below X2.out ((Below.refl _ w2).drew))
  have Z3 := Lib.hid (Cells.below Z2.out ((Below.refl _ w2).drew))
  have N3 := Lib.hid (OwnN.below N2.out ((Below.refl _ w2).drew))
  refine wp_region_held_drew (S := fun W => W.cell? ⟨w.heap.size, 0, none⟩ = some (.int .i64 (cap : Int))) (by kernel_rfl) ((NBox.cells X3.out).1) (fun hHeld => ?_)
  generalize w2.drew = w3 at *
  clear L2 X2 Z2 N2 
  (first | (refine Reg.take 0 (v := ?_) rfl (by kernel_rfl) (by kernel_rfl) (by kernel_rfl) (fun _ _ _ h => h) (Or.inl ⟨by rfl, ?_⟩) (by assumption) ?_; rotate_left; (focus ((intro W hSW); (try dsimp only at hSW); (try go_split_ands); go_simp; (try (with_reducible rfl)); done))) | (refine Reg.take 0 (v := undef) rfl (by kernel_rfl) (by kernel_rfl) (by kernel_rfl) (fun _ _ _ h => h) (Or.inr ⟨by rfl, rfl⟩) (by assumption) ?_))
  (try simp only [Act.put, List.setIfInBounds_toArray, List.set_cons_zero, List.set_cons_succ])
  (first | (refine Reg.take 1 (v := ?_) rfl (by kernel_rfl) (by kernel_rfl) (by kernel_rfl) (fun _ _ _ h => h) (Or.inl ⟨by rfl, ?_⟩) (by assumption) ?_; rotate_left; (focus ((intro W hSW); (try dsimp only at hSW); (try go_split_ands); go_simp; (try (with_reducible rfl)); done))) | (refine Reg.take 1 (v := undef) rfl (by kernel_rfl) (by kernel_rfl) (by kernel_rfl) (fun _ _ _ h => h) (Or.inr ⟨by rfl, rfl⟩) (by assumption) ?_))
  (try simp only [Act.put, List.setIfInBounds_toArray, List.set_cons_zero, List.set_cons_succ])
  (first | (refine Reg.take 2 (v := ?_) rfl (by kernel_rfl) (by kernel_rfl) (by kernel_rfl) (fun _ _ _ h => h) (Or.inl ⟨by rfl, ?_⟩) (by assumption) ?_; rotate_left; (focus ((intro W hSW); (try dsimp only at hSW); (try go_split_ands); go_simp; (try (with_reducible rfl)); done))) | (refine Reg.take 2 (v := undef) rfl (by kernel_rfl) (by kernel_rfl) (by kernel_rfl) (fun _ _ _ h => h) (Or.inr ⟨by rfl, rfl⟩) (by assumption) ?_))
  (try simp only [Act.put, List.setIfInBounds_toArray, List.set_cons_zero, List.set_cons_succ])
  (first | (refine Reg.take 3 (v := ?_) rfl (by kernel_rfl) (by kernel_rfl) (by kernel_rfl) (fun _ _ _ h => h) (Or.inl ⟨by rfl, ?_⟩) (by assumption) ?_; rotate_left; (focus ((intro W hSW); (try dsimp only at hSW); (try go_split_ands); go_simp; (try (with_reducible rfl)); done))) | (refine Reg.take 3 (v := undef) rfl (by kernel_rfl) (by kernel_rfl) (by kernel_rfl) (fun _ _ _ h => h) (Or.inr ⟨by rfl, rfl⟩) (by assumption) ?_))
  (try simp only [Act.put, List.setIfInBounds_toArray, List.set_cons_zero, List.set_cons_succ])
  (first | (refine Reg.take 4 (v := ?_) rfl (by kernel_rfl) (by kernel_rfl) (by kernel_rfl) (fun _ _ _ h => h) (Or.inl ⟨by rfl, ?_⟩) (by assumption) ?_; rotate_left; (focus ((intro W hSW); (try dsimp only at hSW); (try go_split_ands); go_simp; (try (with_reducible rfl)); done))) | (refine Reg.take 4 (v := undef) rfl (by kernel_rfl) (by kernel_rfl) (by kernel_rfl) (fun _ _ _ h => h) (Or.inr ⟨by rfl, rfl⟩) (by assumption) ?_))
  (try simp only [Act.put, List.setIfInBounds_toArray, List.set_cons_zero, List.set_cons_succ])
  (first | (refine Reg.take 5 (v := ?_) rfl (by kernel_rfl) (by kernel_rfl) (by kernel_rfl) (fun _ _ _ h => h) (Or.inl ⟨by rfl, ?_⟩) (by assumption) ?_; rotate_left; (focus ((intro W hSW); (try dsimp only at hSW); (try go_split_ands); go_simp; (try (with_reducible rfl)); done))) | (refine Reg.take 5 (v := undef) rfl (by kernel_rfl) (by kernel_rfl) (by kernel_rfl) (fun _ _ _ h => h) (Or.inr ⟨by rfl, rfl⟩) (by assumption) ?_))
  (try simp only [Act.put, List.setIfInBounds_toArray, List.set_cons_zero, List.set_cons_succ])
  (first | (refine Reg.take 6 (v := ?_) rfl (by kernel_rfl) (by kernel_rfl) (by kernel_rfl) (fun _ _ _ h => h) (Or.inl ⟨by rfl, ?_⟩) (by assumption) ?_; rotate_left; (focus ((intro W hSW); (try dsimp only at hSW); (try go_split_ands); go_simp; (try (with_reducible rfl)); done))) | (refine Reg.take 6 (v := undef) rfl (by kernel_rfl) (by kernel_rfl) (by kernel_rfl) (fun _ _ _ h => h) (Or.inr ⟨by rfl, rfl⟩) (by assumption) ?_))
  (try simp only [Act.put, List.setIfInBounds_toArray, List.set_cons_zero, List.set_cons_succ])
  (try rw [hwr])
  (first | (refine Reg.take 7 (v := ?_) rfl (by kernel_rfl) (by kernel_rfl) (by kernel_rfl) (fun _ _ _ h => h) (Or.inl ⟨by rfl, ?_⟩) (by assumption) ?_; rotate_left; (focus ((intro W hSW); (try dsimp only at hSW); (try go_split_ands); go_simp; (try (with_reducible rfl)); done))) | (refine Reg.take 7 (v := undef) rfl (by kernel_rfl) (by kernel_rfl) (by kernel_rfl) (fun _ _ _ h => h) (Or.inr ⟨by rfl, rfl⟩) (by assumption) ?_))
  (try simp only [Act.put, List.setIfInBounds_toArray, List.set_cons_zero, List.set_cons_succ])
  refine Reg.step 8 rfl (by kernel_rfl) (by rfl) (fun K hK => ?_)
  go_simp
  refine ((copy_any (⟨row_head (row_tail (N3.out.net (by omega)).row (k := j) (by omega)) (k := 1) (by omega), fun x hx => N3.out.at_ x (List.mem_of_mem_drop (List.mem_of_mem_take hx))⟩ : NetAt w3 (tailM Qc cc j) 1 (cc - j) ((lc.drop j).take 1)) (by omega))).mono ?_
  rintro e w4 ⟨Qd, nd, cd, ld, rfl, hO, hP, hb⟩
  have L4 := Lib.hid (L3.out.trans (hb.mono L3.out.size))
  have X4 := Lib.hid (Cells.below X3.out hb)
  have Z4 := Lib.hid (Cells.below Z3.out hb)
  have N4 := Lib.hid (OwnN.below N3.out hb)
  rw [HONE.out] at hP
  obtain ⟨y, hl, hyp⟩ := map_one hP
  subst hl
  have hnd : 1 = nd := hO.len
  subst hnd
  have YA4 := Lib.hid (hO.at_ y (by simp))
  have YLO : Hid (∀ q, Bl y q → w.heap.size + 2 ≤ q) := fun q hq => by have h1 := hO.low y (by simp) q hq; have h2 := Cells.lt Z3.out; omega
  have YAP : Hid (∀ q, Bl y q → (Value.slice Qc n cc).ownBlock ≠ some q) := fun q hq e => by have h1 := hO.low y (by simp) q hq; have h2 := (N3.out.own.lt q e).2; omega
  have YP := Lib.hid hyp
  have R4 := Lib.hid (hO.net (by omega)).row
  clear hO hP hyp
  clear hb hHeld 
  clear L3 X3 Z3 N3 
  refine hK.out _ _ ((NBox.cells X4.out).1) (fun hHeld => ?_)
  clear hK K
  (try simp only [Act.put, List.setIfInBounds_toArray, List.set_cons_zero, List.set_cons_succ])
  refine Reg.step 9 rfl (by kernel_rfl) (by rfl) (fun K hK => ?_)
  refine OwnS.wp_append1 fitM Try.underlying26 info_msg rfl (by omega) (.tmp 29) (.tmp 35) rfl rfl w.heap.size (.slice Qc n cc) n lc rfl N4.out.own Qd 1 cd [y] rfl (R4.out) (by omega) L4.out.size ?_
  intro A' c' w5 ho hg hn'
  have L5 := Lib.hid (L4.out.trans (OwnS.below_row N4.out.own hg L4.out.size))
  have X5 := Lib.hid (cells_grown X4.out hg (own_ne N4.out.own X4.out (by decide)))
  have Z5 := Lib.hid (cells_grown Z4.out hg (own_ne N4.out.own Z4.out (by decide)))
  have N5 := Lib.hid (N4.out.more ho hg hn' (fun z hz => by
    obtain rfl := List.mem_singleton.1 hz
    exact ⟨YA4.out, fun q hq => by have h1 := YLO.out q hq; omega, fun q hq => YAP.out q hq⟩))
  clear ho hg hn' hHeld L4 X4 Z4 N4 R4 YA4
  refine hK.out _ _ ((NBox.cells X5.out).1) (fun hHeld => ?_)
  clear hK K
  (try simp only [Act.put, List.setIfInBounds_toArray, List.set_cons_zero, List.set_cons_succ])
  (first | (refine Reg.take 10 (v := ?_) rfl (by kernel_rfl) (by kernel_rfl) (by kernel_rfl) (fun _ _ _ h => h) (Or.inl ⟨by rfl, ?_⟩) (by assumption) ?_; rotate_left; (focus ((intro W hSW); (try dsimp only at hSW); (try go_split_ands); go_simp; (try (with_reducible rfl)); done))) | (refine Reg.take 10 (v := undef) rfl (by kernel_rfl) (by kernel_rfl) (by kernel_rfl) (fun _ _ _ h => h) (Or.inr ⟨by rfl, rfl⟩) (by assumption) ?_))
  (try simp only [Act.put, List.setIfInBounds_toArray, List.set_cons_zero, List.set_cons_succ])
  have y0 := Cells.cell Z5.out 0
  have f0 := Cells.frozen Z5.out 0
  have y1 := Cells.cell Z5.out 1
  have f1 := Cells.frozen Z5.out 1
  refine Reg.step 11 rfl (by kernel_rfl) (by rfl) (fun K hK => ?_)
  go_simp
  have bt : Mov [w.heap.size + 1] w5 ((w5.setCell ⟨w.heap.size + 1, 0, none⟩ (.int .i64 (cap : Int))).setCell ⟨w.heap.size + 1, 1, none⟩ (.slice A' (n + 1) c')) := Mov.set2 _ _ _ _
  have L6 := Lib.hid (L5.out.trans (bt.up L5.out.size (by omega)))
  have X6 := Lib.hid (Cells.mov X5.out bt (by simp))
  have Z6 : Hid (Cells ((w5.setCell ⟨w.heap.size + 1, 0, none⟩ (.int .i64 (cap : Int))).setCell ⟨w.heap.size + 1, 1, none⟩ (.slice A' (n + 1) c')) (w.heap.size + 1) 28 #[.int .i64 (cap : Int), .slice A' (n + 1) c']) := Cells.set2 Z5.out _ _
  have N6 := Lib.hid (N5.out.mov Z5.out (by decide) (fun x hx q hq => by
    rcases List.mem_append.1 hx with hx | hx
    · have h1 := NLO.out x hx q hq; omega
    · rw [List.mem_singleton.1 hx] at hq; have h1 := YLO.out q hq; omega) bt)
  clear bt hHeld y0 f0 y1 f1
  clear L5 X5 Z5 N5 
  generalize (w5.setCell ⟨w.heap.size + 1, 0, none⟩ (.int .i64 (cap : Int))).setCell ⟨w.heap.size + 1, 1, none⟩ (.slice A' (n + 1) c') = w6 at *
  refine hK.out _ _ ((NBox.cells X6.out).1) (fun hHeld => ?_)
  clear hK K
  (try simp only [Act.put, List.setIfInBounds_toArray, List.set_cons_zero, List.set_cons_succ])
  (first | (refine Reg.take 12 (v := ?_) rfl (by kernel_rfl) (by kernel_rfl) (by kernel_rfl) (fun _ _ _ h => h) (Or.inl ⟨by rfl, ?_⟩) (by assumption) ?_; rotate_left; (focus ((intro W hSW); (try dsimp only at hSW); (try go_split_ands); go_simp; (try (with_reducible rfl)); done))) | (refine Reg.take 12 (v := undef) rfl (by kernel_rfl) (by kernel_rfl) (by kernel_rfl) (fun _ _ _ h => h) (Or.inr ⟨by rfl, rfl⟩) (by assumption) ?_))
  (try simp only [Act.put, List.setIfInBounds_toArray, List.set_cons_zero, List.set_cons_succ])
  refine wpAnyH_done (by kernel_rfl) ?_ _
  clear hHeld
  go_wp2_with fail
  refine bodyPost_ret_by (results_c1 rfl _ _ (w.heap.size + 1) _ _ _ _ rfl Z6.out Try.underlying28 rfl (by kernel_rfl)) rfl ?_
  exact ⟨A', n + 1, c', lc ++ [y], rfl, N6.out, by rw [List.map_append, HP.out]; show _ ++ [y.p] = _; rw [YP.out], L6.out⟩
theorem docDouble_any {w : World} {cap : Nat} {Q : Option Addr} {n c : Nat} {l : List Mx} (h : NetAt w Q n c l) (hn : n ≤ 5000) (i : Int) : Calls Try.prog 41 #[nv cap Q n c, .int .i64 i] w (Got w (doubleR cap (l.map Mx.p) i)) := by
  unfold doubleR
  have hl := h.row.len
  rcases e : atP (l.map Mx.p) i with _ | p
  · exact docDouble_bad (at_none hl e) w
  · obtain ⟨j, x, rfl, hx, rfl⟩ := at_some e
    have hj := (List.getElem?_eq_some_iff.1 hx).1
    show Calls _ _ _ _ (Got w (if (l.map Mx.p).length < cap then (cap, l.map Mx.p ++ [x.p], 0) else (0, [], 2)))
    rw [List.length_map, hl]
    by_cases hr : n < cap
    · rw [if_pos hr]
      exact docDouble_ok h hn hx hr
    · rw [if_neg hr]
      exact docDouble_long (by omega) (by omega) hr w
end Net
end Go.Proofs.Ytamahknnppjegaa
