/-
  SEVERAL TEXTS IN ONE FILE: PkAdd, PkSame.
-/
import Derived.Test.YtedandbkdjmfhaaGreatJ20
set_option linter.unusedSimpArgs false
set_option linter.unusedVariables false
/-
  A WALK: packer.Add.
-/
namespace Go.Proofs.YtedandbkdjmfhaaGreat
open Go.RowKit Mem Box
namespace Pk
open Seg (Hdr Rc Rv cellsOf cellsOf_len RowR hdV recV fits nums hnums nn goods frame headX recX frames check recB headB)
theorem OwnP.buf_more {base : Nat} {w w' : World} {x : Px} {fr : List (BitVec 8)} {A' : Option Addr} {bn k c' : Nat} (h : OwnP base w x) (hbn : bn = x.p.buf.length) (hg : w.grownBy w' (Value.slice x.B bn x.bc).ownBlock) (hn : (Value.slice A' k c').ownBlock = (Value.slice x.B bn x.bc).ownBlock ∨ (Value.slice A' k c').ownBlock = some w.heap.size)
    (ho : Mem.Owns cb 5 base w' (.slice A' k c') k (x.p.buf ++ fr)) : OwnP base w' ⟨⟨x.p.h, x.p.zone, x.p.cap, x.p.at_, x.p.buf ++ fr, x.p.l⟩, A', c', x.L, x.lc, x.xs⟩ := by
  subst hbn
  have cg : Chg 5 _ w w' := Chg.own (OwnB.toS h.buf) hg
  obtain rfl : (x.p.buf ++ fr).length = k := ho.len
  refine ⟨ho, cg.owns h.recs (by decide), fun y hy => OwnB.back (cg.owns_ne (OwnB.toS (h.data y hy)) (h.off y hy)), fun y hy => ?_, h.eq⟩
  unfold Off
  rcases e : (Value.slice y.D y.r.data.length y.c).ownBlock with _ | q
  · exact .inl rfl
  · refine .inr fun h1 => ?_
    rcases hn with hn | hn
    · rcases h.off y hy with h2 | h2
      · rw [e] at h2; cases h2
      · exact h2 (e.trans (h1.trans hn))
    · have h3 := (OwnB.owns_lt (h.data y hy) q e).2
      rw [hn] at h1
      injection h1 with h1
      omega
theorem OwnP.recs_more {base : Nat} {w w' : World} {x : Px} {y : Rv} {A' : Option Addr} {ln k c' : Nat} (h : OwnP base w x) (hy : OwnB1 base w y.D y.c y.r.data) (hoff : Off y x.B x.p.buf.length x.bc) (hln : ln = x.p.l.length) (hg : w.grownBy w' (Value.slice x.L ln x.lc).ownBlock)
    (ho : OwnS.Owns cellsOf 7 57 base w' (.slice A' k c') k (x.xs ++ [y])) : OwnP base w' ⟨⟨x.p.h, x.p.zone, x.p.cap, x.p.at_, x.p.buf, x.p.l ++ [y.r]⟩, x.B, x.bc, A', c', x.xs ++ [y]⟩ := by
  subst hln
  have cg : Chg 57 _ w w' := Chg.own h.recs hg
  have hk : k = (x.p.l ++ [y.r]).length := by
    rw [← ho.2, ← h.eq]
    simp
  subst hk
  refine ⟨cg.ownI h.buf (by decide), ho, fun z hz => ?_, fun z hz => ?_, ?_⟩
  · rcases List.mem_append.1 hz with hz | hz
    · exact cg.ownI (h.data z hz) (by decide)
    · rw [List.mem_singleton.1 hz]; exact cg.ownI hy (by decide)
  · rcases List.mem_append.1 hz with hz | hz
    · exact h.off z hz
    · rw [List.mem_singleton.1 hz]; exact hoff
  · show (x.xs ++ [y]).map Rv.r = x.p.l ++ [y.r]
    rw [List.map_append, h.eq]
    rfl
theorem moreP_snoc (p : Pp) (l : List Rc) (r : Rc) : moreP p (l ++ [r]) = ⟨p.h, p.zone, p.cap, p.at_, (p.buf ++ frames l) ++ frame (recX r), (p.l ++ l) ++ [r]⟩ := by
  unfold moreP
  simp [Seg.frames_append, frames]
theorem row_oneR {w : World} {y : Rv} {b : Nat} (hb : b = w.heap.size) : RowS cellsOf 7 (w.alloc (.cells #[.int .i64 y.r.kind, .int .i64 y.r.lba, .int .i64 y.r.n, .int .i64 y.r.ver, .int .i64 y.r.zone, .int .i64 y.r.off, .slice y.D y.r.data.length y.c] 57)) (some ⟨b, 0, none⟩) 1 1 [y] := by
  subst hb
  refine ⟨rfl, by omega, by omega, fun _ => ⟨_, _, rfl, by simp, fun i x hi j u hu => ?_⟩⟩
  have h0 : i = 0 := by
    rcases i with _ | i
    · rfl
    · simp at hi
  subst h0
  simp only [List.getElem?_cons_zero, Option.some.injEq] at hi
  subst hi
  have hc : Cells (w.alloc (.cells #[.int .i64 y.r.kind, .int .i64 y.r.lba, .int .i64 y.r.n, .int .i64 y.r.ver, .int .i64 y.r.zone, .int .i64 y.r.off, .slice y.D y.r.data.length y.c] 57)) w.heap.size 57 #[.int .i64 y.r.kind, .int .i64 y.r.lba, .int .i64 y.r.n, .int .i64 y.r.ver, .int .i64 y.r.zone, .int .i64 y.r.off, .slice y.D y.r.data.length y.c] := Cells.new _ _ _
  have h1 := hc.cell j
  rw [show (0 : Nat) + 0 * 7 + j = j by omega, h1]
  have h2 : #[.int .i64 y.r.kind, .int .i64 y.r.lba, .int .i64 y.r.n, .int .i64 y.r.ver, .int .i64 y.r.zone, .int .i64 y.r.off, .slice y.D y.r.data.length y.c] = (cellsOf y).toArray := rfl
  rw [h2, List.getElem?_toArray]
  exact hu
/-- What Add gave. -/
def GaveA (w : World) (q : Pp × List Int × Nat) (e : Ending) (w' : World) : Prop := ∃ y T k d, e = .returned (.tuple #[pxv y, .slice T k d, .int .i64 (q.2.2 : Int)]) ∧ y.p = q.1 ∧ OwnP w.heap.size w' y ∧ Mem.Owns ci 3 w.heap.size w' (.slice T k d) k q.2.1 ∧ Below w.heap.size w w'
set_option maxRecDepth 100000 in
set_option maxHeartbeats 25600000 in
theorem add_any {x : Px} {A : Option Addr} {n c : Nat} {xs : List Rv} {w : World} (hp : PackAt w x) (ho : OkP x.p) (hr : RowR w A n c xs) (hg : goods (xs.map Rv.r)) :
    Calls Tryz.prog 9 #[pxv x, .slice A n c] w (GaveA w (addP x.p (xs.map Rv.r))) := by
  have HR := Lib.hid hr
  have HG := Lib.hid hg
  have HO := Lib.hid ho
  have hnbig := hr.big
  have HCL := fun W (hW : Below w.heap.size w W) => Lib.hid (cloned_any (hp.below hW) ho)
  obtain ⟨l, hl⟩ : ∃ l, xs.map Rv.r = l := ⟨_, rfl⟩
  rw [hl]
  have HL := Lib.hid hl
  have HLN : Hid (l.length = n) := by show _ = _; rw [← hl, List.length_map, hr.len]
  obtain ⟨ap, hap⟩ : ∃ ap, addP x.p l = ap := ⟨_, rfl⟩
  rw [hap]
  have HAP := Lib.hid hap
  have L1 : Hid (Below w.heap.size w ((w.alloc (.cells #[.int .i64 x.p.h.host, .int .i64 x.p.h.epoch, .int .i64 x.p.h.seq, .int .i64 x.p.zone, .int .i64 x.p.cap, .int .i64 x.p.at_, .slice x.B x.p.buf.length x.bc, .slice x.L x.p.l.length x.lc] 35)).alloc (.cells #[.int .i64 0, .int .i64 0, .int .i64 0, .int .i64 0, .int .i64 0, .int .i64 0, .slice none 0 0, .slice none 0 0] 35))) := (((Below.refl _ w).alloc (by first | exact Nat.le_refl _ | (simp; try omega)) _).alloc (by first | exact Nat.le_refl _ | (simp; try omega)) _)
  have X1 : Hid (PBox ((w.alloc (.cells #[.int .i64 x.p.h.host, .int .i64 x.p.h.epoch, .int .i64 x.p.h.seq, .int .i64 x.p.zone, .int .i64 x.p.cap, .int .i64 x.p.at_, .slice x.B x.p.buf.length x.bc, .slice x.L x.p.l.length x.lc] 35)).alloc (.cells #[.int .i64 0, .int .i64 0, .int .i64 0, .int .i64 0, .int .i64 0, .int .i64 0, .slice none 0 0, .slice none 0 0] 35)) w.heap.size x) := Cells.alloc (Cells.new _ _ _) _
  have Z1 : Hid (ZBox ((w.alloc (.cells #[.int .i64 x.p.h.host, .int .i64 x.p.h.epoch, .int .i64 x.p.h.seq, .int .i64 x.p.zone, .int .i64 x.p.cap, .int .i64 x.p.at_, .slice x.B x.p.buf.length x.bc, .slice x.L x.p.l.length x.lc] 35)).alloc (.cells #[.int .i64 0, .int .i64 0, .int .i64 0, .int .i64 0, .int .i64 0, .int .i64 0, .slice none 0 0, .slice none 0 0] 35)) (w.heap.size + 1)) := by
    have := Cells.new (w.alloc (.cells #[.int .i64 x.p.h.host, .int .i64 x.p.h.epoch, .int .i64 x.p.h.seq, .int .i64 x.p.zone, .int .i64 x.p.cap, .int .i64 x.p.at_, .slice x.B x.p.buf.length x.bc, .slice x.L x.p.l.length x.lc] 35)) #[.int .i64 0, .int .i64 0, .int .i64 0, .int .i64 0, .int .i64 0, .int .i64 0, .slice none 0 0, .slice none 0 0] 35
    rw [World.size_alloc] at this
    exact this
  unfold pxv at *
  unfold GaveA
  clear hr hg ho hl hap hp
  go_enter Tryz.func9, Tryz.ntmps9
  go_upto_region 1 with fail
  generalize (w.alloc (.cells #[.int .i64 x.p.h.host, .int .i64 x.p.h.epoch, .int .i64 x.p.h.seq, .int .i64 x.p.zone, .int .i64 x.p.cap, .int .i64 x.p.at_, .slice x.B x.p.buf.length x.bc, .slice x.L x.p.l.length x.lc] 35)).alloc (.cells #[.int .i64 0, .int .i64 0, .int .i64 0, .int .i64 0, .int .i64 0, .int .i64 0, .slice none 0 0, .slice none 0 0] 35) = w1 at *
  go_wp2_with fail
  go_loopw [19] (fun i wr => ∃ (k : Nat), i = .int .i64 k ∧ k ≤ n ∧ Hid (Below w1.heap.size w1 wr) ∧ Hid (∀ r ∈ l.take k, check r = 0)) (fun i _ => n - (intOf i).toNat)
  case atStart => exact ⟨0, rfl, by omega, Lib.hid (Below.refl _ _), Lib.hid (by simp)⟩
  case round =>
    obtain ⟨k, rfl, hk, LW, HC⟩ := hrel
    have L2 := Lib.hid (L1.out.trans (LW.out.mono L1.out.size))
    have X2 : Hid (PBox wr w.heap.size x) := Cells.below X1.out LW.out
    have Z2 : Hid (ZBox wr (w.heap.size + 1)) := Cells.below Z1.out LW.out
    by_cases hlt : k < n
    · obtain ⟨y, hy⟩ := HR.out.get hlt
      obtain ⟨b0, o0, rfl, hb0, hcell⟩ := HR.out.seven hy
      obtain ⟨q0, q1, q2, q3, q4, q5, q6⟩ := hcell wr (L2.out.block b0 hb0)
      have hym := List.mem_of_getElem? hy
      have HX : Hid (l[k]? = some y.r) := by show _ = _; rw [← HL.out, List.getElem?_map, hy]; rfl
      have HD := Lib.hid (HR.out.data y hym)
      have HF : Hid (fits (nums y.r)) := HG.out y.r (List.mem_map_of_mem hym)
      have hk0 : (0 : Int) ≤ (k : Int) := by omega
      have hkn : (k : Int) < (n : Int) := by omega
      clear hcell hy hym hb0
      go_upto_region 4 with fail
      have BB : Hid (Below wr.heap.size wr (wr.alloc (.cells #[.int .i64 y.r.kind, .int .i64 y.r.lba, .int .i64 y.r.n, .int .i64 y.r.ver, .int .i64 y.r.zone, .int .i64 y.r.off, .slice y.D y.r.data.length y.c] 57))) := (Below.refl _ wr).alloc (Nat.le_refl _) _
      have R3 : Hid (RBox (wr.alloc (.cells #[.int .i64 y.r.kind, .int .i64 y.r.lba, .int .i64 y.r.n, .int .i64 y.r.ver, .int .i64 y.r.zone, .int .i64 y.r.off, .slice y.D y.r.data.length y.c] 57)) wr.heap.size y) := Cells.new _ _ _
      have L3 := Lib.hid (L2.out.trans (BB.out.mono L2.out.size))
      have Z3 : Hid (ZBox _ (w.heap.size + 1)) := Lib.hid (Cells.below Z2.out BB.out)
      have LW3 := Lib.hid (LW.out.trans (BB.out.mono LW.out.size))
      clear BB q0 q1 q2 q3 q4 q5 q6 L2 X2 Z2 LW
      generalize wr.alloc (.cells #[.int .i64 y.r.kind, .int .i64 y.r.lba, .int .i64 y.r.n, .int .i64 y.r.ver, .int .i64 y.r.zone, .int .i64 y.r.off, .slice y.D y.r.data.length y.c] 57) = w3 at *
      generalize wr.heap.size = r at *
      obtain ⟨m0, m1, m2, m3, m4, m5, m6⟩ := seven_cells R3.out
      rcases Seg.check_le y.r with hc | hc | hc
      · have HCK := fun w => Lib.hid (Seg.check_at (e := 0) hc HF.out y.D y.r.data.length y.c rfl HD.out.big w)
        have HC2 : Hid (∀ r ∈ l.take (k + 1), check r = 0) := fun r hr => by
          rw [List.take_add_one, HX.out] at hr
          rcases List.mem_append.1 hr with hr | hr
          · exact HC.out r hr
          · rw [show r = y.r by simpa using hr]; exact hc
        unfold recV at HCK
        clear hc
        go_wp2_with (go_at_call 17; refine (HCK w3).out.mono ?_; rintro e w4 ⟨rfl, hb⟩; have LW4 := Lib.hid (LW3.out.trans (hb.mono LW3.out.size)); clear hb)
        go_roundw
        case rel => exact ⟨k + 1, by go_num, by omega, LW4, HC2⟩
        case measure => simp [intOf]; omega
      · have HCK := fun w => Lib.hid (Seg.check_at (e := 1) hc HF.out y.D y.r.data.length y.c rfl HD.out.big w)
        have hap : ap = (zeroP, [], 1) := by
          have he := errB_at HC.out HX.out hc (by omega)
          have h2 := addP_bad (p := x.p) (l := l) (by rw [he]; omega)
          rw [he] at h2
          exact HAP.out.symm.trans h2
        have HAQ := Lib.hid hap
        unfold recV at HCK
        clear hap hc HAP
        go_wp2_with (go_at_call 17; refine (HCK w3).out.mono ?_; rintro e w4 ⟨rfl, hb⟩; have L4 := Lib.hid (L3.out.trans (hb.mono L3.out.size)); have Z4 : Hid (ZBox w4 (w.heap.size + 1)) := Cells.below Z3.out hb; clear hb; obtain ⟨z0, z1, z2, z3, z4, z5, z6, z7⟩ := eight_cells Z4.out; obtain ⟨f0, f1, f2, f3, f4, f5, f6, f7⟩ := eight_free Z4.out)
        have bt := mov8 w4 (w.heap.size + 1) (.int .i64 0) (.int .i64 0) (.int .i64 0) (.int .i64 0) (.int .i64 0) (.int .i64 0) (.slice none 0 0) (.slice none 0 0)
        have cg := Chg.mov Z4.out bt
        refine bodyPost_ret_by (results_c2 rfl _ _ (w.heap.size + 1) _ _ _ _ rfl (set8 Z4.out (.int .i64 0) (.int .i64 0) (.int .i64 0) (.int .i64 0) (.int .i64 0) (.int .i64 0) (.slice none 0 0) (.slice none 0 0)) Tryz.underlying35 rfl (by kernel_rfl)) rfl ?_
        rw [HAQ.out]
        exact ⟨⟨zeroP, none, 0, none, 0, []⟩, none, 0, 0, rfl, rfl, OwnP.zero _ _, Mem.Owns.nil _ _ _ _, L4.out.trans (bt.up L4.out.size (by omega))⟩
      · have HCK := fun w => Lib.hid (Seg.check_at (e := 2) hc HF.out y.D y.r.data.length y.c rfl HD.out.big w)
        have hap : ap = (zeroP, [], 2) := by
          have he := errB_at HC.out HX.out hc (by omega)
          have h2 := addP_bad (p := x.p) (l := l) (by rw [he]; omega)
          rw [he] at h2
          exact HAP.out.symm.trans h2
        have HAQ := Lib.hid hap
        unfold recV at HCK
        clear hap hc HAP
        go_wp2_with (go_at_call 17; refine (HCK w3).out.mono ?_; rintro e w4 ⟨rfl, hb⟩; have L4 := Lib.hid (L3.out.trans (hb.mono L3.out.size)); have Z4 : Hid (ZBox w4 (w.heap.size + 1)) := Cells.below Z3.out hb; clear hb; obtain ⟨z0, z1, z2, z3, z4, z5, z6, z7⟩ := eight_cells Z4.out; obtain ⟨f0, f1, f2, f3, f4, f5, f6, f7⟩ := eight_free Z4.out)
        have bt := mov8 w4 (w.heap.size + 1) (.int .i64 0) (.int .i64 0) (.int .i64 0) (.int .i64 0) (.int .i64 0) (.int .i64 0) (.slice none 0 0) (.slice none 0 0)
        have cg := Chg.mov Z4.out bt
        refine bodyPost_ret_by (results_c2 rfl _ _ (w.heap.size + 1) _ _ _ _ rfl (set8 Z4.out (.int .i64 0) (.int .i64 0) (.int .i64 0) (.int .i64 0) (.int .i64 0) (.int .i64 0) (.slice none 0 0) (.slice none 0 0)) Tryz.underlying35 rfl (by kernel_rfl)) rfl ?_
        rw [HAQ.out]
        exact ⟨⟨zeroP, none, 0, none, 0, []⟩, none, 0, 0, rfl, rfl, OwnP.zero _ _, Mem.Owns.nil _ _ _ _, L4.out.trans (bt.up L4.out.size (by omega))⟩
    · have hkn : k = n := by omega
      subst hkn
      have HCA : Hid (∀ r ∈ l, check r = 0) := by
        have := HC.out
        rwa [List.take_of_length_le (by rw [HLN.out]; exact Nat.le_refl _)] at this
      obtain ⟨m0, m1, m2, m3, m4, m5, m6, m7⟩ := eight_cells X2.out
      clear hlt hk HC LW X1 Z1 L1
      go_upto_region 9 with (go_at_call 18; refine (HCL wr L2.out).out.mono ?_; rintro e w3 ⟨⟨yp, B0, bc0, L0, lc0, ys0⟩, rfl, hY, hO, hb⟩; obtain rfl : yp = x.p := hY; have L3 := Lib.hid (L2.out.trans (hb.mono L2.out.size)); have Z3 : Hid (ZBox w3 (w.heap.size + 1)) := Cells.below Z2.out hb; have O3 := Lib.hid (hO.mono L2.out.size); clear hO hb m0 m1 m2 m3 m4 m5 m6 m7; unfold pxv; dsimp only)
      have BB : Hid (Below w3.heap.size w3 (w3.alloc (.cells #[.int .i64 x.p.h.host, .int .i64 x.p.h.epoch, .int .i64 x.p.h.seq, .int .i64 x.p.zone, .int .i64 x.p.cap, .int .i64 x.p.at_, .slice B0 x.p.buf.length bc0, .slice L0 x.p.l.length lc0] 35))) := (Below.refl _ w3).alloc (Nat.le_refl _) _
      have Q4 : Hid (Cells (w3.alloc (.cells #[.int .i64 x.p.h.host, .int .i64 x.p.h.epoch, .int .i64 x.p.h.seq, .int .i64 x.p.zone, .int .i64 x.p.cap, .int .i64 x.p.at_, .slice B0 x.p.buf.length bc0, .slice L0 x.p.l.length lc0] 35)) w3.heap.size 35 #[.int .i64 x.p.h.host, .int .i64 x.p.h.epoch, .int .i64 x.p.h.seq, .int .i64 x.p.zone, .int .i64 x.p.cap, .int .i64 x.p.at_, .slice B0 x.p.buf.length bc0, .slice L0 x.p.l.length lc0]) := Cells.new _ _ _
      have L4 := Lib.hid (L3.out.trans (BB.out.mono L3.out.size))
      have Z4 : Hid (ZBox _ (w.heap.size + 1)) := Lib.hid (Cells.below Z3.out BB.out)
      have O4 := Lib.hid (O3.out.below BB.out)
      have NQ : Hid (w.heap.size + 1 < w3.heap.size) := Cells.lt Z3.out
      clear BB L3 Z3 O3 L2 X2 Z2 HCL
      generalize w3.alloc (.cells #[.int .i64 x.p.h.host, .int .i64 x.p.h.epoch, .int .i64 x.p.h.seq, .int .i64 x.p.zone, .int .i64 x.p.cap, .int .i64 x.p.at_, .slice B0 x.p.buf.length bc0, .slice L0 x.p.l.length lc0] 35) = w4 at *
      generalize w3.heap.size = q at *
      clear w3
      go_wp2_with fail
      go_loopw [11, 34] (fun s i wr => ∃ (k2 : Nat) (B : Option Addr) (bn bc : Nat) (L : Option Addr) (ln lc : Nat) (ys : List Rv) (T : Option Addr) (d : Nat), s = .slice T k2 d ∧ i = .int .i64 k2 ∧ k2 ≤ k ∧ Hid (bn = (moreP x.p (l.take k2)).buf.length) ∧ Hid (ln = (moreP x.p (l.take k2)).l.length) ∧ Hid (Below w.heap.size w wr) ∧ Hid (ZBox wr (w.heap.size + 1)) ∧ Hid (Cells wr q 35 #[.int .i64 x.p.h.host, .int .i64 x.p.h.epoch, .int .i64 x.p.h.seq, .int .i64 x.p.zone, .int .i64 x.p.cap, .int .i64 x.p.at_, .slice B bn bc, .slice L ln lc]) ∧
          Hid (OwnP w.heap.size wr ⟨moreP x.p (l.take k2), B, bc, L, lc, ys⟩) ∧ Hid (Mem.Owns ci 3 w.heap.size wr (.slice T k2 d) k2 (places (x.p.at_ + (x.p.buf.length : Int)) (l.take k2))) ∧ Hid (fitsP x.p (l.take k2)) ∧ Hid (q < wr.heap.size)) (fun _ i _ => k - (intOf i).toNat)
      case atStart =>
        refine ⟨0, B0, x.p.buf.length, bc0, L0, x.p.l.length, lc0, ys0, none, 0, rfl, rfl, by omega, ?_, ?_, L4, Z4, Q4, ?_, ?_, ?_, ?_⟩
        · show _ = _; rw [List.take_zero, moreP_nil]
        · show _ = _; rw [List.take_zero, moreP_nil]
        · show OwnP _ _ _; rw [List.take_zero, moreP_nil]; exact O4.out
        · exact Lib.hid (Mem.Owns.nil _ _ _ _)
        · exact Lib.hid (fitsP_nil HO.out)
        · exact Lib.hid (Cells.lt Q4.out)
      case round =>
        clear L4 Z4 Q4 O4
        obtain ⟨k2, B, bn, bc, L, ln, lc, ys, T, d, rfl, rfl, hk, HBN, HLL, L2, Z2, Q2, O2, T2, FT, QS⟩ := hrel
        have HOK : Hid (OkP (moreP x.p (l.take k2))) := HO.out.more (errB_ok fun r hr => HCA.out r (List.mem_of_mem_take hr)) FT.out
        by_cases hlt : k2 < k
        · obtain ⟨y, hy⟩ := HR.out.get hlt
          obtain ⟨b0, o0, rfl, hb0, hcell⟩ := HR.out.seven hy
          obtain ⟨q0, q1, q2, q3, q4, q5, q6⟩ := hcell wr (L2.out.block b0 hb0)
          have hym := List.mem_of_getElem? hy
          have HX : Hid (l[k2]? = some y.r) := by show _ = _; rw [← HL.out, List.getElem?_map, hy]; rfl
          have HD := Lib.hid (HR.out.data y hym)
          have HF : Hid (fits (nums y.r)) := HG.out y.r (List.mem_map_of_mem hym)
          have hk0 : (0 : Int) ≤ (k2 : Int) := by omega
          have hkn2 : (k2 : Int) < (k : Int) := by omega
          clear hcell hy hym hb0
          go_upto_region 13 with fail
          have BB : Below wr.heap.size wr (wr.alloc (.cells #[.int .i64 y.r.kind, .int .i64 y.r.lba, .int .i64 y.r.n, .int .i64 y.r.ver, .int .i64 y.r.zone, .int .i64 y.r.off, .slice y.D y.r.data.length y.c] 57)) := (Below.refl _ wr).alloc (Nat.le_refl _) _
          have R3 : Hid (RBox (wr.alloc (.cells #[.int .i64 y.r.kind, .int .i64 y.r.lba, .int .i64 y.r.n, .int .i64 y.r.ver, .int .i64 y.r.zone, .int .i64 y.r.off, .slice y.D y.r.data.length y.c] 57)) wr.heap.size y) := Cells.new _ _ _
          have L3 := Lib.hid (L2.out.trans (BB.mono L2.out.size))
          have Z3 : Hid (ZBox _ (w.heap.size + 1)) := Lib.hid (Cells.below Z2.out BB)
          have Q3 := Lib.hid (Cells.below Q2.out BB)
          have O3 := Lib.hid (OwnP.below O2.out BB)
          have T3 := Lib.hid (Mem.Owns.below T2.out BB)
          have QS3 := Lib.hid (Nat.lt_of_lt_of_le QS.out BB.size)
          have RQ : Hid (wr.heap.size ≠ q) := by have := QS.out; show _ ≠ _; omega
          clear BB q0 q1 q2 q3 q4 q5 q6 QS
          clear L2 Z2 Q2 O2 T2
          generalize wr.alloc (.cells #[.int .i64 y.r.kind, .int .i64 y.r.lba, .int .i64 y.r.n, .int .i64 y.r.ver, .int .i64 y.r.zone, .int .i64 y.r.off, .slice y.D y.r.data.length y.c] 57) = w3 at *
          generalize wr.heap.size = r at *
          obtain ⟨m0, m1, m2, m3, m4, m5, m6⟩ := seven_cells R3.out
          have HCK : Hid (check y.r = 0) := HCA.out y.r (List.mem_of_getElem? HX.out)
          have HFR := fun w (h : Row cb w y.D y.r.data.length y.c y.r.data) => Lib.hid (frame_ok HF.out HCK.out h)
          unfold rvV at HFR
          go_upto_region 16 with (go_at_call 19; refine (HFR w3 (HD.out.below L3.out)).out.mono ?_; rintro e w4 ⟨X, dx, rfl, hO, hb⟩; have L4 := Lib.hid (L3.out.trans (hb.mono L3.out.size)); have Z4 : Hid (ZBox _ (w.heap.size + 1)) := Lib.hid (Cells.below Z3.out hb); have Q4 := Lib.hid (Cells.below Q3.out hb); have O4 := Lib.hid (OwnP.below O3.out hb); have T4 := Lib.hid (Mem.Owns.below T3.out hb); have R4 := Lib.hid (Cells.below R3.out hb); have F4 := Lib.hid (hO.mono L3.out.size); have QS4 := Lib.hid (Nat.lt_of_lt_of_le QS3.out hb.size); clear hO hb m0 m1 m2 m3 m4 m5 m6 HFR QS3; clear L3 Z3 Q3 O3 T3 R3)
          have HRM : ∀ W, Hid (Calls Tryz.prog 20 #[.agg #[.int .i64 x.p.h.host, .int .i64 x.p.h.epoch, .int .i64 x.p.h.seq, .int .i64 x.p.zone, .int .i64 x.p.cap, .int .i64 x.p.at_, .slice B bn bc, .slice L ln lc]] W fun e w' => e = .returned (.int .i64 (roomP (moreP x.p (l.take k2)))) ∧ Below W.heap.size W w') := fun W => by
            have := room_any ⟨moreP x.p (l.take k2), B, bc, L, lc, ys⟩ W HOK.out
            unfold pxv at this
            dsimp only at this
            rw [← HBN.out, ← HLL.out] at this
            exact this
          have HEN : ∀ W, Hid (Calls Tryz.prog 21 #[.agg #[.int .i64 x.p.h.host, .int .i64 x.p.h.epoch, .int .i64 x.p.h.seq, .int .i64 x.p.zone, .int .i64 x.p.cap, .int .i64 x.p.at_, .slice B bn bc, .slice L ln lc]] W fun e w' => e = .returned (.int .i64 (x.p.at_ + (bn : Int))) ∧ Below W.heap.size W w') := fun W => by
            have := end_any ⟨moreP x.p (l.take k2), B, bc, L, lc, ys⟩ W HOK.out.at0 (by have h := HOK.out.at_le; exact Int.le_trans h (by omega)) (by have h := HOK.out.buf_le; exact Nat.le_trans h (by omega))
            unfold pxv at this
            dsimp only at this
            rw [← HBN.out, ← HLL.out] at this
            exact this
          have HRV : Hid (roomP (moreP x.p (l.take k2)) = x.p.cap - (x.p.at_ + (bn : Int))) := by
            have := HOK.out.roomP
            show _ = _
            rw [this, HBN.out]
            rfl
          have HBV : Hid ((bn : Int) = (x.p.buf.length : Int) + ((frames (l.take k2)).length : Int)) := by
            show _ = _
            rw [HBN.out, show (moreP x.p (l.take k2)).buf = x.p.buf ++ frames (l.take k2) from rfl, List.length_append]
            omega
          have HKS : Hid (k2 ≤ 65536) := by
            have h1 := frames_ge (l.take k2)
            have h2 := HOK.out.buf_le
            rw [← HBN.out] at h2
            have h3 := HBV.out
            have h4 : (l.take k2).length = k2 := by rw [List.length_take, HLN.out]; omega
            show _ ≤ _
            omega
          have HSN : Hid (l.take (k2 + 1) = l.take k2 ++ [y.r]) := by show _ = _; rw [List.take_add_one, HX.out]; rfl
          have HFB := Lib.hid (flen_le HF.out HCK.out)
          have HPG := Lib.hid (placeR_ge y.r)
          have HPL := Lib.hid (placeR_le y.r)
          generalize hfl : flen y.r = fl at *
          have HFL := Lib.hid hfl
          clear hfl
          generalize hpl : placeR y.r = pl at *
          have HPR := Lib.hid hpl
          clear hpl
          generalize roomP (moreP x.p (l.take k2)) = rm at *
          obtain ⟨m0, m1, m2, m3, m4, m5, m6, m7⟩ := eight_cells Q4.out
          by_cases hfit : rm < (fl : Int)
          · have hap : ap = (zeroP, [], 40) := by
              refine HAP.out.symm.trans (addP_full (errB_ok HCA.out) fun hf => ?_)
              have h1 : fitsP x.p (l.take (k2 + 1)) := by
                have e : l = l.take (k2 + 1) ++ l.drop (k2 + 1) := (List.take_append_drop _ _).symm
                rw [e] at hf
                exact fitsP_left hf
              rw [HSN.out, fitsP_snoc] at h1
              have h2 := HRV.out
              have h3 := HBV.out
              have h4 := HFL.out
              omega
            have HAQ := Lib.hid hap
            clear hap HAP HRV HBV
            go_wp2_with (go_at_call 20; refine (HRM w4).out.mono ?_; rintro e w5 ⟨rfl, hb⟩; have L5 := Lib.hid (L4.out.trans (hb.mono L4.out.size)); have Z5 : Hid (ZBox w5 (w.heap.size + 1)) := Cells.below Z4.out hb; clear hb m0 m1 m2 m3 m4 m5 m6 m7; obtain ⟨z0, z1, z2, z3, z4, z5, z6, z7⟩ := eight_cells Z5.out; obtain ⟨f0, f1, f2, f3, f4, f5, f6, f7⟩ := eight_free Z5.out)
            have bt := mov8 w5 (w.heap.size + 1) (.int .i64 0) (.int .i64 0) (.int .i64 0) (.int .i64 0) (.int .i64 0) (.int .i64 0) (.slice none 0 0) (.slice none 0 0)
            refine bodyPost_ret_by (results_c2 rfl _ _ (w.heap.size + 1) _ _ _ _ rfl (set8 Z5.out (.int .i64 0) (.int .i64 0) (.int .i64 0) (.int .i64 0) (.int .i64 0) (.int .i64 0) (.slice none 0 0) (.slice none 0 0)) Tryz.underlying35 rfl (by kernel_rfl)) rfl ?_
            rw [HAQ.out]
            exact ⟨⟨zeroP, none, 0, none, 0, []⟩, none, 0, 0, rfl, rfl, OwnP.zero _ _, Mem.Owns.nil _ _ _ _, L5.out.trans (bt.up L5.out.size (by omega))⟩
          · have FT2 : Hid (fitsP x.p (l.take (k2 + 1))) := by
              show fitsP _ _
              rw [HSN.out, fitsP_snoc, HFL.out]
              have h2 := HRV.out
              have h3 := HBV.out
              omega
            have hw1 : IntKind.i64.wrap (x.p.at_ + (bn : Int) + pl) = x.p.at_ + (bn : Int) + pl := by
              have h1 := HOK.out.at0
              have h2 := HOK.out.room
              have h3 := HOK.out.cap
              have h4 := HBN.out
              have h5 := HPG.out
              have h6 := HPL.out
              have h7 := HFB.out
              have h8 : (moreP x.p (l.take k2)).at_ = x.p.at_ := rfl
              rw [IntKind.wrap_i64]
              omega
            clear HAP
            go_upto_region 18 with (go_at_call 20; refine (HRM w4).out.mono ?_; rintro e w5 ⟨rfl, hb⟩; have L5 := Lib.hid (L4.out.trans (hb.mono L4.out.size)); have Z5 : Hid (ZBox _ (w.heap.size + 1)) := Lib.hid (Cells.below Z4.out hb); have Q5 := Lib.hid (Cells.below Q4.out hb); have O5 := Lib.hid (OwnP.below O4.out hb); have T5 := Lib.hid (Mem.Owns.below T4.out hb); have R5 := Lib.hid (Cells.below R4.out hb); have F5 := Lib.hid (Mem.Owns.below F4.out hb); have QS5 := Lib.hid (Nat.lt_of_lt_of_le QS4.out hb.size); clear hb m0 m1 m2 m3 m4 m5 m6 m7 HRM QS4; clear L4 Z4 Q4 O4 T4 R4 F4)
            clear hfit
            obtain ⟨m0, m1, m2, m3, m4, m5, m6, m7⟩ := eight_cells Q5.out
            go_upto_region 19 with (first
              | (go_at_call 21; refine (HEN w5).out.mono ?_; rintro e w6 ⟨rfl, hb⟩; have L6 := Lib.hid (L5.out.trans (hb.mono L5.out.size)); have Z6 : Hid (ZBox _ (w.heap.size + 1)) := Lib.hid (Cells.below Z5.out hb); have Q6 := Lib.hid (Cells.below Q5.out hb); have O6 := Lib.hid (OwnP.below O5.out hb); have T6 := Lib.hid (Mem.Owns.below T5.out hb); have R6 := Lib.hid (Cells.below R5.out hb); have F6 := Lib.hid (Mem.Owns.below F5.out hb); have QS6 := Lib.hid (Nat.lt_of_lt_of_le QS5.out hb.size); clear hb m0 m1 m2 m3 m4 m5 m6 m7 HEN QS5; clear L5 Z5 Q5 O5 T5 R5 F5)
              | (at_builtin
                 have BB : Below w6.heap.size w6 (w6.alloc (.cells #[.int .i64 (x.p.at_ + (bn : Int) + pl)] 3)) := (Below.refl _ w6).alloc (Nat.le_refl _) _
                 have L7 := Lib.hid (L6.out.trans (BB.mono L6.out.size))
                 have Z7 : Hid (ZBox _ (w.heap.size + 1)) := Lib.hid (Cells.below Z6.out BB)
                 have Q7 := Lib.hid (Cells.below Q6.out BB)
                 have O7 := Lib.hid (OwnP.below O6.out BB)
                 have T7 := Lib.hid (Mem.Owns.below T6.out BB)
                 have R7 := Lib.hid (Cells.below R6.out BB)
                 have F7 := Lib.hid (Mem.Owns.below F6.out BB)
                 have R1 : Row ci (w6.alloc (.cells #[.int .i64 (x.p.at_ + (bn : Int) + pl)] 3)) (some ⟨w6.heap.size, 0, none⟩) 1 1 [x.p.at_ + (bn : Int) + pl] := Wire.row_one ci w6 _ _ _ rfl
                 refine OwnB.wpList_append ci_one Tryz.underlying44 Wire.info_int rfl (by omega) rfl (.tmp 56) (.tmp 61) rfl rfl w.heap.size (.slice T k2 d) k2 _ rfl T7.out (some ⟨w6.heap.size, 0, none⟩) 1 1 [x.p.at_ + (bn : Int) + pl] rfl R1 (by have := HKS.out; omega) L7.out.size ?_
                 intro T' d' w8 ho hg _
                 have cg : Chg 3 _ _ w8 := Chg.own (OwnB.toS T7.out) hg
                 have L8 := Lib.hid (L7.out.trans (OwnB.below_row T7.out hg L7.out.size))
                 have Z8 : Hid (ZBox w8 (w.heap.size + 1)) := Lib.hid (cg.cells Z7.out (by decide))
                 have Q8 := Lib.hid (cg.cells Q7.out (by decide))
                 have O8 := Lib.hid (O7.out.chg cg (by decide) (by decide))
                 have R8 := Lib.hid (cg.cells R7.out (by decide))
                 have F8 := Lib.hid (cg.ownI F7.out (by decide))
                 have T8 := Lib.hid ho
                 clear ho hg cg R1 BB L6 Z6 Q6 O6 T6 R6 F6 L7 Z7 Q7 O7 T7 R7 F7)
              | fail)
            have m6 := Cells.cell Q8.out 6
            have g6 := Cells.frozen Q8.out 6
            (try dsimp only at m6)
            have OB8 : Hid (Mem.Owns cb 5 w.heap.size w8 (.slice B bn bc) bn (moreP x.p (l.take k2)).buf) := by
              have := O8.out.buf
              dsimp only [OwnB1] at this
              rw [← HBN.out] at this
              exact this
            go_upto_region 20 with (first
              | (at_builtin
                 refine OwnB.wpList_append cb_one Tryz.underlying32 info_byte rfl (by omega) rfl (.tmp 64) (.tmp 65) rfl rfl w.heap.size (.slice B bn bc) bn _ rfl OB8.out X fl dx (frame (recX y.r)) rfl (Wire.gave_row F8.out (by rw [F8.out.len]; have := HFB.out; omega)).1 (by have h1 := HOK.out.buf_le; have h2 := HBN.out; have := HFB.out; omega) L8.out.size ?_
                 intro B' bc' w9 ho hg hn
                 have cg : Chg 5 _ w8 w9 := Chg.own (OwnB.toS OB8.out) hg
                 have L9 := Lib.hid (L8.out.trans (OwnB.below_row OB8.out hg L8.out.size))
                 have Z9 : Hid (ZBox w9 (w.heap.size + 1)) := Lib.hid (cg.cells Z8.out (by decide))
                 have Q9 := Lib.hid (cg.cells Q8.out (by decide))
                 have O9 := Lib.hid (O8.out.buf_more HBN.out hg hn ho)
                 have R9 := Lib.hid (cg.cells R8.out (by decide))
                 have T9 := Lib.hid (cg.ownI T8.out (by decide))
                 clear ho hg hn cg m6 g6 OB8 L8 Z8 Q8 O8 R8 T8 F8
                 have m6 := Cells.cell Q9.out 6
                 have g6 := Cells.frozen Q9.out 6
                 (try dsimp only at m6))
              | fail)
            dsimp only at O9
            have bt : Mov [q] w9 (w9.setCell ⟨q, 6, none⟩ (.slice B' (bn + fl) bc')) := Mov.set1 w9 (by simp) 6 _
            have cg := Chg.mov Q9.out bt
            have L10 := Lib.hid (L9.out.trans (bt.up L9.out.size (by have := NQ.out; omega)))
            have Z10 : Hid (ZBox _ (w.heap.size + 1)) := Lib.hid (Cells.mov Z9.out bt (by have := NQ.out; simp; omega))
            have Q10 : Hid (Cells (w9.setCell ⟨q, 6, none⟩ (.slice B' (bn + fl) bc')) q 35 #[.int .i64 x.p.h.host, .int .i64 x.p.h.epoch, .int .i64 x.p.h.seq, .int .i64 x.p.zone, .int .i64 x.p.cap, .int .i64 x.p.at_, .slice B' (bn + fl) bc', .slice L ln lc]) := by show Cells _ _ _ _; simpa using Cells.set_ Q9.out 6 (.slice B' (bn + fl) bc')
            have O10 := Lib.hid (OwnP.chg O9.out cg (by decide) (by decide))
            have R10 := Lib.hid (cg.cells R9.out (by decide))
            have T10 := Lib.hid (cg.ownI T9.out (by decide))
            clear bt cg m6 g6 L9 Z9 Q9 O9 R9 T9
            generalize w9.setCell ⟨q, 6, none⟩ (.slice B' (bn + fl) bc') = w10 at *
            have dd : Below w10.heap.size w10 w10.drew := (Below.refl _ w10).drew
            have L11 := Lib.hid (L10.out.trans (dd.mono L10.out.size))
            have Z11 : Hid (ZBox _ (w.heap.size + 1)) := Lib.hid (Cells.below Z10.out dd)
            have Q11 := Lib.hid (Cells.below Q10.out dd)
            have O11 := Lib.hid (OwnP.below O10.out dd)
            have T11 := Lib.hid (Mem.Owns.below T10.out dd)
            have R11 := Lib.hid (Cells.below R10.out dd)
            refine RegK.start (S := fun W => W.cell? ⟨q, 7, none⟩ = some (.slice L ln lc)) 7 (by kernel_rfl) (Cells.cell Q11.out 7) (fun hHeld => ?_)
            generalize w10.drew = w11 at *
            clear dd
            clear L10 Z10 Q10 O10 T10 R10
            refine RegK.tk 0 [7] rfl ?_
            refine RegK.tk 1 [7] rfl ?_
            obtain ⟨r0, r1, r2, r3, r4, r5, r6⟩ := seven_cells R11.out
            refine RegK.step 2 rfl (by kernel_rfl) (by rfl) (fun K hK => ?_)
            go_simp
            refine hK.out _ _ (fun _ => hHeld) ?_
            clear hK K r0 r1 r2 r3 r4 r5 r6
            (try simp only [Act.put, List.setIfInBounds_toArray, List.set_cons_zero, List.set_cons_succ])
            refine RegK.step 3 rfl (by kernel_rfl) (by rfl) (fun K hK => ?_)
            go_simp
            refine (clonedRec_any (y := y) (HD.out.below L11.out)).mono ?_
            rintro e w12 ⟨z, rfl, hz, hO, hb⟩
            have L12 := Lib.hid (L11.out.trans (hb.mono L11.out.size))
            have Z12 : Hid (ZBox _ (w.heap.size + 1)) := Lib.hid (Cells.below Z11.out hb)
            have Q12 := Lib.hid (Cells.below Q11.out hb)
            have O12 := Lib.hid (OwnP.below O11.out hb)
            have T12 := Lib.hid (Mem.Owns.below T11.out hb)
            have NF := Lib.hid (off_later O11.out.buf hO)
            have N12 := Lib.hid (hO.mono L11.out.size)
            have HZ := Lib.hid hz
            clear hO hb hz hHeld
            clear L11 Z11 Q11 O11 T11 R11
            have hHeld : w12.cell? ⟨q, 7, none⟩ = some (.slice L ln lc) := Cells.cell Q12.out 7
            refine hK.out _ _ (fun _ => hHeld) ?_
            clear hK K
            (try simp only [Act.put, List.setIfInBounds_toArray, List.set_cons_zero, List.set_cons_succ])
            unfold rvV
            refine RegK.step 4 rfl (by kernel_rfl) (by rfl) (fun K hK => ?_)
            go_simp
            have BB : Below w12.heap.size w12 (w12.alloc (.cells #[.int .i64 z.r.kind, .int .i64 z.r.lba, .int .i64 z.r.n, .int .i64 z.r.ver, .int .i64 z.r.zone, .int .i64 z.r.off, .slice z.D z.r.data.length z.c] 57)) := (Below.refl _ w12).alloc (Nat.le_refl _) _
            have R1 := Lib.hid (row_oneR (w := w12) (y := z) rfl)
            have L13 := Lib.hid (L12.out.trans (BB.mono L12.out.size))
            have Z13 : Hid (ZBox _ (w.heap.size + 1)) := Lib.hid (Cells.below Z12.out BB)
            have Q13 := Lib.hid (Cells.below Q12.out BB)
            have O13 := Lib.hid (OwnP.below O12.out BB)
            have T13 := Lib.hid (Mem.Owns.below T12.out BB)
            have N13 := Lib.hid (Mem.Owns.below N12.out BB)
            clear L12 Z12 Q12 O12 T12 N12
            clear BB hHeld
            generalize w12.alloc (.cells #[.int .i64 z.r.kind, .int .i64 z.r.lba, .int .i64 z.r.n, .int .i64 z.r.ver, .int .i64 z.r.zone, .int .i64 z.r.off, .slice z.D z.r.data.length z.c] 57) = w13 at *
            generalize w12.heap.size = rz at *
            have hHeld : w13.cell? ⟨q, 7, none⟩ = some (.slice L ln lc) := Cells.cell Q13.out 7
            refine hK.out _ _ (fun _ => hHeld) ?_
            clear hK K
            (try simp only [Act.put, List.setIfInBounds_toArray, List.set_cons_zero, List.set_cons_succ])
            have OL13 : Hid (OwnS.Owns cellsOf 7 57 w.heap.size w13 (.slice L ln lc) ln ys) := by
              have := O13.out.recs
              dsimp only [OwnRs] at this
              rw [← HLL.out] at this
              exact this
            refine RegK.step 5 rfl (by kernel_rfl) (by rfl) (fun K hK => ?_)
            refine OwnS.wp_append1 fitR Tryz.underlying33 info_recP rfl (by omega) (.tmp 69) (.tmp 72) rfl rfl w.heap.size (.slice L ln lc) ln ys rfl OL13.out (some ⟨rz, 0, none⟩) 1 1 [z] rfl R1.out (by have h1 := HOK.out.l_le; have h2 := HLL.out; omega) L13.out.size ?_
            intro L' lc' w14 ho hg _
            have cg : Chg 57 _ w13 w14 := Chg.own OL13.out hg
            have L14 := Lib.hid (L13.out.trans (OwnS.below_row OL13.out hg L13.out.size))
            have Z14 : Hid (ZBox w14 (w.heap.size + 1)) := Lib.hid (cg.cells Z13.out (by decide))
            have Q14 := Lib.hid (cg.cells Q13.out (by decide))
            have O14 := Lib.hid (OwnP.recs_more O13.out N13.out NF.out HLL.out hg ho)
            have T14 := Lib.hid (cg.ownI T13.out (by decide))
            clear ho hg cg OL13 R1 hHeld
            clear L13 Z13 Q13 O13 T13 N13
            have hHeld : w14.cell? ⟨q, 7, none⟩ = some (.slice L ln lc) := Cells.cell Q14.out 7
            refine hK.out _ _ (fun _ => hHeld) ?_
            clear hK K
            (try simp only [Act.put, List.setIfInBounds_toArray, List.set_cons_zero, List.set_cons_succ])
            refine RegK.tk 6 [7] rfl ?_
            have m7 := Cells.cell Q14.out 7
            have g7 := Cells.frozen Q14.out 7
            (try dsimp only at m7)
            refine RegK.step 7 rfl (by kernel_rfl) (by rfl) (fun K hK => ?_)
            go_simp
            have bt : Mov [q] w14 (w14.setCell ⟨q, 7, none⟩ (.slice L' (ln + 1) lc')) := Mov.set1 w14 (by simp) 7 _
            have cg := Chg.mov Q14.out bt
            have L15 := Lib.hid (L14.out.trans (bt.up L14.out.size (by have := NQ.out; omega)))
            have Z15 : Hid (ZBox _ (w.heap.size + 1)) := Lib.hid (Cells.mov Z14.out bt (by have := NQ.out; simp; omega))
            have Q15 : Hid (Cells (w14.setCell ⟨q, 7, none⟩ (.slice L' (ln + 1) lc')) q 35 #[.int .i64 x.p.h.host, .int .i64 x.p.h.epoch, .int .i64 x.p.h.seq, .int .i64 x.p.zone, .int .i64 x.p.cap, .int .i64 x.p.at_, .slice B' (bn + fl) bc', .slice L' (ln + 1) lc']) := by show Cells _ _ _ _; simpa using Cells.set_ Q14.out 7 (.slice L' (ln + 1) lc')
            have O15 := Lib.hid (OwnP.chg O14.out cg (by decide) (by decide))
            have T15 := Lib.hid (cg.ownI T14.out (by decide))
            clear bt cg m7 g7 L14 Z14 Q14 O14 T14 hHeld
            generalize w14.setCell ⟨q, 7, none⟩ (.slice L' (ln + 1) lc') = w15 at *
            refine hK.out _ _ (fun h => absurd rfl h) ?_
            clear hK K
            (try simp only [Act.put, List.setIfInBounds_toArray, List.set_cons_zero, List.set_cons_succ])
            refine RegK.done (by kernel_rfl) ?_ _
            go_wp2_with fail
            have HM1 : moreP x.p (l.take (k2 + 1)) = ⟨x.p.h, x.p.zone, x.p.cap, x.p.at_, (moreP x.p (l.take k2)).buf ++ frame (recX y.r), (moreP x.p (l.take k2)).l ++ [y.r]⟩ := by rw [HSN.out, moreP_snoc]; rfl
            go_roundw
            case rel =>
              refine ⟨k2 + 1, B', bn + fl, bc', L', ln + 1, lc', ys ++ [z], T', d', rfl, by go_num, by omega, ?_, ?_, L15, Z15, Q15, ?_, ?_, FT2, Lib.hid (Cells.lt Q15.out)⟩
              · show _ = _; rw [HM1, List.length_append, HBN.out, ← HFL.out]; rfl
              · show _ = _; rw [HM1, List.length_append, HLL.out]; rfl
              · show OwnP _ _ _
                have := O15.out
                dsimp only at this
                rw [HZ.out] at this
                rw [HM1]
                exact this
              · show Mem.Owns _ _ _ _ _ _ _
                have := T15.out
                rw [HSN.out, places_snoc, HPR.out, show x.p.at_ + (x.p.buf.length : Int) + ((frames (l.take k2)).length : Int) + pl = x.p.at_ + (bn : Int) + pl by have := HBV.out; omega]
                exact this
            case measure => simp [intOf]; omega
        · have hkn : k2 = k := by omega
          subst hkn
          have htk : l.take k2 = l := List.take_of_length_le (by rw [HLN.out]; exact Nat.le_refl _)
          have hap : ap = (moreP x.p l, places (x.p.at_ + (x.p.buf.length : Int)) l, 0) := by
            have := FT.out
            rw [htk] at this
            exact HAP.out.symm.trans (addP_ok (errB_ok HCA.out) this)
          have HAQ := Lib.hid hap
          have O3 : Hid (OwnP w.heap.size wr ⟨moreP x.p l, B, bc, L, lc, ys⟩) := by have := O2.out; rwa [htk] at this
          have T3 : Hid (Mem.Owns ci 3 w.heap.size wr (.slice T k2 d) k2 (places (x.p.at_ + (x.p.buf.length : Int)) l)) := by have := T2.out; rwa [htk] at this
          have HBM : Hid (bn = (moreP x.p l).buf.length) := by have := HBN.out; rwa [htk] at this
          have HLM : Hid (ln = (moreP x.p l).l.length) := by have := HLL.out; rwa [htk] at this
          obtain ⟨m0, m1, m2, m3, m4, m5, m6, m7⟩ := eight_cells Q2.out
          obtain ⟨z0, z1, z2, z3, z4, z5, z6, z7⟩ := eight_cells Z2.out
          obtain ⟨f0, f1, f2, f3, f4, f5, f6, f7⟩ := eight_free Z2.out
          clear hap htk HBN HLL O2 T2 HAP HOK FT
          go_wp2_with fail
          have bt := mov8 wr (w.heap.size + 1) (.int .i64 x.p.h.host) (.int .i64 x.p.h.epoch) (.int .i64 x.p.h.seq) (.int .i64 x.p.zone) (.int .i64 x.p.cap) (.int .i64 x.p.at_) (.slice B bn bc) (.slice L ln lc)
          have cg := Chg.mov Z2.out bt
          refine bodyPost_ret_by (results_c2 rfl _ _ (w.heap.size + 1) _ _ _ _ rfl (set8 Z2.out (.int .i64 x.p.h.host) (.int .i64 x.p.h.epoch) (.int .i64 x.p.h.seq) (.int .i64 x.p.zone) (.int .i64 x.p.cap) (.int .i64 x.p.at_) (.slice B bn bc) (.slice L ln lc)) Tryz.underlying35 rfl (by kernel_rfl)) rfl ?_
          rw [HAQ.out]
          refine ⟨⟨moreP x.p l, B, bc, L, lc, ys⟩, T, k2, d, ?_, rfl, O3.out.chg cg (by decide) (by decide), cg.ownI T3.out (by decide), L2.out.trans (bt.up L2.out.size (by omega))⟩
          unfold pxv
          dsimp only
          rw [← HBM.out, ← HLM.out]
          rfl
end Pk
end Go.Proofs.YtedandbkdjmfhaaGreat
/-
  WALKS OVER THE DOCUMENT: two packs the same; ints the same. The chapter's example in plain.
-/
namespace Go.Proofs.YtedandbkdjmfhaaGreat
open Go.RowKit Mem Box
namespace Pk
open Seg (Hdr Rc Rv cellsOf cellsOf_len RowR hdV recV fits nums hnums nn goods frame headX recX frames check recB headB)
/-! ### The example -/
def exH : Hdr := ⟨1, 2, 0⟩
def exR : Rc := ⟨1, 0, 1, 0, 0, 0, List.replicate 16 0#8⟩
theorem exH_nn : nn (hnums exH) := by intro z hz; simp [hnums, exH] at hz; omega
theorem exH_fits : fits (hnums exH) := by intro z hz; simp [hnums, exH] at hz; omega
theorem exR_fits : fits (nums exR) := by intro z hz; simp [nums, exR] at hz; omega
theorem exR_check : check exR = 0 := by decide
theorem enc_one {n : Nat} (h : n < 128) : (Wire.enc n).length = 1 := by rw [Wire.enc_lt h]; rfl
theorem exH_len : (frame (headX exH)).length = 9 := by
  have h : (headX exH).length = 4 := by simp [headX, hnums, exH, Wire.encs, Wire.enc_lt]
  rw [Seg.frame_len, h, enc_one (by omega)]
theorem exR_len : flen exR = 28 := by
  have h : (recX exR).length = 23 := by simp [recX, nums, exR, Wire.encs, Wire.enc_lt, Wire.encV]
  unfold flen
  rw [Seg.frame_len, h, enc_one (by omega)]
def exP : Pp := ⟨exH, 3, 200, 0, frame (headX exH), []⟩
theorem exP_len : exP.buf.length = 9 := exH_len
theorem ex_may : mayZ 3 200 := by unfold mayZ; omega
theorem ex_begin : beginP exH 3 200 = (exP, 0) := by
  unfold beginP
  rw [if_pos exH_nn, if_pos ex_may, if_pos (by rw [exH_len]; omega)]
  rfl
theorem exP_ok : OkP exP := OkP.begun (h := exH) ex_may (by rw [exH_len]; omega)
theorem ex_fits : fitsP exP [exR] := by
  unfold fitsP
  rw [exP_len, frames_one, exR_len]
  show (0 : Int) + _ + _ ≤ 200
  omega
theorem ex_errB : errB [exR] = 0 := by rw [errB_one]; exact exR_check
theorem ex_place : placeR exR = 8 := by unfold placeR; rw [exR_len]; rfl
theorem ex_add : addP exP [exR] = (moreP exP [exR], [17], 0) := by
  rw [addP_ok ex_errB ex_fits, places_one, exP_len, ex_place]
  rfl
theorem exM_ok : OkP (moreP exP [exR]) := exP_ok.more ex_errB ex_fits
theorem exM_len : (moreP exP [exR]).buf.length = 37 := by
  show (exP.buf ++ frames [exR]).length = 37
  rw [List.length_append, exP_len, frames_one, exR_len]
end Pk
end Go.Proofs.YtedandbkdjmfhaaGreat
