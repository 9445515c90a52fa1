/-
  THE STATEMENT SegApart: for every two headers and every two records, their frames (or the errors) tell them apart as the document says; the arguments stay as they were. For every input.
-/
import Derived.Test.YtpdmlimjhpgdiaaSegBig
namespace Go.Proofs.Ytpdmlimjhpgdiaa
open Go.ChangeShapes Go.WideShapes Go.ChangeAt Go.RowKit Mem
namespace Seg
open Wire

/-- Two records in one block. -/
theorem rowTwo {w : World} {a b : Rc} {A B : Option Addr} {c d : Nat} (h1 : Row cb w A a.data.length c a.data) (h2 : Row cb w B b.data.length d b.data) {q : Nat} (hq : q = w.heap.size) :
    RowR (w.alloc (.cells #[.int .i64 a.kind, .int .i64 a.lba, .int .i64 a.n, .int .i64 a.ver, .int .i64 a.zone, .int .i64 a.off, .slice A a.data.length c, .int .i64 b.kind, .int .i64 b.lba, .int .i64 b.n, .int .i64 b.ver, .int .i64 b.zone, .int .i64 b.off, .slice B b.data.length d] 40)) (some ⟨q, 0, none⟩) 2 2 [⟨a, A, c⟩, ⟨b, B, d⟩] := by
  subst hq
  refine ⟨rfl, by omega, by omega, fun _ => ⟨_, _, rfl, by simp, fun i x hi j v hv => ?_⟩, fun x hx => ?_⟩
  · rw [cell_of_row _ w.heap.size (0 + (i * 7 + j)) _ _ (0, 0) (heap_alloc_new w _), Nat.zero_add, List.getElem?_toArray]
    have := flat_get [⟨a, A, c⟩, ⟨b, B, d⟩] i j x v hi hv
    exact this
  · rcases List.mem_cons.1 hx with rfl | hx
    · exact h1.alloc _
    · simp at hx
      subst hx
      exact h2.alloc _

instance : DecidableEq Hdr := fun a b => decidable_of_iff (hnums a = hnums b) (by
  obtain ⟨a0, a1, a2⟩ := a
  obtain ⟨b0, b1, b2⟩ := b
  simp [hnums])
theorem eql_hdr (a b : Hdr) (w : World) : (binOp .eql 23 (hdV a) (hdV b)).run Try.prog w = .ok (.bool (decide (a = b))) w := by
  obtain ⟨a0, a1, a2⟩ := a
  obtain ⟨b0, b1, b2⟩ := b
  unfold hdV
  go_simp
  have hd : decide ((⟨a0, a1, a2⟩ : Hdr) = ⟨b0, b1, b2⟩) = (decide (a0 = b0) && (decide (a1 = b1) && decide (a2 = b2))) := by
    rw [Bool.eq_iff_iff]; simp
  repeat' split
  all_goals simp_all

/-- The four boxes of the arguments. -/
structure AP (w0 : World) (h g : Hdr) (a b : Rc) (A B : Option Addr) (c d : Nat) (w : World) : Prop where
  below : Below w0.heap.size w0 w
  h1 : Cells w w0.heap.size 23 #[.int .i64 h.host, .int .i64 h.epoch, .int .i64 h.seq]
  h2 : Cells w (w0.heap.size + 1) 23 #[.int .i64 g.host, .int .i64 g.epoch, .int .i64 g.seq]
  b1 : Box w (w0.heap.size + 1 + 1) a A a.data.length c
  b2 : Box w (w0.heap.size + 1 + 1 + 1) b B b.data.length d
theorem AP.to {w0 w w' : World} {h g : Hdr} {a b : Rc} {A B : Option Addr} {c d : Nat} (p : AP w0 h g a b A B c d w) (hb : Below w.heap.size w w') : AP w0 h g a b A B c d w' :=
  ⟨p.below.trans (hb.mono p.below.size), Cells.below p.h1 hb, Cells.below p.h2 hb, p.b1.below hb, p.b2.below hb⟩
theorem AP.alloc {w0 w : World} {h g : Hdr} {a b : Rc} {A B : Option Addr} {c d : Nat} (p : AP w0 h g a b A B c d w) (o : Obj) : AP w0 h g a b A B c d (w.alloc o) := p.to ((Below.refl _ w).alloc (Nat.le_refl _) o)
theorem AP.drewN {w0 w : World} {h g : Hdr} {a b : Rc} {A B : Option Addr} {c d : Nat} (p : AP w0 h g a b A B c d w) (n : Nat) : AP w0 h g a b A B c d (w.drewN n) := p.to (below_drewN _ w n)
theorem AP.start (w : World) (h g : Hdr) (a b : Rc) (A B : Option Addr) (c d : Nat) : AP w h g a b A B c d ((((w.alloc (.cells #[.int .i64 h.host, .int .i64 h.epoch, .int .i64 h.seq] 23)).alloc (.cells #[.int .i64 g.host, .int .i64 g.epoch, .int .i64 g.seq] 23)).alloc
    (.cells #[.int .i64 a.kind, .int .i64 a.lba, .int .i64 a.n, .int .i64 a.ver, .int .i64 a.zone, .int .i64 a.off, .slice A a.data.length c] 40)).alloc (.cells #[.int .i64 b.kind, .int .i64 b.lba, .int .i64 b.n, .int .i64 b.ver, .int .i64 b.zone, .int .i64 b.off, .slice B b.data.length d] 40)) := by
  refine ⟨?_, ?_, ?_, ?_, ?_⟩
  · exact ((((Below.refl _ w).alloc (Nat.le_refl _) _).alloc (by simp) _).alloc (by simp; omega) _).alloc (by simp; omega) _
  · exact Cells.below (Cells.below (Cells.below (heap_alloc_new w _) ((Below.refl _ _).alloc (Nat.le_refl _) _)) ((Below.refl _ _).alloc (Nat.le_refl _) _)) ((Below.refl _ _).alloc (Nat.le_refl _) _)
  · have := heap_alloc_new (w.alloc (.cells #[.int .i64 h.host, .int .i64 h.epoch, .int .i64 h.seq] 23)) (.cells #[.int .i64 g.host, .int .i64 g.epoch, .int .i64 g.seq] 23)
    rw [World.size_alloc] at this
    exact Cells.below (Cells.below this ((Below.refl _ _).alloc (Nat.le_refl _) _)) ((Below.refl _ _).alloc (Nat.le_refl _) _)
  · have := heap_alloc_new ((w.alloc (.cells #[.int .i64 h.host, .int .i64 h.epoch, .int .i64 h.seq] 23)).alloc (.cells #[.int .i64 g.host, .int .i64 g.epoch, .int .i64 g.seq] 23)) (.cells #[.int .i64 a.kind, .int .i64 a.lba, .int .i64 a.n, .int .i64 a.ver, .int .i64 a.zone, .int .i64 a.off, .slice A a.data.length c] 40)
    rw [World.size_alloc, World.size_alloc] at this
    exact Box.alloc this _
  · have := heap_alloc_new (((w.alloc (.cells #[.int .i64 h.host, .int .i64 h.epoch, .int .i64 h.seq] 23)).alloc (.cells #[.int .i64 g.host, .int .i64 g.epoch, .int .i64 g.seq] 23)).alloc (.cells #[.int .i64 a.kind, .int .i64 a.lba, .int .i64 a.n, .int .i64 a.ver, .int .i64 a.zone, .int .i64 a.off, .slice A a.data.length c] 40)) (.cells #[.int .i64 b.kind, .int .i64 b.lba, .int .i64 b.n, .int .i64 b.ver, .int .i64 b.zone, .int .i64 b.off, .slice B b.data.length d] 40)
    rw [World.size_alloc, World.size_alloc, World.size_alloc] at this
    exact this

theorem headB_cases (h : Hdr) : (nn (hnums h) ∧ headB h = (frame (headX h), 0)) ∨ (¬ nn (hnums h) ∧ headB h = ([], 1)) := by
  unfold headB
  by_cases hn : nn (hnums h)
  · exact .inl ⟨hn, by rw [if_pos hn]⟩
  · exact .inr ⟨hn, by rw [if_neg hn]⟩
theorem head_frame_eq {h g : Hdr} (fh : fits (hnums h)) (fg : fits (hnums g)) (nh : nn (hnums h)) (ng : nn (hnums g)) : frame (headX h) = frame (headX g) ↔ h = g :=
  ⟨fun e => headX_inj nh fh ng fg (frame_inj (by have := headX_len h fh nh; omega) (by have := headX_len g fg ng; omega) e), fun e => by rw [e]⟩
theorem rec_frame_eq {a b : Rc} (fa : fits (nums a)) (fb : fits (nums b)) (ca : check a = 0) (cb : check b = 0) : frame (recX a) = frame (recX b) ↔ a = b :=
  ⟨fun e => recX_inj ca fa cb fb (frame_inj (by have := recX_len fa ca; omega) (by have := recX_len fb cb; omega) e), fun e => by rw [e]⟩
theorem head_small {h : Hdr} (fh : fits (hnums h)) (nh : nn (hnums h)) : (frame (headX h)).length ≤ 140737488351232 := by
  have h1 := headX_len h fh nh
  have h2 := frame_len (headX h)
  have h3 := enc_len_le (n := (headX h).length) (by omega)
  omega
theorem rec_small {a : Rc} (fa : fits (nums a)) (ca : check a = 0) : (frame (recX a)).length ≤ 140737488351232 := by
  have h1 := recX_len fa ca
  have h2 := frame_len (recX a)
  have h3 := enc_len_le (n := (recX a).length) (by omega)
  omega

theorem recB_cases (r : Rc) : (check r = 0 ∧ recB r = (frame (recX r), 0)) ∨ (check r = 1 ∧ recB r = ([], 1)) ∨ (check r = 2 ∧ recB r = ([], 2)) := by
  unfold recB
  rcases check_le r with h | h | h
  · exact .inl ⟨h, by rw [if_pos h]⟩
  · exact .inr (.inl ⟨h, by rw [if_neg (by omega), h]⟩)
  · exact .inr (.inr ⟨h, by rw [if_neg (by omega), h]⟩)

set_option maxRecDepth 100000 in
set_option maxHeartbeats 6400000 in
theorem segApart_walk (h g : Hdr) (a b : Rc) (A B : Option Addr) (c d : Nat) (w : World) (fh : fits (hnums h)) (fg : fits (hnums g)) (fa : fits (nums a)) (fb : fits (nums b)) (r1 : Row cb w A a.data.length c a.data) (r2 : Row cb w B b.data.length d b.data) :
    Calls Try.prog 5 #[hdV h, hdV g, recV a A a.data.length c, recV b B b.data.length d] w fun e w' => e = .returned (.bool true) ∧ Below w.heap.size w w' := by
  have R1 := Lib.hid r1
  have R2 := Lib.hid r2
  have P1 := Lib.hid (AP.start w h g a b A B c d)
  have HBig := fun (w : World) (q : Nat) (hq : q = w.heap.size) (r1 : Row cb w A a.data.length c a.data) (r2 : Row cb w B b.data.length d b.data) => Lib.hid (big_any (most := 200000) (rowTwo r1 r2 hq))
  have hbk : bulkR [a, b] = ((a.data.length + 20 + (b.data.length + 20) : Nat) : Int) := by
    rw [bulk_weigh (by have := r1.big; have := r2.big; simp [weigh]; omega)]
    simp [weigh]
  simp only [List.map_cons, List.map_nil] at HBig
  rw [hbk] at HBig
  have hba := r1.big
  have hbb := r2.big
  have HHd := fun (x : Hdr) (fx : fits (hnums x)) w => Lib.hid (head_outer (h := x) (w := w) fx)
  have HRec := fun (x : Rc) (X : Option Addr) (e : Nat) (fx : fits (nums x)) w (hr : Row cb w X x.data.length e x.data) => Lib.hid (rec_outer (n := x.data.length) (c := e) fx hr)
  unfold hdV recV at *
  clear r1 r2 hbk
  go_enter Try.func5, Try.ntmps5
  go_wp2_with fail
  generalize ((((w.alloc (.cells #[.int .i64 h.host, .int .i64 h.epoch, .int .i64 h.seq] 23)).alloc (.cells #[.int .i64 g.host, .int .i64 g.epoch, .int .i64 g.seq] 23)).alloc (.cells #[.int .i64 a.kind, .int .i64 a.lba, .int .i64 a.n, .int .i64 a.ver, .int .i64 a.zone, .int .i64 a.off, .slice A a.data.length c] 40)).alloc (.cells #[.int .i64 b.kind, .int .i64 b.lba, .int .i64 b.n, .int .i64 b.ver, .int .i64 b.zone, .int .i64 b.off, .slice B b.data.length d] 40)) = w1 at *
  refine (live_any w1).mono ?_
  rintro e w2 ⟨rfl, hb⟩
  have P2 := Lib.hid (P1.out.to hb)
  obtain ⟨a0, a1, a2, a3, a4, a5, a6⟩ := P2.out.b1.cells
  obtain ⟨b0, b1, b2, b3, b4, b5, b6⟩ := P2.out.b2.cells
  clear hb P1
  go_wp2_with fail
  refine (HBig w2 _ rfl (R1.out.below P2.out.below) (R2.out.below P2.out.below)).out.mono ?_
  rintro e w3 ⟨rfl, hb⟩
  have P3 := Lib.hid ((P2.out.alloc (.cells #[.int .i64 a.kind, .int .i64 a.lba, .int .i64 a.n, .int .i64 a.ver, .int .i64 a.zone, .int .i64 a.off, .slice A a.data.length c, .int .i64 b.kind, .int .i64 b.lba, .int .i64 b.n, .int .i64 b.ver, .int .i64 b.zone, .int .i64 b.off, .slice B b.data.length d] 40)).to hb)
  clear hb P2 HBig a0 a1 a2 a3 a4 a5 a6 b0 b1 b2 b3 b4 b5 b6
  generalize hS : a.data.length + 20 + (b.data.length + 20) = S at *
  by_cases hbg : 200000 < S
  · have hb2 : decide ((200000 : Int) < (S : Int)) = true := by simp; omega
    clear hbg
    go_wp2_with fail
    go_ret
    exact ⟨rfl, P3.out.below⟩
  · have hb2 : decide ((200000 : Int) < (S : Int)) = false := by simp; omega
    have h0 := P3.out.h1.cell 0
    have h1 := P3.out.h1.cell 1
    have h2 := P3.out.h1.cell 2
    simp at h0 h1 h2
    go_wp2_with fail
    rcases hgx : headB h with ⟨bx, ex⟩
    rcases hgy : headB g with ⟨by_, ey⟩
    have HHx := (HHd h fh w3).out
    have HHy := fun w => (HHd g fg w).out
    rw [hgx] at HHx
    rw [hgy] at HHy
    dsimp only at HHx HHy
    have HHy := fun w => Lib.hid (HHy w)
    refine HHx.mono ?_
    clear HHx
    have HGX := Lib.hid hgx
    have HGY := Lib.hid hgy
    clear hgx hgy
    rintro e w4 ⟨X, k, e1, rfl, hX, hb⟩
    have P4 := Lib.hid (P3.out.to hb)
    clear hb P3 h0 h1 h2
    have h0 := P4.out.h2.cell 0
    have h1 := P4.out.h2.cell 1
    have h2 := P4.out.h2.cell 2
    simp at h0 h1 h2
    go_wp2_with fail
    refine (HHy w4).out.mono ?_
    rintro e w5 ⟨Y, l, e2, rfl, hY, hb⟩
    have P5 := Lib.hid (P4.out.to hb)
    have OX := Lib.hid (hX.below hb)
    have OY := Lib.hid hY
    clear hb hX hY P4 h0 h1 h2 HHd HHy hbg hb2
    go_upto_region 6 with fail
    go_cut [46] (fun s wx => s = .bool false ∧ Hid (AP w h g a b A B c d wx))
    case first =>
      rcases headB_cases h with ⟨nh, hh⟩ | ⟨nh, hh⟩
      · have e1 := HGX.out.symm.trans hh
        simp only [Prod.mk.injEq] at e1
        obtain ⟨rfl, rfl⟩ := e1
        clear HGX hh
        rcases headB_cases g with ⟨ng, hg⟩ | ⟨ng, hg⟩
        · have e2 := HGY.out.symm.trans hg
          simp only [Prod.mk.injEq] at e2
          obtain ⟨rfl, rfl⟩ := e2
          clear HGY hg
          have heq := head_frame_eq fh fg nh ng
          obtain ⟨rx, rfl⟩ := gave_row (w := w) OX.out (head_small fh nh)
          obtain ⟨ry, rfl⟩ := gave_row (w := w) OY.out (head_small fg ng)
          have RX := Lib.hid rx
          have RY := Lib.hid ry
          have hs1 := fun q => run_str (RX.out.drewN q)
          have hs2 := fun q => run_str (RY.out.drewN q)
          have hq := fun w => eql_hdr h g w
          have hcmp := str_beq (frame (headX h)) (frame (headX g))
          have h0 := Cells.cell P5.out.h1
          have g0 := Cells.cell P5.out.h2
          have a0 := h0 0
          have a1 := h0 1
          have a2 := h0 2
          have b0 := g0 0
          have b1 := g0 1
          have b2 := g0 2
          simp at a0 a1 a2 b0 b1 b2
          unfold hdV at hq
          clear h0 g0 rx ry OX OY
          by_cases hhg : h = g
          · have hd1 : decide (frame (headX h) = frame (headX g)) = true := by simpa using heq.2 hhg
            have hd2 : decide (h = g) = true := by simpa using hhg
            rw [hd2] at hq
            rw [hd1] at hcmp
            clear heq hd1 hd2 hhg nh ng
            go_quiet (fail)
            go_wp2_with fail
            go_meet
            exact ⟨rfl, P5.out.drewN _⟩
          · have hd1 : decide (frame (headX h) = frame (headX g)) = false := by simpa using fun e => hhg (heq.1 e)
            have hd2 : decide (h = g) = false := by simpa using hhg
            rw [hd2] at hq
            rw [hd1] at hcmp
            clear heq hd1 hd2 hhg nh ng
            go_quiet (fail)
            go_wp2_with fail
            go_meet
            exact ⟨rfl, P5.out.drewN _⟩
        · have e2 := HGY.out.symm.trans hg
          simp only [Prod.mk.injEq] at e2
          obtain ⟨rfl, rfl⟩ := e2
          go_quiet (fail)
          go_wp2_with fail
          go_meet
          exact ⟨rfl, P5.out.drewN _⟩
      · have e1 := HGX.out.symm.trans hh
        simp only [Prod.mk.injEq] at e1
        obtain ⟨rfl, rfl⟩ := e1
        go_quiet (fail)
        go_wp2_with fail
        go_meet
        exact ⟨rfl, P5.out.drewN _⟩
    case rest =>
      obtain ⟨rfl, hP⟩ := hcut
      clear P5 OX OY HGX HGY
      rcases hga : recB a with ⟨xa, ea⟩
      rcases hgb : recB b with ⟨xb, eb⟩
      have HRa := fun w hr => (HRec a A c fa w hr).out
      have HRb := fun w hr => (HRec b B d fb w hr).out
      rw [hga] at HRa
      rw [hgb] at HRb
      dsimp only at HRa HRb
      have HRa := fun w hr => Lib.hid (HRa w hr)
      have HRb := fun w hr => Lib.hid (HRb w hr)
      have HGA := Lib.hid hga
      have HGB := Lib.hid hgb
      obtain ⟨a0, a1, a2, a3, a4, a5, a6⟩ := hP.out.b1.cells
      clear hga hgb HRec
      go_wp2_with fail
      refine (HRa wc (R1.out.below hP.out.below)).out.mono ?_
      rintro e w6 ⟨X6, k6, e6, rfl, hX, hb⟩
      have P6 := Lib.hid (hP.out.to hb)
      obtain ⟨b0, b1, b2, b3, b4, b5, b6⟩ := P6.out.b2.cells
      clear hb hP a0 a1 a2 a3 a4 a5 a6 HRa
      go_wp2_with fail
      refine (HRb w6 (R2.out.below P6.out.below)).out.mono ?_
      rintro e w7 ⟨X7, k7, e7, rfl, hY, hb⟩
      have P7 := Lib.hid (P6.out.to hb)
      have OX := Lib.hid (hX.below hb)
      have OY := Lib.hid hY
      clear hb hX hY P6 b0 b1 b2 b3 b4 b5 b6 HRb
      have HCa := fun (e : Nat) (hc : check a = e) w => Lib.hid (check_at hc fa A a.data.length c rfl hba w)
      have HCb := fun (e : Nat) (hc : check b = e) w => Lib.hid (check_at hc fb B b.data.length d rfl hbb w)
      unfold recV at HCa HCb
      obtain ⟨a0, a1, a2, a3, a4, a5, a6⟩ := P7.out.b1.cells
      rcases recB_cases a with ⟨ca, ha⟩ | ⟨ca, ha⟩ | ⟨ca, ha⟩
      all_goals
        have e1 := HGA.out.symm.trans ha
        simp only [Prod.mk.injEq] at e1
        obtain ⟨rfl, rfl⟩ := e1
        clear HGA ha
        have HCa0 := fun w => HCa _ ca w
        rcases recB_cases b with ⟨cB, hb⟩ | ⟨cB, hb⟩ | ⟨cB, hb⟩
        all_goals
          have e1 := HGB.out.symm.trans hb
          simp only [Prod.mk.injEq] at e1
          obtain ⟨rfl, rfl⟩ := e1
          clear HGB hb
          have HCb0 := fun w => HCb _ cB w
          go_wp2_with fail
          first
          | (refine (HCa0 w7).out.mono ?_
             rintro e w8 ⟨rfl, hb⟩
             have P8 := Lib.hid (P7.out.to hb)
             obtain ⟨b0, b1, b2, b3, b4, b5, b6⟩ := P8.out.b2.cells
             clear hb P7 a0 a1 a2 a3 a4 a5 a6 OX OY
             go_wp2_with fail
             refine (HCb0 w8).out.mono ?_
             rintro e w9 ⟨rfl, hb⟩
             have P9 := Lib.hid (P8.out.to hb)
             clear hb P8 b0 b1 b2 b3 b4 b5 b6
             go_wp2_with fail
             go_ret
             exact ⟨rfl, P9.out.below⟩)
          | skip
      have heq := rec_frame_eq fa fb ca cB
      obtain ⟨rx, rfl⟩ := gave_row (w := w) OX.out (rec_small fa ca)
      obtain ⟨ry, rfl⟩ := gave_row (w := w) OY.out (rec_small fb cB)
      have RX := Lib.hid rx
      have RY := Lib.hid ry
      have hcmp := str_beq (frame (recX a)) (frame (recX b))
      have hsa : sameB a a = true := (sameB_iff a a).2 rfl
      have HS1 := fun w (r1 : Row Mem.cb w A a.data.length c a.data) (r2 : Row Mem.cb w B b.data.length d b.data) => Lib.hid (sameness_any a b r1 r2)
      have HS2 := fun w (r1 : Row Mem.cb w A a.data.length c a.data) => Lib.hid (sameness_any a a r1 r1)
      rw [hsa] at HS2
      unfold recV at HS1 HS2
      have hS : Hid (∀ W, AP w h g a b A B c d W → Row Mem.cb W X6 (frame (recX a)).length e6 (frame (recX a)) → Row Mem.cb W X7 (frame (recX b)).length e7 (frame (recX b)) →
          (convert 27 9 (.slice X6 (frame (recX a)).length e6)).run Try.prog W = .ok (.string (str (frame (recX a)))) W ∧ (convert 27 9 (.slice X7 (frame (recX b)).length e7)).run Try.prog W = .ok (.string (str (frame (recX b)))) W ∧
          (W.cell? ⟨w.heap.size + 1 + 1, 0, none⟩ = some (.int .i64 a.kind) ∧ W.cell? ⟨w.heap.size + 1 + 1, 1, none⟩ = some (.int .i64 a.lba) ∧ W.cell? ⟨w.heap.size + 1 + 1, 2, none⟩ = some (.int .i64 a.n) ∧ W.cell? ⟨w.heap.size + 1 + 1, 3, none⟩ = some (.int .i64 a.ver) ∧ W.cell? ⟨w.heap.size + 1 + 1, 4, none⟩ = some (.int .i64 a.zone) ∧ W.cell? ⟨w.heap.size + 1 + 1, 5, none⟩ = some (.int .i64 a.off) ∧ W.cell? ⟨w.heap.size + 1 + 1, 6, none⟩ = some (.slice A a.data.length c)) ∧
          (W.cell? ⟨w.heap.size + 1 + 1 + 1, 0, none⟩ = some (.int .i64 b.kind) ∧ W.cell? ⟨w.heap.size + 1 + 1 + 1, 1, none⟩ = some (.int .i64 b.lba) ∧ W.cell? ⟨w.heap.size + 1 + 1 + 1, 2, none⟩ = some (.int .i64 b.n) ∧ W.cell? ⟨w.heap.size + 1 + 1 + 1, 3, none⟩ = some (.int .i64 b.ver) ∧ W.cell? ⟨w.heap.size + 1 + 1 + 1, 4, none⟩ = some (.int .i64 b.zone) ∧ W.cell? ⟨w.heap.size + 1 + 1 + 1, 5, none⟩ = some (.int .i64 b.off) ∧ W.cell? ⟨w.heap.size + 1 + 1 + 1, 6, none⟩ = some (.slice B b.data.length d))) := fun W p x y => ⟨run_str x, run_str y, p.b1.cells, p.b2.cells⟩
      have P7d : Hid (AP w h g a b A B c d w7.drew) := P7.out.to (Below.refl _ w7).drew
      have hsb : sameB a b = decide (frame (recX a) = frame (recX b)) := by rw [Bool.eq_iff_iff, sameB_iff, decide_eq_true_eq]; exact heq.symm
      clear rx ry OX OY a0 a1 a2 a3 a4 a5 a6 heq HCa HCb HCa0 HCb0 hsa
      rcases hdc : decide (frame (recX a) = frame (recX b))
      all_goals
        rw [hdc] at hcmp hsb
        rw [hsb] at HS1
        refine wp_region_held_drew (S := (fun W => (convert 27 9 (.slice X6 (frame (recX a)).length e6)).run Try.prog W = .ok (.string (str (frame (recX a)))) W ∧ (convert 27 9 (.slice X7 (frame (recX b)).length e7)).run Try.prog W = .ok (.string (str (frame (recX b)))) W ∧
        (W.cell? ⟨w.heap.size + 1 + 1, 0, none⟩ = some (.int .i64 a.kind) ∧ W.cell? ⟨w.heap.size + 1 + 1, 1, none⟩ = some (.int .i64 a.lba) ∧ W.cell? ⟨w.heap.size + 1 + 1, 2, none⟩ = some (.int .i64 a.n) ∧ W.cell? ⟨w.heap.size + 1 + 1, 3, none⟩ = some (.int .i64 a.ver) ∧ W.cell? ⟨w.heap.size + 1 + 1, 4, none⟩ = some (.int .i64 a.zone) ∧ W.cell? ⟨w.heap.size + 1 + 1, 5, none⟩ = some (.int .i64 a.off) ∧ W.cell? ⟨w.heap.size + 1 + 1, 6, none⟩ = some (.slice A a.data.length c)) ∧
        (W.cell? ⟨w.heap.size + 1 + 1 + 1, 0, none⟩ = some (.int .i64 b.kind) ∧ W.cell? ⟨w.heap.size + 1 + 1 + 1, 1, none⟩ = some (.int .i64 b.lba) ∧ W.cell? ⟨w.heap.size + 1 + 1 + 1, 2, none⟩ = some (.int .i64 b.n) ∧ W.cell? ⟨w.heap.size + 1 + 1 + 1, 3, none⟩ = some (.int .i64 b.ver) ∧ W.cell? ⟨w.heap.size + 1 + 1 + 1, 4, none⟩ = some (.int .i64 b.zone) ∧ W.cell? ⟨w.heap.size + 1 + 1 + 1, 5, none⟩ = some (.int .i64 b.off) ∧ W.cell? ⟨w.heap.size + 1 + 1 + 1, 6, none⟩ = some (.slice B b.data.length d)))) (by kernel_rfl) (hS.out _ P7d.out RX.out.drew RY.out.drew) (fun hHeld => ?_)
        (first | (refine Reg.take 0 (v := ?_) rfl (by kernel_rfl) (by kernel_rfl) (by kernel_rfl) (fun _ _ _ h => h) (Or.inl ⟨by rfl, ?_⟩) (by assumption) ?_; rotate_left; (focus ((intro W hSW); (try dsimp only at hSW); (try go_split_ands); go_simp; (try (with_reducible rfl)); done))) | (refine Reg.take 0 (v := undef) rfl (by kernel_rfl) (by kernel_rfl) (by kernel_rfl) (fun _ _ _ h => h) (Or.inr ⟨by rfl, rfl⟩) (by assumption) ?_))
        (try simp only [Act.put, List.setIfInBounds_toArray, List.set_cons_zero, List.set_cons_succ])
        (first | (refine Reg.take 1 (v := ?_) rfl (by kernel_rfl) (by kernel_rfl) (by kernel_rfl) (fun _ _ _ h => h) (Or.inl ⟨by rfl, ?_⟩) (by assumption) ?_; rotate_left; (focus ((intro W hSW); (try dsimp only at hSW); (try go_split_ands); go_simp; (try (with_reducible rfl)); done))) | (refine Reg.take 1 (v := undef) rfl (by kernel_rfl) (by kernel_rfl) (by kernel_rfl) (fun _ _ _ h => h) (Or.inr ⟨by rfl, rfl⟩) (by assumption) ?_))
        (try simp only [Act.put, List.setIfInBounds_toArray, List.set_cons_zero, List.set_cons_succ])
        (first | (refine Reg.take 2 (v := ?_) rfl (by kernel_rfl) (by kernel_rfl) (by kernel_rfl) (fun _ _ _ h => h) (Or.inl ⟨by rfl, ?_⟩) (by assumption) ?_; rotate_left; (focus ((intro W hSW); (try dsimp only at hSW); (try go_split_ands); go_simp; (try (with_reducible rfl)); done))) | (refine Reg.take 2 (v := undef) rfl (by kernel_rfl) (by kernel_rfl) (by kernel_rfl) (fun _ _ _ h => h) (Or.inr ⟨by rfl, rfl⟩) (by assumption) ?_))
        (try simp only [Act.put, List.setIfInBounds_toArray, List.set_cons_zero, List.set_cons_succ])
        (first | (refine Reg.take 3 (v := ?_) rfl (by kernel_rfl) (by kernel_rfl) (by kernel_rfl) (fun _ _ _ h => h) (Or.inl ⟨by rfl, ?_⟩) (by assumption) ?_; rotate_left; (focus ((intro W hSW); (try dsimp only at hSW); (try go_split_ands); go_simp; (try (with_reducible rfl)); done))) | (refine Reg.take 3 (v := undef) rfl (by kernel_rfl) (by kernel_rfl) (by kernel_rfl) (fun _ _ _ h => h) (Or.inr ⟨by rfl, rfl⟩) (by assumption) ?_))
        (try simp only [Act.put, List.setIfInBounds_toArray, List.set_cons_zero, List.set_cons_succ])
        (first | (refine Reg.take 4 (v := ?_) rfl (by kernel_rfl) (by kernel_rfl) (by kernel_rfl) (fun _ _ _ h => h) (Or.inl ⟨by rfl, ?_⟩) (by assumption) ?_; rotate_left; (focus ((intro W hSW); (try dsimp only at hSW); (try go_split_ands); go_simp; (try (with_reducible rfl)); done))) | (refine Reg.take 4 (v := undef) rfl (by kernel_rfl) (by kernel_rfl) (by kernel_rfl) (fun _ _ _ h => h) (Or.inr ⟨by rfl, rfl⟩) (by assumption) ?_))
        (try simp only [Act.put, List.setIfInBounds_toArray, List.set_cons_zero, List.set_cons_succ])
        (first | (refine Reg.take 5 (v := ?_) rfl (by kernel_rfl) (by kernel_rfl) (by kernel_rfl) (fun _ _ _ h => h) (Or.inl ⟨by rfl, ?_⟩) (by assumption) ?_; rotate_left; (focus ((intro W hSW); (try dsimp only at hSW); (try go_split_ands); go_simp; (try (with_reducible rfl)); done))) | (refine Reg.take 5 (v := undef) rfl (by kernel_rfl) (by kernel_rfl) (by kernel_rfl) (fun _ _ _ h => h) (Or.inr ⟨by rfl, rfl⟩) (by assumption) ?_))
        (try simp only [Act.put, List.setIfInBounds_toArray, List.set_cons_zero, List.set_cons_succ])
        (first | (refine Reg.take 6 (v := ?_) rfl (by kernel_rfl) (by kernel_rfl) (by kernel_rfl) (fun _ _ _ h => h) (Or.inl ⟨by rfl, ?_⟩) (by assumption) ?_; rotate_left; (focus ((intro W hSW); (try dsimp only at hSW); (try go_split_ands); go_simp; (try (with_reducible rfl)); done))) | (refine Reg.take 6 (v := undef) rfl (by kernel_rfl) (by kernel_rfl) (by kernel_rfl) (fun _ _ _ h => h) (Or.inr ⟨by rfl, rfl⟩) (by assumption) ?_))
        (try simp only [Act.put, List.setIfInBounds_toArray, List.set_cons_zero, List.set_cons_succ])
        (first | (refine Reg.take 7 (v := ?_) rfl (by kernel_rfl) (by kernel_rfl) (by kernel_rfl) (fun _ _ _ h => h) (Or.inl ⟨by rfl, ?_⟩) (by assumption) ?_; rotate_left; (focus ((intro W hSW); (try dsimp only at hSW); (try go_split_ands); go_simp; (try (with_reducible rfl)); done))) | (refine Reg.take 7 (v := undef) rfl (by kernel_rfl) (by kernel_rfl) (by kernel_rfl) (fun _ _ _ h => h) (Or.inr ⟨by rfl, rfl⟩) (by assumption) ?_))
        (try simp only [Act.put, List.setIfInBounds_toArray, List.set_cons_zero, List.set_cons_succ])
        (first | (refine Reg.take 8 (v := ?_) rfl (by kernel_rfl) (by kernel_rfl) (by kernel_rfl) (fun _ _ _ h => h) (Or.inl ⟨by rfl, ?_⟩) (by assumption) ?_; rotate_left; (focus ((intro W hSW); (try dsimp only at hSW); (try go_split_ands); go_simp; (try (with_reducible rfl)); done))) | (refine Reg.take 8 (v := undef) rfl (by kernel_rfl) (by kernel_rfl) (by kernel_rfl) (fun _ _ _ h => h) (Or.inr ⟨by rfl, rfl⟩) (by assumption) ?_))
        (try simp only [Act.put, List.setIfInBounds_toArray, List.set_cons_zero, List.set_cons_succ])
        refine Reg.step 9 rfl (by kernel_rfl) (by rfl) (fun K hK => ?_)
        go_simp
        refine (HS1 _ (R1.out.below P7d.out.below) (R2.out.below P7d.out.below)).out.mono ?_
        rintro e w8 ⟨rfl, hb⟩
        have P8 := Lib.hid (P7d.out.to hb)
        have RX8 := Lib.hid (RX.out.drew.below hb)
        have RY8 := Lib.hid (RY.out.drew.below hb)
        refine hK.out _ _ (hS.out _ P8.out RX8.out RY8.out) (fun hHeld2 => ?_)
        clear hK K hHeld hb
        (try simp only [Act.put, List.setIfInBounds_toArray, List.set_cons_zero, List.set_cons_succ])
        (first | (refine Reg.take 10 (v := ?_) rfl (by kernel_rfl) (by kernel_rfl) (by kernel_rfl) (fun _ _ _ h => h) (Or.inl ⟨by rfl, ?_⟩) (by assumption) ?_; rotate_left; (focus ((intro W hSW); (try dsimp only at hSW); (try go_split_ands); go_simp; (try (with_reducible rfl)); done))) | (refine Reg.take 10 (v := undef) rfl (by kernel_rfl) (by kernel_rfl) (by kernel_rfl) (fun _ _ _ h => h) (Or.inr ⟨by rfl, rfl⟩) (by assumption) ?_))
        (try simp only [Act.put, List.setIfInBounds_toArray, List.set_cons_zero, List.set_cons_succ])
        (first | (refine Reg.take 11 (v := ?_) rfl (by kernel_rfl) (by kernel_rfl) (by kernel_rfl) (fun _ _ _ h => h) (Or.inl ⟨by rfl, ?_⟩) (by assumption) ?_; rotate_left; (focus ((intro W hSW); (try dsimp only at hSW); (try go_split_ands); go_simp; (try (with_reducible rfl)); done))) | (refine Reg.take 11 (v := undef) rfl (by kernel_rfl) (by kernel_rfl) (by kernel_rfl) (fun _ _ _ h => h) (Or.inr ⟨by rfl, rfl⟩) (by assumption) ?_))
        (try simp only [Act.put, List.setIfInBounds_toArray, List.set_cons_zero, List.set_cons_succ])
        (first | (refine Reg.take 12 (v := ?_) rfl (by kernel_rfl) (by kernel_rfl) (by kernel_rfl) (fun _ _ _ h => h) (Or.inl ⟨by rfl, ?_⟩) (by assumption) ?_; rotate_left; (focus ((intro W hSW); (try dsimp only at hSW); (try go_split_ands); go_simp; (try (with_reducible rfl)); done))) | (refine Reg.take 12 (v := undef) rfl (by kernel_rfl) (by kernel_rfl) (by kernel_rfl) (fun _ _ _ h => h) (Or.inr ⟨by rfl, rfl⟩) (by assumption) ?_))
        (try simp only [Act.put, List.setIfInBounds_toArray, List.set_cons_zero, List.set_cons_succ])
        (first | (refine Reg.take 13 (v := ?_) rfl (by kernel_rfl) (by kernel_rfl) (by kernel_rfl) (fun _ _ _ h => h) (Or.inl ⟨by rfl, ?_⟩) (by assumption) ?_; rotate_left; (focus ((intro W hSW); (try dsimp only at hSW); (try go_split_ands); go_simp; (try (with_reducible rfl)); done))) | (refine Reg.take 13 (v := undef) rfl (by kernel_rfl) (by kernel_rfl) (by kernel_rfl) (fun _ _ _ h => h) (Or.inr ⟨by rfl, rfl⟩) (by assumption) ?_))
        (try simp only [Act.put, List.setIfInBounds_toArray, List.set_cons_zero, List.set_cons_succ])
        (first | (refine Reg.take 14 (v := ?_) rfl (by kernel_rfl) (by kernel_rfl) (by kernel_rfl) (fun _ _ _ h => h) (Or.inl ⟨by rfl, ?_⟩) (by assumption) ?_; rotate_left; (focus ((intro W hSW); (try dsimp only at hSW); (try go_split_ands); go_simp; (try (with_reducible rfl)); done))) | (refine Reg.take 14 (v := undef) rfl (by kernel_rfl) (by kernel_rfl) (by kernel_rfl) (fun _ _ _ h => h) (Or.inr ⟨by rfl, rfl⟩) (by assumption) ?_))
        (try simp only [Act.put, List.setIfInBounds_toArray, List.set_cons_zero, List.set_cons_succ])
        refine Reg.step 15 rfl (by kernel_rfl) (by rfl) (fun K hK => ?_)
        go_simp
        refine (HS2 _ (R1.out.below P8.out.below)).out.mono ?_
        rintro e w9 ⟨rfl, hb⟩
        have P9 := Lib.hid (P8.out.to hb)
        refine hK.out _ _ (hS.out _ P9.out (RX8.out.below hb) (RY8.out.below hb)) (fun hHeld3 => ?_)
        clear hK K hHeld2 hb
        (try simp only [Act.put, List.setIfInBounds_toArray, List.set_cons_zero, List.set_cons_succ])
        (first | (refine Reg.take 16 (v := ?_) rfl (by kernel_rfl) (by kernel_rfl) (by kernel_rfl) (fun _ _ _ h => h) (Or.inl ⟨by rfl, ?_⟩) (by assumption) ?_; rotate_left; (focus ((intro W hSW); (try dsimp only at hSW); (try go_split_ands); go_simp; (try (with_reducible rfl)); done))) | (refine Reg.take 16 (v := undef) rfl (by kernel_rfl) (by kernel_rfl) (by kernel_rfl) (fun _ _ _ h => h) (Or.inr ⟨by rfl, rfl⟩) (by assumption) ?_))
        (try simp only [Act.put, List.setIfInBounds_toArray, List.set_cons_zero, List.set_cons_succ])
        (first | (refine Reg.take 17 (v := ?_) rfl (by kernel_rfl) (by kernel_rfl) (by kernel_rfl) (fun _ _ _ h => h) (Or.inl ⟨by rfl, ?_⟩) (by assumption) ?_; rotate_left; (focus ((intro W hSW); (try dsimp only at hSW); (try go_split_ands); go_simp; (try (with_reducible rfl)); done))) | (refine Reg.take 17 (v := undef) rfl (by kernel_rfl) (by kernel_rfl) (by kernel_rfl) (fun _ _ _ h => h) (Or.inr ⟨by rfl, rfl⟩) (by assumption) ?_))
        (try simp only [Act.put, List.setIfInBounds_toArray, List.set_cons_zero, List.set_cons_succ])
        refine wpAnyH_done (by kernel_rfl) ?_ _
        clear hHeld3
        go_wp2_with fail
        go_ret
        exact ⟨rfl, P9.out.below⟩

theorem segApart_says : Frame.Says Rows.segApartSpec 4 := by
  refine ⟨rfl, fun H ds h => ?_, fun H ds h => ?_, fun H ds h => ?_⟩ <;>
  · match ds, h with
    | [d1, d2, d3, d4], _ => rfl

set_option maxRecDepth 100000 in
theorem segApart_walks : Frame.Walks 5 [23, 23, 40, 40] := by
  intro H enc W args ds ps base hok hA hsz
  obtain ⟨v0, vs0, d0, ds0, p0, q0, hargs, rfl, rfl, h0, r0⟩ := trodAll_cons hA
  obtain ⟨v1, vs1, d1, ds1, p1, q1, rfl, rfl, rfl, h1, r1⟩ := trodAll_cons r0
  obtain ⟨v2, vs2, d2, ds2, p2, q2, rfl, rfl, rfl, h2, r2⟩ := trodAll_cons r1
  obtain ⟨v3, vs3, d3, ds3, p3, q3, rfl, rfl, rfl, h3, r3⟩ := trodAll_cons r2
  obtain ⟨rfl, rfl, rfl⟩ := trodAll_nil r3
  obtain rfl : args = #[v0, v1, v2, v3] := by cases args; simp_all
  obtain ⟨h, rfl, fh⟩ := Args.open_hdr (hok 0 _ v0 rfl rfl) h0
  obtain ⟨g, rfl, fg⟩ := Args.open_hdr (hok 1 _ v1 rfl rfl) h1
  obtain ⟨a, A, c, rfl, ra, fa⟩ := Args.open_rec (hok 2 _ v2 rfl rfl) h2 (Args.sized_arg hsz (j := 2) rfl rfl)
  obtain ⟨b, B, d, rfl, rb, fb⟩ := Args.open_rec (hok 3 _ v3 rfl rfl) h3 (Args.sized_arg hsz (j := 3) rfl rfl)
  exact segApart_walk h g a b A B c d W fh fg fa fb ra rb

set_option maxRecDepth 100000 in
theorem segApart_over : Rows.segApartRow.holds Try.pinned (OpenSpec.ofChange Rows.segApartSpec) :=
  OpenClaim.holds_of_wide 5 Try.f5 rfl rfl rfl rfl rfl rfl rfl ⟨rfl, rfl, rfl, rfl, rfl⟩ rfl rfl rfl rfl rfl (by kernel_rfl) Try.func5 (by kernel_rfl)
    (of_decide_eq_true (by kernel_rfl)) (by unfold Func.isWrapper; first | (rw [if_pos (by decide +kernel)]; kernel_rfl) | (rw [if_neg (by decide +kernel)]; exact ⟨rfl, rfl⟩))
    (fun os started H enc _ => Frame.lifted (started := started) Try.underlying4 (by kernel_rfl) Try.func5 (n := 4) (by rw [Try.params5]; rfl) segApart_says (by rw [Try.params5]; kernel_rfl) (by kernel_rfl)
      (ChangeSpec.witness6 (enc := enc) (C := Try.checked) false ⟨#[], #[.agg #[.int .i64 0, .int .i64 0, .int .i64 0], .agg #[.int .i64 0, .int .i64 0, .int .i64 0], .agg #[.int .i64 0, .int .i64 0, .int .i64 0, .int .i64 0, .int .i64 0, .int .i64 0, .slice none 0 0], .agg #[.int .i64 0, .int .i64 0, .int .i64 0, .int .i64 0, .int .i64 0, .int .i64 0, .slice none 0 0]], []⟩ 8 (by kernel_rfl) (by kernel_rfl) (by kernel_rfl) (by kernel_rfl))
      (by rw [Try.params5]; exact segApart_walks))
end Seg
/-- The given statement. -/
theorem segApart_holds : Rows.SegApartSaid := Seg.segApart_over
end Go.Proofs.Ytpdmlimjhpgdiaa
