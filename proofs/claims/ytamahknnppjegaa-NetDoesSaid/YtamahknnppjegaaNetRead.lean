/-
  WALKS: net.Read.
-/
import Derived.Test.YtamahknnppjegaaNetReadP
import Derived.Test.YtamahknnppjegaaNetLive
namespace Go.Proofs.Ytamahknnppjegaa
open Go.RowKit Mem Box
namespace Net
open Wire (B8 asInts GaveE MsgBad msg1 TookM NotM takeMsg_ok takeMsg_bad msg1_one msg1_bad)

/-- A net that is read, in its box, beside the result's. -/
structure RdI (w wr : World) (cap g : Nat) (R : Option Addr) (j d : Nat) (l : List Mx) : Prop where
  below : Below w.heap.size w wr
  zb : NBox wr w.heap.size 0 none 0 0
  gb : NBox wr g cap R j d
  own : OwnN w.heap.size w.heap.size wr (.slice R j d) j l
  ne : w.heap.size < g
  bn : ∀ x ∈ l, ∀ q, Bl x q → q ≠ g ∧ q ≠ w.heap.size
section
variable {w wr w' : World} {cap g : Nat} {R : Option Addr} {j d : Nat} {l : List Mx}
theorem RdI.keep (h : RdI w wr cap g R j d l) (hb : Below wr.heap.size wr w') : RdI w w' cap g R j d l :=
  ⟨h.below.trans (hb.mono h.below.size), Cells.below h.zb hb, Cells.below h.gb hb, h.own.below hb, h.ne, h.bn⟩
theorem RdI.apart {y : Mx} (h : RdI w wr cap g R j d l) (hy : New wr.heap.size y) : ∀ q, Bl y q → (Value.slice R j d).ownBlock ≠ some q ∧ q ≠ g ∧ q ≠ w.heap.size := fun q hq =>
  ⟨fun e => by have h1 := (h.own.own.lt q e).2; have h2 := hy q hq; omega, fun e => by have h1 := h.gb.lt; have h2 := hy q hq; omega, fun e => by have h1 := h.zb.lt; have h2 := hy q hq; omega⟩
theorem RdI.grown (h : RdI w wr cap g R j d l) (hg : wr.grownBy w' (Value.slice R j d).ownBlock) : Below w.heap.size w w' ∧ NBox w' w.heap.size 0 none 0 0 ∧ NBox w' g cap R j d :=
  ⟨h.below.trans (OwnS.below_row h.own.own hg h.below.size), cells_grown h.zb hg (own_ne h.own.own h.zb (by decide)), cells_grown h.gb hg (own_ne h.own.own h.gb (by decide))⟩
theorem RdI.push {w6 : World} {R' : Option Addr} {d' : Nat} {y : Mx} (h : RdI w wr cap g R j d l) (ho : OwnS.Owns cellsM 6 39 w.heap.size w6 (.slice R' (j + 1) d') (j + 1) (l ++ [y])) (hg : wr.grownBy w6 (Value.slice R j d).ownBlock)
    (hn : (Value.slice R' (j + 1) d').ownBlock = (Value.slice R j d).ownBlock ∨ (Value.slice R' (j + 1) d').ownBlock = some wr.heap.size) (hy : MAt wr y) (hlow : New w.heap.size y) (hap : ∀ q, Bl y q → (Value.slice R j d).ownBlock ≠ some q ∧ q ≠ g ∧ q ≠ w.heap.size) :
    RdI w (w6.setCell ⟨g, 1, none⟩ (.slice R' (j + 1) d')) cap g R' (j + 1) d' (l ++ [y]) := by
  obtain ⟨g1, g2, g3⟩ := h.grown hg
  have bt : Mov [g] w6 (w6.setCell ⟨g, 1, none⟩ (.slice R' (j + 1) d')) := Mov.set1 w6 (by simp) 1 _
  have hown := h.own.more ho hg hn (fun z hz => by
    obtain rfl := List.mem_singleton.1 hz
    exact ⟨hy, hlow, fun q hq => (hap q hq).1⟩)
  have hbn : ∀ x ∈ l ++ [y], ∀ q, Bl x q → q ≠ g ∧ q ≠ w.heap.size := fun x hx q hq => by
    rcases List.mem_append.1 hx with hx | hx
    · exact h.bn x hx q hq
    · obtain rfl := List.mem_singleton.1 hx; exact (hap q hq).2
  refine ⟨g1.trans (bt.up g1.size (by have := h.ne; omega)), Cells.mov g2 bt (by have := h.ne; simp; omega), ?_, hown.mov g3 (by decide) (fun x hx q hq => (hbn x hx q hq).1) bt, h.ne, hbn⟩
  show Cells _ _ _ _
  simpa using Cells.set_ g3 1 (.slice R' (j + 1) d')
end
def lenV : Value → Nat
  | .slice _ n _ => n
  | _ => 0
/-- What was read so far. -/
def GotR (b rest : List B8) (got : List Mp) : Prop := readP b = (readP rest).map (got ++ ·)
theorem got_start (b : List B8) : GotR b b [] := by
  unfold GotR
  cases readP b <;> rfl
theorem got_next {b rest : List B8} {got : List Mp} (h : GotR b rest got) {hh a : List Nat} {v : List B8} {k : Nat} (hr : rest ≠ []) (hm : msg1 rest = (hh, a, v, k, 0)) : GotR b (rest.drop k) (got ++ [mpOf hh a v]) := by
  unfold GotR at *
  rw [h, read_more hr hm]
  cases readP (rest.drop k) with
  | none => rfl
  | some r => simp
theorem got_bad {b rest : List B8} {got : List Mp} (h : GotR b rest got) {hh a : List Nat} {v : List B8} {k e : Nat} (hr : rest ≠ []) (hm : msg1 rest = (hh, a, v, k, e)) (he : e ≠ 0) : readP b = none := by
  rw [h, read_bad hr hm he]; rfl
theorem got_end {b : List B8} {got : List Mp} (h : GotR b [] got) : readP b = some got := by
  rw [h, read_nil]
  simp
theorem tail_mid (A : Option Addr) (n c k : Nat) (hk : k ≤ n) (w : World) : (Instr.slice 23 (.slice A n c) (some (.int .i64 (k : Int))) none none).run Try.prog w = .ok (.slice (tailA A c k) (n - k) (c - k)) w := run_tail A n c k hk w

set_option maxRecDepth 100000 in
set_option maxHeartbeats 1600000 in
theorem read_arg {A : Option Addr} {n c : Nat} {most : Int} (h : newB most = true) (w : World) :
    Calls Try.prog 13 #[.slice A n c, .int .i64 most] w fun e w' => e = .returned (.tuple #[nv 0 none 0 0, .int .i64 1]) ∧ Below w.heap.size w w' := by
  have HN := fun W => Lib.hid (new_any most W)
  rw [h] at HN
  have L1 : Hid (Below w.heap.size w (w.alloc (.cells #[.int .i64 0, .slice none 0 0] 28))) := (Below.refl _ w).alloc (Nat.le_refl _) _
  have Z1 : Hid (NBox (w.alloc (.cells #[.int .i64 0, .slice none 0 0] 28)) w.heap.size 0 none 0 0) := Cells.new _ _ _
  clear h
  go_enter Try.func13, Try.ntmps13
  go_upto_region 3 with (first | (go_at_call 11; refine (HN _).out.mono ?_; rintro e w2 ⟨rfl, hb⟩; have L2 := Lib.hid (L1.out.trans (hb.mono L1.out.size)); have Z2 := Lib.hid (Cells.below Z1.out hb); clear hb) | fail)
  have L3 := Lib.hid (L2.out.alloc L2.out.size (.cells #[.int .i64 0, .slice none 0 0] 28))
  have Z3 := Lib.hid (Cells.alloc Z2.out (.cells #[.int .i64 0, .slice none 0 0] 28))
  clear L1 Z1 L2 Z2
  generalize w2.alloc (.cells #[.int .i64 0, .slice none 0 0] 28) = w3 at *
  obtain ⟨z0, z1⟩ := NBox.cells (cap := 0) Z3.out
  have f0 := Cells.frozen Z3.out 0
  have f1 := Cells.frozen Z3.out 1
  go_wp2_with fail
  have bt := Mov.set2 w3 w.heap.size (.int .i64 0) (.slice none 0 0)
  refine bodyPost_ret_by (results_c1 rfl _ _ w.heap.size _ _ _ _ rfl (Cells.set2 Z3.out (.int .i64 0) (.slice none 0 0)) Try.underlying28 rfl (by kernel_rfl)) rfl ?_
  exact ⟨rfl, L3.out.trans (bt.up L3.out.size (Nat.le_refl _))⟩

set_option maxRecDepth 100000 in
set_option maxHeartbeats 12800000 in
theorem read_any {A : Option Addr} {n c : Nat} {b : List B8} {w : World} (h : Row cb w A n c b) (hn : n ≤ 100000000) {most : Int} {cap : Nat} (hm : most = (cap : Int)) (h1 : 1 ≤ cap) (h2 : cap ≤ 4096) :
    Calls Try.prog 13 #[.slice A n c, .int .i64 most] w fun e w' => (readP b = none ∧ e = .returned (.tuple #[nv 0 none 0 0, .int .i64 21]) ∧ Below w.heap.size w w') ∨ (∃ pl, readP b = some pl ∧ ((pl.length ≤ cap ∧ GaveN1 w cap pl 0 e w') ∨ (cap < pl.length ∧ e = .returned (.tuple #[nv 0 none 0 0, .int .i64 2]) ∧ Below w.heap.size w w'))) := by
  have HB := Lib.hid h
  have HN := fun W => Lib.hid (new_at hm h1 h2 W)
  have L1 : Hid (Below w.heap.size w (w.alloc (.cells #[.int .i64 0, .slice none 0 0] 28))) := (Below.refl _ w).alloc (Nat.le_refl _) _
  have Z1 : Hid (NBox (w.alloc (.cells #[.int .i64 0, .slice none 0 0] 28)) w.heap.size 0 none 0 0) := Cells.new _ _ _
  unfold nv at HN
  clear h hm
  go_enter Try.func13, Try.ntmps13
  go_upto_region 4 with (first | (go_at_call 11; refine (HN _).out.mono ?_; rintro e w2 ⟨rfl, hb⟩; have L2 := Lib.hid (L1.out.trans (hb.mono L1.out.size)); have Z2 := Lib.hid (Cells.below Z1.out hb); clear hb) | fail)
  have I3 : Hid (RdI w (w2.alloc (.cells #[.int .i64 (cap : Int), .slice none 0 0] 28)) cap w2.heap.size none 0 0 []) := ⟨L2.out.alloc L2.out.size _, Cells.alloc Z2.out _, Cells.new _ _ _, OwnN.nil _ _ _, Cells.lt Z2.out, by simp⟩
  obtain ⟨g, hg⟩ : ∃ g, g = w2.heap.size := ⟨_, rfl⟩
  rw [← hg] at I3
  rw [← hg]
  clear hg L1 Z1 L2 Z2 HN
  generalize w2.alloc (.cells #[.int .i64 (cap : Int), .slice none 0 0] 28) = w3 at *
  go_wp2_with fail
  go_loopw [0, 8, 9, 10, 11] (fun s t _ _ _ wr => ∃ (X : Option Addr) (r f : Nat) (tm : Bool) (R : Option Addr) (j d : Nat) (l : List Mx) (rest : List B8) (got : List Mp), s = .slice X r f ∧ t = .bool tm ∧ r ≤ n ∧ j ≤ cap ∧ Hid (RdI w wr cap g R j d l ∧ Row cb w X r f rest ∧ GotR b rest got ∧ l.map Mx.p = got.take cap ∧ tm = decide (cap < got.length))) (fun s _ _ _ _ _ => lenV s)
  case atStart => exact ⟨A, n, c, false, none, 0, 0, [], b, [], rfl, rfl, by omega, by omega, I3.out, HB.out, got_start b, by simp, by simp⟩
  case round =>
    obtain ⟨X, r, f, tm, R, j, d, l, rest, got, rfl, rfl, hrn, hjc, hH⟩ := hrel
    have I1 := Lib.hid hH.out.1
    have R1 := Lib.hid hH.out.2.1
    have G1 := Lib.hid hH.out.2.2.1
    have P1 := Lib.hid hH.out.2.2.2.1
    have T1 := Lib.hid hH.out.2.2.2.2
    clear hH
    have hjl : Hid (j = min cap got.length) := by
      show _ = _
      rw [← I1.out.own.len, ← List.length_map (f := Mx.p), P1.out, List.length_take]
    rcases Nat.eq_zero_or_pos r with hr0 | hr0
    · subst hr0
      have hrest : rest = [] := List.eq_nil_of_length_eq_zero R1.out.len
      have GE : Hid (readP b = some got) := got_end (by have := G1.out; rw [hrest] at this; exact this)
      obtain ⟨z0, z1⟩ := NBox.cells (cap := 0) I1.out.zb
      have f0 := Cells.frozen I1.out.zb 0
      have f1 := Cells.frozen I1.out.zb 1
      obtain ⟨k0, k1⟩ := NBox.cells I1.out.gb
      rcases tm
      · have hle : got.length ≤ cap := by have := of_decide_eq_false T1.out.symm; omega
        have HLE := Lib.hid hle
        clear hle
        go_wp2_with fail
        have bt := Mov.set2 wr w.heap.size (.int .i64 (cap : Int)) (.slice R j d)
        refine bodyPost_ret_by (results_c1 rfl _ _ w.heap.size _ _ _ _ rfl (Cells.set2 I1.out.zb (.int .i64 (cap : Int)) (.slice R j d)) Try.underlying28 rfl (by kernel_rfl)) rfl ?_
        exact .inr ⟨got, GE.out, .inl ⟨HLE.out, R, j, d, l, rfl, I1.out.own.mov I1.out.zb (by decide) (fun x hx q hq => (I1.out.bn x hx q hq).2) bt, by rw [P1.out, List.take_of_length_le HLE.out], I1.out.below.trans (bt.up I1.out.below.size (Nat.le_refl _))⟩⟩
      · have HLE := Lib.hid (of_decide_eq_true T1.out.symm)
        go_wp2_with fail
        have bt := Mov.set2 wr w.heap.size (.int .i64 0) (.slice none 0 0)
        refine bodyPost_ret_by (results_c1 rfl _ _ w.heap.size _ _ _ _ rfl (Cells.set2 I1.out.zb (.int .i64 0) (.slice none 0 0)) Try.underlying28 rfl (by kernel_rfl)) rfl ?_
        have LF := I1.out.below.trans (bt.up I1.out.below.size (Nat.le_refl _))
        exact .inr ⟨got, GE.out, .inr ⟨HLE.out, rfl, LF⟩⟩
    · have hrest : rest ≠ [] := fun e => by have := R1.out.len; rw [e] at this; simp at this; omega
      have hri : decide ((0 : Int) < (r : Int)) = true := decide_eq_true (by omega)
      have HRE := Lib.hid hrest
      have hr8 : r ≤ 100000000 := by omega
      rcases hm1 : msg1 rest with ⟨hh, a, v, k, e⟩
      by_cases he : e = 0
      · subst he
        obtain ⟨x, y, z, i, rfl, m1, m2, m3, m4, m5, m6, m7⟩ := msg1_one hm1
        obtain ⟨o1, o2, o3, o4, o5⟩ := one_read hm1
        have GN := Lib.hid (got_next G1.out hrest hm1)
        have HT := fun W (hW : Row cb W X r f rest) => Lib.hid (takeMsg_ok hW hr8 hm1)
        have hkr : k ≤ r := by have := R1.out.len; omega
        have R2 := Lib.hid (R1.out.tail hkr)
        have hsl := fun w => run_tail X r f k hkr w
        have HOK := Lib.hid o1
        have HFI := Lib.hid o2
        have HP := fun W => Lib.hid (hasRoom_any cap R j d W)
        unfold nv at HP
        clear m1 m2 m4 m5 m6 m7 o1 o2 o3 o5 hm1 hrest
        go_upto_region 9 with (first | (go_at_call 34; refine (HT _ (R1.out.below I1.out.below)).out.mono ?_; rintro e w4 ⟨PA, ka, ca, PB, kb, cb2, rfl, hO1, hO2, hb⟩; have I4 := Lib.hid (I1.out.keep hb); have hkb : kb ≤ 65536 := (by rw [← hO2.len]; exact (((ok_iff _).1 HOK.out).2.2.2)); have Y4 := made_msg hO1 hO2 HFI.out (by omega); have YA4 := Lib.hid Y4.1; have YN4 := Lib.hid (Y4.2.mono I1.out.below.size); have YL4 := Lib.hid (I1.out.apart Y4.2); clear hb hO1 hO2 Y4) | fail)
        have bb : Below w4.heap.size w4 (w4.alloc (.cells #[.int .i64 (x : Int), .int .i64 (y : Int), .int .i64 (z : Int), .int .i64 (i : Int), .slice PA ka ca, .slice PB kb cb2] 39)) := (Below.refl _ w4).alloc (Nat.le_refl _) _
        have I5 := Lib.hid (I4.out.keep bb)
        have YA5 := Lib.hid (YA4.out.below bb)
        have M5 : Hid (MBox (w4.alloc (.cells #[.int .i64 (x : Int), .int .i64 (y : Int), .int .i64 (z : Int), .int .i64 (i : Int), .slice PA ka ca, .slice PB kb cb2] 39)) w4.heap.size (⟨(x : Int), (y : Int), (z : Int), (i : Int), PA, ka, ca, asInts a, PB, kb, cb2, v⟩ : Mx)) := Cells.new _ _ _
        have PBN : Hid ((Value.slice R j d).ownBlock ≠ some w4.heap.size) := fun e => by have := (I4.out.own.own.lt _ e).2; omega
        obtain ⟨p, hp⟩ : ∃ p, p = w4.heap.size := ⟨_, rfl⟩
        rw [← hp] at M5 PBN
        rw [← hp]
        clear bb hp I4 YA4 HT I1
        generalize w4.alloc (.cells #[.int .i64 (x : Int), .int .i64 (y : Int), .int .i64 (z : Int), .int .i64 (i : Int), .slice PA ka ca, .slice PB kb cb2] 39) = w5 at *
        obtain ⟨k0, k1⟩ := NBox.cells I5.out.gb
        rcases e1 : decide (j < cap)
        · have hge : cap ≤ got.length := by have := of_decide_eq_false e1; have := hjl.out; omega
          rw [e1] at HP
          have T2 : Hid (true = decide (cap < (got ++ [mpOf [x, y, z, i, a.length] a v]).length)) := by
            show _ = _
            rw [List.length_append, List.length_singleton]
            exact (decide_eq_true (by omega)).symm
          have P2 : Hid (l.map Mx.p = (got ++ [mpOf [x, y, z, i, a.length] a v]).take cap) := by
            show _ = _
            rw [P1.out, List.take_append_of_le_length hge]
          clear hge
          go_wp2_with (go_at_call 35; refine (HP _).out.mono ?_; rintro e w6 ⟨rfl, hb⟩; have I6 := Lib.hid (I5.out.keep hb); clear hb)
          go_roundw
          case rel => exact ⟨_, _, _, true, R, j, d, l, _, _, rfl, rfl, by omega, hjc, I6.out, R2.out, GN.out, P2.out, T2.out⟩
          case measure => simp [lenV]; omega
        · have hlt : j < cap := of_decide_eq_true e1
          have hgl : got.length = j := by have := hjl.out; omega
          rw [e1] at HP
          have T2 : Hid (tm = decide (cap < (got ++ [mpOf [x, y, z, i, a.length] a v]).length)) := by
            show _ = _
            rw [T1.out, List.length_append, List.length_singleton, decide_eq_decide]
            omega
          have P2 : Hid ((l ++ [(⟨(x : Int), (y : Int), (z : Int), (i : Int), PA, ka, ca, asInts a, PB, kb, cb2, v⟩ : Mx)]).map Mx.p = (got ++ [mpOf [x, y, z, i, a.length] a v]).take cap) := by
            show _ = _
            rw [List.map_append, P1.out, List.take_of_length_le (by omega), List.take_of_length_le (by rw [List.length_append, List.length_singleton]; omega)]
            rfl
          clear hgl
          go_upto_region 11 with (first | (go_at_call 35; refine (HP _).out.mono ?_; rintro e w6 ⟨rfl, hb⟩; have I6 := Lib.hid (I5.out.keep hb); have YA6 := Lib.hid (YA5.out.below hb); have M6 := Lib.hid (Cells.below M5.out hb); clear hb) | fail)
          clear k0 k1 I5 YA5 M5
          obtain ⟨k0, k1⟩ := NBox.cells I6.out.gb
          obtain ⟨n0, n1, n2, n3, n4, n5⟩ := MBox.cells (x := (⟨(x : Int), (y : Int), (z : Int), (i : Int), PA, ka, ca, asInts a, PB, kb, cb2, v⟩ : Mx)) M6.out
          dsimp only at n0 n1 n2 n3 n4 n5
          have bb : Below w6.heap.size w6 (w6.alloc (.cells #[.int .i64 (x : Int), .int .i64 (y : Int), .int .i64 (z : Int), .int .i64 (i : Int), .slice PA ka ca, .slice PB kb cb2] 39)) := (Below.refl _ w6).alloc (Nat.le_refl _) _
          have I7 := Lib.hid (I6.out.keep bb)
          have YA7 := Lib.hid (YA6.out.below bb)
          have R7 := Lib.hid (one_msg w6 (⟨(x : Int), (y : Int), (z : Int), (i : Int), PA, ka, ca, asInts a, PB, kb, cb2, v⟩ : Mx))
          clear bb
          go_wp2_with (first
            | (at_builtin
               refine OwnS.wpList_append fitM Try.underlying26 info_msg rfl (by omega) rfl (.tmp 39) (.tmp 41) rfl rfl w.heap.size (.slice R j d) j l rfl I7.out.own.own _ 1 1 [(⟨(x : Int), (y : Int), (z : Int), (i : Int), PA, ka, ca, asInts a, PB, kb, cb2, v⟩ : Mx)] rfl R7.out (by omega) I7.out.below.size ?_
               intro R' d' w8 ho hg hn
               obtain ⟨G1', G2, G3⟩ := I7.out.grown hg
               have PU := Lib.hid (I7.out.push ho hg hn YA7.out YN4.out YL4.out)
               have y1 := (NBox.cells G3).2
               have f1 : w8.frozen? ⟨g, 1, none⟩ = false := Cells.frozen G3 1
               clear ho hg hn G1' G2 G3)
            | fail)
          go_roundw
          case rel => exact ⟨_, _, _, tm, R', j + 1, d', l ++ [(⟨(x : Int), (y : Int), (z : Int), (i : Int), PA, ka, ca, asInts a, PB, kb, cb2, v⟩ : Mx)], _, _, rfl, rfl, by omega, by omega, PU.out, R2.out, GN.out, P2.out, T2.out⟩
          case measure => simp [lenV]; omega
      · obtain ⟨rfl, h3⟩ := msg1_bad hm1 he
        have HNO := Lib.hid (got_bad G1.out hrest hm1 he)
        have HT := fun W (hW : Row cb W X r f rest) => Lib.hid (takeMsg_bad hW hr8 hm1 he)
        have hne : ((e : Int) != 0) = true := by simp only [bne_iff_ne, ne_eq]; omega
        clear hm1 he hrest h3
        go_upto_region 8 with (first | (go_at_call 34; refine (HT _ (R1.out.below I1.out.below)).out.mono ?_; rintro e' w4 ⟨rfl, hb⟩; have I4 := Lib.hid (I1.out.keep hb); clear hb) | fail)
        have I5 := Lib.hid (I4.out.keep ((Below.refl _ w4).alloc (Nat.le_refl _) (.cells #[.int .i64 0, .int .i64 0, .int .i64 0, .int .i64 0, .slice none 0 0, .slice none 0 0] 39)))
        clear I4 I1
        generalize w4.alloc (.cells #[.int .i64 0, .int .i64 0, .int .i64 0, .int .i64 0, .slice none 0 0, .slice none 0 0] 39) = w5 at *
        obtain ⟨z0, z1⟩ := NBox.cells (cap := 0) I5.out.zb
        have f0 := Cells.frozen I5.out.zb 0
        have f1 := Cells.frozen I5.out.zb 1
        go_wp2_with fail
        have bt := Mov.set2 w5 w.heap.size (.int .i64 0) (.slice none 0 0)
        refine bodyPost_ret_by (results_c1 rfl _ _ w.heap.size _ _ _ _ rfl (Cells.set2 I5.out.zb (.int .i64 0) (.slice none 0 0)) Try.underlying28 rfl (by kernel_rfl)) rfl ?_
        have LF := I5.out.below.trans (bt.up I5.out.below.size (Nat.le_refl _))
        exact .inl ⟨HNO.out, rfl, LF⟩
end Net
end Go.Proofs.Ytamahknnppjegaa
