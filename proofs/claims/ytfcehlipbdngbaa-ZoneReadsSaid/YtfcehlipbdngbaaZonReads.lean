/-
  THE STATEMENT ZoneReads: whatever is appended to a zone is read where it was told to be, whatever comes behind it; the arguments stay as they were. For every input.
-/
import Derived.Test.YtfcehlipbdngbaaZonHeld
import Derived.Test.YtfcehlipbdngbaaZonOpen
import Derived.Test.YtfcehlipbdngbaaCut
namespace Go.Proofs.Ytfcehlipbdngbaa
open Go.ChangeShapes Go.WideShapes Go.ChangeAt Go.RowKit Mem
namespace Args
open Zon
variable {H : Type} {enc : TypeId × Value → H} {W : World}
/-- A slice of slices of bytes. -/
theorem open_texts {v : Value} {d : DataW H} {p : List MemPlace} {base : Nat} (hok : Value.okWide Try.prog W .any base 41 v) (h : DataW.Trod enc Try.prog W 0 (fun _ => true) true 41 v d p)
    (hs : ∀ q ∈ d.weights Try.prog 41, q ≤ reachBytes) : ∃ A n c ps, v = .slice A n c ∧ Row Piece.val W A n c ps ∧ ∀ x ∈ ps, Row cb W x.A x.n x.c x.l := by
  obtain ⟨A, n, c, xs, rfl, hr, hp⟩ := open_rowS (cells := fun x : Piece => [Piece.val x]) (k := 1) (bytes := 24) (p := fun x => Row cb W x.A x.n x.c x.l) Try.underlying41 (by kernel_rfl) (by kernel_rfl) (by omega) (by omega) (fun _ _ _ h1 _ h3 => by
    obtain ⟨A, n, c, l, h4, h5⟩ := raw_bytes_ h1 h3
    exact ⟨⟨A, n, c, l⟩, h4, h5⟩) hok h hs
  refine ⟨A, n, c, xs, rfl, ⟨hr.len, hr.cap, hr.big, fun h0 => ?_⟩, hp⟩
  obtain ⟨b, o, e, hb, hc⟩ := hr.at_ h0
  refine ⟨b, o, e, hb, fun i x hi => ?_⟩
  have := hc i x hi 0 _ rfl
  simpa using this
end Args
namespace Zon

theorem total_joined {ts : List Piece} (h : ∀ p ∈ ts, p.l.length = p.n) : (joined ts).length = total ts := by
  induction ts with
  | nil => rfl
  | cons p ps ih =>
    have h1 := h p (by simp)
    have h2 := ih fun q hq => h q (by simp [hq])
    simp only [joined, total, List.flatMap_cons, List.length_append, List.map_cons, List.sum_cons] at *
    omega
theorem piece_at {ts : List Piece} (h : ∀ p ∈ ts, p.l.length = p.n) {k : Nat} {p : Piece} (hp : ts[k]? = some p) : ((joined ts).drop (total (ts.take k))).take p.n = p.l ∧ total (ts.take k) + p.n ≤ total ts ∧ total (ts.take (k + 1)) = total (ts.take k) + p.n := by
  have hk : k < ts.length := (List.getElem?_eq_some_iff.1 hp).1
  have e : ts = ts.take k ++ p :: ts.drop (k + 1) := by
    have h1 : ts[k] = p := (List.getElem?_eq_some_iff.1 hp).2
    rw [← h1, ← List.drop_eq_getElem_cons hk, List.take_append_drop]
  have h1 : (joined (ts.take k)).length = total (ts.take k) := total_joined fun q hq => h q (List.mem_of_mem_take hq)
  have h2 : joined ts = joined (ts.take k) ++ (p.l ++ joined (ts.drop (k + 1))) := by
    conv => lhs; rw [e]
    simp [joined]
  have h3 : total ts = total (ts.take k) + (p.n + total (ts.drop (k + 1))) := by
    conv => lhs; rw [e]
    simp [total]
  refine ⟨?_, by omega, ?_⟩
  · rw [h2, ← h1, List.drop_left, ← h p (List.mem_of_getElem? hp), List.take_left]
  · rw [List.take_add_one, hp]
    exact total_snoc _ _

theorem own_row {α : Type} {f : α → Value} {e : TypeId} {b n c : Nat} {w : World} {X : Option Addr} {l : List α} (h : Owns f e b w (.slice X n c) n l) (hn : n ≤ 140737488351232) : Row f w X n c l := by
  obtain ⟨A, c', e1, hr⟩ := h.row hn
  injection e1 with e1 _ e3
  subst e1 e3
  exact hr
theorem read_in {z : Zn} {m n : Nat} {l : List B8} (h1 : m + n ≤ z.data.length) (h2 : (z.data.drop m).take n = l) : readB z m n = true ∧ readL z m n = l := by
  have hb : readB z m n = true := by
    unfold readB
    have e1 : decide ((m : Int) < 0) = false := by simp
    have e2 : decide ((n : Int) < 0) = false := by simp
    have e3 : decide (z.len - (m : Int) < (n : Int)) = false := decide_eq_false (by unfold Zn.len; omega)
    rw [e1, e2, e3]; rfl
  refine ⟨hb, ?_⟩
  unfold readL
  rw [hb]
  exact h2
theorem read_out {z : Zn} {m : Nat} (h : z.data.length = m) : readB z m 1 = false ∧ readL z m 1 = [] := by
  have hb : readB z m 1 = false := by
    unfold readB
    have e3 : decide (z.len - (m : Int) < 1) = true := decide_eq_true (by unfold Zn.len; omega)
    rw [e3]; simp
  refine ⟨hb, ?_⟩
  unfold readL
  rw [hb]; rfl

theorem read_inAny {z : Zn} {D : Option Addr} {q : Nat} {w : World} {m n : Nat} {l : List B8} (h : Row cb w D z.data.length q z.data) (hm : m ≤ 2000) (h1 : m + n ≤ z.data.length) (h2 : (z.data.drop m).take n = l) :
    Calls Try.prog 20 #[zv z D q, .int .i64 (m : Int), .int .i64 (n : Int)] w (GaveE cb 5 w.heap.size w l 0) := by
  have h3 := read_any (w := w) (m : Int) (n : Int) (by omega) h
  rw [(read_in h1 h2).1, (read_in h1 h2).2] at h3
  exact h3
theorem read_outAny {z : Zn} {D : Option Addr} {q : Nat} {w : World} {m : Nat} (h : Row cb w D z.data.length q z.data) (hm : m ≤ 2000) (h1 : z.data.length = m) :
    Calls Try.prog 20 #[zv z D q, .int .i64 (m : Int), .int .i64 1] w (GaveE cb 5 w.heap.size w [] 1) := by
  have h3 := read_any (w := w) (m : Int) 1 (by omega) h
  rw [(read_out h1).1, (read_out h1).2] at h3
  exact h3

theorem info_int : (Try.prog.info? 3).map (fun i => (i.zero, i.size, i.bytes)) = some (some (.int .i64 0), 1, 8) := by kernel_rfl
theorem info_bytes : (Try.prog.info? 22).map (fun i => (i.zero, i.size, i.bytes)) = some (some (.slice none 0 0), 1, 24) := by kernel_rfl

theorem append_okN {z : Zn} {D : Option Addr} {c : Nat} {most : Int} {b : List B8} {B : Option Addr} {n d : Nat} {w : World} (h1 : Row cb w D z.data.length c z.data) (h2 : Row cb w B n d b) (he : appErr z most n = 0) :
    Calls Try.prog 12 #[zv z D c, .int .i64 most, .slice B n d] w (GaveZ w (appZ z most b) [.int .i64 z.len, .int .i64 0]) := by
  obtain rfl := h2.len
  exact append_ok h1 h2 he

/-- What stands in memory while texts are appended. -/
structure RI (w : World) (gz : Nat) (ps : List Piece) (k : Nat) (AA : Option Addr) (AC : Nat) (TA : Option Addr) (TC : Nat) (ts : List Piece) (ats : List Int) (z : Zn) (D : Option Addr) (c : Nat) (wr : World) : Prop where
  below : Below w.heap.size w wr
  box : Box wr gz z D c
  data : Owns cb 5 (gz + 1) wr (.slice D z.data.length c) z.data.length z.data
  ats_ : Owns ci 3 (gz + 1) wr (.slice AA ts.length AC) ts.length ats
  txs : Owns Piece.val 22 (gz + 1) wr (.slice TA ts.length TC) ts.length ts
  sub : ∀ p ∈ ts, p ∈ ps
  joined : z.data = joined ts
  starts : ∀ j, j < ts.length → ats[j]? = some ((total (ts.take j) : Nat) : Int)
  cnt : ts.length ≤ k
  small : z.data.length ≤ 2000
  low : w.heap.size ≤ gz
section
variable {w : World} {gz : Nat} {ps : List Piece} {k : Nat} {AA : Option Addr} {AC : Nat} {TA : Option Addr} {TC : Nat} {ts : List Piece} {ats : List Int} {z : Zn} {D : Option Addr} {c : Nat} {wr w' : World}
theorem RI.to (h : RI w gz ps k AA AC TA TC ts ats z D c wr) (hb : Below wr.heap.size wr w') : RI w gz ps k AA AC TA TC ts ats z D c w' :=
  ⟨h.below.trans (hb.mono h.below.size), h.box.below hb, h.data.below hb, h.ats_.below hb, h.txs.below hb, h.sub, h.joined, h.starts, h.cnt, h.small, h.low⟩
theorem RI.next (h : RI w gz ps k AA AC TA TC ts ats z D c wr) : RI w gz ps (k + 1) AA AC TA TC ts ats z D c wr :=
  ⟨h.below, h.box, h.data, h.ats_, h.txs, h.sub, h.joined, h.starts, Nat.le_succ_of_le h.cnt, h.small, h.low⟩
theorem RI.row (h : RI w gz ps k AA AC TA TC ts ats z D c wr) : Row cb wr D z.data.length c z.data := (gave_row h.data (by have := h.small; omega)).1

/-- One text more. -/
theorem RI.more (h : RI w gz ps k AA AC TA TC ts ats z D c wr) {p : Piece} (hp : p ∈ ps) {v : Zn} {X : Option Addr} {q : Nat} {w8 : World} {A' T' : Option Addr} {c' d' : Nat} (hv : v.data = z.data ++ p.l) (hvs : v.data.length ≤ 2000) (hz : z.len = ((total ts : Nat) : Int))
    (h1 : Below w.heap.size w w8) (h2 : Box w8 gz v X q) (h3 : Owns cb 5 (gz + 1) w8 (.slice X v.data.length q) v.data.length v.data) (h4 : Owns ci 3 (gz + 1) w8 (.slice A' (ts.length + 1) c') (ts.length + 1) (ats ++ [z.len]))
    (h5 : Owns Piece.val 22 (gz + 1) w8 (.slice T' (ts.length + 1) d') (ts.length + 1) (ts ++ [p])) : RI w gz ps (k + 1) A' c' T' d' (ts ++ [p]) (ats ++ [z.len]) v X q w8 := by
  have hlen : (ts ++ [p]).length = ts.length + 1 := by simp
  have hal : ats.length = ts.length := h.ats_.len
  refine ⟨h1, h2, h3, by rw [hlen]; exact h4, by rw [hlen]; exact h5, fun x hx => ?_, ?_, fun j hj => ?_, by have := h.cnt; omega, hvs, h.low⟩
  · rcases List.mem_append.1 hx with hx | hx
    · exact h.sub x hx
    · simp at hx; subst hx; exact hp
  · rw [hv, joined_snoc, h.joined]
  · rw [hlen] at hj
    rcases Nat.lt_or_ge j ts.length with hj' | hj'
    · rw [List.getElem?_append_left (by omega), h.starts j hj', List.take_append_of_le_length (by omega)]
    · obtain rfl : j = ts.length := by omega
      rw [← hal, List.getElem?_concat_length, hal, List.take_left, hz]
end

set_option maxRecDepth 100000 in
set_option maxHeartbeats 3200000 in
theorem zoneReads_skip (most : Int) (A : Option Addr) (n c : Nat) (w : World) (hn : 100 < n) :
    Calls Try.prog 5 #[.int .i64 most, .slice A n c] w fun e w' => e = .returned (.bool true) ∧ Below w.heap.size w w' := by
  have hn' : decide ((100 : Int) < (n : Int)) = true := by simp; omega
  go_enter Try.func5, Try.ntmps5
  go_wp2_with fail
  refine (live_any w).mono ?_
  rintro e w1 ⟨rfl, hb⟩
  have B1 := Lib.hid hb
  clear hb
  go_wp2_with fail
  go_ret
  exact ⟨rfl, B1.out⟩

set_option maxRecDepth 100000 in
set_option maxHeartbeats 6400000 in
theorem zoneReads_main (most : Int) (A : Option Addr) (n c : Nat) (ps : List Piece) (w : World) (hn : n ≤ 100) (hr : Row Piece.val w A n c ps) (hp : ∀ p ∈ ps, Row cb w p.A p.n p.c p.l) :
    Calls Try.prog 5 #[.int .i64 most, .slice A n c] w fun e w' => e = .returned (.bool true) ∧ Below w.heap.size w w' := by
  have HR := Lib.hid hr
  have HP := Lib.hid hp
  have hn' : decide ((100 : Int) < (n : Int)) = false := by simp; omega
  obtain ⟨r, j, k1, k2, k3, k4, k5, k6⟩ : ∃ (r : Int) (j : Nat), Int.tmod most 2000 = r ∧ -2000 < r ∧ r < 2000 ∧ Int.tmod (r + 2000) 2000 = j ∧ (r + 2000) % 2000 = j ∧ j < 2000 := Cut.cut_at most 2000 (by omega)
  have hw1 : IntKind.i64.wrap (r + 2000) = r + 2000 := by rw [IntKind.wrap_i64]; omega
  have hw2 : IntKind.i64.wrap (1 + (j : Int)) = 1 + (j : Int) := by rw [IntKind.wrap_i64]; omega
  have HBad := fun (z : Zn) D q B n d w h1 h2 => Lib.hid (append_bad (z := z) (D := D) (c := q) (most := 1 + (j : Int)) (B := B) (n := n) (d := d) (w := w) h1 rfl h2)
  have HOk := fun (z : Zn) D q (p : Piece) w (h1 : Row cb w D z.data.length q z.data) (h2 : Row cb w p.A p.n p.c p.l) (h3 : appErr z (1 + (j : Int)) p.n = 0) => Lib.hid (append_okN (z := z) (D := D) (c := q) (most := 1 + (j : Int)) (b := p.l) (B := p.A) (n := p.n) (d := p.c) (w := w) h1 h2 h3)
  clear hr hp
  unfold GaveZ at *
  unfold zv at *
  go_enter Try.func5, Try.ntmps5
  go_wp2_with fail
  refine (live_any w).mono ?_
  rintro e w1 ⟨rfl, hb⟩
  have B1 := Lib.hid hb
  clear hb
  go_wp2_with fail
  have I2 : Hid (RI w w1.heap.size ps 0 none 0 none 0 [] [] nilZ none 0 (w1.alloc (.cells #[.int .i64 0, .int .i64 0, .slice none 0 0] 24))) :=
    ⟨B1.out.alloc B1.out.size _, Box.new w1 nilZ none 0, Owns.nil _ _ _ _, Owns.nil _ _ _ _, Owns.nil _ _ _ _, by simp, rfl, by simp, Nat.le_refl _, by simp [nilZ], B1.out.size⟩
  generalize w1.alloc (.cells #[.int .i64 0, .int .i64 0, .slice none 0 0] 24) = w2 at *
  generalize w1.heap.size = gz at *
  go_loopw [7, 8, 34] (fun a t i wr => ∃ (k : Nat) (AA : Option Addr) (AC : Nat) (TA : Option Addr) (TC : Nat) (ts : List Piece) (ats : List Int) (z : Zn) (D : Option Addr) (q : Nat), i = .int .i64 k ∧ a = .slice AA ts.length AC ∧ t = .slice TA ts.length TC ∧ k ≤ n ∧ Hid (RI w gz ps k AA AC TA TC ts ats z D q wr)) (fun _ _ i _ => n - (intOf i).toNat)
  case atStart => exact ⟨0, none, 0, none, 0, [], [], nilZ, none, 0, rfl, rfl, rfl, by omega, I2.out⟩
  case round =>
    obtain ⟨k, AA, AC, TA, TC, ts, ats, z, D, q, rfl, rfl, rfl, hk, hI⟩ := hrel
    by_cases hlt : k < n
    · obtain ⟨p, hp⟩ := HR.out.get hlt
      obtain ⟨b, o, rfl, hcell⟩ := (HR.out.below hI.out.below).cell hp
      have hcell' : wr.cell? ⟨b, o + k, none⟩ = some (.slice p.A p.n p.c) := hcell
      have hk0 : (0 : Int) ≤ (k : Int) := by omega
      have hk1 : (k : Int) < (n : Int) := by omega
      have HPm := Lib.hid (List.mem_of_getElem? hp)
      have HPr := Lib.hid ((HP.out p HPm.out).below hI.out.below)
      clear hcell hp
      by_cases hbig : 3000 < p.n
      · have hbig' : decide ((3000 : Int) < (p.n : Int)) = true := by simp; omega
        go_wp2_with fail
        go_ret
        exact ⟨rfl, hI.out.below⟩
      · have hbig' : decide ((3000 : Int) < (p.n : Int)) = false := by simp; omega
        obtain ⟨x0, x1, x2⟩ := hI.out.box.cells
        by_cases he : appErr z (1 + (j : Int)) p.n = 0
        · go_wp2_with fail
          refine (HOk z D q p wr hI.out.row HPr.out he).out.mono ?_
          rintro e w4 ⟨X, q1, rfl, hX, hb⟩
          unfold zv at *
          obtain ⟨ho, -, -, hle⟩ := appErr_zero he
          have hpl := Lib.hid HPr.out.len
          have hv : Hid ((appZ z (1 + (j : Int)) p.l).data = z.data ++ p.l) := rfl
          have hvs : Hid ((appZ z (1 + (j : Int)) p.l).data.length ≤ 2000) := by
            show _ ≤ _
            rw [hv.out, List.length_append, hpl.out]
            unfold Zn.len at hle
            omega
          have hzl : Hid (z.len = ((total ts : Nat) : Int)) := by
            show _ = _
            unfold Zn.len
            rw [hI.out.joined, total_joined fun x hx => (HP.out x (hI.out.sub x hx)).len]
          clear he ho hle
          generalize appZ z (1 + (j : Int)) p.l = v at *
          have b1 : Below w4.heap.size w4 (w4.alloc (.cells #[.int .i64 v.st, .int .i64 v.fc, .slice X v.data.length q1] 24)) := (Below.refl _ w4).alloc (Nat.le_refl _) _
          have b2 := hb.trans (b1.mono hb.size)
          have I5 := Lib.hid (hI.out.to b2)
          have V5 : Hid (Box (w4.alloc (.cells #[.int .i64 v.st, .int .i64 v.fc, .slice X v.data.length q1] 24)) w4.heap.size v X q1) := Box.new w4 v X q1
          have O5 := Lib.hid (hX.below b1)
          have HGZ : Hid (gz < wr.heap.size) := hI.out.box.lt
          clear hX hb b1 b2 x0 x1 x2
          go_upto_region 15 with fail
          generalize w4.alloc (.cells #[.int .i64 v.st, .int .i64 v.fc, .slice X v.data.length q1] 24) = w5 at *
          generalize w4.heap.size = g11 at *
          have I0 := hI
          clear hI
          obtain ⟨v0, v1, v2⟩ := V5.out.cells
          obtain ⟨x0, x1, x2⟩ := I5.out.box.cells
          obtain ⟨f0, f1, f2⟩ := I5.out.box.frozen
          go_upto_region 16 with fail
          have Z6 := Lib.hid (Box.store I5.out.box v X q1)
          have D6 := Lib.hid (Owns.other3 (g := gz) (O5.out.mono HGZ.out) (Nat.lt_succ_self gz) (.int .i64 v.st) (.int .i64 v.fc) (.slice X v.data.length q1))
          have A6 := Lib.hid (Owns.other3 (g := gz) I5.out.ats_ (Nat.lt_succ_self gz) (.int .i64 v.st) (.int .i64 v.fc) (.slice X v.data.length q1))
          have T6 := Lib.hid (Owns.other3 (g := gz) I5.out.txs (Nat.lt_succ_self gz) (.int .i64 v.st) (.int .i64 v.fc) (.slice X v.data.length q1))
          have B6 := Lib.hid (below3 (g := gz) I5.out.below I5.out.low (.int .i64 v.st) (.int .i64 v.fc) (.slice X v.data.length q1))
          have hcnt := I5.out.cnt
          have HLow : Hid (w.heap.size ≤ gz + 1) := Nat.le_succ_of_le I5.out.low
          clear v0 v1 v2 x0 x1 x2 f0 f1 f2 V5 O5
          generalize ((w5.setCell ⟨gz, 0, none⟩ (.int .i64 v.st)).setCell ⟨gz, 1, none⟩ (.int .i64 v.fc)).setCell ⟨gz, 2, none⟩ (.slice X v.data.length q1) = w6 at *
          have HL6 : Hid (gz + 1 ≤ w6.heap.size) := Z6.out.lt
          go_upto_region 17 with (at_builtin
                                  refine wpList_append_oth ci_one Try.underlying42 info_int rfl rfl (.tmp 53) (.tmp 55) rfl rfl (gz + 1) (.slice AA ts.length AC) ts.length ats rfl (A6.out.alloc _) ⟨w6.heap.size, 0, none⟩ 1 1 [z.len] rfl (row_new ci w6 [z.len] 3 (by simp) rfl rfl) (by omega) (by omega) (by rw [World.size_alloc]; have := HL6.out; omega) ?_
                                  intro A7 c7 w7 hown hb ho
                                  have A7o := Lib.hid hown
                                  have Z7 := Lib.hid ((Z6.out.alloc (.cells #[.int .i64 z.len] 3)).belowB (Nat.lt_succ_self gz) hb)
                                  have D7 := Lib.hid (Oth.owns (D6.out.alloc (.cells #[.int .i64 z.len] 3)) ho (by decide))
                                  have T7 := Lib.hid (Oth.owns (T6.out.alloc (.cells #[.int .i64 z.len] 3)) ho (by decide))
                                  have B7 := Lib.hid ((B6.out.alloc B6.out.size (.cells #[.int .i64 z.len] 3)).trans (hb.mono HLow.out))
                                  have HL7 : Hid (gz + 1 ≤ w7.heap.size) := Z7.out.lt
                                  clear hown hb ho)
          clear A6 Z6 D6 T6 B6 HL6
          go_upto_region 18 with (at_builtin
                                  refine wpList_append_oth Piece.one Try.underlying41 info_bytes rfl rfl (.tmp 57) (.tmp 59) rfl rfl (gz + 1) (.slice TA ts.length TC) ts.length ts rfl (T7.out.alloc _) ⟨w7.heap.size, 0, none⟩ 1 1 [p] rfl (row_new Piece.val w7 [p] 22 (by simp) rfl rfl) (by omega) (by omega) (by rw [World.size_alloc]; have := HL7.out; omega) ?_
                                  intro T8 c8 w8 hown hb ho
                                  have T8o := Lib.hid hown
                                  have Z8 := Lib.hid ((Z7.out.alloc (.cells #[.slice p.A p.n p.c] 22)).belowB (Nat.lt_succ_self gz) hb)
                                  have D8 := Lib.hid (Oth.owns (D7.out.alloc (.cells #[.slice p.A p.n p.c] 22)) ho (by decide))
                                  have A8 := Lib.hid (Oth.owns (A7o.out.alloc (.cells #[.slice p.A p.n p.c] 22)) ho (by decide))
                                  have B8 := Lib.hid ((B7.out.alloc B7.out.size (.cells #[.slice p.A p.n p.c] 22)).trans (hb.mono HLow.out))
                                  clear hown hb ho)
          go_wp2_with fail
          go_roundw
          case rel =>
            have hlen : (ts ++ [p]).length = ts.length + 1 := by simp
            exact ⟨k + 1, A7, c7, T8, c8, ts ++ [p], ats ++ [z.len], v, X, q1, by go_num, by rw [hlen], by rw [hlen], by omega, I0.out.more HPm.out hv.out hvs.out hzl.out B8.out Z8.out D8.out A8.out T8o.out⟩
          case measure => simp [intOf]; omega
        · go_wp2_with fail
          refine (HBad z D q p.A p.n p.c wr (by omega) he).out.mono ?_
          rintro e w4 ⟨X, q1, rfl, hX, hb⟩
          unfold zv at *
          have hne : (appErr z (1 + (j : Int)) p.n != 0) = true := bne_iff_ne.2 he
          generalize appErr z (1 + (j : Int)) p.n = er at *
          have b1 : Below w4.heap.size w4 (w4.alloc (.cells #[.int .i64 nilZ.st, .int .i64 nilZ.fc, .slice X nilZ.data.length q1] 24)) := (Below.refl _ w4).alloc (Nat.le_refl _) _
          have I5 := Lib.hid ((hI.out.to (hb.trans (b1.mono hb.size))).next)
          clear hX hb b1
          go_upto_region 14 with fail
          generalize w4.alloc (.cells #[.int .i64 nilZ.st, .int .i64 nilZ.fc, .slice X nilZ.data.length q1] 24) = w5 at *
          go_wp2_with fail
          go_roundw
          case rel => exact ⟨k + 1, AA, AC, TA, TC, ts, ats, z, D, q, by go_num, rfl, rfl, by omega, I5.out⟩
          case measure => simp [intOf]; omega
    · have hx : Hid (∀ p ∈ ts, p.l.length = p.n) := fun p hp => (HP.out p (hI.out.sub p hp)).len
      have hzt : Hid (z.data.length = total ts) := by show _ = _; rw [hI.out.joined, total_joined hx.out]
      have htl : ts.length ≤ 100 := by have := hI.out.cnt; omega
      have hzs := hI.out.small
      have RT := Lib.hid (own_row hI.out.txs (by omega))
      have RA := Lib.hid (own_row hI.out.ats_ (by omega))
      have RZ := Lib.hid hI.out.row
      have HRd := fun (m n : Nat) (l : List B8) w (h : Row cb w D z.data.length q z.data) h0 h1 h2 => Lib.hid (read_inAny (z := z) (D := D) (q := q) (w := w) (m := m) (n := n) (l := l) h h0 h1 h2)
      have HRe := fun (m : Nat) w (h : Row cb w D z.data.length q z.data) h0 h1 => Lib.hid (read_outAny (z := z) (D := D) (q := q) (w := w) (m := m) h h0 h1)
      unfold GaveE zv at *
      go_wp2_with fail
      generalize wr = wA at *
      go_loopw [14, 64] (fun t i wr => ∃ k2 m : Nat, i = .int .i64 k2 ∧ t = .int .i64 m ∧ k2 ≤ ts.length ∧ m ≤ 2000 ∧ Hid (m = total (ts.take k2) ∧ Below wA.heap.size wA wr)) (fun _ i _ => ts.length - (intOf i).toNat)
      case atStart => exact ⟨0, 0, rfl, rfl, by omega, by omega, rfl, Below.refl _ _⟩
      case round =>
        obtain ⟨k2, m, rfl, rfl, hk2, hm, hH⟩ := hrel
        by_cases hl2 : k2 < ts.length
        · obtain ⟨p, hp⟩ := RT.out.get hl2
          obtain ⟨b2, o2, rfl, hc2⟩ := (RT.out.below hH.out.2).cell hp
          have hstart := hI.out.starts k2 hl2
          rw [← hH.out.1] at hstart
          obtain ⟨b3, o3, rfl, hc3⟩ := (RA.out.below hH.out.2).cell hstart
          obtain ⟨q1, q2, q3⟩ := piece_at hx.out hp
          rw [← hH.out.1, ← hI.out.joined] at q1
          rw [← hH.out.1, ← hzt.out] at q2
          rw [← hH.out.1] at q3
          have hmp : m + p.n ≤ 2000 := by omega
          have HPr := Lib.hid ((HP.out p (hI.out.sub p (List.mem_of_getElem? hp))).below (hI.out.below.trans (hH.out.2.mono hI.out.below.size)))
          have hc2' : wr.cell? ⟨b2, o2 + k2, none⟩ = some (.slice p.A p.n p.c) := hc2
          have hc3' : wr.cell? ⟨b3, o3 + k2, none⟩ = some (.int .i64 (m : Int)) := hc3
          have hk0 : (0 : Int) ≤ (k2 : Int) := by omega
          have hk1 : (k2 : Int) < (ts.length : Int) := by omega
          have Z1 := Lib.hid (hI.out.box.below hH.out.2)
          have RZ1 := Lib.hid (RZ.out.below hH.out.2)
          have Q1 := Lib.hid q1
          have Q2 := Lib.hid q2
          have Q3 := Lib.hid q3
          clear hc2 hc3 hp hstart q1 q2 q3
          go_wp2_with fail
          have hcell : ∀ W, Box W gz z D q → W.cell? ⟨b3, o3 + k2, none⟩ = some (.int .i64 (m : Int)) → (W.cell? ⟨gz, 0, none⟩ = some (.int .i64 z.st) ∧ W.cell? ⟨gz, 1, none⟩ = some (.int .i64 z.fc) ∧ W.cell? ⟨gz, 2, none⟩ = some (.slice D z.data.length q) ∧ W.cell? ⟨b3, o3 + k2, none⟩ = some (.int .i64 (m : Int))) := fun W h1 h2 => ⟨h1.cells.1, h1.cells.2.1, h1.cells.2.2, h2⟩
          have Z2 : Hid (Box wr.drew gz z D q) := Z1
          have C2 : Hid (wr.drew.cell? ⟨b3, o3 + k2, none⟩ = some (.int .i64 (m : Int))) := hc3'
          have RZ2 := Lib.hid RZ1.out.drew
          have HP2 := Lib.hid HPr.out.drew
          have LB2 : Hid (Below wA.heap.size wA wr.drew) := hH.out.2.drew
          clear hc2' hc3' Z1 RZ1 HPr
          refine wp_region_held_drew (S := fun W => W.cell? ⟨gz, 0, none⟩ = some (.int .i64 z.st) ∧ W.cell? ⟨gz, 1, none⟩ = some (.int .i64 z.fc) ∧ W.cell? ⟨gz, 2, none⟩ = some (.slice D z.data.length q) ∧ W.cell? ⟨b3, o3 + k2, none⟩ = some (.int .i64 (m : Int)))
            (by kernel_rfl) (hcell _ Z2.out C2.out) (fun hHeld => ?_)
          (first | (refine Reg.take 0 (v := ?_) rfl (by kernel_rfl) (by kernel_rfl) (by kernel_rfl) (fun _ _ _ h => h) (Or.inl ⟨by rfl, ?_⟩) (by assumption) ?_; rotate_left; (focus ((intro W hSW); (try dsimp only at hSW); (try go_split_ands); go_simp; (try (with_reducible rfl)); done))) | (refine Reg.take 0 (v := undef) rfl (by kernel_rfl) (by kernel_rfl) (by kernel_rfl) (fun _ _ _ h => h) (Or.inr ⟨by rfl, rfl⟩) (by assumption) ?_))
          (try simp only [Act.put, List.setIfInBounds_toArray, List.set_cons_zero, List.set_cons_succ])
          (first | (refine Reg.take 1 (v := ?_) rfl (by kernel_rfl) (by kernel_rfl) (by kernel_rfl) (fun _ _ _ h => h) (Or.inl ⟨by rfl, ?_⟩) (by assumption) ?_; rotate_left; (focus ((intro W hSW); (try dsimp only at hSW); (try go_split_ands); go_simp; (try (with_reducible rfl)); done))) | (refine Reg.take 1 (v := undef) rfl (by kernel_rfl) (by kernel_rfl) (by kernel_rfl) (fun _ _ _ h => h) (Or.inr ⟨by rfl, rfl⟩) (by assumption) ?_))
          (try simp only [Act.put, List.setIfInBounds_toArray, List.set_cons_zero, List.set_cons_succ])
          (first | (refine Reg.take 2 (v := ?_) rfl (by kernel_rfl) (by kernel_rfl) (by kernel_rfl) (fun _ _ _ h => h) (Or.inl ⟨by rfl, ?_⟩) (by assumption) ?_; rotate_left; (focus ((intro W hSW); (try dsimp only at hSW); (try go_split_ands); go_simp; (try (with_reducible rfl)); done))) | (refine Reg.take 2 (v := undef) rfl (by kernel_rfl) (by kernel_rfl) (by kernel_rfl) (fun _ _ _ h => h) (Or.inr ⟨by rfl, rfl⟩) (by assumption) ?_))
          (try simp only [Act.put, List.setIfInBounds_toArray, List.set_cons_zero, List.set_cons_succ])
          (first | (refine Reg.take 3 (v := ?_) rfl (by kernel_rfl) (by kernel_rfl) (by kernel_rfl) (fun _ _ _ h => h) (Or.inl ⟨by rfl, ?_⟩) (by assumption) ?_; rotate_left; (focus ((intro W hSW); (try dsimp only at hSW); (try go_split_ands); go_simp; (try (with_reducible rfl)); done))) | (refine Reg.take 3 (v := undef) rfl (by kernel_rfl) (by kernel_rfl) (by kernel_rfl) (fun _ _ _ h => h) (Or.inr ⟨by rfl, rfl⟩) (by assumption) ?_))
          (try simp only [Act.put, List.setIfInBounds_toArray, List.set_cons_zero, List.set_cons_succ])
          (first | (refine Reg.take 4 (v := ?_) rfl (by kernel_rfl) (by kernel_rfl) (by kernel_rfl) (fun _ _ _ h => h) (Or.inl ⟨by rfl, ?_⟩) (by assumption) ?_; rotate_left; (focus ((intro W hSW); (try dsimp only at hSW); (try go_split_ands); go_simp; (try (with_reducible rfl)); done))) | (refine Reg.take 4 (v := undef) rfl (by kernel_rfl) (by kernel_rfl) (by kernel_rfl) (fun _ _ _ h => h) (Or.inr ⟨by rfl, rfl⟩) (by assumption) ?_))
          (try simp only [Act.put, List.setIfInBounds_toArray, List.set_cons_zero, List.set_cons_succ])
          (first | (refine Reg.take 5 (v := ?_) rfl (by kernel_rfl) (by kernel_rfl) (by kernel_rfl) (fun _ _ _ h => h) (Or.inl ⟨by rfl, ?_⟩) (by assumption) ?_; rotate_left; (focus ((intro W hSW); (try dsimp only at hSW); (try go_split_ands); go_simp; (try (with_reducible rfl)); done))) | (refine Reg.take 5 (v := undef) rfl (by kernel_rfl) (by kernel_rfl) (by kernel_rfl) (fun _ _ _ h => h) (Or.inr ⟨by rfl, rfl⟩) (by assumption) ?_))
          (try simp only [Act.put, List.setIfInBounds_toArray, List.set_cons_zero, List.set_cons_succ])
          (first | (refine Reg.take 6 (v := ?_) rfl (by kernel_rfl) (by kernel_rfl) (by kernel_rfl) (fun _ _ _ h => h) (Or.inl ⟨by rfl, ?_⟩) (by assumption) ?_; rotate_left; (focus ((intro W hSW); (try dsimp only at hSW); (try go_split_ands); go_simp; (try (with_reducible rfl)); done))) | (refine Reg.take 6 (v := undef) rfl (by kernel_rfl) (by kernel_rfl) (by kernel_rfl) (fun _ _ _ h => h) (Or.inr ⟨by rfl, rfl⟩) (by assumption) ?_))
          (try simp only [Act.put, List.setIfInBounds_toArray, List.set_cons_zero, List.set_cons_succ])
          refine Reg.step 7 rfl (by kernel_rfl) (by rfl) (fun K hK => ?_)
          go_simp
          refine (HRd m p.n p.l wr.drew RZ2.out hm Q2.out Q1.out).out.mono ?_
          rintro e w5 ⟨X, x1, x2, rfl, hX, hb⟩
          obtain ⟨hrow, rfl⟩ := gave_row hX (by have := HP2.out.len; omega)
          have Z5 := Lib.hid (Z2.out.below hb)
          have HP5 := Lib.hid (HP2.out.below hb)
          have LB5 := Lib.hid (LB2.out.trans (hb.mono LB2.out.size))
          have C5 : Hid (w5.cell? ⟨b3, o3 + k2, none⟩ = some (.int .i64 (m : Int))) := (World.cell?_of_block (hb.block b3 (World.block_lt_of_cell? _ _ C2.out))).trans C2.out
          have s1 := run_str hrow
          have s2 := run_str HP5.out
          refine hK.out _ _ (hcell _ Z5.out C5.out) (fun hHeld2 => ?_)
          clear hK K hX hb hrow hHeld Z2 C2 RZ2 HP2 LB2
          (try simp only [Act.put, List.setIfInBounds_toArray, List.set_cons_zero, List.set_cons_succ])
          (first | (refine Reg.take 8 (v := ?_) rfl (by kernel_rfl) (by kernel_rfl) (by kernel_rfl) (fun _ _ _ h => h) (Or.inl ⟨by rfl, ?_⟩) (by assumption) ?_; rotate_left; (focus ((intro W hSW); (try dsimp only at hSW); (try go_split_ands); go_simp; (try (with_reducible rfl)); done))) | (refine Reg.take 8 (v := undef) rfl (by kernel_rfl) (by kernel_rfl) (by kernel_rfl) (fun _ _ _ h => h) (Or.inr ⟨by rfl, rfl⟩) (by assumption) ?_))
          (try simp only [Act.put, List.setIfInBounds_toArray, List.set_cons_zero, List.set_cons_succ])
          (first | (refine Reg.take 9 (v := ?_) rfl (by kernel_rfl) (by kernel_rfl) (by kernel_rfl) (fun _ _ _ h => h) (Or.inl ⟨by rfl, ?_⟩) (by assumption) ?_; rotate_left; (focus ((intro W hSW); (try dsimp only at hSW); (try go_split_ands); go_simp; (try (with_reducible rfl)); done))) | (refine Reg.take 9 (v := undef) rfl (by kernel_rfl) (by kernel_rfl) (by kernel_rfl) (fun _ _ _ h => h) (Or.inr ⟨by rfl, rfl⟩) (by assumption) ?_))
          (try simp only [Act.put, List.setIfInBounds_toArray, List.set_cons_zero, List.set_cons_succ])
          (first | (refine Reg.take 10 (v := ?_) rfl (by kernel_rfl) (by kernel_rfl) (by kernel_rfl) (fun _ _ _ h => h) (Or.inl ⟨by rfl, ?_⟩) (by assumption) ?_; rotate_left; (focus ((intro W hSW); (try dsimp only at hSW); (try go_split_ands); go_simp; (try (with_reducible rfl)); done))) | (refine Reg.take 10 (v := undef) rfl (by kernel_rfl) (by kernel_rfl) (by kernel_rfl) (fun _ _ _ h => h) (Or.inr ⟨by rfl, rfl⟩) (by assumption) ?_))
          (try simp only [Act.put, List.setIfInBounds_toArray, List.set_cons_zero, List.set_cons_succ])
          (first | (refine Reg.take 11 (v := ?_) rfl (by kernel_rfl) (by kernel_rfl) (by kernel_rfl) (fun _ _ _ h => h) (Or.inl ⟨by rfl, ?_⟩) (by assumption) ?_; rotate_left; (focus ((intro W hSW); (try dsimp only at hSW); (try go_split_ands); go_simp; (try (with_reducible rfl)); done))) | (refine Reg.take 11 (v := undef) rfl (by kernel_rfl) (by kernel_rfl) (by kernel_rfl) (fun _ _ _ h => h) (Or.inr ⟨by rfl, rfl⟩) (by assumption) ?_))
          (try simp only [Act.put, List.setIfInBounds_toArray, List.set_cons_zero, List.set_cons_succ])
          (first | (refine Reg.take 12 (v := ?_) rfl (by kernel_rfl) (by kernel_rfl) (by kernel_rfl) (fun _ _ _ h => h) (Or.inl ⟨by rfl, ?_⟩) (by assumption) ?_; rotate_left; (focus ((intro W hSW); (try dsimp only at hSW); (try go_split_ands); go_simp; (try (with_reducible rfl)); done))) | (refine Reg.take 12 (v := undef) rfl (by kernel_rfl) (by kernel_rfl) (by kernel_rfl) (fun _ _ _ h => h) (Or.inr ⟨by rfl, rfl⟩) (by assumption) ?_))
          (try simp only [Act.put, List.setIfInBounds_toArray, List.set_cons_zero, List.set_cons_succ])
          refine wpAnyH_done (by kernel_rfl) ?_ _
          clear hHeld2 hcell
          have hc3' := C5.out
          generalize str p.l = sp at *
          go_wp2_with fail
          go_roundw
          case rel => exact ⟨k2 + 1, m + p.n, by go_num, by go_num, by omega, by omega, Q3.out.symm, LB5.out⟩
          case measure => simp [intOf]; omega
        · have hkn : ts.take k2 = ts := List.take_of_length_le (by omega)
          have hmt : z.data.length = m := by rw [hH.out.1, hkn, hzt.out]
          have Z1 := Lib.hid (hI.out.box.below hH.out.2)
          have RZ1 := Lib.hid (RZ.out.below hH.out.2)
          have LB1 := Lib.hid (hI.out.below.trans (hH.out.2.mono hI.out.below.size))
          obtain ⟨x0, x1, x2⟩ := Z1.out.cells
          have HM := Lib.hid hmt
          have heq : ((z.data.length : Int) == (m : Int)) = true := by rw [hmt]; simp
          clear hmt hkn
          go_wp2_with fail
          refine (HRe m wr RZ1.out hm HM.out).out.mono ?_
          rintro e w5 ⟨X, y1, y2, rfl, -, hb⟩
          have Z5 := Lib.hid (Z1.out.below hb)
          have LB5 := Lib.hid (LB1.out.trans (hb.mono LB1.out.size))
          clear hb x0 x1 x2
          obtain ⟨x0, x1, x2⟩ := Z5.out.cells
          go_wp2_with fail
          go_ret
          exact ⟨rfl, LB5.out⟩

theorem zoneReads_walk (most : Int) (A : Option Addr) (n c : Nat) (ps : List Piece) (w : World) (hr : Row Piece.val w A n c ps) (hp : ∀ p ∈ ps, Row cb w p.A p.n p.c p.l) :
    Calls Try.prog 5 #[.int .i64 most, .slice A n c] w fun e w' => e = .returned (.bool true) ∧ Below w.heap.size w w' := by
  rcases Nat.lt_or_ge 100 n with h | h
  · exact zoneReads_skip most A n c w h
  · exact zoneReads_main most A n c ps w h hr hp

theorem zoneReads_says : Frame.Says Rows.zoneReadsSpec 2 := by
  refine ⟨rfl, fun H ds h => ?_, fun H ds h => ?_, fun H ds h => ?_⟩ <;>
  · match ds, h with
    | [d1, d2], _ => rfl

set_option maxRecDepth 100000 in
theorem zoneReads_walks : Frame.Walks 5 [3, 41] := by
  intro H enc W args ds ps base hok hA hsz
  obtain ⟨v0, vs0, d0, ds0, p0, q0, hargs, rfl, rfl, h0, r0⟩ := trodAll_cons hA
  obtain ⟨v1, vs1, d1, ds1, p1, q1, rfl, rfl, rfl, h1, r1⟩ := trodAll_cons r0
  obtain ⟨rfl, rfl, rfl⟩ := trodAll_nil r1
  obtain rfl : args = #[v0, v1] := by cases args; simp_all
  obtain ⟨most, rfl, rfl, rfl, w0⟩ := open_int Try.underlying3 (hok 0 _ v0 rfl rfl) h0
  obtain ⟨A, n, c, xs, rfl, l1, l2⟩ := Args.open_texts (hok 1 _ v1 rfl rfl) h1 (Args.sized_arg hsz (j := 1) rfl rfl)
  exact zoneReads_walk most A n c xs W l1 l2

set_option maxRecDepth 100000 in
theorem zoneReads_over : Rows.zoneReadsRow.holds Try.pinned (OpenSpec.ofChange Rows.zoneReadsSpec) :=
  OpenClaim.holds_of_wide 5 Try.f5 rfl rfl rfl rfl rfl rfl rfl ⟨rfl, rfl, rfl, rfl, rfl⟩ rfl rfl rfl rfl rfl (by kernel_rfl) Try.func5 (by kernel_rfl)
    (of_decide_eq_true (by kernel_rfl)) (by unfold Func.isWrapper; first | (rw [if_pos (by decide +kernel)]; kernel_rfl) | (rw [if_neg (by decide +kernel)]; exact ⟨rfl, rfl⟩))
    (fun os started H enc _ => Frame.lifted (started := started) Try.underlying4 (by kernel_rfl) Try.func5 (n := 2) (by rw [Try.params5]; rfl) zoneReads_says (by rw [Try.params5]; kernel_rfl) (by kernel_rfl)
      (ChangeSpec.witness6 (enc := enc) (C := Try.checked) false ⟨#[], #[.int .i64 0, .slice none 0 0], []⟩ 8 (by kernel_rfl) (by kernel_rfl) (by kernel_rfl) (by kernel_rfl))
      (by rw [Try.params5]; exact zoneReads_walks))
end Zon
/-- The given statement. -/
theorem zoneReads_holds : Rows.ZoneReadsSaid := Zon.zoneReads_over
end Go.Proofs.Ytfcehlipbdngbaa
