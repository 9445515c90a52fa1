/-
  NUMBERS ONE BEHIND THE OTHER: Nums, TakeNums, for every input. (Parted from WireRows in round 8: coord has these, not the rest.)
-/
import Derived.Test.YtedandbkdjmfhaaWireTake
import Derived.Test.YtedandbkdjmfhaaReg
import Derived.Deep.DeepCutAuto
import Derived.Lib.LazyBuf
namespace Go.Proofs.Ytedandbkdjmfhaa
open Go.RowKit Mem
namespace Wire

/-- A row and an error, as a call gave them. -/
def GaveE {α : Type} (f : α → Value) (e : TypeId) (base : Nat) (w : World) (l : List α) (er : Int) (en : Ending) (w' : World) : Prop :=
  ∃ A k c, en = .returned (.tuple #[.slice A k c, .int .i64 er]) ∧ Owns f e base w' (.slice A k c) k l ∧ Below base w w'

def Numbered (l : List Int) (w : World) (en : Ending) (w' : World) : Prop :=
  ((∀ z ∈ l, 0 ≤ z) ∧ GaveE cb 5 w.heap.size w (encs (l.map Int.toNat)) 0 en w') ∨
  ((∃ z ∈ l, z < 0) ∧ en = .returned (.tuple #[.slice none 0 0, .int .i64 1]) ∧ Below w.heap.size w w')

theorem wrap_u64_small (n : Nat) (h : n < 9223372036854775808) : IntKind.u64.wrap (n : Int) = n := by
  simp [IntKind.wrap, IntKind.bits, IntKind.signed]; omega

set_option maxRecDepth 100000 in
set_option maxHeartbeats 800000 in
theorem nums_any {A : Option Addr} {n c : Nat} {l : List Int} {w : World} (h : Row ci w A n c l) (hr : ∀ z ∈ l, z < 9223372036854775808) (hn : n ≤ 17592186044416) :
    Calls Try.prog 36 #[.slice A n c] w (Numbered l w) := by
  have HR := Lib.hid h
  have HZ := Lib.hid hr
  clear h hr
  go_enter Try.func36, Try.ntmps36
  go_wp2
  go_loopw [4, 9] (fun s i wr => ∃ (B : Option Addr) (j d k : Nat), s = .slice B j d ∧ i = .int .i64 k ∧ k ≤ n ∧
    Hid ((∀ z ∈ l.take k, 0 ≤ z) ∧ Owns cb 5 w.heap.size wr (.slice B j d) j (encs ((l.take k).map Int.toNat)) ∧ Below w.heap.size w wr)) (fun _ i _ => n - (intOf i).toNat)
  case atStart => exact ⟨none, 0, 0, 0, rfl, rfl, by omega, by simp, Owns.nil _ _ _ _, Below.refl _ _⟩
  case round =>
    obtain ⟨B, j, d, k, rfl, rfl, hk, hH⟩ := hrel
    by_cases hlt : k < n
    · obtain ⟨z, hz⟩ := HR.out.get hlt
      have hcell := (HR.out.below hH.out.2.2).cell hz
      obtain ⟨b, o, rfl, hcell⟩ := hcell
      have hcell' : wr.cell? ⟨b, o + k, none⟩ = some (.int .i64 z) := hcell
      have HE := Lib.hid hz
      clear hcell hz
      by_cases hneg : z < 0
      · go_wp2
        go_ret2
        refine .inr ⟨⟨z, List.mem_of_getElem? HE.out, hneg⟩, rfl, hH.out.2.2⟩
      · obtain ⟨m, rfl⟩ := Int.eq_ofNat_of_zero_le (show 0 ≤ z by omega)
        have hm : m < 9223372036854775808 := by have := HZ.out _ (List.mem_of_getElem? HE.out); omega
        have hwr := wrap_u64_small m hm
        have hjl : Hid (j ≤ 10 * n) := by
          have h1 := hH.out.2.1.len
          have h2 := encs_len (l := (l.take k).map Int.toNat) (fun x hx => by
            obtain ⟨y, hy, rfl⟩ := List.mem_map.1 hx
            have := HZ.out y (List.mem_of_mem_take hy)
            omega)
          simp only [List.length_map, List.length_take] at h2
          show _ ≤ _
          omega
        have HP := Lib.hid (put_any w.heap.size m (by omega) B j d _ wr hH.out.2.1 hH.out.2.2.size (by have := hjl.out; omega))
        clear hm
        go_wp2_with (go_at_call 46; refine HP.out.mono ?_; rintro e w2 ⟨B2, j2, d2, rfl, h2, hb2⟩; have H2 := Lib.hid h2; have HB2 := Lib.hid hb2; clear h2 hb2)
        go_roundw
        case rel =>
          refine ⟨B2, j2, d2, k + 1, rfl, by go_num, by omega, ?_, ?_, hH.out.2.2.trans HB2.out⟩
          · intro y hy
            rw [List.take_add_one, HE.out] at hy
            rcases List.mem_append.1 hy with h | h
            · exact hH.out.1 y h
            · simp at h; omega
          · have := H2.out
            rw [List.take_add_one, HE.out, List.map_append, encs_append]
            simpa [encs_cons, encs_nil] using this
        case measure => simp [intOf]; omega
    · have hkn : l.take k = l := List.take_of_length_le (by have := HR.out.len; omega)
      have HK := Lib.hid hkn
      clear hkn
      go_wp2
      go_ret2
      have h := hH.out
      rw [HK.out] at h
      exact .inl ⟨h.1, _, _, _, rfl, h.2.1, h.2.2⟩

theorem info_int : (Try.prog.info? 3).map (fun i => (i.zero, i.size, i.bytes)) = some (some (.int .i64 0), 1, 8) := by kernel_rfl
/-- Numbers as ints. -/
def asInts (l : List Nat) : List Int := List.map (α := Nat) (β := Int) (fun n => (n : Int)) l
theorem asInts_append (l : List Nat) (n : Nat) : asInts (l ++ [n]) = asInts l ++ [(n : Int)] := by simp [asInts]

/-- What TakeNums tells. -/
def TookN (l : List Nat) (k e : Nat) (w : World) (en : Ending) (w' : World) : Prop :=
  ∃ B j d, en = .returned (.tuple #[.slice B j d, .int .i64 (k : Int), .int .i64 (e : Int)]) ∧ Owns ci 3 w.heap.size w' (.slice B j d) j (asInts l) ∧ Below w.heap.size w w'

set_option maxRecDepth 100000 in
set_option maxHeartbeats 1600000 in
theorem takeNums_at {A : Option Addr} {n c : Nat} {b : List B8} {w : World} (h : Row cb w A n c b) (hn : n ≤ 100000000) (m : Nat) (hm : m ≤ 9223372036854775807) {l : List Nat} {kk ee : Nat} (hi : ints m b = (l, kk, ee)) :
    Calls Try.prog 45 #[.slice A n c, .int .i64 m] w (TookN l kk ee w) := by
  have HR := Lib.hid h
  have HI := Lib.hid hi
  clear h hi
  have hneg : decide ((m : Int) < 0) = false := by simp
  go_enter Try.func45, Try.ntmps45
  go_wp2
  go_loopw [7, 8, 15] (fun s a i wr => ∃ (B : Option Addr) (j d q p : Nat), s = .slice B j d ∧ a = .int .i64 q ∧ i = .int .i64 p ∧ p ≤ m ∧ q ≤ n ∧ j ≤ q ∧
    Hid (∃ acc : List Nat, Owns ci 3 w.heap.size wr (.slice B j d) j (asInts acc) ∧ Below w.heap.size w wr ∧ goOn acc q (ints (m - p) (b.drop q)) = (l, kk, ee))) (fun _ _ i _ => m - (intOf i).toNat)
  case atStart => exact ⟨none, 0, 0, 0, 0, rfl, rfl, rfl, by omega, by omega, by omega, [], Owns.nil _ _ _ _, Below.refl _ _, by rw [List.drop_zero, Nat.sub_zero, goOn_ints]; exact HI.out⟩
  case round =>
    obtain ⟨B, j, d, q, p, rfl, rfl, rfl, hp, hq, hjq, hH⟩ := hrel
    obtain ⟨acc, hown, hbel, hgo⟩ := hH.out
    have HO := Lib.hid hown
    have HB := Lib.hid hbel
    have HG := Lib.hid hgo
    clear hown hbel hgo hH
    by_cases hlt : p < m
    · have hsl := run_tail A n c q hq
      have HT := Lib.hid ((HR.out.below HB.out).tail (k := q) hq)
      rcases h1 : int1 (b.drop q) with ⟨x, y, e⟩
      have H1 := Lib.hid h1
      clear h1
      have hms : m - p = (m - (p + 1)) + 1 := by omega
      by_cases he : e = 0
      · subst he
        obtain ⟨t1, hx⟩ := int1_one H1.out
        obtain ⟨y1, y2, y3, -⟩ := take1_one t1
        have hyn : q + y ≤ n := by rw [List.length_drop] at y2; have := HR.out.len; omega
        have G2 : Hid (goOn (acc ++ [x]) (q + y) (ints (m - (p + 1)) (b.drop (q + y))) = (l, kk, ee)) := by
          have := HG.out
          rw [hms, goOn_step H1.out] at this
          exact this
        clear t1 hx y2 y3 hms
        go_wp2_with (first
          | (go_at_call 52; refine (takeInt_at HT.out H1.out).mono ?_; rintro e w2 ⟨rfl, hb2⟩; have B2 := Lib.hid hb2; clear hb2)
          | (at_builtin
             refine wpList_append_row ci_one Try.underlying37 info_int rfl rfl (.tmp 28) (.tmp 30) rfl rfl w.heap.size (.slice B j d) j (asInts acc) rfl (((HO.out.below B2.out)).alloc _) _ 1 1 [(x : Int)] rfl (row_one ci w2 _ _ _ rfl) (by omega) (by omega) (by have := HB.out.size; have := B2.out.size; simp; omega) ?_
             intro A3 c3 w3 hown3 hb3
             have O3 := Lib.hid hown3
             have B3 := Lib.hid hb3
             clear hown3 hb3))
        go_roundw
        case rel =>
          refine ⟨A3, j + 1, c3, q + y, p + 1, rfl, by go_num, by go_num, by omega, hyn, by omega, acc ++ [x], ?_, ?_, G2.out⟩
          · rw [asInts_append]; exact O3.out
          · exact (HB.out.trans ((B2.out.mono HB.out.size).trans (((Below.refl _ w2).alloc (Nat.le_trans HB.out.size B2.out.size) _).trans B3.out)))
        case measure => simp [intOf]; omega
      · obtain ⟨rfl, rfl, h3⟩ := int1_bad H1.out he
        have G2 := HG.out
        rw [hms, goOn_stop H1.out he] at G2
        simp only [Prod.mk.injEq] at G2
        obtain ⟨rfl, rfl, rfl⟩ := G2
        clear hms he HG
        rcases h3 with rfl | rfl
        all_goals
          go_wp2_with (go_at_call 52; refine (takeInt_at HT.out H1.out).mono ?_; rintro e w2 ⟨rfl, hb2⟩; have B2 := Lib.hid hb2; clear hb2)
          go_ret3
          exact ⟨none, 0, 0, rfl, Owns.nil _ _ _ _, HB.out.trans (B2.out.mono HB.out.size)⟩
    · have hpm : m - p = 0 := by omega
      have G2 := HG.out
      rw [hpm, goOn_end] at G2
      simp only [Prod.mk.injEq] at G2
      obtain ⟨rfl, rfl, rfl⟩ := G2
      clear hpm HG
      go_wp2
      go_ret3
      exact ⟨B, j, d, rfl, HO.out, HB.out⟩

end Wire
end Go.Proofs.Ytedandbkdjmfhaa
