/-
  A WALK: Fill; rows of texts.
-/
import Derived.Test.YtfngebikihdogaaCacRoomP
namespace Go.Proofs.Ytfngebikihdogaa
open Go.RowKit Mem Box GM
namespace Cac
/-- A slice of sixteen bytes as a cell. -/
def slC (A : Option Addr) : List Value := [.slice A 16 16]
theorem fitS : OwnS.Fit slC 1 := ⟨by omega, fun _ => rfl, fun x u hu => by simp [slC] at hu; subst hu; rfl⟩
theorem info_text : (Try.prog.info? 32).map (fun i => (i.zero, i.size, i.bytes)) = some (some (.slice none 0 0), 1, 24) := by kernel_rfl
section
variable {base bs : Nat} {w w' : World} {g r : Nat} {m h s : Int} {ns : List Nd} {sv : Value} {n : Nat} {As : List (Option Addr)}
theorem owns_block {α : Type} {cells : α → List Value} {k : Nat} {e : TypeId} {xs : List α} (O : OwnS.Owns cells k e bs w sv n xs) : ∀ j, sv.ownBlock = some j → ∃ cur, Cells w j e cur := by
  intro j hj
  rcases O.1.2 with ⟨rfl, -⟩ | ⟨q, cap, cur, rfl, hbg, hq, rest⟩
  · cases hj
  · simp [Value.ownBlock] at hj
    subst hj
    exact ⟨cur, hq⟩
theorem owns_mov {α : Type} {cells : α → List Value} {k : Nat} {e : TypeId} {xs : List α} (O : OwnS.Owns cells k e bs w sv n xs) (H : CB base w g r m ns h s) (h1 : e ≠ 57) (h2 : e ≠ 61) (hb : Mov (foot g r ns) w w') : OwnS.Owns cells k e bs w' sv n xs := by
  refine ⟨⟨O.1.1, ?_⟩, O.2⟩
  rcases O.1.2 with hn | ⟨q, cap, cur, e', hbg, hq, rest⟩
  · exact .inl hn
  · exact .inr ⟨q, cap, cur, e', hbg, (hb.block q (Array.getElem?_eq_some_iff.1 hq).1 (H.at_.not hq h1 h2)).trans hq, rest⟩
theorem cb_grown {α : Type} {cells : α → List Value} {k : Nat} {e : TypeId} {xs : List α} (H : CB base w g r m ns h s) (O : OwnS.Owns cells k e bs w sv n xs) (h1 : e ≠ 57) (h2 : e ≠ 61) (hg : w.grownBy w' sv.ownBlock) : CB base w' g r m ns h s :=
  ⟨H.at_.keep fun p hp => hg.block p (H.at_.lt p hp) fun e1 => by
    obtain ⟨cur, hc⟩ := owns_block O p e1.symm
    exact H.at_.not hc h1 h2 hp, H.low, Nat.le_trans H.base hg.size, H.room, H.some⟩
theorem text_grown {α : Type} {cells : α → List Value} {k : Nat} {e : TypeId} {xs : List α} {A : Option Addr} {l : List (BitVec 8)} (T : TextAt w A l) (O : OwnS.Owns cells k e bs w sv n xs) (h1 : e ≠ 5) (hg : w.grownBy w' sv.ownBlock) : TextAt w' A l := by
  obtain ⟨q, cs, rfl, hc, hr⟩ := T
  refine ⟨q, cs, rfl, (hg.block q hc.lt fun e1 => ?_).trans hc, hr⟩
  obtain ⟨cur, hc'⟩ := owns_block O q e1.symm
  exact Cells.ne hc' hc h1 rfl
end

set_option maxRecDepth 100000 in
set_option maxHeartbeats 6400000 in
theorem fill_cb {base bs : Nat} {w : World} {g r : Nat} {m h s : Int} {ns : List Nd} {n c : Nat} {A : Option Addr} {As : List (Option Addr)} {f : Nat → List (BitVec 8)} {Ls : Nat → List Kv} {lba ver : Int} (H : CB base w g r m ns h s)
    (HO : OwnS.Owns slC 1 32 bs w (.slice A n c) n As) (HT : ∀ i B, As[i]? = some B → TextAt w B (f i)) (h0 : Ls 0 = kvs ns) (hL : ∀ k : Nat, k < n → putK m (Ls k) ⟨lba + k, ver, f k⟩ = Ls (k + 1)) (hv : ∀ k : Nat, k < n → ∀ x, whoK (Ls k) (lba + k) = some x → x.ver ≤ ver)
    (hl0 : 0 ≤ lba) (hl1 : lba ≤ 1099511627776) (hn : n ≤ 1000) (hver : 0 ≤ ver) :
    Calls Try.prog 16 #[.pointer (some ⟨g, 0, none⟩), .int .i64 lba, .int .i64 ver, .slice A n c] w fun e w' => e = .returned (.int .i64 0) ∧ ∃ ns', kvs ns' = Ls n ∧ CB base w' g r m ns' h s ∧ Below base w w' := by
  have C0 := Lib.hid H
  have O0 := Lib.hid HO
  have T0 := Lib.hid HT
  have K0 := Lib.hid h0.symm
  have HL := Lib.hid hL
  have HV := Lib.hid hv
  clear H HO HT h0 hL hv
  go_enter Try.func16, Try.ntmps16
  go_wp2_with fail
  go_loopw [9, 10, 11, 14] (fun _ _ _ i wr => ∃ (k : Nat) (ns1 : List Nd), i = .int .i64 k ∧ k ≤ n ∧ Hid (Below base w wr ∧ CB base wr g r m ns1 h s ∧ kvs ns1 = Ls k ∧ OwnS.Owns slC 1 32 bs wr (.slice A n c) n As ∧ ∀ i B, As[i]? = some B → TextAt wr B (f i))) (fun _ _ _ i _ => n - (intOf i).toNat)
  case atStart => exact ⟨0, ns, rfl, by omega, Below.refl _ _, C0.out, K0.out, O0.out, T0.out⟩
  case round =>
    obtain ⟨k, ns1, rfl, hk, hH⟩ := hrel
    have LR := Lib.hid hH.out.1
    have CR := Lib.hid hH.out.2.1
    have KR := Lib.hid hH.out.2.2.1
    have OR := Lib.hid hH.out.2.2.2.1
    have TR := Lib.hid hH.out.2.2.2.2
    clear hH
    by_cases hlt : k < n
    · have hk0 : (0 : Int) ≤ (k : Int) := by omega
      have hkn : (k : Int) < (n : Int) := by omega
      have hrow := OR.out.row fitS (by omega)
      obtain ⟨B, hB⟩ := hrow.get hlt
      obtain ⟨b, o, hA, hblk, hcell⟩ := hrow.elem hB
      have hcell' : wr.cell? ⟨b, o + k, none⟩ = some (.slice B 16 16) := by have := hcell wr rfl 0 _ rfl; rw [Nat.mul_one] at this; exact this
      subst hA
      have hwk : IntKind.i64.wrap (lba + (k : Int)) = lba + (k : Int) := by rw [IntKind.wrap_i64]; omega
      have HP := Lib.hid (put_ok CR.out (n := lba + (k : Int)) (v := ver) (by omega) hver (by
        intro y hy
        refine HV.out k hlt y.2 ?_
        rw [← KR.out, who_kvs, hy]; rfl) (TR.out k B hB))
      rw [KR.out, HL.out k hlt] at HP
      clear hrow hB hcell hblk
      go_wp2_with fail
      refine HP.out.mono ?_
      rintro e w4 ⟨rfl, ns2, hk2, hC, hV⟩
      have L4 := Lib.hid (LR.out.trans (Below.mono (CR.out.down hV) (Nat.le_refl _)))
      have C4 := Lib.hid hC
      have K4 := Lib.hid hk2
      have O4 := Lib.hid (owns_mov OR.out CR.out (by decide) (by decide) hV)
      have T4 := Lib.hid (fun i B (hi : As[i]? = some B) => CR.out.text (TR.out i B hi) hV)
      clear hk2 hC hV HP
      go_wp2_with fail
      go_roundw
      case rel => exact ⟨k + 1, ns2, by go_num, by omega, L4.out, C4.out, K4.out, O4.out, T4.out⟩
      case measure => simp [intOf]; omega
    · obtain rfl : k = n := by omega
      go_wp2_with fail
      go_ret
      exact ⟨rfl, ns1, KR.out, CR.out, LR.out⟩
end Cac
end Go.Proofs.Ytfngebikihdogaa
