/- DrA -/
import Derived.Test.YtmnapacibpnodaaGreatUeTgB
open Go Go.RowKit
namespace Go.Proofs.YtmnapacibpnodaaGreat
theorem bytesLess_trans : ∀ a b c : List UInt8, Op.bytesLess a b = true → Op.bytesLess b c = true → Op.bytesLess a c = true
  | [], [], _, h, _ => by simp [Op.bytesLess] at h
  | _ :: _, [], _, h, _ => by simp [Op.bytesLess] at h
  | _, _ :: _, [], _, h => by simp [Op.bytesLess] at h
  | [], _ :: _, _ :: _, _, _ => by simp [Op.bytesLess]
  | a :: x, b :: y, c :: z, h1, h2 => by
    rw [Op.bytesLess] at h1 h2 ⊢
    simp only [Bool.or_eq_true, Bool.and_eq_true, decide_eq_true_eq, beq_iff_eq] at h1 h2 ⊢
    rcases h1 with h1 | ⟨h1, h3⟩ <;> rcases h2 with h2 | ⟨h2, h4⟩
    · exact .inl (UInt8.lt_trans h1 h2)
    · subst h2; exact .inl h1
    · subst h1; exact .inl h2
    · subst h1 h2; exact .inr ⟨rfl, bytesLess_trans x y z h3 h4⟩
/-- one that is enrolled; the tail: whether it has reported, and what -/
structure EnrR where
  l : List UInt8
  hw : List UInt8
  pub : H32
  tl : List Value
  tlen : tl.length = 37
  tone : ∀ u ∈ tl, u.oneCell' = true
def EnrR.cs (r : EnrR) : List Value := .string (strL r.l) :: .string (strL r.hw) :: (bs r.pub.l ++ r.tl)
theorem enR_len (r : EnrR) : r.cs.length = 71 := by simp [EnrR.cs, bs_length, r.tlen]
theorem enR_one (r : EnrR) : ∀ u ∈ r.cs, u.oneCell' = true := by
  intro u hu
  rcases List.mem_cons.1 hu with rfl | hu
  · rfl
  rcases List.mem_cons.1 hu with rfl | hu
  · rfl
  rcases List.mem_append.1 hu with h | h
  · exact bs_one r.pub.l u h
  · exact r.tone u h
def tl0 : List Value := .bool false :: .string ⟨#[]⟩ :: .string ⟨#[]⟩ :: (bs zeroH.l ++ [.int .i64 0, .int .i64 0])
theorem tl0_len : tl0.length = 37 := by simp [tl0, bs_length]
theorem tl0_one : ∀ u ∈ tl0, u.oneCell' = true := by
  intro u hu
  rcases List.mem_cons.1 hu with rfl | hu
  · rfl
  rcases List.mem_cons.1 hu with rfl | hu
  · rfl
  rcases List.mem_cons.1 hu with rfl | hu
  · rfl
  rcases List.mem_append.1 hu with h | h
  · exact bs_one zeroH.l u h
  · simp only [List.mem_cons, List.not_mem_nil, or_false] at h
    rcases h with rfl | rfl <;> rfl
/-- one that is new -/
def EnrR.new (l : List UInt8) : EnrR := ⟨l, [], zeroH, tl0, tl0_len, tl0_one⟩
instance rowCEn : RowC EnrR := ⟨71, EnrR.cs, enR_len, enR_one, EnrR.new []⟩
def zeroEn : Array Value := (EnrR.new []).cs.toArray
instance elemEn : ElemT Tryz.prog 48 59 71 152 (.agg zeroEn) := ⟨⟨Tryz.underlying48, by kernel_rfl, rfl, by decide⟩⟩
instance rowTEn : RowT Tryz.prog 59 71 := ⟨by kernel_rfl, _, Tryz.underlying59, rfl⟩
instance zeroTEn : ZeroT Tryz.prog 59 zeroEn := ⟨.agg zeroEn, fun _ => by kernel_rfl, rfl⟩
instance cellEns : CellT Tryz.prog 48 := ⟨fun _ => by kernel_rfl, fun _ => by kernel_rfl⟩
instance cellFEn : CellT Tryz.prog 93 := ⟨fun _ => by kernel_rfl, fun _ => by kernel_rfl⟩
theorem enc_0 (r : EnrR) : nth (RowC.enc r) 0 = some (.string (strL r.l)) := rfl
theorem enc_1 (r : EnrR) : nth (RowC.enc r) 1 = some (.string (strL r.hw)) := rfl
set_option maxRecDepth 100000 in
set_option maxHeartbeats 1600000 in
theorem ecmp_calls (r : EnrR) (nm : List UInt8) (w : World) : Calls Tryz.prog 32 #[.agg (RowC.enc r).toArray, .string (strL nm)] w fun e w' => ∃ v : Int, e = .returned (.int .i64 v) ∧ ((v < 0 ↔ Op.bytesLess r.l nm = true) ∧ (v = 0 ↔ r.l = nm)) ∧ Step nowhere w w' := by
  have hsz : (RowC.enc r).toArray.size = 71 := enR_len r
  have hon := enc_one r
  go_enter Tryz.func32, Tryz.ntmps32
  go_wp2_with (first | ((with_reducible apply (wpl_loadcellN (k := 0))); (exact rfl); infer_instance; (exact enc_0 _)) | ((with_reducible apply (wpl_box_agg (dst := some 2))); (exact rfl); intro zr wzr _ _ _))
  refine (compareE_calls r.l nm _).mono ?_
  rintro e w5 ⟨v, rfl, hv, rfl⟩
  have HV := Lib.hid hv
  clear hv
  go_wp2_with fail
  go_ret
  exact ⟨v, rfl, HV.out, stepN⟩
/-- the names rise -/
def RiseE (L : List EnrR) : Prop := ∀ i j, i < j → j < L.length → Op.bytesLess (gt L i).l (gt L j).l = true
/-- where a name stands, or would stand -/
def PlcE (L : List EnrR) (nm : List UInt8) (k : Nat) : Prop := k ≤ L.length ∧ (∀ i, i < k → Op.bytesLess (gt L i).l nm = true) ∧ (∀ i, k ≤ i → i < L.length → Op.bytesLess (gt L i).l nm = false)
def inE (L : List EnrR) (nm : List UInt8) (k : Nat) : Bool := decide (k < L.length) && decide ((gt L k).l = nm)
set_option maxRecDepth 100000 in
set_option maxHeartbeats 3200000 in
theorem searchE_calls {A : Option Addr} {n c : Nat} {L : List EnrR} (nm : List UInt8) {w : World} [hr : HR w A (cellsOf L)] (hl : L.length = n) (hmax : n ≤ 1000000000) (hrise : RiseE L) :
    Calls Tryz.prog 31 #[.slice A n c, .string (strL nm), .func (.func 32) #[] #[]] w fun e w' => ∃ k : Nat, e = .returned (.tuple #[.int .i64 (k : Int), .bool (inE L nm k)]) ∧ Hid (PlcE L nm k) ∧ Step nowhere w w' := by
  have HL := Lib.hid hl
  have HS := Lib.hid hrise
  clear hrise
  go_enter Tryz.func31, Tryz.ntmps31
  go_wp2_with fail
  go_loopw [9, 10] (fun lv hv wr => ∃ lo hi : Nat, lo ≤ hi ∧ hi ≤ n ∧ lv = .int .i64 (lo : Int) ∧ hv = .int .i64 (hi : Int) ∧ Hid (∀ i, i < lo → Op.bytesLess (gt L i).l nm = true) ∧ Hid (∀ i, hi ≤ i → i < L.length → Op.bytesLess (gt L i).l nm = false) ∧ Step nowhere w wr) (fun lv hv _ => (intOf hv).toNat - (intOf lv).toNat)
  case atStart => exact ⟨0, n, Nat.zero_le _, Nat.le_refl _, rfl, rfl, Lib.hid (fun i h => by omega), Lib.hid (fun i h1 h2 => by omega), stepN⟩
  case round =>
    obtain ⟨lo, hi, hlh, hhn, rfl, rfl, HJ, HK, st⟩ := hrel
    have nr : Nw w wr := ⟨st.chg⟩
    have hrw : HR wr A (cellsOf L) := inferInstance
    by_cases hlt : lo < hi
    · have hltI : (lo : Int) < (hi : Int) := by omega
      obtain ⟨m, hm⟩ : ∃ m, m = (lo + hi) / 2 := ⟨_, rfl⟩
      have hm1 : lo ≤ m := by omega
      have hm2 : m < hi := by omega
      have hkl : (lo + hi) / 2 < L.length := by omega
      have hmI : (((lo + hi) / 2 : Nat) : Int) = (m : Int) := by omega
      have HM := Lib.hid hm
      clear hm
      go_wp2_with (first | ((with_reducible apply (wpl_indexE (α := EnrR) (t := 48))); (exact rfl); (exact rfl); infer_instance; infer_instance; (first | (with_reducible assumption) | omega | (focus (simp; done)) | (focus (simp; omega; done)) | decide); (exact rfl); (decide); (first | (with_reducible assumption) | omega | (focus (simp; done)) | (focus (simp; omega; done)) | decide)) | ((with_reducible apply (wpl_loadE (α := EnrR) (t := 59))); infer_instance; (exact rfl); infer_instance; (exact rfl); (decide); (first | (with_reducible assumption) | omega | (focus (simp; done)) | (focus (simp; omega; done)) | decide)))
      refine (ecmp_calls (gt L ((lo + hi) / 2)) nm _).mono ?_
      rw [← HM.out]
      rintro e w5 ⟨v, rfl, hv, st5⟩
      cases hb : Op.bytesLess (gt L m).l nm
      case true =>
        have hv0 : v < 0 := hv.1.2 hb
        have HB1 := Lib.hid hb
        clear hb hv
        go_wp2_with fail
        refine ⟨⟨m + 1, hi, by omega, by omega, by go_num, rfl, Lib.hid (fun i hi' => ?_), HK, stepN⟩, by simp [intOf]; omega⟩
        by_cases e : i = m
        · subst e; exact HB1.out
        · exact bytesLess_trans _ _ _ (HS.out i m (by omega) (by have := HL.out; omega)) HB1.out
      case false =>
        have hv0 : ¬ v < 0 := fun h => by rw [hv.1.1 h] at hb; cases hb
        have HB1 := Lib.hid hb
        clear hb hv
        go_wp2_with fail
        refine ⟨⟨lo, m, by omega, by omega, rfl, by go_num, HJ, Lib.hid (fun i h1 h2 => ?_), stepN⟩, by simp [intOf]; omega⟩
        by_cases e : i = m
        · subst e; exact HB1.out
        · cases h3 : Op.bytesLess (gt L i).l nm
          · rfl
          · rw [bytesLess_trans _ _ _ (HS.out m i (by omega) h2) h3] at HB1
            exact HB1.out
    · have hltI : ¬ (lo : Int) < (hi : Int) := by omega
      obtain rfl : lo = hi := by omega
      by_cases hln : lo < n
      · have hlnI : (lo : Int) < (n : Int) := by omega
        have hkl : lo < L.length := by omega
        go_wp2_with (first | ((with_reducible apply (wpl_guard (op := .load _ _))); (exact rfl)) | ((with_reducible apply (wpl_guard (op := .indexAddr _ _ _))); (exact rfl)) | ((with_reducible apply (wpl_indexE (α := EnrR) (t := 48))); (exact rfl); (exact rfl); infer_instance; infer_instance; (first | (with_reducible assumption) | omega | (focus (simp; done)) | (focus (simp; omega; done)) | decide); (exact rfl); (decide); (first | (with_reducible assumption) | omega | (focus (simp; done)) | (focus (simp; omega; done)) | decide)) | ((with_reducible apply (wpl_loadE (α := EnrR) (t := 59))); infer_instance; (exact rfl); infer_instance; (exact rfl); (decide); (first | (with_reducible assumption) | omega | (focus (simp; done)) | (focus (simp; omega; done)) | decide)))
        refine (ecmp_calls (gt L lo) nm _).mono ?_
        rintro e w5 ⟨v, rfl, hv, st5⟩
        have HV := Lib.hid hv
        clear hv
        go_wp2_with fail
        go_ret2
        refine ⟨lo, ?_, Lib.hid ⟨by omega, HJ.out, HK.out⟩, stepN⟩
        have e9 : (v == 0) = inE L nm lo := by
          rw [inE, decide_eq_true hkl, Bool.true_and, Bool.eq_iff_iff, beq_iff_eq, decide_eq_true_eq]
          exact HV.out.2
        rw [← e9]
        rfl
      · have hlnI : ¬ (lo : Int) < (n : Int) := by omega
        go_wp2_with fail
        go_ret2
        refine ⟨lo, ?_, Lib.hid ⟨by omega, HJ.out, HK.out⟩, stepN⟩
        rw [inE, decide_eq_false (by omega)]
        rfl
end Go.Proofs.YtmnapacibpnodaaGreat
