/- Reader.Nums: numbers taken into places. -/
import Derived.Test.YtecmeejbpkcgiaaRdC
open Go Go.RowKit
namespace Go.Proofs.Ytecmeejbpkcgiaa
/-- the reader behind so many numbers -/
def RS.at (s : RS) : Nat → RS
  | 0 => s
  | k + 1 => (s.at k).num.2
theorem RS.at_le (s : RS) (k : Nat) : (s.at k).b.length ≤ s.b.length := by
  induction k with
  | zero => exact Nat.le_refl _
  | succ k ih => exact Nat.le_trans (RS.num_le _) ih
theorem RS.at_ne {s : RS} {k : Nat} (h : (s.at k).b ≠ []) : s.b ≠ [] := by
  intro h0
  have h1 := s.at_le k
  rw [h0] at h1
  exact h (List.eq_nil_of_length_eq_zero (by simpa using h1))
def ptrs (ps : List (Option Addr)) : List Value := ps.map .pointer
/-- what a block holds when k numbers have been laid into their places -/
def putN (z : Nat) (ps : List (Option Addr)) (s : RS) : Nat → Array Value → Array Value
  | 0, cs => cs
  | k + 1, cs => match ps[k]? with
    | some (some ad) => if ad.block = z then (putN z ps s k cs).setIfInBounds ad.off (.int .i64 (s.at k).num.1) else putN z ps s k cs
    | _ => putN z ps s k cs
theorem putN_size (z : Nat) (ps : List (Option Addr)) (s : RS) (k : Nat) (cs : Array Value) : (putN z ps s k cs).size = cs.size := by
  induction k with
  | zero => rfl
  | succ k ih =>
    unfold putN
    split
    · split
      · rw [Array.size_setIfInBounds, ih]
      · exact ih
    · exact ih
def NumsS (g : Nat) (ps : List (Option Addr)) : Nat → Prop := fun x => x = g ∨ ∃ ad, some ad ∈ ps ∧ ad.block = x
set_option maxRecDepth 100000 in
set_option maxHeartbeats 800000 in
theorem rNums_calls (g d : Nat) (s : RS) (A : Option Addr) (n c : Nat) (ps : List (Option Addr)) (w : World) (h : RdrAt w g d s) (hl : s.b.length ≤ 1000000000000) (hr : Rd w A (ptrs ps)) (hn : ps.length = n) (hmax : n ≤ 1000) (hA : Apart (NumsS g ps) A (ptrs ps))
    (hps : ∀ ad, some ad ∈ ps → ∃ z k t cs, ad = ⟨z, k, none⟩ ∧ Blk w z t cs ∧ k < cs.size ∧ z ≠ g ∧ (s.b ≠ [] → z ≠ d)) :
    Calls Try.prog 113 #[.pointer (some ⟨g, 0, none⟩), .slice A n c] w fun e w' => e = .returned (.tuple #[]) ∧ Hid (RdrAt w' g d (s.at n)) ∧ Hid (Chg (NumsS g ps) w w') ∧
      Hid (∀ z t cs, z ≠ g → Blk w z t cs → Blk w' z t (putN z ps s n cs)) := by
  have H := Lib.hid h
  have HL := Lib.hid hl
  have HR := Lib.hid hr
  have HN := Lib.hid hn
  have HAP := Lib.hid hA
  have HPS := Lib.hid hps
  have hn9 : n ≤ 9223372036854775807 := by omega
  clear h hl hr hn hA hps
  go_enter Try.func113, Try.ntmps113
  go_wp2_with fail
  go_loopw [9] (fun t wr => ∃ k : Nat, k ≤ n ∧ t = .int .i64 k ∧ Hid (RdrAt wr g d (s.at k)) ∧ Hid (Chg (NumsS g ps) w wr) ∧ Hid (∀ z t cs, z ≠ g → Blk w z t cs → Blk wr z t (putN z ps s k cs))) (fun t _ => n - (intOf t).toNat)
  case atStart => exact ⟨0, Nat.zero_le _, rfl, H, Lib.hid (Chg.refl _ _), Lib.hid (fun _ _ _ _ h => h)⟩
  case round =>
    obtain ⟨k, hk, rfl, HW, HC, HB⟩ := hrel
    by_cases hlt : k < n
    · have e1 : (k : Int) < n := by omega
      have hkl : k < ps.length := by have := HN.out; omega
      obtain ⟨p, hp⟩ : ∃ p, ps[k] = p := ⟨_, rfl⟩
      have hpk : ps[k]? = some p := by rw [List.getElem?_eq_getElem hkl, hp]
      have hmem : p ∈ ps := by rw [← hp]; exact List.getElem_mem hkl
      obtain ⟨ad, rfl, hc⟩ := (HR.out.chg HC.out HAP.out) k (.pointer p) (by simp [ptrs, hpk])
      have HPK := Lib.hid hpk
      have HMEM := Lib.hid hmem
      clear hp hpk hmem hkl
      rcases p with _ | pd
      · go_wp2_with fail
        refine (Num_calls g d (s.at k) _ HW.out (Nat.le_trans (s.at_le k) HL.out)).mono ?_
        rintro e w1 ⟨rfl, h1, h2⟩
        have HB1 : Hid (∀ z t cs, z ≠ g → Blk w z t cs → Blk w1 z t (putN z ps s (k + 1) cs)) := Lib.hid (fun z t cs hz hb => by
          have := (HB.out z t cs hz hb).chg h2.out hz
          unfold putN
          rw [HPK.out]
          exact this)
        go_wp2_with fail
        exact ⟨⟨k + 1, by omega, by go_num, h1, Lib.hid (HC.out.trans h2.out (fun x _ hx => .inl hx)), HB1⟩, by simp [intOf]; omega⟩
      · obtain ⟨z, j, t, cs, rfl, hb, hj, hzg, hzd⟩ := HPS.out _ HMEM.out
        have HBB := Lib.hid hb
        have HJ := Lib.hid hj
        clear hb hj
        go_wp2_with fail
        refine (Num_calls g d (s.at k) _ HW.out (Nat.le_trans (s.at_le k) HL.out)).mono ?_
        rintro e w1 ⟨rfl, h1, h2⟩
        have hb1 := (HB.out z t cs hzg HBB.out).chg h2.out hzg
        have hcz : w1.cell? ⟨z, j, none⟩ = some (putN z ps s k cs)[j]! := by
          rw [hb1.cell j, getElem!_pos _ j (by rw [putN_size]; exact HJ.out)]
          exact Array.getElem?_eq_getElem _
        have hfz : w1.frozen? ⟨z, j, none⟩ = false := hb1.frozen j
        have HB1 : Hid (∀ z' t' cs', z' ≠ g → Blk w z' t' cs' → Blk (w1.setCell ⟨z, j, none⟩ (.int .i64 (s.at k).num.1)) z' t' (putN z' ps s (k + 1) cs')) := Lib.hid (fun z' t' cs' hz' hb' => by
          have h5 := (HB.out z' t' cs' hz' hb').chg h2.out hz'
          unfold putN
          rw [HPK.out]
          show Blk _ z' t' (if z = z' then _ else _)
          split
          · rename_i heq
            subst heq
            exact h5.set_ j _
          · rename_i hne
            exact h5.far (fun e => hne e.symm) _)
        have HC1 : Hid (Chg (NumsS g ps) w (w1.setCell ⟨z, j, none⟩ (.int .i64 (s.at k).num.1))) := Lib.hid ((HC.out.trans h2.out (fun x _ hx => .inl hx)).setCell (p := ⟨z, j, none⟩) (fun _ => .inr ⟨_, HMEM.out, rfl⟩) _)
        have HW1 : Hid (RdrAt (w1.setCell ⟨z, j, none⟩ (.int .i64 (s.at k).num.1)) g d (s.at (k + 1))) := Lib.hid (h1.out.chg2 (S := fun x => x = z) ((Chg.refl (fun x => x = z) w1).setCell (p := ⟨z, j, none⟩) (fun _ => rfl) _) (fun e => hzg e.symm) (fun hne e => hzd (RS.at_ne (k := k + 1) hne) e.symm))
        generalize (putN z ps s k cs)[j]! = u at hcz
        clear hb1
        go_wp2_with fail
        exact ⟨⟨k + 1, by omega, by go_num, HW1, HC1, HB1⟩, by simp [intOf]; omega⟩
    · obtain rfl : k = n := by omega
      have e1 : (k : Int) ≤ k := by omega
      go_wp2_with fail
      go_end0
      exact ⟨rfl, HW, HC, HB⟩
end Go.Proofs.Ytecmeejbpkcgiaa
