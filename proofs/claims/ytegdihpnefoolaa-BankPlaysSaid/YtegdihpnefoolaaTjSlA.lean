/- OcWB, SlA -/
import Derived.Test.YtegdihpnefoolaaTjOcW
import Derived.Test.YtegdihpnefoolaaTjPgLong
import Derived.Test.YtegdihpnefoolaaTjDig
import Derived.Test.YtegdihpnefoolaaTjRdN
section
open Go Go.RowKit
namespace Go.Proofs.Ytegdihpnefoolaa
set_option maxRecDepth 100000 in
set_option maxHeartbeats 400000 in
theorem wBytes_calls (g : Nat) (A : Option Addr) (xs : List UInt8) (A2 : Option Addr) (n c2 : Nat) (l : List Row) (w : World) (hw : WrAt w g A xs) (hr : Rd w A2 (rowsV l)) (hn : l.length = n)
    (hA2 : Apart (Wf g A) A2 (rowsV l)) (hrow : ∀ r ∈ l, Rd w r.A (bs r.p) ∧ Apart (Wf g A) r.A (bs r.p)) (hx : xs.length + rowsSize l ≤ 900000000000) :
    Calls Try.prog 72 #[.pointer (some ⟨g, 0, none⟩), .slice A2 n c2] w fun e w' => e = .returned (.tuple #[]) ∧ ∃ A', Hid (WrAt w' g A' (xs ++ encRows l)) ∧
      Hid (Chg (Wf g A) w w') ∧ Hid (Moved w A A') := by
  have hsz := rowsSize_len l
  have HX := Lib.hid hx
  have HN := Lib.hid hn
  have HR := Lib.hid hr
  have HF := Lib.hid hA2
  have HROW := Lib.hid hrow
  have hn9 : n ≤ 9223372036854775807 := by omega
  clear hx hn hr hA2 hrow hsz
  go_enter Try.func72, Try.ntmps72
  go_wp2
  go_loopw [8] (fun t wr => ∃ (k : Nat) (A1 : Option Addr), k ≤ n ∧ t = .int .i64 k ∧ WrAt wr g A1 (xs ++ encRows (l.take k)) ∧
      Chg (Wf g A) w wr ∧ Moved w A A1) (fun t _ => n - (intOf t).toNat)
  case atStart => exact ⟨0, A, Nat.zero_le _, rfl, by simpa [encRows] using hw, Chg.refl _ _, .inl rfl⟩
  case round =>
    obtain ⟨k, A1, hk, rfl, hw1, hchg, hA⟩ := hrel
    have HW1 := Lib.hid hw1
    have HCHG := Lib.hid hchg
    have HA := Lib.hid hA
    clear hw1 hchg hA
    by_cases hlt : k < n
    · have e1 : (k : Int) < n := by omega
      have hkl : k < l.length := by have := HN.out; omega
      obtain ⟨ad, rfl, hc⟩ := (HR.out.chg HCHG.out HF.out) k l[k].v (by simp [rowsV, hkl])
      have hsn := encRows_snoc (l.take k) l[k]
      rw [List.take_append_getElem hkl] at hsn
      have hmem : l[k] ∈ l := List.getElem_mem hkl
      have hq := HROW.out l[k] hmem
      have hsize : rowsSize (l.take k) + (l[k].p.length + 10) ≤ rowsSize l := by
        have h1 := rowsSize_take l k
        rw [List.drop_eq_getElem_cons hkl] at h1
        simp only [rowsSize] at h1
        omega
      have hlen := encRows_len (l.take k) (fun r hr => by
        have h1 := rowsSize_take l k
        have h2 := rowsSize_mem hr
        have := HX.out
        omega)
      rcases hrk : l[k] with ⟨RA, rc, p⟩
      rw [hrk] at hc hsn hq hsize
      have HSN := Lib.hid hsn
      have HQ := Lib.hid hq
      have HS := Lib.hid hsize
      have HLEN := Lib.hid hlen
      clear hsn hq hsize hlen hmem hkl hrk
      have hc' : wr.cell? (ad.add k) = some (.slice RA p.length rc) := hc
      clear hc
      have hp9 : p.length ≤ 9223372036854775807 := by have := HS.out; have := HX.out; simp at *; omega
      go_wp2_with fail
      refine (Nums_calls g A1 _ _ _ _ [(p.length : Int)] _ (HW1.out.chg (S := nowhere) ((Chg.refl _ _).alloc _) (fun _ _ h => h)) (Rd.lit _ [_] _) rfl ?_ ?_).mono ?_
      · exact HW1.out.fresh (Nat.le_refl _) _
      · have h1 := HLEN.out
        have h2 := HS.out
        have h3 := HX.out
        simp at h1 h2 h3 ⊢
        omega
      rintro e w1 ⟨rfl, A3, h1, h2, h3⟩
      obtain ⟨h4, h5⟩ := wf_trans (HCHG.out.alloc _) HA.out h2 h3
      have H1 := Lib.hid h1
      have H4 := Lib.hid h4
      have H5 := Lib.hid h5
      clear h1 h2 h3 h4 h5
      go_wp2_with fail
      refine (wRaw_calls g A3 _ _ _ _ p _ H1.out (HQ.out.1.chg H4.out HQ.out.2) rfl ?_).mono ?_
      · have h1 := HLEN.out
        have h2 := HS.out
        have h3 := HX.out
        have h4 := encAll_len [(p.length : Int)]
        simp at h1 h2 h3 h4 ⊢
        omega
      rintro e w2 ⟨rfl, A4, h1, h2, h3⟩
      go_wp2
      obtain ⟨h4, h5⟩ := wf_trans H4.out H5.out h2.out h3.out
      refine ⟨⟨k + 1, A4, by omega, by go_num, ?_, h4, h5⟩, by simp [intOf]; omega⟩
      have h6 := h1.out
      rw [HSN.out]
      have h7 : encAll [(p.length : Int)] = enc p.length := by
        rw [encAll_one, clampN_nat _ (by have h2 := HS.out; have h3 := HX.out; omega)]
      rw [h7] at h6
      simpa [encRow] using h6
    · have e1 : (n : Int) ≤ k := by omega
      go_wp2
      go_end0
      refine ⟨rfl, A1, ?_, HCHG.out, HA.out⟩
      have := HW1.out
      rwa [List.take_of_length_le (by have := HN.out; omega)] at this
end Go.Proofs.Ytegdihpnefoolaa
end
section
open Go Go.RowKit
namespace Go.Proofs.Ytegdihpnefoolaa
def packN (n : Int) (b : List UInt8) : List UInt8 := encAll [n] ++ encRow b
def packS (n : Int) (b : List UInt8) : List UInt8 := packN n b ++ sha (packN n b)
structure Rec where
  n : Nat
  b : List UInt8
  ok : Bool
def prefB (xs ys : List UInt8) : Bool := decide (ys.length ≤ xs.length) && decide (xs.take ys.length = ys)
def rdN (all : List UInt8) : Nat := (⟨all, false⟩ : RS).num.1
def rdB (all : List UInt8) : List UInt8 := (⟨all, false⟩ : RS).num.2.row.1
def rdE (all : List UInt8) : Bool := (⟨all, false⟩ : RS).num.2.row.2.e
def formB (all : List UInt8) : Bool := !rdE all && decide (1 ≤ rdN all) && decide (rdN all ≤ 1073741824) && decide ((rdB all).length ≤ 2500)
/-- the record that a slot's bytes begin with -/
def unpS (all : List UInt8) : Rec := if formB all = true then ⟨rdN all, rdB all, prefB all (packS (rdN all) (rdB all))⟩ else ⟨0, [], false⟩
def slotB (s : FS) (i : Nat) : List UInt8 := (s.pages.drop (i * 2560)).take 2560
/-- which slot, its number, its bytes: the best of the first k -/
def bestK (s : FS) : Nat → Nat × Nat × List UInt8
  | 0 => (0, 0, [])
  | k + 1 => if ((unpS (slotB s k)).ok && decide ((bestK s k).2.1 < (unpS (slotB s k)).n)) = true then (k, (unpS (slotB s k)).n, (unpS (slotB s k)).b) else bestK s k
def bestS (s : FS) : Nat × Nat × List UInt8 := bestK s 2
/-- so many pages from the first of a slot on, one behind the other -/
theorem pages_flat {s : FS} {N : Nat} (h : s.ok N) (o : Nat) : ∀ k, o + k ≤ N → ((List.range k).map fun j => s.page (o + j)).flatten = (s.pages.drop (o * 64)).take (k * 64)
  | 0, _ => by simp
  | k + 1, hk => by
    have ih := pages_flat h o k (by omega)
    have hl := h.len
    have hf := h.fit
    rw [List.range_succ, List.map_append, List.flatten_append, ih]
    have e1 : ((List.map (fun j => s.page (o + j)) [k]).flatten) = (s.pages.drop ((o + k) * 64)).take 64 := by simp [FS.page]
    rw [e1, show (k + 1) * 64 = k * 64 + 64 by omega, List.take_add, List.drop_drop, show o * 64 + k * 64 = (o + k) * 64 by omega]
theorem slot_flat {s : FS} {N : Nat} (h : s.ok N) (hN : 80 ≤ N) (i : Nat) (hi : i < 2) : ((List.range 40).map fun j => s.page (i * 40 + j)).flatten = slotB s i := by
  rw [pages_flat h (i * 40) 40 (by omega)]
  unfold slotB
  rw [show i * 40 * 64 = i * 2560 by omega]
theorem slotB_len {s : FS} {N : Nat} (h : s.ok N) (hN : 80 ≤ N) (i : Nat) (hi : i < 2) : (slotB s i).length = 2560 := by
  have hl := h.len
  have hf := h.fit
  unfold slotB
  rw [List.length_take, List.length_drop]
  omega
theorem packN_len (n : Int) (b : List UInt8) (hb : b.length ≤ 1000000000) : (packN n b).length ≤ b.length + 18 := by
  have h1 := encAll_len [n]
  have h2 := enc_len b.length (by omega)
  unfold packN encRow
  rw [List.length_append, List.length_append]
  simp only [List.length_cons, List.length_nil] at h1
  omega
theorem packS_len (n : Int) (b : List UInt8) : (packS n b).length = (packN n b).length + 32 := by
  unfold packS
  rw [List.length_append, sha_len]
theorem rdB_len (all : List UInt8) : (rdB all).length ≤ all.length := by
  unfold rdB RS.row
  have h0 := RS.num_le ⟨all, false⟩
  have h1 := Nat.le_trans (RS.num_le (⟨all, false⟩ : RS).num.2) h0
  have h2 : ∀ (s : RS) (i : Int), (s.raw i).1.length ≤ s.b.length := fun s i => by
    unfold RS.raw
    split
    · exact Nat.zero_le _
    · simp
      omega
  exact Nat.le_trans (h2 _ _) h1
theorem unp_n (all : List UInt8) (h : (unpS all).ok = true) : 1 ≤ (unpS all).n ∧ (unpS all).n ≤ 1073741824 ∧ (unpS all).b.length ≤ 2500 := by
  unfold unpS at *
  split at h
  · rename_i hf
    rw [if_pos hf]
    simp [formB] at hf
    exact ⟨hf.1.1.2, hf.1.2, hf.2⟩
  · cases h
end Go.Proofs.Ytegdihpnefoolaa
end
