/- TgM -/
import Derived.Test.YthcleccofccbdaaTwTgA
import Derived.Test.YthcleccofccbdaaTwTgC
import Derived.Test.YthcleccofccbdaaTwRoJ
open Go Go.RowKit
namespace Go.Proofs.Ythcleccofccbdaa
/-- the state behind a digest -/
def RS.hnx (s : RS) : RS := (s.raw 32).2
theorem RS.hnx_le (s : RS) : s.hnx.b.length ≤ s.b.length := by
  unfold RS.hnx RS.raw
  split
  · exact Nat.zero_le _
  · show (s.b.drop _).length ≤ s.b.length
    rw [List.length_drop]
    omega
def tgTk (s : RS) : TargetR × RS := (⟨s.row.1, (s.row.2.num.1 : Nat), s.row.2.num.2.hsh, s.row.2.num.2.hnx.row.1, (s.row.2.num.2.hnx.row.2.num.1 : Nat), s.row.2.num.2.hnx.row.2.num.2.row.1⟩, s.row.2.num.2.hnx.row.2.num.2.row.2)
theorem numB_back {s : RS} (h : s.num.2.e = false) : s.e = false ∧ s.b = encAll [(s.num.1 : Int)] ++ s.num.2.b := by
  obtain ⟨a1, a2, a3⟩ := num_back h
  exact ⟨a1, by rw [encN a3]; exact a2⟩
theorem hnx_back {s : RS} (h : s.hnx.e = false) : s.e = false ∧ s.b = s.hsh.l ++ s.hnx.b := hsh_back h
theorem tgTakes : Takes tgTk tgE := ⟨fun s => by
  have h1 := RS.row_le s
  have h2 := RS.num_le s.row.2
  have h3 := RS.hnx_le s.row.2.num.2
  have h4 := RS.row_le s.row.2.num.2.hnx
  have h5 := RS.num_le s.row.2.num.2.hnx.row.2
  have h6 := RS.row_le s.row.2.num.2.hnx.row.2.num.2
  show s.row.2.num.2.hnx.row.2.num.2.row.2.b.length ≤ _
  omega, fun s h => by
  obtain ⟨f1, f2⟩ := row_back (s := s.row.2.num.2.hnx.row.2.num.2) h
  obtain ⟨e1, e2⟩ := numB_back (s := s.row.2.num.2.hnx.row.2) f1
  obtain ⟨d1, d2⟩ := row_back (s := s.row.2.num.2.hnx) e1
  obtain ⟨c1, c2⟩ := hnx_back (s := s.row.2.num.2) d1
  obtain ⟨b1, b2⟩ := numB_back (s := s.row.2) c1
  obtain ⟨a1, a2⟩ := row_back (s := s) b1
  refine ⟨a1, ?_⟩
  show s.b = (encRow s.row.1 ++ (encAll [(s.row.2.num.1 : Int)] ++ (s.row.2.num.2.hsh.l ++ (encRow s.row.2.num.2.hnx.row.1 ++ (encAll [(s.row.2.num.2.hnx.row.2.num.1 : Int)] ++ encRow s.row.2.num.2.hnx.row.2.num.2.row.1))))) ++ s.row.2.num.2.hnx.row.2.num.2.row.2.b
  rw [List.append_assoc, List.append_assoc, List.append_assoc, List.append_assoc, List.append_assoc, ← f2, ← e2, ← d2, ← c2, ← b2]
  exact a2⟩
theorem lay_oneT (k : Nat) (v : Value) (z : Array Value) (hk : k < z.size) : lay k #[v] z = z.setIfInBounds k v := by
  apply Array.ext'
  rw [lay, Array.toList_setIfInBounds, List.set_eq_take_append_cons_drop, if_pos (by simpa using hk)]
  simp
/-- a target's cells, loosely -/
def tgV (a b : Value) (h : H32) (x y z : Value) : List Value := a :: b :: (bs h.l ++ [x, y, z])
theorem tgV_len (a b : Value) (h : H32) (x y z : Value) : (tgV a b h x y z).toArray.size = 37 := by simp [tgV, bs_length, h.len]
theorem tgV_34 (a b : Value) (h : H32) (x y z v : Value) : (tgV a b h x y z).toArray.setIfInBounds 34 v = (tgV a b h v y z).toArray := by
  rw [sA]
  congr 1
  show a :: b :: (bs h.l ++ [x, y, z]).set 32 v = _
  rw [List.set_append_right _ _ (by rw [bs32]; exact Nat.le_refl _), bs32]
  rfl
theorem tgV_35 (a b : Value) (h : H32) (x y z v : Value) : (tgV a b h x y z).toArray.setIfInBounds 35 v = (tgV a b h x v z).toArray := by
  rw [sA]
  congr 1
  show a :: b :: (bs h.l ++ [x, y, z]).set 33 v = _
  rw [List.set_append_right _ _ (by rw [bs32]; decide), bs32]
  rfl
theorem tgV_36 (a b : Value) (h : H32) (x y z v : Value) : (tgV a b h x y z).toArray.setIfInBounds 36 v = (tgV a b h x y v).toArray := by
  rw [sA]
  congr 1
  show a :: b :: (bs h.l ++ [x, y, z]).set 34 v = _
  rw [List.set_append_right _ _ (by rw [bs32]; decide), bs32]
  rfl
theorem tgV_2 (a b : Value) (h : H32) (x y z : Value) : lay 2 (u8s h.l) (tgV a b zeroH x y z).toArray = (tgV a b h x y z).toArray := by
  apply Array.ext'
  show (tgV a b zeroH x y z).take 2 ++ (u8s h.l).toList ++ (tgV a b zeroH x y z).drop (2 + (u8s h.l).size) = tgV a b h x y z
  rw [h.size]
  show [a, b] ++ (u8s h.l).toList ++ [x, y, z] = tgV a b h x y z
  simp [tgV, u8s]
set_option maxRecDepth 100000 in
theorem run_tgB (l hw ec : List UInt8) (sz ct : Int) (h : H32) (w : World) : (Instr.build 80 #[(0, .string (strL l)), (1, .int .i64 sz), (2, .agg (u8s h.l)), (3, .string (strL hw)), (4, .int .i64 ct), (5, .string (strL ec))]).run Try.prog w = .ok (.agg (RowC.enc (⟨l, sz, h, hw, ct, ec⟩ : TargetR)).toArray) w := by
  refine run_build_struct Try.underlying80 (zv := .agg zeroTg) (fun _ => by kernel_rfl) (places := #[(0, 1), (1, 1), (2, 32), (34, 1), (35, 1), (36, 1)]) (fun _ => by kernel_rfl) ?_ w
  have hz : zeroTg = (tgV (.string ⟨#[]⟩) (.int .i64 0) zeroH (.string ⟨#[]⟩) (.int .i64 0) (.string ⟨#[]⟩)).toArray := by kernel_rfl
  have hs := tgV_len
  show Instr.fill _ zeroTg [(0, .string (strL l)), (1, .int .i64 sz), (2, .agg (u8s h.l)), (3, .string (strL hw)), (4, .int .i64 ct), (5, .string (strL ec))] = _
  rw [hz]
  rw [fill_step _ _ 0 _ _ (off := 0) (size := 1) rfl rfl (by rw [hs]; decide)]
  rw [show lay 0 (Value.string (strL l)).cells (tgV (.string ⟨#[]⟩) (.int .i64 0) zeroH (.string ⟨#[]⟩) (.int .i64 0) (.string ⟨#[]⟩)).toArray = (tgV (.string (strL l)) (.int .i64 0) zeroH (.string ⟨#[]⟩) (.int .i64 0) (.string ⟨#[]⟩)).toArray from rfl]
  rw [fill_step _ _ 1 _ _ (off := 1) (size := 1) rfl rfl (by rw [hs]; decide)]
  rw [show lay 1 (Value.int .i64 sz).cells (tgV (.string (strL l)) (.int .i64 0) zeroH (.string ⟨#[]⟩) (.int .i64 0) (.string ⟨#[]⟩)).toArray = (tgV (.string (strL l)) (.int .i64 sz) zeroH (.string ⟨#[]⟩) (.int .i64 0) (.string ⟨#[]⟩)).toArray from rfl]
  rw [fill_step _ _ 2 _ _ (off := 2) (size := 32) rfl (by show (u8s h.l).size = 32; exact h.size) (by rw [hs]; decide)]
  rw [show lay 2 (Value.agg (u8s h.l)).cells (tgV (.string (strL l)) (.int .i64 sz) zeroH (.string ⟨#[]⟩) (.int .i64 0) (.string ⟨#[]⟩)).toArray = (tgV (.string (strL l)) (.int .i64 sz) h (.string ⟨#[]⟩) (.int .i64 0) (.string ⟨#[]⟩)).toArray from tgV_2 _ _ _ _ _ _]
  rw [fill_step _ _ 3 _ _ (off := 34) (size := 1) rfl rfl (by rw [hs]; decide)]
  rw [show lay 34 (Value.string (strL hw)).cells (tgV (.string (strL l)) (.int .i64 sz) h (.string ⟨#[]⟩) (.int .i64 0) (.string ⟨#[]⟩)).toArray = (tgV (.string (strL l)) (.int .i64 sz) h (.string (strL hw)) (.int .i64 0) (.string ⟨#[]⟩)).toArray from (lay_oneT 34 _ _ (by rw [hs]; decide)).trans (tgV_34 _ _ _ _ _ _ _)]
  rw [fill_step _ _ 4 _ _ (off := 35) (size := 1) rfl rfl (by rw [hs]; decide)]
  rw [show lay 35 (Value.int .i64 ct).cells (tgV (.string (strL l)) (.int .i64 sz) h (.string (strL hw)) (.int .i64 0) (.string ⟨#[]⟩)).toArray = (tgV (.string (strL l)) (.int .i64 sz) h (.string (strL hw)) (.int .i64 ct) (.string ⟨#[]⟩)).toArray from (lay_oneT 35 _ _ (by rw [hs]; decide)).trans (tgV_35 _ _ _ _ _ _ _)]
  rw [fill_step _ _ 5 _ _ (off := 36) (size := 1) rfl rfl (by rw [hs]; decide)]
  rw [show lay 36 (Value.string (strL ec)).cells (tgV (.string (strL l)) (.int .i64 sz) h (.string (strL hw)) (.int .i64 ct) (.string ⟨#[]⟩)).toArray = (tgV (.string (strL l)) (.int .i64 sz) h (.string (strL hw)) (.int .i64 ct) (.string (strL ec))).toArray from (lay_oneT 36 _ _ (by rw [hs]; decide)).trans (tgV_36 _ _ _ _ _ _ _)]
  rfl
end Go.Proofs.Ythcleccofccbdaa
