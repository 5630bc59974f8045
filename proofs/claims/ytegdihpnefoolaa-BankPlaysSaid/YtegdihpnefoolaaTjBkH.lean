/- BkH -/
import Derived.Test.YtegdihpnefoolaaTjBkG
import Derived.Test.YtegdihpnefoolaaTjBkE
open Go Go.RowKit
namespace Go.Proofs.Ytegdihpnefoolaa
theorem lay_one (k : Nat) (v : Value) (z : Array Value) (hk : k < z.size) : lay k #[v] z = z.setIfInBounds k v := by
  apply Array.ext'
  rw [lay, Array.toList_setIfInBounds, List.set_eq_take_append_cons_drop, if_pos (by simpa using hk)]
  simp
theorem bk_lay2 (b z c : Int) (h : H32) (nm : ByteArray) (A : Option Addr) (n cc : Nat) : lay 2 (u8s h.l) (bkL b z zeroH c nm A n cc).toArray = (bkL b z h c nm A n cc).toArray := by
  apply Array.ext'
  show (bkL b z zeroH c nm A n cc).take 2 ++ (u8s h.l).toList ++ (bkL b z zeroH c nm A n cc).drop (2 + (u8s h.l).size) = bkL b z h c nm A n cc
  rw [h.size]
  show [Value.int .i64 b, .int .i64 z] ++ (u8s h.l).toList ++ (bs zeroH.l ++ [Value.int .i64 c, .string nm, .slice A n cc]).drop 32 = bkL b z h c nm A n cc
  rw [List.drop_append, List.drop_eq_nil_of_le (by rw [bs32']; exact Nat.le_refl _), bs32']
  simp [bkL, u8s]
theorem bk_fill {n c : Int} {h : H32} {nm : ByteArray} {A : Option Addr} {n' c' : Nat} {places : Array (Nat × Nat)} (hp : places = #[(0, 1), (1, 1), (2, 32), (34, 1), (35, 1), (36, 1)]) :
    Instr.fill (places[·]?) (bkL 0 0 zeroH 0 ⟨#[]⟩ none 0 0).toArray [(1, .int .i64 n), (2, .agg (u8s h.l)), (3, .int .i64 c), (4, .string nm), (5, .slice A n' c')] = some (bkL 0 n h c nm A n' c').toArray := by
  subst hp
  have hs := bkL_len
  rw [fill_step _ _ 1 _ _ (off := 1) (size := 1) rfl rfl (by rw [hs]; decide)]
  rw [show lay 1 (Value.int .i64 n).cells (bkL 0 0 zeroH 0 ⟨#[]⟩ none 0 0).toArray = (bkL 0 n zeroH 0 ⟨#[]⟩ none 0 0).toArray from (lay_one 1 _ _ (by rw [hs]; decide)).trans (bk_set1 _ _ _ _ _ _ _ _ _)]
  rw [fill_step _ _ 2 _ _ (off := 2) (size := 32) rfl (by show (u8s h.l).size = 32; exact h.size) (by rw [hs]; decide)]
  rw [show lay 2 (Value.agg (u8s h.l)).cells (bkL 0 n zeroH 0 ⟨#[]⟩ none 0 0).toArray = (bkL 0 n h 0 ⟨#[]⟩ none 0 0).toArray from bk_lay2 _ _ _ _ _ _ _ _]
  rw [fill_step _ _ 3 _ _ (off := 34) (size := 1) rfl rfl (by rw [hs]; decide)]
  rw [show lay 34 (Value.int .i64 c).cells (bkL 0 n h 0 ⟨#[]⟩ none 0 0).toArray = (bkL 0 n h c ⟨#[]⟩ none 0 0).toArray from (lay_one 34 _ _ (by rw [hs]; decide)).trans (bk_set34 _ _ _ _ _ _ _ _ _)]
  rw [fill_step _ _ 4 _ _ (off := 35) (size := 1) rfl rfl (by rw [hs]; decide)]
  rw [show lay 35 (Value.string nm).cells (bkL 0 n h c ⟨#[]⟩ none 0 0).toArray = (bkL 0 n h c nm none 0 0).toArray from (lay_one 35 _ _ (by rw [hs]; decide)).trans (bk_set35 _ _ _ _ _ _ _ _ _)]
  rw [fill_step _ _ 5 _ _ (off := 36) (size := 1) rfl rfl (by rw [hs]; decide)]
  rw [show lay 36 (Value.slice A n' c').cells (bkL 0 n h c nm none 0 0).toArray = (bkL 0 n h c nm A n' c').toArray from (lay_one 36 _ _ (by rw [hs]; decide)).trans (bk_set36 _ _ _ _ _ _ _ _ _ _ _)]
  rfl
theorem run_bkP (n c : Int) (h : H32) (nm : ByteArray) (A : Option Addr) (n' c' : Nat) (w : World) : (Instr.build 54 #[(1, .int .i64 n), (2, .agg (u8s h.l)), (3, .int .i64 c), (4, .string nm), (5, .slice A n' c')]).run Try.prog w = .ok (.agg (bkL 0 n h c nm A n' c').toArray) w :=
  run_build_struct Try.underlying54 (zv := .agg (bkL 0 0 zeroH 0 ⟨#[]⟩ none 0 0).toArray) (fun _ => by kernel_rfl) (places := #[(0, 1), (1, 1), (2, 32), (34, 1), (35, 1), (36, 1)]) (fun _ => by kernel_rfl) (bk_fill rfl) w
theorem run_bkR (n c : Int) (h : H32) (nm : ByteArray) (A : Option Addr) (n' c' : Nat) (w : World) : (Instr.build 57 #[(1, .int .i64 n), (2, .agg (u8s h.l)), (3, .int .i64 c), (4, .string nm), (5, .slice A n' c')]).run Try.prog w = .ok (.agg (bkL 0 n h c nm A n' c').toArray) w :=
  run_build_struct Try.underlying57 (zv := .agg (bkL 0 0 zeroH 0 ⟨#[]⟩ none 0 0).toArray) (fun _ => by kernel_rfl) (places := #[(0, 1), (1, 1), (2, 32), (34, 1), (35, 1), (36, 1)]) (fun _ => by kernel_rfl) (bk_fill rfl) w
theorem decS_lens (b : List UInt8) : (decS b).name.length ≤ b.length ∧ (decS b).mind.length ≤ b.length := by
  have hb0 : (bkS b).b.length = b.length := rfl
  have l2 : (dS2 b).b.length ≤ b.length := by rw [← hb0]; exact RS.at_le _ 2
  have l3 : (dS3 b).b.length ≤ b.length := Nat.le_trans (RS.raw_l _ _) l2
  have l4 : (dS4 b).b.length ≤ b.length := Nat.le_trans (RS.num_le _) l3
  have l5 : (dS5 b).b.length ≤ b.length := Nat.le_trans (RS.row_le _) l4
  exact ⟨Nat.le_trans (RS.row_1 _) l4, Nat.le_trans (RS.row_1 _) l5⟩
theorem boot_lens (N : Nat) (s : FS) : (bootS N s).1.name.length ≤ 2500 ∧ (bootS N s).1.mind.length ≤ 2500 := by
  have h := decS_lens (bestS s).2.2
  have h2 : (bestS s).2.2.length ≤ 2500 := bestK_len s 2
  unfold bootS
  split
  · exact ⟨Nat.zero_le _, Nat.zero_le _⟩
  · split
    · exact ⟨Nat.zero_le _, Nat.zero_le _⟩
    · split
      · split
        · exact ⟨Nat.le_trans h.1 h2, Nat.le_trans h.2 h2⟩
        · exact ⟨Nat.zero_le _, Nat.zero_le _⟩
      · exact ⟨Nat.zero_le _, Nat.zero_le _⟩
theorem boot_facts {N : Nat} {s : FS} (h : (bootS N s).2.2 = 0) : (bootS N s).1.bank < 2 ∧ (bootS N s).1.size ≤ 512 := by
  unfold bootS at *
  split at h
  · cases h
  · rename_i h1
    rw [if_neg h1]
    split at h
    · cases h
    · rename_i h2
      rw [if_neg h2]
      split at h
      · rename_i h3
        rw [if_pos h3]
        split at h
        · rename_i h4
          rw [if_pos h4]
          rw [dOk] at h3
          simp only [Bool.and_eq_true, decide_eq_true_eq] at h3
          exact ⟨h3.1.2, h3.2⟩
        · cases h
      · cases h
theorem chg_two {w w' : World} {g p : Nat} (h : Step nowhere w w') : Step (Two g p) w w' := ⟨h.chg.mono (fun _ _ h => h.elim)⟩
set_option maxRecDepth 100000 in
set_option maxHeartbeats 3200000 in
theorem bkInstall_calls {g p N : Nat} {s : FS} {w : World} (hF : FlashAt w g p N s) {I M : Option Addr} {n c m d : Nat} {img mind nm : List UInt8} (cnt : Int) [hI : HR w I (bs img)] (hn : img.length = n) (hnc : n ≤ c) (hn9 : n ≤ 9223372036854775807) (hIa : Apart (Two g p) I (bs img)) [hM : HR w M (bs mind)] (hm : mind.length = m) (hm9 : m ≤ 9223372036854775807) (hMa : Apart (Two g p) M (bs mind)) (hnm9 : nm.length ≤ 9223372036854775807) :
    Calls Try.prog 30 #[.pointer (some ⟨g, 0, none⟩), .string (strL nm), .slice I n c, .int .i64 cnt, .slice M m d] w fun e w' => e = .returned (.int .i64 ((instS N s nm img cnt mind).1 : Int)) ∧ Hid (FlashAt w' g p N (instS N s nm img cnt mind).2) ∧ Step (Two g p) w w' := by
  have HF := Lib.hid hF
  have HOK := Lib.hid hF.ok
  have hN9 := hF.ok.most
  obtain ⟨r, hr⟩ : ∃ r, r = instS N s nm img cnt mind := ⟨_, rfl⟩
  have hr2 := hr
  unfold instS at hr2
  rw [hn, hm] at hr2
  rw [← hr]
  obtain ⟨Bq, hBq⟩ : ∃ Bq, Bq = bootS N s := ⟨_, rfl⟩
  have hbd0 : Bq.2.2 = 0 → Bq.1.bank < 2 := fun h => by rw [hBq] at h ⊢; exact (boot_facts h).1
  have HBQ := Lib.hid hBq
  rw [← hBq] at hr2
  obtain ⟨ns, hns⟩ : ∃ ns : Nat, ((strL nm).size : Int) = (ns : Int) ∧ nm.length = ns := ⟨nm.length, by
    constructor
    · show ((nm.toArray.size : Nat) : Int) = _
      rw [List.size_toArray]
    · rfl⟩
  rw [hns.2] at hr2
  have hnsz := hns.1
  have hns9 : ns ≤ 9223372036854775807 := by rw [← hns.2]; exact hnm9
  have hnl : nm.length = ns := hns.2
  have HNL := Lib.hid hnl
  have HR2 := Lib.hid hr2
  have HN := Lib.hid hn
  have HM := Lib.hid hm
  have HIR := Lib.hid hI.out
  have HMR := Lib.hid hM.out
  have oI : OffR (Two g p) I (bs img) := ⟨hIa⟩
  have oM : OffR (Two g p) M (bs mind) := ⟨hMa⟩
  have HIA := Lib.hid hIa
  clear hF hr hr2 hBq hns hn hm hIa hMa hnl hnm9
  go_enter Try.func30, Try.ntmps30
  go_wp2_with (first | go_skip | ((with_reducible apply wpl_alloc); intro z wz _ _ _) | ((with_reducible apply wpl_loadrow); (exact rfl); infer_instance; infer_instance; (first | (with_reducible assumption) | (with_reducible exact H32.size _) | kernel_rfl)) | ((with_reducible apply wpl_loadcellN); (exact rfl); infer_instance; (exact rfl)) | ((with_reducible apply wpl_storerow); (exact rfl); (exact rfl); infer_instance; infer_instance; (first | (with_reducible assumption) | (with_reducible exact H32.size _) | kernel_rfl); (first | (with_reducible assumption) | (with_reducible exact H32.size _) | kernel_rfl); (first | (with_reducible exact u8s_one _) | (with_reducible assumption) | kernel_rfl); intro ws _ _) | ((with_reducible apply wpl_storecell); (exact rfl); (exact rfl); infer_instance; (exact rfl); (first | (with_reducible assumption) | omega | (focus (simp; done)) | (focus (simp; omega; done)) | decide); intro ws _ _))
  refine (Len_calls g p N s _ HF.out).mono ?_
  rintro e w1 ⟨rfl, hw1⟩
  obtain rfl := hw1.symm
  go_wp2_with (first | go_skip | ((with_reducible apply wpl_alloc); intro z wz _ _ _) | ((with_reducible apply wpl_loadrow); (exact rfl); infer_instance; infer_instance; (first | (with_reducible assumption) | (with_reducible exact H32.size _) | kernel_rfl)) | ((with_reducible apply wpl_loadcellN); (exact rfl); infer_instance; (exact rfl)) | ((with_reducible apply wpl_storerow); (exact rfl); (exact rfl); infer_instance; infer_instance; (first | (with_reducible assumption) | (with_reducible exact H32.size _) | kernel_rfl); (first | (with_reducible assumption) | (with_reducible exact H32.size _) | kernel_rfl); (first | (with_reducible exact u8s_one _) | (with_reducible assumption) | kernel_rfl); intro ws _ _) | ((with_reducible apply wpl_storecell); (exact rfl); (exact rfl); infer_instance; (exact rfl); (first | (with_reducible assumption) | omega | (focus (simp; done)) | (focus (simp; omega; done)) | decide); intro ws _ _))
  refine (bkPages_calls _).mono ?_
  rintro e w1 ⟨rfl, hw1⟩
  obtain rfl := hw1.symm
  by_cases hN : N < 96
  · have hNI : (N : Int) < 96 := by omega
    have HE : Hid (r = (1, s)) := Lib.hid (by rw [HR2.out, if_pos hN])
    clear HR2
    go_wp2_with (first | go_skip | ((with_reducible apply wpl_alloc); intro z wz _ _ _) | ((with_reducible apply wpl_loadrow); (exact rfl); infer_instance; infer_instance; (first | (with_reducible assumption) | (with_reducible exact H32.size _) | kernel_rfl)) | ((with_reducible apply wpl_loadcellN); (exact rfl); infer_instance; (exact rfl)) | ((with_reducible apply wpl_storerow); (exact rfl); (exact rfl); infer_instance; infer_instance; (first | (with_reducible assumption) | (with_reducible exact H32.size _) | kernel_rfl); (first | (with_reducible assumption) | (with_reducible exact H32.size _) | kernel_rfl); (first | (with_reducible exact u8s_one _) | (with_reducible assumption) | kernel_rfl); intro ws _ _) | ((with_reducible apply wpl_storecell); (exact rfl); (exact rfl); infer_instance; (exact rfl); (first | (with_reducible assumption) | omega | (focus (simp; done)) | (focus (simp; omega; done)) | decide); intro ws _ _))
    go_ret
    rw [HE.out]
    exact ⟨rfl, HF, chg_two stepN⟩
  have hNI : ¬ (N : Int) < 96 := by omega
  have HR3 := Lib.hid (HR2.out.trans (if_neg hN))
  clear HR2
  go_wp2_with (first | go_skip | ((with_reducible apply wpl_alloc); intro z wz _ _ _) | ((with_reducible apply wpl_loadrow); (exact rfl); infer_instance; infer_instance; (first | (with_reducible assumption) | (with_reducible exact H32.size _) | kernel_rfl)) | ((with_reducible apply wpl_loadcellN); (exact rfl); infer_instance; (exact rfl)) | ((with_reducible apply wpl_storerow); (exact rfl); (exact rfl); infer_instance; infer_instance; (first | (with_reducible assumption) | (with_reducible exact H32.size _) | kernel_rfl); (first | (with_reducible assumption) | (with_reducible exact H32.size _) | kernel_rfl); (first | (with_reducible exact u8s_one _) | (with_reducible assumption) | kernel_rfl); intro ws _ _) | ((with_reducible apply wpl_storecell); (exact rfl); (exact rfl); infer_instance; (exact rfl); (first | (with_reducible assumption) | omega | (focus (simp; done)) | (focus (simp; omega; done)) | decide); intro ws _ _))
  refine (Dead_calls g p N s _ HF.out).mono ?_
  rintro e w1 ⟨rfl, hw1⟩
  obtain rfl := hw1.symm
  rcases hd : s.dead with _ | _
  case true =>
    have HE : Hid (r = (11, s)) := Lib.hid (by rw [HR3.out, if_pos hd])
    clear HR3
    go_wp2_with (first | go_skip | ((with_reducible apply wpl_alloc); intro z wz _ _ _) | ((with_reducible apply wpl_loadrow); (exact rfl); infer_instance; infer_instance; (first | (with_reducible assumption) | (with_reducible exact H32.size _) | kernel_rfl)) | ((with_reducible apply wpl_loadcellN); (exact rfl); infer_instance; (exact rfl)) | ((with_reducible apply wpl_storerow); (exact rfl); (exact rfl); infer_instance; infer_instance; (first | (with_reducible assumption) | (with_reducible exact H32.size _) | kernel_rfl); (first | (with_reducible assumption) | (with_reducible exact H32.size _) | kernel_rfl); (first | (with_reducible exact u8s_one _) | (with_reducible assumption) | kernel_rfl); intro ws _ _) | ((with_reducible apply wpl_storecell); (exact rfl); (exact rfl); infer_instance; (exact rfl); (first | (with_reducible assumption) | omega | (focus (simp; done)) | (focus (simp; omega; done)) | decide); intro ws _ _))
    go_ret
    rw [HE.out]
    exact ⟨rfl, HF, chg_two stepN⟩
  have HR4 := Lib.hid (HR3.out.trans (if_neg (by rw [hd]; decide)))
  clear HR3
  by_cases c1 : 512 < n
  · have c1I : 512 < (n : Int) := by omega
    have HE : Hid (r = (10, s)) := Lib.hid (by rw [HR4.out, if_pos (.inl c1)])
    clear HR4
    go_wp2_with (first | go_skip | ((with_reducible apply wpl_alloc); intro z wz _ _ _) | ((with_reducible apply wpl_loadrow); (exact rfl); infer_instance; infer_instance; (first | (with_reducible assumption) | (with_reducible exact H32.size _) | kernel_rfl)) | ((with_reducible apply wpl_loadcellN); (exact rfl); infer_instance; (exact rfl)) | ((with_reducible apply wpl_storerow); (exact rfl); (exact rfl); infer_instance; infer_instance; (first | (with_reducible assumption) | (with_reducible exact H32.size _) | kernel_rfl); (first | (with_reducible assumption) | (with_reducible exact H32.size _) | kernel_rfl); (first | (with_reducible exact u8s_one _) | (with_reducible assumption) | kernel_rfl); intro ws _ _) | ((with_reducible apply wpl_storecell); (exact rfl); (exact rfl); infer_instance; (exact rfl); (first | (with_reducible assumption) | omega | (focus (simp; done)) | (focus (simp; omega; done)) | decide); intro ws _ _))
    go_ret
    rw [HE.out]
    exact ⟨rfl, HF, chg_two stepN⟩
  have c1I : ¬ 512 < (n : Int) := by omega
  by_cases c2 : 12 < ns
  · have c2I : 12 < (ns : Int) := by omega
    have HE : Hid (r = (10, s)) := Lib.hid (by rw [HR4.out, if_pos (.inr (.inl c2))])
    clear HR4
    go_wp2_with (first | go_skip | ((with_reducible apply wpl_alloc); intro z wz _ _ _) | ((with_reducible apply wpl_loadrow); (exact rfl); infer_instance; infer_instance; (first | (with_reducible assumption) | (with_reducible exact H32.size _) | kernel_rfl)) | ((with_reducible apply wpl_loadcellN); (exact rfl); infer_instance; (exact rfl)) | ((with_reducible apply wpl_storerow); (exact rfl); (exact rfl); infer_instance; infer_instance; (first | (with_reducible assumption) | (with_reducible exact H32.size _) | kernel_rfl); (first | (with_reducible assumption) | (with_reducible exact H32.size _) | kernel_rfl); (first | (with_reducible exact u8s_one _) | (with_reducible assumption) | kernel_rfl); intro ws _ _) | ((with_reducible apply wpl_storecell); (exact rfl); (exact rfl); infer_instance; (exact rfl); (first | (with_reducible assumption) | omega | (focus (simp; done)) | (focus (simp; omega; done)) | decide); intro ws _ _))
    go_ret
    rw [HE.out]
    exact ⟨rfl, HF, chg_two stepN⟩
  have c2I : ¬ 12 < (ns : Int) := by omega
  by_cases c3 : 2000 < m
  · have c3I : 2000 < (m : Int) := by omega
    have HE : Hid (r = (10, s)) := Lib.hid (by rw [HR4.out, if_pos (.inr (.inr c3))])
    clear HR4
    go_wp2_with (first | go_skip | ((with_reducible apply wpl_alloc); intro z wz _ _ _) | ((with_reducible apply wpl_loadrow); (exact rfl); infer_instance; infer_instance; (first | (with_reducible assumption) | (with_reducible exact H32.size _) | kernel_rfl)) | ((with_reducible apply wpl_loadcellN); (exact rfl); infer_instance; (exact rfl)) | ((with_reducible apply wpl_storerow); (exact rfl); (exact rfl); infer_instance; infer_instance; (first | (with_reducible assumption) | (with_reducible exact H32.size _) | kernel_rfl); (first | (with_reducible assumption) | (with_reducible exact H32.size _) | kernel_rfl); (first | (with_reducible exact u8s_one _) | (with_reducible assumption) | kernel_rfl); intro ws _ _) | ((with_reducible apply wpl_storecell); (exact rfl); (exact rfl); infer_instance; (exact rfl); (first | (with_reducible assumption) | omega | (focus (simp; done)) | (focus (simp; omega; done)) | decide); intro ws _ _))
    go_ret
    rw [HE.out]
    exact ⟨rfl, HF, chg_two stepN⟩
  have c3I : ¬ 2000 < (m : Int) := by omega
  have HR5 := Lib.hid (HR4.out.trans (if_neg (by omega)))
  clear HR4
  by_cases c4 : cnt < 0
  · have HE : Hid (r = (1, s)) := Lib.hid (by rw [HR5.out, if_pos (.inl c4)])
    clear HR5
    go_wp2_with (first | go_skip | ((with_reducible apply wpl_alloc); intro z wz _ _ _) | ((with_reducible apply wpl_loadrow); (exact rfl); infer_instance; infer_instance; (first | (with_reducible assumption) | (with_reducible exact H32.size _) | kernel_rfl)) | ((with_reducible apply wpl_loadcellN); (exact rfl); infer_instance; (exact rfl)) | ((with_reducible apply wpl_storerow); (exact rfl); (exact rfl); infer_instance; infer_instance; (first | (with_reducible assumption) | (with_reducible exact H32.size _) | kernel_rfl); (first | (with_reducible assumption) | (with_reducible exact H32.size _) | kernel_rfl); (first | (with_reducible exact u8s_one _) | (with_reducible assumption) | kernel_rfl); intro ws _ _) | ((with_reducible apply wpl_storecell); (exact rfl); (exact rfl); infer_instance; (exact rfl); (first | (with_reducible assumption) | omega | (focus (simp; done)) | (focus (simp; omega; done)) | decide); intro ws _ _))
    go_ret
    rw [HE.out]
    exact ⟨rfl, HF, chg_two stepN⟩
  by_cases c5 : 1073741824 < cnt
  · have HE : Hid (r = (1, s)) := Lib.hid (by rw [HR5.out, if_pos (.inr c5)])
    clear HR5
    go_wp2_with (first | go_skip | ((with_reducible apply wpl_alloc); intro z wz _ _ _) | ((with_reducible apply wpl_loadrow); (exact rfl); infer_instance; infer_instance; (first | (with_reducible assumption) | (with_reducible exact H32.size _) | kernel_rfl)) | ((with_reducible apply wpl_loadcellN); (exact rfl); infer_instance; (exact rfl)) | ((with_reducible apply wpl_storerow); (exact rfl); (exact rfl); infer_instance; infer_instance; (first | (with_reducible assumption) | (with_reducible exact H32.size _) | kernel_rfl); (first | (with_reducible assumption) | (with_reducible exact H32.size _) | kernel_rfl); (first | (with_reducible exact u8s_one _) | (with_reducible assumption) | kernel_rfl); intro ws _ _) | ((with_reducible apply wpl_storecell); (exact rfl); (exact rfl); infer_instance; (exact rfl); (first | (with_reducible assumption) | omega | (focus (simp; done)) | (focus (simp; omega; done)) | decide); intro ws _ _))
    go_ret
    rw [HE.out]
    exact ⟨rfl, HF, chg_two stepN⟩
  have HR6 := Lib.hid (HR5.out.trans (if_neg (by omega)))
  clear HR5
  obtain ⟨cn, rfl⟩ : ∃ cn : Nat, cnt = (cn : Int) := ⟨cnt.toNat, by omega⟩
  obtain ⟨E, hE⟩ : ∃ E, E = Bq.2.2 := ⟨_, rfl⟩
  obtain ⟨Ec, hEc⟩ : ∃ Ec, Ec = Bq.1.cnt := ⟨_, rfl⟩
  obtain ⟨Eb, hEb⟩ : ∃ Eb, Eb = Bq.1.bank := ⟨_, rfl⟩
  obtain ⟨S, hS⟩ : ∃ S : H32, S = ⟨sha img, sha_len _⟩ := ⟨_, rfl⟩
  have hSl : S.l = sha img := by rw [hS]
  have hnb : nextBank N s = if E = 0 then 1 - Eb else 0 := by rw [nextBank, ← HBQ.out, ← hE, ← hEb]
  have hns : nextSt N s nm img (cn : Int) mind = ⟨nextBank N s, n, S, cn, nm, mind⟩ := by
    rw [nextSt, ← hS, HN.out]
    rfl
  rw [hns, hnb] at HR6
  have hb2 : E = 0 → Eb < 2 := by rw [hE, hEb]; exact hbd0
  rw [← hE, ← hEc] at HR6
  have HSL := Lib.hid hSl
  have kbs := run_bkP (n : Int) (cn : Int) S (strL nm) M m d
  have HEc := Lib.hid hEc
  have HEb := Lib.hid hEb
  have HE := Lib.hid hE
  have HB2 := Lib.hid hb2
  clear hS hSl hnb hns hb2 hbd0 hE hEc hEb
  go_wp2_with (first | go_skip | ((with_reducible apply wpl_alloc); intro z wz _ _ _) | ((with_reducible apply wpl_loadrow); (exact rfl); infer_instance; infer_instance; (first | (with_reducible assumption) | (with_reducible exact H32.size _) | kernel_rfl)) | ((with_reducible apply wpl_loadcellN); (exact rfl); infer_instance; (exact rfl)) | ((with_reducible apply wpl_storerow); (exact rfl); (exact rfl); infer_instance; infer_instance; (first | (with_reducible assumption) | (with_reducible exact H32.size _) | kernel_rfl); (first | (with_reducible assumption) | (with_reducible exact H32.size _) | kernel_rfl); (first | (with_reducible exact u8s_one _) | (with_reducible assumption) | kernel_rfl); intro ws _ _) | ((with_reducible apply wpl_storecell); (exact rfl); (exact rfl); infer_instance; (exact rfl); (first | (with_reducible assumption) | omega | (focus (simp; done)) | (focus (simp; omega; done)) | decide); intro ws _ _))
  refine (bkBoot_calls HF.out).mono ?_
  rw [← HBQ.out]
  unfold BootQ
  rw [← HE.out, ← HEc.out, ← HEb.out]
  rintro e w2 ⟨Mq, mq, dq, Iq, nq, cq, rfl, _, _, _, _, _, _, _, _, _⟩
  have HF2 : Hid (FlashAt w2 g p N s) := Lib.hid (HF.out.calm (stepN (w0 := w) (w := w2)).chg)
  have hq := bkL_len Eb Bq.1.size Bq.1.sum Ec (strL Bq.1.name) Mq mq dq
  have ho := bkL_one Eb Bq.1.size Bq.1.sum Ec (strL Bq.1.name) Mq mq dq
  have hs0 := bkL_len 0 0 zeroH 0 ⟨#[]⟩ none 0 0
  have hs1 := bkL_len 0 n S cn (strL nm) M m d
  have ho1 := bkL_one 0 n S cn (strL nm) M m d
  have n2 : Nw w w2 := inferInstance
  have hI2 : HR w2 I (bs img) := ⟨HIR.out.later n2.out⟩
  obtain ⟨EI, hEI⟩ : ∃ EI : Int, EI = (E : Int) := ⟨_, rfl⟩
  rw [← hEI]
  by_cases e1 : E ≠ 0 ∧ E ≠ 9
  · have eA : ¬ EI = 0 := by omega
    have eB : ¬ EI = 9 := by omega
    have eC : (EI != 0) = true := by simp [eA]
    have eD : (EI != 9) = true := by simp [eB]
    have HX : Hid (r = (E, s)) := Lib.hid (by rw [HR6.out, if_pos e1])
    have HEI := Lib.hid hEI
    clear HR6 eA eB hEI e1
    go_wp2_with (first | go_skip | ((with_reducible apply wpl_storerow); (exact rfl); (exact rfl); infer_instance; infer_instance; (exact hq); (exact hs0); (exact ho); intro wq _ hbq) | ((with_reducible apply (wpl_alloc (dst := some 11))); intro zq wzq _ _ _) | ((with_reducible apply wpl_alloc); intro z wz _ _ _) | ((with_reducible apply wpl_loadrow); (exact rfl); infer_instance; infer_instance; (first | (with_reducible assumption) | (with_reducible exact H32.size _) | kernel_rfl)) | ((with_reducible apply wpl_loadcellN); (exact rfl); infer_instance; (exact rfl)) | ((with_reducible apply wpl_storerow); (exact rfl); (exact rfl); infer_instance; infer_instance; (first | (with_reducible assumption) | (with_reducible exact H32.size _) | kernel_rfl); (first | (with_reducible assumption) | (with_reducible exact H32.size _) | kernel_rfl); (first | (with_reducible exact u8s_one _) | (with_reducible assumption) | kernel_rfl); intro ws _ _) | ((with_reducible apply wpl_storecell); (exact rfl); (exact rfl); infer_instance; (exact rfl); (first | (with_reducible assumption) | omega | (focus (simp; done)) | (focus (simp; omega; done)) | decide); intro ws _ _))
    go_ret
    rw [HX.out, HEI.out]
    exact ⟨rfl, Lib.hid (HF2.out.calm (stepN (w0 := w2)).chg), chg_two stepN⟩
  · have HR7 := Lib.hid (HR6.out.trans (if_neg e1))
    clear HR6
    by_cases e0 : E = 0
    · have eD : (EI == 0) = true := by simp; omega
      have eC : (EI != 0) = false := by simp; omega
      have hEb2 := HB2.out e0
      have HEC0 : Hid (∀ x : Nat, r = (if x < Ec then (5, s) else r) → True) := Lib.hid (fun _ _ => trivial)
      have HR7b : Hid (r = if (cn : Int) < (Ec : Int) then (5, s) else if (layS N s (80 + (1 - Eb) * 8) img).1 ≠ 0 then layS N s (80 + (1 - Eb) * 8) img else saveN N (layS N s (80 + (1 - Eb) * 8) img).2 (BSt.enc ⟨1 - Eb, n, S, cn, nm, mind⟩)) := Lib.hid (by
        rw [HR7.out, if_pos e0]
        by_cases h : (cn : Int) < (Ec : Int)
        · rw [if_pos h, if_pos ⟨e0, h⟩]
        · rw [if_neg h, if_neg (fun h2 => h h2.2)])
      clear HR7 HEC0 hEI e0
      go_wp2_with (first | go_skip | ((with_reducible apply wpl_storerow); (exact rfl); (exact rfl); infer_instance; infer_instance; (exact hq); (exact hs0); (exact ho); intro wq _ hbq) | ((with_reducible apply (wpl_alloc (dst := some 11))); intro zq wzq _ _ _) | ((with_reducible apply wpl_alloc); intro z wz _ _ _) | ((with_reducible apply wpl_loadrow); (exact rfl); infer_instance; infer_instance; (first | (with_reducible assumption) | (with_reducible exact H32.size _) | kernel_rfl)) | ((with_reducible apply wpl_loadcellN); (exact rfl); infer_instance; (exact rfl)) | ((with_reducible apply wpl_storerow); (exact rfl); (exact rfl); infer_instance; infer_instance; (first | (with_reducible assumption) | (with_reducible exact H32.size _) | kernel_rfl); (first | (with_reducible assumption) | (with_reducible exact H32.size _) | kernel_rfl); (first | (with_reducible exact u8s_one _) | (with_reducible assumption) | kernel_rfl); intro ws _ _) | ((with_reducible apply wpl_storecell); (exact rfl); (exact rfl); infer_instance; (exact rfl); (first | (with_reducible assumption) | omega | (focus (simp; done)) | (focus (simp; omega; done)) | decide); intro ws _ _))
      have nq' : Nw w wq := inferInstance
      have hIq : HR wq I (bs img) := ⟨HIR.out.later nq'.out⟩
      have HFq : Hid (FlashAt wq g p N s) := Lib.hid (HF2.out.calm (stepN (w0 := w2) (w := wq)).chg)
      have HQ := Lib.hid hbq
      refine (dSum_calls I n c img wq hIq.out HN.out hnc (by omega)).mono ?_
      rw [← HSL.out]
      rintro e w3 ⟨rfl, hc3⟩
      have s3 : Step nowhere wq w3 := ⟨hc3.out⟩
      clear hc3

      by_cases c6 : cn < Ec
      · have c6I : (cn : Int) < (Ec : Int) := by omega
        have HX : Hid (r = (5, s)) := Lib.hid (by rw [HR7b.out, if_pos c6I])
        clear HR7b
        go_wp2_with (first | go_skip | ((with_reducible apply (stop_dst (dst := some 61))); (try simp only [Act.put, sA, sB, sC]); ((with_reducible apply (wpl_build (dst := some 61))); (exact kbs _))) | ((with_reducible apply wpl_storerow); (exact rfl); (exact rfl); infer_instance; infer_instance; (exact hs1); (exact hs0); (exact ho1); intro wn _ hbn) | ((with_reducible apply (wpl_loadcell (k := 34))); (exact rfl); (exact (inferInstance : HB wn zq 54 (bkL Eb Bq.1.size Bq.1.sum Ec (strL Bq.1.name) Mq mq dq).toArray)); (exact bk_get34 _ _ _ _ _ _ _ _)) | ((with_reducible apply (wpl_alloc (dst := some 14))); intro zn wzn _ _ _) | ((with_reducible apply wpl_alloc); intro z wz _ _ _) | ((with_reducible apply wpl_loadrow); (exact rfl); infer_instance; infer_instance; (first | (with_reducible assumption) | (with_reducible exact H32.size _) | kernel_rfl)) | ((with_reducible apply wpl_loadcellN); (exact rfl); infer_instance; (exact rfl)) | ((with_reducible apply wpl_storerow); (exact rfl); (exact rfl); infer_instance; infer_instance; (first | (with_reducible assumption) | (with_reducible exact H32.size _) | kernel_rfl); (first | (with_reducible assumption) | (with_reducible exact H32.size _) | kernel_rfl); (first | (with_reducible exact u8s_one _) | (with_reducible assumption) | kernel_rfl); intro ws _ _) | ((with_reducible apply wpl_storecell); (exact rfl); (exact rfl); infer_instance; (exact rfl); (first | (with_reducible assumption) | omega | (focus (simp; done)) | (focus (simp; omega; done)) | decide); intro ws _ _))
        go_ret
        rw [HX.out]
        exact ⟨rfl, Lib.hid (HFq.out.calm (stepN (w0 := wq) (w := wn)).chg), chg_two stepN⟩
      · have c6I : ¬ (cn : Int) < (Ec : Int) := by omega
        have HR8 := Lib.hid (HR7b.out.trans (if_neg c6I))
        clear HR7b
        obtain ⟨NB, hNB⟩ : ∃ NB, NB = 1 - Eb := ⟨_, rfl⟩
        have hsub : (1 : Int) - (Eb : Int) = (NB : Int) := by omega
        have hNB2 : NB < 2 := by omega
        rw [← hNB] at HR8
        have hk0 : 0 < (bkL 0 n S cn (strL nm) M m d).toArray.size := by rw [hs1]; decide
        clear hNB
        go_wp2_with (first | go_skip | ((with_reducible apply (stop_dst (dst := some 61))); (try simp only [Act.put, sA, sB, sC]); ((with_reducible apply (wpl_build (dst := some 61))); (exact kbs _))) | ((with_reducible apply wpl_storerow); (exact rfl); (exact rfl); infer_instance; infer_instance; (exact hs1); (exact hs0); (exact ho1); intro wn _ hbn) | ((with_reducible apply (wpl_loadcell (k := 34))); (exact rfl); (exact (inferInstance : HB wn zq 54 (bkL Eb Bq.1.size Bq.1.sum Ec (strL Bq.1.name) Mq mq dq).toArray)); (exact bk_get34 _ _ _ _ _ _ _ _)) | ((with_reducible apply (wpl_loadcell (k := 0))); (exact rfl); (exact (inferInstance : HB wn zq 54 (bkL Eb Bq.1.size Bq.1.sum Ec (strL Bq.1.name) Mq mq dq).toArray)); (exact bk_get0 _ _ _ _ _ _ _ _)) | ((with_reducible apply (wpl_storecell (k := 0) (v := .int .i64 (NB : Int)))); (exact rfl); (exact rfl); (exact hbn); (exact rfl); (exact hk0); intro wz _ hbz) | ((with_reducible apply (wpl_alloc (dst := some 14))); intro zn wzn _ _ _) | ((with_reducible apply wpl_alloc); intro z wz _ _ _) | ((with_reducible apply wpl_loadrow); (exact rfl); infer_instance; infer_instance; (first | (with_reducible assumption) | (with_reducible exact H32.size _) | kernel_rfl)) | ((with_reducible apply wpl_loadcellN); (exact rfl); infer_instance; (exact rfl)) | ((with_reducible apply wpl_storerow); (exact rfl); (exact rfl); infer_instance; infer_instance; (first | (with_reducible assumption) | (with_reducible exact H32.size _) | kernel_rfl); (first | (with_reducible assumption) | (with_reducible exact H32.size _) | kernel_rfl); (first | (with_reducible exact u8s_one _) | (with_reducible assumption) | kernel_rfl); intro ws _ _) | ((with_reducible apply wpl_storecell); (exact rfl); (exact rfl); infer_instance; (exact rfl); (first | (with_reducible assumption) | omega | (focus (simp; done)) | (focus (simp; omega; done)) | decide); intro ws _ _))
        have hzg : HB wz zn 54 (bkL NB n S cn (strL nm) M m d).toArray := by
          have h1 := hbz.out
          rw [bk_set0] at h1
          exact ⟨h1⟩
        have nx : Nw w wz := inferInstance
        have HFX : Hid (FlashAt wz g p N s) := Lib.hid (HFq.out.calm (stepN (w0 := wq) (w := wz)).chg)
        have hznl : w.heap.size ≤ zn := Nat.le_trans (inferInstance : SzLe w w3).out (Nat.le_of_eq (inferInstance : Born w3 zn).eq.symm)
        have ozn : OffB (Two g p) zn := ⟨fun h => by
          have h1 := HFq.out.lts
          have h2 := (inferInstance : SzLe wq w3).out
          have h3 := (inferInstance : Born w3 zn).eq
          rcases h with h | h <;> omega⟩
        go_wp2_with (first | go_skip | ((with_reducible apply (wpl_loadcell (k := 0))); (exact rfl); (exact hzg); (exact bk_get0 _ _ _ _ _ _ _ _)) | ((with_reducible apply wpl_alloc); intro z wz _ _ _) | ((with_reducible apply wpl_loadrow); (exact rfl); infer_instance; infer_instance; (first | (with_reducible assumption) | (with_reducible exact H32.size _) | kernel_rfl)) | ((with_reducible apply wpl_loadcellN); (exact rfl); infer_instance; (exact rfl)) | ((with_reducible apply wpl_storerow); (exact rfl); (exact rfl); infer_instance; infer_instance; (first | (with_reducible assumption) | (with_reducible exact H32.size _) | kernel_rfl); (first | (with_reducible assumption) | (with_reducible exact H32.size _) | kernel_rfl); (first | (with_reducible exact u8s_one _) | (with_reducible assumption) | kernel_rfl); intro ws _ _) | ((with_reducible apply wpl_storecell); (exact rfl); (exact rfl); infer_instance; (exact rfl); (first | (with_reducible assumption) | omega | (focus (simp; done)) | (focus (simp; omega; done)) | decide); intro ws _ _))
        refine (start_calls _ NB (by first | omega | (have := HNB.out; omega)) (by omega) _).mono ?_
        rintro e w4 ⟨rfl, hw4⟩
        obtain rfl := hw4.symm
        have hIx : HR wz I (bs img) := ⟨HIR.out.later nx.out⟩
        go_wp2_with (first | go_skip | ((with_reducible apply wpl_alloc); intro z wz _ _ _) | ((with_reducible apply wpl_loadrow); (exact rfl); infer_instance; infer_instance; (first | (with_reducible assumption) | (with_reducible exact H32.size _) | kernel_rfl)) | ((with_reducible apply wpl_loadcellN); (exact rfl); infer_instance; (exact rfl)) | ((with_reducible apply wpl_storerow); (exact rfl); (exact rfl); infer_instance; infer_instance; (first | (with_reducible assumption) | (with_reducible exact H32.size _) | kernel_rfl); (first | (with_reducible assumption) | (with_reducible exact H32.size _) | kernel_rfl); (first | (with_reducible exact u8s_one _) | (with_reducible assumption) | kernel_rfl); intro ws _ _) | ((with_reducible apply wpl_storecell); (exact rfl); (exact rfl); infer_instance; (exact rfl); (first | (with_reducible assumption) | omega | (focus (simp; done)) | (focus (simp; omega; done)) | decide); intro ws _ _))
        refine (bkWrite_calls (b := img) _ (80 + NB * 8) (by first | rfl | omega) HFX.out HN.out hnc (by omega) HIA.out (by omega)).mono ?_
        obtain ⟨L, hL⟩ : ∃ L, L = layS N s (80 + NB * 8) img := ⟨_, rfl⟩
        have HLok : Hid (L.2.ok N) := Lib.hid (by rw [hL]; exact layS_ok _ _ HOK.out)
        have HR9 : Hid (r = if L.1 ≠ 0 then L else saveN N L.2 (BSt.enc ⟨NB, n, S, cn, nm, mind⟩)) := Lib.hid (by rw [HR8.out, hL])
        rw [← hL]
        clear hL HR8
        rintro e w5 ⟨rfl, hF5, st5⟩
        have HF5 := Lib.hid hF5
        have hz5 : HB w5 zn 54 (bkL NB n S cn (strL nm) M m d).toArray := inferInstance
        have ch5 : Step (Two g p) w w5 := ⟨(nx.out.mono (fun _ _ h => h.elim)).trans st5.chg (fun _ _ h => h)⟩
        have hM5 : HR w5 M (bs mind) := inferInstance
        clear hF5
        by_cases hL0 : L.1 = 0
        · have hLb : ((L.1 : Int) != 0) = false := by simp [hL0]
          have HX : Hid (r = saveN N L.2 (BSt.enc ⟨NB, n, S, cn, nm, mind⟩)) := Lib.hid (by rw [HR9.out, if_neg (by rw [hL0]; decide)])
          obtain ⟨ec, hec⟩ : ∃ ec, ec = BSt.enc ⟨NB, n, S, cn, nm, mind⟩ := ⟨_, rfl⟩
          have hecl : ec.length ≤ 3000000 := by
            rw [hec]
            have h1 := HNL.out
            have h2 := HM.out
            have h3 := enc_size (s := ⟨NB, n, S, cn, nm, mind⟩) (by show nm.length ≤ 1000000; omega) (by show mind.length ≤ 1000000; omega)
            have h4 : (BSt.mk NB n S cn nm mind).name.length = nm.length := rfl
            have h5 : (BSt.mk NB n S cn nm mind).mind.length = mind.length := rfl
            omega
          rw [← hec] at HX
          have HEC := Lib.hid hec
          clear hec hL0 HR9
          go_wp2_with (first | go_skip | ((with_reducible apply wpl_loadrow); (exact rfl); (exact hz5); infer_instance; (exact bkL_len _ _ _ _ _ _ _ _)) | ((with_reducible apply wpl_alloc); intro z wz _ _ _) | ((with_reducible apply wpl_loadrow); (exact rfl); infer_instance; infer_instance; (first | (with_reducible assumption) | (with_reducible exact H32.size _) | kernel_rfl)) | ((with_reducible apply wpl_loadcellN); (exact rfl); infer_instance; (exact rfl)) | ((with_reducible apply wpl_storerow); (exact rfl); (exact rfl); infer_instance; infer_instance; (first | (with_reducible assumption) | (with_reducible exact H32.size _) | kernel_rfl); (first | (with_reducible assumption) | (with_reducible exact H32.size _) | kernel_rfl); (first | (with_reducible exact u8s_one _) | (with_reducible assumption) | kernel_rfl); intro ws _ _) | ((with_reducible apply wpl_storecell); (exact rfl); (exact rfl); infer_instance; (exact rfl); (first | (with_reducible assumption) | omega | (focus (simp; done)) | (focus (simp; omega; done)) | decide); intro ws _ _))
          refine (bkEncode_calls ⟨NB, n, S, cn, nm, mind⟩ HM.out (by omega) (by have := HNL.out; show nm.length ≤ 1000000; omega)).mono ?_
          rw [← HEC.out]
          rintro e w6 ⟨A6, n6, c6, rfl, hl6, hc6, hA6, hnA6, s6⟩
          have HF6 : Hid (FlashAt w6 g p N L.2) := Lib.hid (HF5.out.calm s6.chg)
          have hr6 : HR w6 A6 (bs ec) := inferInstance
          have HL6 := Lib.hid hl6
          clear hl6
          go_wp2_with (first | go_skip | ((with_reducible apply wpl_alloc); intro z wz _ _ _) | ((with_reducible apply wpl_loadrow); (exact rfl); infer_instance; infer_instance; (first | (with_reducible assumption) | (with_reducible exact H32.size _) | kernel_rfl)) | ((with_reducible apply wpl_loadcellN); (exact rfl); infer_instance; (exact rfl)) | ((with_reducible apply wpl_storerow); (exact rfl); (exact rfl); infer_instance; infer_instance; (first | (with_reducible assumption) | (with_reducible exact H32.size _) | kernel_rfl); (first | (with_reducible assumption) | (with_reducible exact H32.size _) | kernel_rfl); (first | (with_reducible exact u8s_one _) | (with_reducible assumption) | kernel_rfl); intro ws _ _) | ((with_reducible apply wpl_storecell); (exact rfl); (exact rfl); infer_instance; (exact rfl); (first | (with_reducible assumption) | omega | (focus (simp; done)) | (focus (simp; omega; done)) | decide); intro ws _ _))
          refine (pSave_calls (b := ec) HF6.out HL6.out (by have := HL6.out; omega)).mono ?_
          rintro e w7 ⟨rfl, h7, s7⟩
          go_wp2_with (first | go_skip | ((with_reducible apply wpl_alloc); intro z wz _ _ _) | ((with_reducible apply wpl_loadrow); (exact rfl); infer_instance; infer_instance; (first | (with_reducible assumption) | (with_reducible exact H32.size _) | kernel_rfl)) | ((with_reducible apply wpl_loadcellN); (exact rfl); infer_instance; (exact rfl)) | ((with_reducible apply wpl_storerow); (exact rfl); (exact rfl); infer_instance; infer_instance; (first | (with_reducible assumption) | (with_reducible exact H32.size _) | kernel_rfl); (first | (with_reducible assumption) | (with_reducible exact H32.size _) | kernel_rfl); (first | (with_reducible exact u8s_one _) | (with_reducible assumption) | kernel_rfl); intro ws _ _) | ((with_reducible apply wpl_storecell); (exact rfl); (exact rfl); infer_instance; (exact rfl); (first | (with_reducible assumption) | omega | (focus (simp; done)) | (focus (simp; omega; done)) | decide); intro ws _ _))
          go_ret
          rw [HX.out]
          exact ⟨rfl, h7, ⟨(ch5.chg.trans s6.chg (fun _ _ h => h.elim)).trans s7.chg (fun _ _ h => h)⟩⟩
        · have hLb : ((L.1 : Int) != 0) = true := by simp [hL0]
          have HX : Hid (r = L) := Lib.hid (by rw [HR9.out, if_pos hL0])
          clear hL0 HR9
          go_wp2_with (first | go_skip | ((with_reducible apply wpl_alloc); intro z wz _ _ _) | ((with_reducible apply wpl_loadrow); (exact rfl); infer_instance; infer_instance; (first | (with_reducible assumption) | (with_reducible exact H32.size _) | kernel_rfl)) | ((with_reducible apply wpl_loadcellN); (exact rfl); infer_instance; (exact rfl)) | ((with_reducible apply wpl_storerow); (exact rfl); (exact rfl); infer_instance; infer_instance; (first | (with_reducible assumption) | (with_reducible exact H32.size _) | kernel_rfl); (first | (with_reducible assumption) | (with_reducible exact H32.size _) | kernel_rfl); (first | (with_reducible exact u8s_one _) | (with_reducible assumption) | kernel_rfl); intro ws _ _) | ((with_reducible apply wpl_storecell); (exact rfl); (exact rfl); infer_instance; (exact rfl); (first | (with_reducible assumption) | omega | (focus (simp; done)) | (focus (simp; omega; done)) | decide); intro ws _ _))
          go_ret
          rw [HX.out]
          exact ⟨rfl, HF5, ch5⟩

    · have eD : (EI == 0) = false := by simp; omega
      have eC : (EI != 0) = true := by simp; omega
      have eF : (EI != 9) = false := by simp; omega
      obtain ⟨NB, hNB⟩ : ∃ NB : Nat, NB = 0 := ⟨_, rfl⟩
      have hNB2 : NB < 2 := by omega
      have HR8 : Hid (r = if (layS N s (80 + NB * 8) img).1 ≠ 0 then layS N s (80 + NB * 8) img else saveN N (layS N s (80 + NB * 8) img).2 (BSt.enc ⟨NB, n, S, cn, nm, mind⟩)) := Lib.hid (by
        rw [HR7.out, if_neg e0, if_neg (fun h2 => e0 h2.1), hNB])
      have HNB := Lib.hid hNB
      clear HR7 hEI e0 hNB
      go_wp2_with (first | go_skip | ((with_reducible apply wpl_storerow); (exact rfl); (exact rfl); infer_instance; infer_instance; (exact hq); (exact hs0); (exact ho); intro wq _ hbq) | ((with_reducible apply (wpl_alloc (dst := some 11))); intro zq wzq _ _ _) | ((with_reducible apply wpl_alloc); intro z wz _ _ _) | ((with_reducible apply wpl_loadrow); (exact rfl); infer_instance; infer_instance; (first | (with_reducible assumption) | (with_reducible exact H32.size _) | kernel_rfl)) | ((with_reducible apply wpl_loadcellN); (exact rfl); infer_instance; (exact rfl)) | ((with_reducible apply wpl_storerow); (exact rfl); (exact rfl); infer_instance; infer_instance; (first | (with_reducible assumption) | (with_reducible exact H32.size _) | kernel_rfl); (first | (with_reducible assumption) | (with_reducible exact H32.size _) | kernel_rfl); (first | (with_reducible exact u8s_one _) | (with_reducible assumption) | kernel_rfl); intro ws _ _) | ((with_reducible apply wpl_storecell); (exact rfl); (exact rfl); infer_instance; (exact rfl); (first | (with_reducible assumption) | omega | (focus (simp; done)) | (focus (simp; omega; done)) | decide); intro ws _ _))
      have nq' : Nw w wq := inferInstance
      have hIq : HR wq I (bs img) := ⟨HIR.out.later nq'.out⟩
      have HFq : Hid (FlashAt wq g p N s) := Lib.hid (HF2.out.calm (stepN (w0 := w2) (w := wq)).chg)
      have HQ := Lib.hid hbq
      refine (dSum_calls I n c img wq hIq.out HN.out hnc (by omega)).mono ?_
      rw [← HSL.out]
      rintro e w3 ⟨rfl, hc3⟩
      have s3 : Step nowhere wq w3 := ⟨hc3.out⟩
      clear hc3

      go_wp2_with (first | go_skip | ((with_reducible apply (stop_dst (dst := some 61))); (try simp only [Act.put, sA, sB, sC]); ((with_reducible apply (wpl_build (dst := some 61))); (exact kbs _))) | ((with_reducible apply wpl_storerow); (exact rfl); (exact rfl); infer_instance; infer_instance; (exact hs1); (exact hs0); (exact ho1); intro wn _ hbn) | ((with_reducible apply (wpl_alloc (dst := some 14))); intro zn wzn _ _ _) | ((with_reducible apply wpl_alloc); intro z wz _ _ _) | ((with_reducible apply wpl_loadrow); (exact rfl); infer_instance; infer_instance; (first | (with_reducible assumption) | (with_reducible exact H32.size _) | kernel_rfl)) | ((with_reducible apply wpl_loadcellN); (exact rfl); infer_instance; (exact rfl)) | ((with_reducible apply wpl_storerow); (exact rfl); (exact rfl); infer_instance; infer_instance; (first | (with_reducible assumption) | (with_reducible exact H32.size _) | kernel_rfl); (first | (with_reducible assumption) | (with_reducible exact H32.size _) | kernel_rfl); (first | (with_reducible exact u8s_one _) | (with_reducible assumption) | kernel_rfl); intro ws _ _) | ((with_reducible apply wpl_storecell); (exact rfl); (exact rfl); infer_instance; (exact rfl); (first | (with_reducible assumption) | omega | (focus (simp; done)) | (focus (simp; omega; done)) | decide); intro ws _ _))
      have hzg : HB wn zn 54 (bkL NB n S cn (strL nm) M m d).toArray := by
        have h1 := hbn.out
        rw [HNB.out]
        exact ⟨h1⟩
      have nx : Nw w wn := inferInstance
      have HFX : Hid (FlashAt wn g p N s) := Lib.hid (HFq.out.calm (stepN (w0 := wq) (w := wn)).chg)
      have hznl : w.heap.size ≤ zn := Nat.le_trans (inferInstance : SzLe w w3).out (Nat.le_of_eq (inferInstance : Born w3 zn).eq.symm)
      have ozn : OffB (Two g p) zn := ⟨fun h => by
        have h1 := HFq.out.lts
        have h2 := (inferInstance : SzLe wq w3).out
        have h3 := (inferInstance : Born w3 zn).eq
        rcases h with h | h <;> omega⟩
      go_wp2_with (first | go_skip | ((with_reducible apply (wpl_loadcell (k := 0))); (exact rfl); (exact hzg); (exact bk_get0 _ _ _ _ _ _ _ _)) | ((with_reducible apply wpl_alloc); intro z wz _ _ _) | ((with_reducible apply wpl_loadrow); (exact rfl); infer_instance; infer_instance; (first | (with_reducible assumption) | (with_reducible exact H32.size _) | kernel_rfl)) | ((with_reducible apply wpl_loadcellN); (exact rfl); infer_instance; (exact rfl)) | ((with_reducible apply wpl_storerow); (exact rfl); (exact rfl); infer_instance; infer_instance; (first | (with_reducible assumption) | (with_reducible exact H32.size _) | kernel_rfl); (first | (with_reducible assumption) | (with_reducible exact H32.size _) | kernel_rfl); (first | (with_reducible exact u8s_one _) | (with_reducible assumption) | kernel_rfl); intro ws _ _) | ((with_reducible apply wpl_storecell); (exact rfl); (exact rfl); infer_instance; (exact rfl); (first | (with_reducible assumption) | omega | (focus (simp; done)) | (focus (simp; omega; done)) | decide); intro ws _ _))
      refine (start_calls _ NB (by first | omega | (have := HNB.out; omega)) (by omega) _).mono ?_
      rintro e w4 ⟨rfl, hw4⟩
      obtain rfl := hw4.symm
      have hIx : HR wn I (bs img) := ⟨HIR.out.later nx.out⟩
      go_wp2_with (first | go_skip | ((with_reducible apply wpl_alloc); intro z wz _ _ _) | ((with_reducible apply wpl_loadrow); (exact rfl); infer_instance; infer_instance; (first | (with_reducible assumption) | (with_reducible exact H32.size _) | kernel_rfl)) | ((with_reducible apply wpl_loadcellN); (exact rfl); infer_instance; (exact rfl)) | ((with_reducible apply wpl_storerow); (exact rfl); (exact rfl); infer_instance; infer_instance; (first | (with_reducible assumption) | (with_reducible exact H32.size _) | kernel_rfl); (first | (with_reducible assumption) | (with_reducible exact H32.size _) | kernel_rfl); (first | (with_reducible exact u8s_one _) | (with_reducible assumption) | kernel_rfl); intro ws _ _) | ((with_reducible apply wpl_storecell); (exact rfl); (exact rfl); infer_instance; (exact rfl); (first | (with_reducible assumption) | omega | (focus (simp; done)) | (focus (simp; omega; done)) | decide); intro ws _ _))
      refine (bkWrite_calls (b := img) _ (80 + NB * 8) (by first | rfl | omega) HFX.out HN.out hnc (by omega) HIA.out (by omega)).mono ?_
      obtain ⟨L, hL⟩ : ∃ L, L = layS N s (80 + NB * 8) img := ⟨_, rfl⟩
      have HLok : Hid (L.2.ok N) := Lib.hid (by rw [hL]; exact layS_ok _ _ HOK.out)
      have HR9 : Hid (r = if L.1 ≠ 0 then L else saveN N L.2 (BSt.enc ⟨NB, n, S, cn, nm, mind⟩)) := Lib.hid (by rw [HR8.out, hL])
      rw [← hL]
      clear hL HR8
      rintro e w5 ⟨rfl, hF5, st5⟩
      have HF5 := Lib.hid hF5
      have hz5 : HB w5 zn 54 (bkL NB n S cn (strL nm) M m d).toArray := inferInstance
      have ch5 : Step (Two g p) w w5 := ⟨(nx.out.mono (fun _ _ h => h.elim)).trans st5.chg (fun _ _ h => h)⟩
      have hM5 : HR w5 M (bs mind) := inferInstance
      clear hF5
      by_cases hL0 : L.1 = 0
      · have hLb : ((L.1 : Int) != 0) = false := by simp [hL0]
        have HX : Hid (r = saveN N L.2 (BSt.enc ⟨NB, n, S, cn, nm, mind⟩)) := Lib.hid (by rw [HR9.out, if_neg (by rw [hL0]; decide)])
        obtain ⟨ec, hec⟩ : ∃ ec, ec = BSt.enc ⟨NB, n, S, cn, nm, mind⟩ := ⟨_, rfl⟩
        have hecl : ec.length ≤ 3000000 := by
          rw [hec]
          have h1 := HNL.out
          have h2 := HM.out
          have h3 := enc_size (s := ⟨NB, n, S, cn, nm, mind⟩) (by show nm.length ≤ 1000000; omega) (by show mind.length ≤ 1000000; omega)
          have h4 : (BSt.mk NB n S cn nm mind).name.length = nm.length := rfl
          have h5 : (BSt.mk NB n S cn nm mind).mind.length = mind.length := rfl
          omega
        rw [← hec] at HX
        have HEC := Lib.hid hec
        clear hec hL0 HR9
        go_wp2_with (first | go_skip | ((with_reducible apply wpl_loadrow); (exact rfl); (exact hz5); infer_instance; (exact bkL_len _ _ _ _ _ _ _ _)) | ((with_reducible apply wpl_alloc); intro z wz _ _ _) | ((with_reducible apply wpl_loadrow); (exact rfl); infer_instance; infer_instance; (first | (with_reducible assumption) | (with_reducible exact H32.size _) | kernel_rfl)) | ((with_reducible apply wpl_loadcellN); (exact rfl); infer_instance; (exact rfl)) | ((with_reducible apply wpl_storerow); (exact rfl); (exact rfl); infer_instance; infer_instance; (first | (with_reducible assumption) | (with_reducible exact H32.size _) | kernel_rfl); (first | (with_reducible assumption) | (with_reducible exact H32.size _) | kernel_rfl); (first | (with_reducible exact u8s_one _) | (with_reducible assumption) | kernel_rfl); intro ws _ _) | ((with_reducible apply wpl_storecell); (exact rfl); (exact rfl); infer_instance; (exact rfl); (first | (with_reducible assumption) | omega | (focus (simp; done)) | (focus (simp; omega; done)) | decide); intro ws _ _))
        refine (bkEncode_calls ⟨NB, n, S, cn, nm, mind⟩ HM.out (by omega) (by have := HNL.out; show nm.length ≤ 1000000; omega)).mono ?_
        rw [← HEC.out]
        rintro e w6 ⟨A6, n6, c6, rfl, hl6, hc6, hA6, hnA6, s6⟩
        have HF6 : Hid (FlashAt w6 g p N L.2) := Lib.hid (HF5.out.calm s6.chg)
        have hr6 : HR w6 A6 (bs ec) := inferInstance
        have HL6 := Lib.hid hl6
        clear hl6
        go_wp2_with (first | go_skip | ((with_reducible apply wpl_alloc); intro z wz _ _ _) | ((with_reducible apply wpl_loadrow); (exact rfl); infer_instance; infer_instance; (first | (with_reducible assumption) | (with_reducible exact H32.size _) | kernel_rfl)) | ((with_reducible apply wpl_loadcellN); (exact rfl); infer_instance; (exact rfl)) | ((with_reducible apply wpl_storerow); (exact rfl); (exact rfl); infer_instance; infer_instance; (first | (with_reducible assumption) | (with_reducible exact H32.size _) | kernel_rfl); (first | (with_reducible assumption) | (with_reducible exact H32.size _) | kernel_rfl); (first | (with_reducible exact u8s_one _) | (with_reducible assumption) | kernel_rfl); intro ws _ _) | ((with_reducible apply wpl_storecell); (exact rfl); (exact rfl); infer_instance; (exact rfl); (first | (with_reducible assumption) | omega | (focus (simp; done)) | (focus (simp; omega; done)) | decide); intro ws _ _))
        refine (pSave_calls (b := ec) HF6.out HL6.out (by have := HL6.out; omega)).mono ?_
        rintro e w7 ⟨rfl, h7, s7⟩
        go_wp2_with (first | go_skip | ((with_reducible apply wpl_alloc); intro z wz _ _ _) | ((with_reducible apply wpl_loadrow); (exact rfl); infer_instance; infer_instance; (first | (with_reducible assumption) | (with_reducible exact H32.size _) | kernel_rfl)) | ((with_reducible apply wpl_loadcellN); (exact rfl); infer_instance; (exact rfl)) | ((with_reducible apply wpl_storerow); (exact rfl); (exact rfl); infer_instance; infer_instance; (first | (with_reducible assumption) | (with_reducible exact H32.size _) | kernel_rfl); (first | (with_reducible assumption) | (with_reducible exact H32.size _) | kernel_rfl); (first | (with_reducible exact u8s_one _) | (with_reducible assumption) | kernel_rfl); intro ws _ _) | ((with_reducible apply wpl_storecell); (exact rfl); (exact rfl); infer_instance; (exact rfl); (first | (with_reducible assumption) | omega | (focus (simp; done)) | (focus (simp; omega; done)) | decide); intro ws _ _))
        go_ret
        rw [HX.out]
        exact ⟨rfl, h7, ⟨(ch5.chg.trans s6.chg (fun _ _ h => h.elim)).trans s7.chg (fun _ _ h => h)⟩⟩
      · have hLb : ((L.1 : Int) != 0) = true := by simp [hL0]
        have HX : Hid (r = L) := Lib.hid (by rw [HR9.out, if_pos hL0])
        clear hL0 HR9
        go_wp2_with (first | go_skip | ((with_reducible apply wpl_alloc); intro z wz _ _ _) | ((with_reducible apply wpl_loadrow); (exact rfl); infer_instance; infer_instance; (first | (with_reducible assumption) | (with_reducible exact H32.size _) | kernel_rfl)) | ((with_reducible apply wpl_loadcellN); (exact rfl); infer_instance; (exact rfl)) | ((with_reducible apply wpl_storerow); (exact rfl); (exact rfl); infer_instance; infer_instance; (first | (with_reducible assumption) | (with_reducible exact H32.size _) | kernel_rfl); (first | (with_reducible assumption) | (with_reducible exact H32.size _) | kernel_rfl); (first | (with_reducible exact u8s_one _) | (with_reducible assumption) | kernel_rfl); intro ws _ _) | ((with_reducible apply wpl_storecell); (exact rfl); (exact rfl); infer_instance; (exact rfl); (first | (with_reducible assumption) | omega | (focus (simp; done)) | (focus (simp; omega; done)) | decide); intro ws _ _))
        go_ret
        rw [HX.out]
        exact ⟨rfl, HF5, ch5⟩

end Go.Proofs.Ytegdihpnefoolaa
