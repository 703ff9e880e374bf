import Derived.Test.YtnpoflfhcfkocaaG33
import Derived.Test.YtnpoflfhcfkocaaEncSA
import Derived.Test.YtnpoflfhcfkocaaEncSB
import Derived.Test.YtnpoflfhcfkocaaEncSC
import Derived.Test.YtnpoflfhcfkocaaEncSD
import Derived.Test.YtnpoflfhcfkocaaEncSE
namespace Go.Proofs.Ytnpoflfhcfkocaa
set_option maxRecDepth 100000
set_option maxHeartbeats 4000000
open Go.RowKit
set_option linter.unusedVariables false
set_option linter.unusedSimpArgs false
theorem Own.sized {base : Nat} {e : TypeId} {k : IntKind} {w : World} {aa : Option Addr} {nn cc : Nat} {bs : List Int} (h : Own base e k w (.slice aa nn cc) bs) : nn = bs.length := by
  rcases h.form with ⟨hh, rfl⟩ | ⟨g, cap, hh, _⟩ <;> cases hh <;> rfl
theorem encFd_good {d : Int × Int × Int × Int × Int × (Bool × List Int) × (Bool × List Int) × Int × Int × List Int × List Int × List Int} (h : recFd d = 0) : encFd d = recBd d := by unfold encFd; rw [if_neg (by simpa using h)]
theorem encFd_bad {d : Int × Int × Int × Int × Int × (Bool × List Int) × (Bool × List Int) × Int × Int × List Int × List Int × List Int} (h : recFd d ≠ 0) : encFd d = [] := by unfold encFd; rw [if_pos h]
theorem specEnc_any (x : StLogRecord) (w : World) (hB : x.isB) (hn : x.szs ≤ 1073741824) (hv : StLogRecord.rd w x) : Calls Try.prog 12 #[x.val] w fun e w' => ∃ a c, e = .returned (.slice a (encFd x.dat).length c) ∧ (∀ b, (Value.slice a (encFd x.dat).length c).ownBlock = some b → w.heap.size ≤ b) ∧ Own 0 5 .u8 w' (.slice a (encFd x.dat).length c) (encFd x.dat) ∧ Same w w' := by
  by_cases hz : recFd x.dat = 0
  · have hg := kind_good (show recF x.kind _ _ _ _ _ _ _ _ _ _ _ _ _ = 0 from hz)
    rw [encFd_good hz]
    have key : Calls Try.prog 12 #[x.val] w fun e w' => ∃ aa nn cc, e = .returned (.slice aa nn cc) ∧ Own 0 5 .u8 w' (.slice aa nn cc) (recBd x.dat) ∧ (∀ b, (Value.slice aa nn cc).ownBlock = some b → w.heap.size ≤ b) ∧ Same w w' := by
      rcases (show x.kind = 1 ∨ x.kind = 2 ∨ x.kind = 3 ∨ x.kind = 4 ∨ x.kind = 5 ∨ x.kind = 6 ∨ x.kind = 7 ∨ x.kind = 8 by omega) with h | h | h | h | h | h | h | h
      · exact encS_1 x w hB hn hv h hz
      · exact encS_2 x w hB hn hv h hz
      · exact encS_3 x w hB hn hv h hz
      · exact encS_4 x w hB hn hv h hz
      · exact encS_5 x w hB hn hv h hz
      · exact encS_6 x w hB hn hv h hz
      · exact encS_7 x w hB hn hv h hz
      · exact encS_8 x w hB hn hv h hz
    refine key.mono ?_
    rintro e w' ⟨aa, nn, cc, rfl, ho, hf, hk⟩
    obtain rfl := ho.sized
    exact ⟨aa, cc, rfl, hf, ho, hk⟩
  · rw [encFd_bad hz]
    have HF := (show Hid (∀ wx, Same w wx → _) from fun wx (h : Same w wx) => specRec_any x wx hB hn (StLogRecord.rd.same hv h))
    obtain ⟨r, hr⟩ : ∃ r, recFd x.dat = r := ⟨_, rfl⟩
    rw [hr] at HF hz
    clear hr hB hn hv
    obtain ⟨kind, txn, prev, page, slot, ⟨bU, ⟨bDe, bDa, bDc, bDb⟩⟩, ⟨aU, ⟨aDe, aDa, aDc, aDb⟩⟩, uN, nT, ⟨txns_e, txns_a, txns_n, txns_c, txns_b⟩, ⟨dirty_e, dirty_a, dirty_n, dirty_c, dirty_b⟩, ⟨image_e, image_a, image_c, image_b⟩⟩ := x
    have HF1 := HF.out _ ((Kept.refl _ _).alloc (.cells #[.int .i64 kind, .int .i64 txn, .int .i64 prev, .int .i64 page, .int .i64 slot, .bool bU, .slice bDa bDb.length bDc, .bool aU, .slice aDa aDb.length aDc, .int .i64 uN, .int .i64 nT, .slice txns_a txns_n txns_c, .slice dirty_a dirty_n dirty_c, .slice image_a image_b.length image_c] 35))
    dsimp only [StLogRecord.val, StPageRecord.val, BS.v, FR.v] at HF1 ⊢
    have HK0 := hid (sameA w [.int .i64 kind, .int .i64 txn, .int .i64 prev, .int .i64 page, .int .i64 slot, .bool bU, .slice bDa bDb.length bDc, .bool aU, .slice aDa aDb.length aDc, .int .i64 uN, .int .i64 nT, .slice txns_a txns_n txns_c, .slice dirty_a dirty_n dirty_c, .slice image_a image_b.length image_c] 35)
    clear HF
    go_enter Try.func12, Try.ntmps12
    go_wp2_with fail
    refine HF1.mono ?_
    rintro e w1 ⟨rfl, hk1⟩
    have HK1 := (show Hid (Same w w1) from HK0.out.trans hk1)
    clear hk1 HF1
    go_wp2
    go_ret
    exact ⟨_, _, rfl, fun b hb => by have := HK1.out.size; have hb : w1.heap.size = b := by simpa [Value.ownBlock] using hb
                                     omega, Own.empty _ _, HK1.out.alloc _⟩
theorem implEnc_any (x : StLogRecord) (w : World) (hB : x.isB) (hn : x.szs ≤ 1073741824) (hv : StLogRecord.rd w x) : Calls Try.prog 13 #[x.val] w fun e w' => ∃ a c, e = .returned (.slice a (encFd x.dat).length c) ∧ (∀ b, (Value.slice a (encFd x.dat).length c).ownBlock = some b → w.heap.size ≤ b) ∧ Own 0 5 .u8 w' (.slice a (encFd x.dat).length c) (encFd x.dat) ∧ Same w w' := by
  by_cases hz : recFd x.dat = 0
  · have hg := kind_good (show recF x.kind _ _ _ _ _ _ _ _ _ _ _ _ _ = 0 from hz)
    rw [encFd_good hz]
    have key : Calls Try.prog 13 #[x.val] w fun e w' => ∃ aa nn cc, e = .returned (.slice aa nn cc) ∧ Own 0 5 .u8 w' (.slice aa nn cc) (recBd x.dat) ∧ (∀ b, (Value.slice aa nn cc).ownBlock = some b → w.heap.size ≤ b) ∧ Same w w' := by
      rcases (show x.kind = 1 ∨ x.kind = 2 ∨ x.kind = 3 ∨ x.kind = 4 ∨ x.kind = 5 ∨ x.kind = 6 ∨ x.kind = 7 ∨ x.kind = 8 by omega) with h | h | h | h | h | h | h | h
      · exact encI_1 x w hB hn hv h hz
      · exact encI_2 x w hB hn hv h hz
      · exact encI_3 x w hB hn hv h hz
      · exact encI_4 x w hB hn hv h hz
      · exact encI_5 x w hB hn hv h hz
      · exact encI_6 x w hB hn hv h hz
      · exact encI_7 x w hB hn hv h hz
      · exact encI_8 x w hB hn hv h hz
    refine key.mono ?_
    rintro e w' ⟨aa, nn, cc, rfl, ho, hf, hk⟩
    obtain rfl := ho.sized
    exact ⟨aa, cc, rfl, hf, ho, hk⟩
  · rw [encFd_bad hz]
    have HF := (show Hid (∀ wx, Same w wx → _) from fun wx (h : Same w wx) => implRec_any x wx hB hn (StLogRecord.rd.same hv h))
    obtain ⟨r, hr⟩ : ∃ r, recFd x.dat = r := ⟨_, rfl⟩
    rw [hr] at HF hz
    clear hr hB hn hv
    obtain ⟨kind, txn, prev, page, slot, ⟨bU, ⟨bDe, bDa, bDc, bDb⟩⟩, ⟨aU, ⟨aDe, aDa, aDc, aDb⟩⟩, uN, nT, ⟨txns_e, txns_a, txns_n, txns_c, txns_b⟩, ⟨dirty_e, dirty_a, dirty_n, dirty_c, dirty_b⟩, ⟨image_e, image_a, image_c, image_b⟩⟩ := x
    have HF1 := HF.out _ ((Kept.refl _ _).alloc (.cells #[.int .i64 kind, .int .i64 txn, .int .i64 prev, .int .i64 page, .int .i64 slot, .bool bU, .slice bDa bDb.length bDc, .bool aU, .slice aDa aDb.length aDc, .int .i64 uN, .int .i64 nT, .slice txns_a txns_n txns_c, .slice dirty_a dirty_n dirty_c, .slice image_a image_b.length image_c] 35))
    dsimp only [StLogRecord.val, StPageRecord.val, BS.v, FR.v] at HF1 ⊢
    have HK0 := hid (sameA w [.int .i64 kind, .int .i64 txn, .int .i64 prev, .int .i64 page, .int .i64 slot, .bool bU, .slice bDa bDb.length bDc, .bool aU, .slice aDa aDb.length aDc, .int .i64 uN, .int .i64 nT, .slice txns_a txns_n txns_c, .slice dirty_a dirty_n dirty_c, .slice image_a image_b.length image_c] 35)
    clear HF
    go_enter Try.func13, Try.ntmps13
    go_wp2_with fail
    refine HF1.mono ?_
    rintro e w1 ⟨rfl, hk1⟩
    have HK1 := (show Hid (Same w w1) from HK0.out.trans hk1)
    clear hk1 HF1
    go_wp2
    go_ret
    exact ⟨none, 0, rfl, fun b hb => (by simp [Value.ownBlock] at hb), Own.nil _ _ _ _, HK1.out⟩
end Go.Proofs.Ytnpoflfhcfkocaa

namespace Go.Proofs.Ytnpoflfhcfkocaa
open Go.RowKit
set_option linter.unusedVariables false
set_option linter.unusedSimpArgs false
theorem headR_pos (kind txn prev : Int) : 1 ≤ (headR kind txn prev).length := by
  simp only [headR, List.length_append, List.length_singleton]
  omega
theorem recBy_length {kind txn prev page slot un nt : Int} {bu au : Bool} {bb ab tx dy im : List Int} (h : recF kind txn prev page slot bu bb au ab un nt tx dy im = 0) : 1 ≤ (recBy kind txn prev page slot bu bb au ab un nt tx dy im).length ∧ (recBy kind txn prev page slot bu bb au ab un nt tx dy im).length ≤ 5000 := by
  have hh := headR_length kind txn prev
  have hp := headR_pos kind txn prev
  have n1 := numB_length page 2
  have n2 := numB_length slot 2
  have n3 := numB_length un 8
  have n4 := numB_length nt 4
  have n5 := numB_length (tx.length / 4 : Nat) 1
  have n6 := numB_length (dy.length / 2 : Nat) 1
  have p1 := partB_length bu bb
  have p2 := partB_length au ab
  have t1 := txsB_length tx (tx.length / 4)
  have t2 := dysB_length dy (dy.length / 2)
  unfold recBy
  by_cases h1 : kind = 1
  · subst h1
    obtain ⟨_, _, g1, g2⟩ := good1 h
    rw [if_pos rfl]
    simp only [List.length_append]
    omega
  rw [if_neg h1]
  by_cases h2 : kind = 2
  · subst h2
    obtain ⟨_, _, g1, _⟩ := good2 h
    rw [if_pos rfl]
    simp only [List.length_append]
    omega
  rw [if_neg h2]
  by_cases h7 : kind = 7
  · subst h7
    obtain ⟨_, _, _, g1, g2⟩ := good7 h
    have g1 := (txns_good g1).1
    have g2 := (dirty_good g2).1
    rw [if_pos rfl]
    simp only [List.length_append]
    omega
  rw [if_neg h7]
  by_cases h8 : kind = 8
  · subst h8
    obtain ⟨_, _, _, g1⟩ := good8 h
    rw [if_pos rfl]
    simp only [List.length_append]
    omega
  rw [if_neg h8]
  omega
theorem recBd_length {d : Int × Int × Int × Int × Int × (Bool × List Int) × (Bool × List Int) × Int × Int × List Int × List Int × List Int} (h : recFd d = 0) : 1 ≤ (recBd d).length ∧ (recBd d).length ≤ 5000 := recBy_length h
theorem encFd_length (d : Int × Int × Int × Int × Int × (Bool × List Int) × (Bool × List Int) × Int × Int × List Int × List Int × List Int) : (encFd d).length ≤ 5000 := by
  by_cases h : recFd d = 0
  · rw [encFd_good h]; exact (recBd_length h).2
  · rw [encFd_bad h]; simp
def fsFd (d : Int × Int × Int × Int × Int × (Bool × List Int) × (Bool × List Int) × Int × Int × List Int × List Int × List Int) : Int := if recFd d ≠ 0 then 0 else 20 + ((recBd d).length : Int)
theorem fsFd_good {d : Int × Int × Int × Int × Int × (Bool × List Int) × (Bool × List Int) × Int × Int × List Int × List Int × List Int} (h : recFd d = 0) : fsFd d = 20 + ((recBd d).length : Int) := by unfold fsFd; rw [if_neg (by simpa using h)]
theorem fsFd_bad {d : Int × Int × Int × Int × Int × (Bool × List Int) × (Bool × List Int) × Int × Int × List Int × List Int × List Int} (h : recFd d ≠ 0) : fsFd d = 0 := by unfold fsFd; rw [if_pos h]
end Go.Proofs.Ytnpoflfhcfkocaa
