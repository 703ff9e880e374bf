/-
  spec.l1Copy, bytes.Clone.
-/
import Derived.Test.YtednajibnjofmaaCopyB
import Derived.Laws.AppendOwnNone
namespace Go.Proofs.Ytednajibnjofmaa
set_option maxHeartbeats 400000
open Go.RowKit

theorem l1Copy_any (v : Value) (bs : List Int) (w : World) (hn : bs.length ≤ 1099511627776) (hv : Rd .u8 w v bs) :
    Calls Try.prog 54 #[v] w fun e w' => ∃ a n c, e = .returned (.slice a n c) ∧ Own 0 5 .u8 w' (.slice a n c) bs ∧ (∀ b, (Value.slice a n c).ownBlock = some b → w.heap.size ≤ b) ∧ Same w w' := by
  obtain ⟨i0, hi, hz0, hz1, hz2⟩ := info_parts Try.infoByte'
  rcases hv.2 with ⟨rfl, a, c, rfl, hac⟩ | ⟨b, off, c, rfl, _, hc⟩
  · cases a with
    | none =>
      obtain rfl : c = 0 := hac rfl
      clear hv hn hac
      go_enter Try.func54, Try.ntmps54
      go_wp2_with (at_builtin; refine wpList_append_own_none rfl (.tmp 3) (.tmp 4) 22 rfl w.heap.size 5 i0 1 Try.underlying22 hi _ 0 [] rfl (World.ownsRow_made w #[] 0 (Nat.le_refl _) (by simp) (by simp)) rfl ?_)
      go_ret
      exact ⟨_, _, _, rfl, (World.ownsRow_made w #[] 0 (Nat.zero_le _) (by simp) (by simp)), fun b hb => by simp [Value.ownBlock] at hb; omega, (Kept.refl _ _).alloc _⟩
    | some ad =>
      clear hv hn hac
      go_enter Try.func54, Try.ntmps54
      go_wp2_with (at_builtin; refine wpList_append_own _ rfl (.tmp 3) (.tmp 4) 22 rfl w.heap.size 5 i0 (.int .u8 0) 1 1 Try.underlying22 hi hz0 hz1 hz2 rfl (by decide) (.slice (some ⟨w.heap.size, 0, none⟩) 0 0) 0 [] rfl (World.ownsRow_made w #[] 0 (Nat.le_refl _) (by simp) (by simp)) ad 0 c [] rfl rfl (fun j u h => by simp at h) (fun u h => by simp at h) (by simp) (by simp) (by simp) ?_; intro v' w1 hown1 hgrow1 _; have HF := (show Hid (Own w.heap.size 5 .u8 w1 v' []) from hown1); have HK : Hid (Same w w1) := ((Kept.refl _ _).alloc _).grown hgrow1 (fun k e => .inl (by simp [Value.ownBlock] at e; omega)); obtain ⟨aa, na, ca, rfl⟩ := slice_of_own HF.out; clear hown1 hgrow1)
      go_ret
      exact ⟨_, _, _, rfl, HF.out.mono (fun b _ => Nat.zero_le b), fun b hb => (HF.out.lt b hb).1, HK.out⟩
  · have HC : Hid (∀ i, i < bs.length → (w.alloc (.cells #[] 5)).cell? ⟨b, off + i, none⟩ = some (.int .u8 (bs.getD i 0))) := fun i hi => ((Kept.refl (fun _ => False) w).alloc _).cellOf (hc i hi) id
    clear hv hc
    go_enter Try.func54, Try.ntmps54
    go_wp2_with (at_builtin; refine wpList_append_own _ rfl (.tmp 3) (.tmp 4) 22 rfl w.heap.size 5 i0 (.int .u8 0) 1 1 Try.underlying22 hi hz0 hz1 hz2 rfl (by decide) (.slice (some ⟨w.heap.size, 0, none⟩) 0 0) 0 [] rfl (World.ownsRow_made w #[] 0 (Nat.le_refl _) (by simp) (by simp)) ⟨b, off, none⟩ bs.length c (vals .u8 bs) rfl (by simp [vals_length]) (news_of HC.out) vals_one (by unfold maxLen; omega) (by omega) (by simp) ?_; intro v' w1 hown1 hgrow1 _; have HF := (show Hid (Own w.heap.size 5 .u8 w1 v' bs) from (by simpa [Own, Hid] using hown1)); have HK : Hid (Same w w1) := ((Kept.refl _ _).alloc _).grown hgrow1 (fun k e => .inl (by simp [Value.ownBlock] at e; omega)); obtain ⟨aa, na, ca, rfl⟩ := slice_of_own HF.out; clear hown1 hgrow1)
    go_ret
    exact ⟨_, _, _, rfl, HF.out.mono (fun b _ => Nat.zero_le b), fun b hb => (HF.out.lt b hb).1, HK.out⟩

end Go.Proofs.Ytednajibnjofmaa
