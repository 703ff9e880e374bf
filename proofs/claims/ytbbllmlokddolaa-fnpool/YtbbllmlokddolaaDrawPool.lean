import Derived.Test.YtbbllmlokddolaaG05
import Derived.Test.YtbbllmlokddolaaG06
import Derived.Test.YtbbllmlokddolaaG04
import Derived.Test.YtbbllmlokddolaaG01
namespace Go.Proofs.Ytbbllmlokddolaa
set_option maxRecDepth 100000
set_option maxHeartbeats 4000000
open Go Go.RowKit
set_option linter.unusedVariables false
set_option linter.unusedSimpArgs false
theorem newP_length {frames hd : Int} {qs : List EFrame} (h : (hd, datFrameS qs) = newP frames) (h1 : 1 ≤ frames) (h2 : frames ≤ 16) : qs.length = frames.toNat := by
  unfold newP at h
  rw [if_neg (by unfold inB; simp; omega)] at h
  have h3 := congrArg (fun x : Int × List (Int × List Int × Int × Bool × Int × Bool) => x.2.length) h
  simpa [datFrameS_length] using h3
def Short (qs : List EFrame) : Prop := ∀ p ∈ qs, p.bs.length ≤ 4096
theorem Short.set {qs : List EFrame} {k : Nat} {p' : EFrame} {tw tb : TypeId} {w : World} {v : Value} {a : Option Addr} {c : Nat} (h : Short qs) (hk : k < qs.length) (ho : OwnR kFrame 0 tw tb w v (qs.set k p')) (hv : p'.v = .slice a 4096 c) : Short (qs.set k p') := by
  intro p hp
  have hd := ho.data p hp
  rcases List.mem_or_eq_of_mem_set hp with hp | rfl
  · exact h p hp
  · rw [show kFrame.v p = .slice a 4096 c from hv] at hd
    rcases hd.form with ⟨h1, _⟩ | ⟨_, _, h1, _⟩
    · injection h1 with _ h1 _; omega
    · injection h1 with _ h1 _; have e : 4096 = p.bs.length := h1; omega
theorem short_new {frames hd : Int} {qs : List EFrame} (h : (hd, datFrameS qs) = newP frames) : Short qs := by
  intro p hp
  have h1 : p.dat ∈ (newP frames).2 := by rw [← h]; exact List.mem_map_of_mem hp
  unfold newP at h1
  split at h1
  · simp at h1
  · have h2 := List.eq_of_mem_replicate h1
    have h3 : p.bs = [] := congrArg (fun d => d.2.1) h2
    rw [h3]; simp
def BendsPool : Prop := ∀ (w0 w : World) (B : Nat) (v : Value) (cs : List Int) (kk : Nat) (size hd : Int) (g n c : Nat) (qs : List EFrame), SrcR w0 w B v cs kk size → kk ≤ 900 → 1 ≤ n → n ≤ 4 → qs.length = n → Short qs → OwnR kFrame 0 36 5 w (.slice (some ⟨g, 0, none⟩) n c) qs → (∀ b, footR kFrame (.slice (some ⟨g, 0, none⟩) n c) qs b → b ≠ B ∧ w0.heap.size ≤ b) →
  Calls Try.prog 46 #[.pointer (some ⟨B, 0, none⟩), .agg #[.slice (some ⟨g, 0, none⟩) n c, .int .i64 hd]] w fun e w' => ∃ a n' c' hd' qs' k', e = .returned (.agg #[.slice a n' c', .int .i64 hd']) ∧ k' ≤ 950 ∧ n' = qs'.length ∧ n' ≤ 17 ∧ RdR kFrame w' (.slice a n' c') qs' ∧ (∀ b, footR kFrame (.slice a n' c') qs' b → b ≠ B ∧ (footR kFrame (.slice (some ⟨g, 0, none⟩) n c) qs b ∨ w.heap.size ≤ b)) ∧ SrcR w0 w' B v cs k' size ∧ Kept (fun b => b = B ∨ footR kFrame (.slice (some ⟨g, 0, none⟩) n c) qs b) w w'
theorem drawPool_k (hbend : BendsPool) {w0 w : World} {B : Nat} {v : Value} {cs : List Int} {size : Int} (h : SrcR w0 w B v cs 0 size) :
    Calls Try.prog 18 #[.pointer (some ⟨B, 0, none⟩)] w fun e w' => ∃ a n c hd qs k', e = .returned (.agg #[.slice a n c, .int .i64 hd]) ∧ k' ≤ 1000 ∧ n = qs.length ∧ n ≤ 17 ∧ RdR kFrame w' (.slice a n c) qs ∧ (∀ b, footR kFrame (.slice a n c) qs b → b ≠ B ∧ w.heap.size ≤ b) ∧ SrcR w0 w' B v cs k' size ∧ Kept (fun b => b = B) w w' := by
  have HK0 := hid (sameA w [.slice none 0 0, .int .i64 0] 25)
  have HB0 := (show Hid (Blk (w.alloc (.cells #[.slice none 0 0, .int .i64 0] 25)) w.heap.size 25 [.slice none 0 0, .int .i64 0]) from Blk.newL w [.slice none 0 0, .int .i64 0] 25)
  have hBw := h.lt
  have hw0 := h.kept.size
  have k1 := next_k 4 (h.same HK0.out) (by omega) (by constructor <;> decide)
  clear h
  go_enter Try.func18, Try.ntmps18
  go_wp2_with fail
  refine k1.mono ?_
  rintro e w1 ⟨r, rfl, hd, hs1, hk1⟩
  obtain ⟨hr1, hr2⟩ := hd.2 (by decide)
  have HS1 := hid hs1
  have HK1 := (show Hid (Kept (fun b => b = B) w w1) from (HK0.out.mono (fun _ _ h => h.elim)).trans hk1)
  have HB1 := hid (HB0.out.kept hk1 (fun e => by omega))
  clear k1 hs1 hk1 hd HB0 HK0
  go_wp2_with fail
  refine (specPoolNew_any _ w1).mono ?_
  rintro e w2 ⟨a, n, c, hh, qs, rfl, hdat, hfoot, hown, hk2⟩
  have hql := newP_length hdat (by omega) (by omega)
  have HDAT := hid hdat
  have HS2 := hid (HS1.out.same hk2)
  have HK2 := hid (HK1.out.trans (hk2.mono (fun _ _ h => h.elim)))
  have HB2 := hid (HB1.out.same hk2)
  rcases hown.form with ⟨hv, hq0⟩ | ⟨g, cap, hv, _, _, hc, hm⟩
  · rw [hq0] at hql; simp at hql; omega
  simp only [Value.slice.injEq] at hv
  obtain ⟨rfl, rfl, rfl⟩ := hv
  have HO2 := hid hown
  have HF2 := (show Hid (∀ b, footR kFrame (.slice (some ⟨g, 0, none⟩) qs.length c) qs b → w.heap.size < b ∧ b ≠ B) from fun b hb => by
    have h1 := hfoot b hb
    have h2 := HB1.out.lt
    have h3 := HS1.out.lt
    omega)
  obtain ⟨n, hn⟩ : ∃ n, qs.length = n := ⟨_, rfl⟩
  have hn4 : n ≤ 4 := by omega
  have hn1 : 1 ≤ n := by omega
  have HN := hid hn
  rw [hn] at HO2 HF2 ⊢
  have hs12 := hk2.size
  have hww : w.heap.size < w2.heap.size := by have := HB1.out.lt; omega
  clear hdat hfoot hown hk2 hql hc hm hn HS1 HK1 HB1
  have HKp := (show Hid (Same w2 (w2.alloc (.cells #[.slice (some ⟨g, 0, none⟩) n c, .int .i64 hh] 25))) from (Kept.refl _ _).alloc _)
  have HBp := (show Hid (Blk (w2.alloc (.cells #[.slice (some ⟨g, 0, none⟩) n c, .int .i64 hh] 25)) w2.heap.size 25 [.slice (some ⟨g, 0, none⟩) n c, .int .i64 hh]) from Blk.newL w2 [.slice (some ⟨g, 0, none⟩) n c, .int .i64 hh] 25)
  have hB2 := HS2.out.lt
  go_wp2_with fail
  go_loopw [4] (fun i wr => ∃ (k kk : Nat) (qs : List EFrame), k ≤ n ∧ i = .int .i64 k ∧ kk ≤ 1 + 10 * k ∧ Hid (SrcR w0 wr B v cs kk size) ∧ Hid (Blk wr w2.heap.size 25 [.slice (some ⟨g, 0, none⟩) n c, .int .i64 hh]) ∧ Hid (Blk wr w.heap.size 25 [.slice none 0 0, .int .i64 0]) ∧ Hid (qs.length = n) ∧ Hid (OwnR kFrame 0 36 5 wr (.slice (some ⟨g, 0, none⟩) n c) qs) ∧ Hid (∀ b, footR kFrame (.slice (some ⟨g, 0, none⟩) n c) qs b → w.heap.size < b ∧ b ≠ B ∧ b ≠ w2.heap.size) ∧ Hid (Kept (fun b => b = B) w wr) ∧ Hid (Short qs)) (fun i _ => n - (intOf i).toNat)
  case atStart => exact ⟨0, 1, qs, Nat.zero_le _, rfl, by omega, hid (HS2.out.same HKp.out), HBp, hid (HB2.out.same HKp.out), HN, hid (HO2.out.same HKp.out), hid (fun b hb => by have h1 := HF2.out b hb; have h2 := (HO2.out.lt b hb).2; omega), hid (HK2.out.trans (HKp.out.mono (fun _ _ h => h.elim))), hid (short_new HDAT.out)⟩
  case round =>
    clear HBp HKp HO2 HF2 HB2 HK2 HS2 HN
    obtain ⟨k, kk, qs, hk, rfl, hkk, HS, HP, HR, HN, HO, HF, HK, HSh⟩ := hrel
    obtain ⟨p0, p1⟩ := HP.out.all2
    by_cases hlt : k < n
    · go_wp2_with fail
      refine (chance_k 6 HS.out (by omega) (by constructor <;> decide)).mono ?_
      rintro e w3 ⟨bb, rfl, hs3, hk3⟩
      have HS3 := hid hs3
      have HP3 := hid (HP.out.kept hk3 (fun e => by omega))
      have HR3 := hid (HR.out.kept hk3 (fun e => by omega))
      have HO3 := hid (HO.out.kept hk3 (fun b hb e => (HF.out b hb).2.1 e))
      have HK3 := hid (HK.out.trans hk3)
      clear hs3 hk3 p0 p1 HS HP HR HO HK
      cases bb with
      | true =>
        go_wp2
        go_roundw
        case rel => exact ⟨k + 1, kk + 1, qs, by omega, by go_num, by omega, HS3, HP3, HR3, HN, HO3, HF, HK3, HSh⟩
        case measure => simp [intOf]; omega
      | false =>
        go_wp2_with fail
        refine wp_region_I (fun i => i) (by kernel_rfl) (by kernel_rfl) (fun done a wx => ∃ (x5 x19 x20 x21 x22 x23 x24 x25 x26 x27 : Value) (kq : Nat), a = { tmps := #[.pointer (some ⟨B, 0, none⟩), undef, .pointer (some ⟨w.heap.size, 0, none⟩), .pointer (some ⟨w2.heap.size, 0, none⟩), .int .i64 (k : Int), x5, .pointer (some ⟨B, 0, none⟩), .int .i64 r, .int .i64 (1 + r), .agg #[.slice (some ⟨g, 0, none⟩) n c, .int .i64 hh], .int .i64 (k : Int), .pointer (some ⟨w2.heap.size, 0, none⟩), .slice (some ⟨g, 0, none⟩) n c, .int .i64 (n : Int), .bool true, u15, u16, .pointer (some ⟨B, 0, none⟩), .bool false, x19, x20, x21, x22, x23, x24, x25, x26, x27, u28, u29, u30, u31, u32, u33, u34, u35, u36, u37, u38, u39, u40, u41, u42, u43, u44, u45, u46, u47, u48, u49, u50, u51, u52, undef, undef, undef, undef, undef, undef, undef, undef, undef, undef, undef, undef], defers := [] } ∧ Hid ((done 0 = true → x19 = .int .i64 (k : Int)) ∧ (done 1 = true → x20 = .int .i64 ((k : Int) * 2)) ∧ (done 2 = true → x21 = .pointer (some ⟨B, 0, none⟩)) ∧ (done 3 = true → ∃ q : Int, 0 ≤ q ∧ q < 2 ∧ x22 = .int .i64 q) ∧ (done 4 = true → ∃ q : Int, x23 = .int .i64 q) ∧ (done 5 = true → ∃ (gb : Nat) (bs : List Int), x24 = .slice (some ⟨gb, 0, none⟩) 4096 4096 ∧ bs.length = 4096 ∧ IsB bs ∧ Own 0 5 .u8 wx (.slice (some ⟨gb, 0, none⟩) 4096 4096) bs ∧ w3.heap.size ≤ gb ∧ ∀ hb : Nat, x5 = .pointer (some ⟨hb, 0, none⟩) → done 9 = true → hb ≠ gb) ∧ (done 6 = true → x25 = .pointer (some ⟨B, 0, none⟩)) ∧ (done 7 = true → ∃ q : Bool, x26 = .bool q) ∧ (done 8 = true → ∃ (q : Int) (q2 : Bool), x27 = .agg #[.int .i64 q, x24, .int .i64 0, .bool false, .int .i64 0, .bool q2]) ∧ (done 9 = true → ∃ hb : Nat, x5 = .pointer (some ⟨hb, 0, none⟩) ∧ w3.heap.size ≤ hb ∧ ∃ (q : Int) (q2 : Bool) (y : Value), Blk wx hb 36 [.int .i64 q, y, .int .i64 0, .bool false, .int .i64 0, .bool q2] ∧ (done 10 = true → y = x24)) ∧ (done 10 = true → done 9 = true) ∧ (done 8 = true → done 5 = true) ∧ (done 10 = true → done 5 = true)) ∧ Hid (SrcR w0 wx B v cs kq size) ∧ kq ≤ kk + 1 + (if done 3 = true then 1 else 0) + (if done 7 = true then 1 else 0) ∧ Hid (Kept (fun b => b = B) w3 wx)) ?_ ?_ ?_
        · refine ⟨u5, u19, u20, u21, u22, u23, u24, u25, u26, u27, kk + 1, rfl, hid (by simp), hid (HS3.out.same ((Kept.refl _ _).drew)), by simp, hid ((Kept.refl _ _).drew)⟩
        · rintro done a wx ⟨x5, x19, x20, x21, x22, x23, x24, x25, x26, x27, kq, rfl, HZ, HSx, hkq, HKx⟩ i o ho hdn hall KK hK
          have hi : i < 11 := (Array.getElem?_eq_some_iff.1 ho).1
          have hB3 := HS3.out.lt
          have hw3 := HK3.out.size
          obtain ⟨i0, hi0, hz0, hz1, hz2⟩ := info_parts Try.infoByte'
          have hc : i = 0 ∨ i = 1 ∨ i = 2 ∨ i = 3 ∨ i = 4 ∨ i = 5 ∨ i = 6 ∨ i = 7 ∨ i = 8 ∨ i = 9 ∨ i = 10 := by omega
          rcases hc with rfl | rfl | rfl | rfl | rfl | rfl | rfl | rfl | rfl | rfl | rfl
          · obtain ⟨f0, f1, f2, f3, f4, f5, f6, f7, f8, f9, f10, f11, f12⟩ := HZ.out
            cases ho
            clear hall
            go_simp
            exact hK.out _ _ ⟨x5, .int .i64 (k : Int), x20, x21, x22, x23, x24, x25, x26, x27, kq, rfl, hid ⟨fun _ => rfl, by first | (simp [upd]; done) | simpa [upd] using f1, by first | (simp [upd]; done) | simpa [upd] using f2, by first | (simp [upd]; done) | simpa [upd] using f3, by first | (simp [upd]; done) | simpa [upd] using f4, by first | (simp [upd]; done) | simpa [upd] using f5, by first | (simp [upd]; done) | simpa [upd] using f6, by first | (simp [upd]; done) | simpa [upd] using f7, by first | (simp [upd]; done) | simpa [upd] using f8, by first | (simp [upd]; done) | simpa [upd] using f9, by first | (simp [upd]; done) | simpa [upd] using f10, by first | (simp [upd]; done) | simpa [upd] using f11, by first | (simp [upd]; done) | simpa [upd] using f12⟩, HSx, by first | (simp [upd]; done) | simpa [upd] using hkq, HKx⟩
          · obtain ⟨f0, f1, f2, f3, f4, f5, f6, f7, f8, f9, f10, f11, f12⟩ := HZ.out
            cases ho
            have d0 : done 0 = true := hall ⟨0, .data⟩ (by simp) rfl
            have hwm : IntKind.i64.wrap ((k : Int) * 2) = (k : Int) * 2 := by rw [IntKind.wrap_i64]; omega
            have e0 := f0 d0
            subst e0
            clear hall
            go_simp
            exact hK.out _ _ ⟨x5, .int .i64 (k : Int), .int .i64 ((k : Int) * 2), x21, x22, x23, x24, x25, x26, x27, kq, rfl, hid ⟨by first | (simp [upd]; done) | simpa [upd] using f0, fun _ => rfl, by first | (simp [upd]; done) | simpa [upd] using f2, by first | (simp [upd]; done) | simpa [upd] using f3, by first | (simp [upd]; done) | simpa [upd] using f4, by first | (simp [upd]; done) | simpa [upd] using f5, by first | (simp [upd]; done) | simpa [upd] using f6, by first | (simp [upd]; done) | simpa [upd] using f7, by first | (simp [upd]; done) | simpa [upd] using f8, by first | (simp [upd]; done) | simpa [upd] using f9, by first | (simp [upd]; done) | simpa [upd] using f10, by first | (simp [upd]; done) | simpa [upd] using f11, by first | (simp [upd]; done) | simpa [upd] using f12⟩, HSx, by first | (simp [upd]; done) | simpa [upd] using hkq, HKx⟩
          · obtain ⟨f0, f1, f2, f3, f4, f5, f6, f7, f8, f9, f10, f11, f12⟩ := HZ.out
            cases ho
            clear hall
            go_simp
            exact hK.out _ _ ⟨x5, x19, x20, .pointer (some ⟨B, 0, none⟩), x22, x23, x24, x25, x26, x27, kq, rfl, hid ⟨by first | (simp [upd]; done) | simpa [upd] using f0, by first | (simp [upd]; done) | simpa [upd] using f1, fun _ => rfl, by first | (simp [upd]; done) | simpa [upd] using f3, by first | (simp [upd]; done) | simpa [upd] using f4, by first | (simp [upd]; done) | simpa [upd] using f5, by first | (simp [upd]; done) | simpa [upd] using f6, by first | (simp [upd]; done) | simpa [upd] using f7, by first | (simp [upd]; done) | simpa [upd] using f8, by first | (simp [upd]; done) | simpa [upd] using f9, by first | (simp [upd]; done) | simpa [upd] using f10, by first | (simp [upd]; done) | simpa [upd] using f11, by first | (simp [upd]; done) | simpa [upd] using f12⟩, HSx, by first | (simp [upd]; done) | simpa [upd] using hkq, HKx⟩
          · obtain ⟨f0, f1, f2, f3, f4, f5, f6, f7, f8, f9, f10, f11, f12⟩ := HZ.out
            cases ho
            have d2 : done 2 = true := hall ⟨2, .data⟩ (by simp) rfl
            have e0 := f2 d2
            subst e0
            clear hall
            go_simp
            refine (next_k 2 HSx.out (by split at hkq <;> split at hkq <;> omega) (by constructor <;> decide)).mono ?_
            rintro e w4 ⟨q, rfl, hd4, hs4, hk4⟩
            obtain ⟨hq1, hq2⟩ := hd4.2 (by decide)
            exact hK.out _ _ ⟨x5, x19, x20, .pointer (some ⟨B, 0, none⟩), .int .i64 q, x23, x24, x25, x26, x27, kq + 1, rfl, hid ⟨by first | (simp [upd]; done) | simpa [upd] using f0, by first | (simp [upd]; done) | simpa [upd] using f1, by first | (simp [upd]; done) | simpa [upd] using f2, fun _ => ⟨q, hq1, hq2, rfl⟩, by first | (simp [upd]; done) | simpa [upd] using f4, (by
              intro h5
              obtain ⟨gb, bs, e1, e2, e3, e4, e5, e6⟩ := f5 (by first | (simp [upd]; done) | simpa [upd] using h5)
              exact ⟨gb, bs, e1, e2, e3, e4.kept hk4 (fun b hb e => by have h7 : gb = b := (by simpa [Value.ownBlock] using hb); omega), e5, fun hb h1 h2 => e6 hb h1 (by first | (simp [upd]; done) | simpa [upd] using h2)⟩), by first | (simp [upd]; done) | simpa [upd] using f6, by first | (simp [upd]; done) | simpa [upd] using f7, by first | (simp [upd]; done) | simpa [upd] using f8, (by
              intro h9
              obtain ⟨hb, e1, e2, q9, q92, y, e3, e4⟩ := f9 (by first | (simp [upd]; done) | simpa [upd] using h9)
              exact ⟨hb, e1, e2, q9, q92, y, e3.kept hk4 (fun e => by omega), fun h10 => e4 (by first | (simp [upd]; done) | simpa [upd] using h10)⟩), by first | (simp [upd]; done) | simpa [upd] using f10, by first | (simp [upd]; done) | simpa [upd] using f11, by first | (simp [upd]; done) | simpa [upd] using f12⟩, hid hs4, by simp [upd, hdn] at hkq ⊢; omega, hid (HKx.out.trans hk4)⟩
          · obtain ⟨f0, f1, f2, f3, f4, f5, f6, f7, f8, f9, f10, f11, f12⟩ := HZ.out
            cases ho
            have d1 : done 1 = true := hall ⟨1, .data⟩ (by simp) rfl
            have d3 : done 3 = true := hall ⟨3, .data⟩ (by simp) rfl
            have e0 := f1 d1
            subst e0
            obtain ⟨q, hq1, hq2, e1⟩ := f3 d3
            subst e1
            have hwm : IntKind.i64.wrap ((k : Int) * 2 + q) = (k : Int) * 2 + q := by rw [IntKind.wrap_i64]; omega
            clear hall
            go_simp
            exact hK.out _ _ ⟨x5, x19, .int .i64 ((k : Int) * 2), x21, .int .i64 q, .int .i64 ((k : Int) * 2 + q), x24, x25, x26, x27, kq, rfl, hid ⟨by first | (simp [upd]; done) | simpa [upd] using f0, by first | (simp [upd]; done) | simpa [upd] using f1, by first | (simp [upd]; done) | simpa [upd] using f2, fun _ => ⟨q, hq1, hq2, rfl⟩, fun _ => ⟨_, rfl⟩, by first | (simp [upd]; done) | simpa [upd] using f5, by first | (simp [upd]; done) | simpa [upd] using f6, by first | (simp [upd]; done) | simpa [upd] using f7, by first | (simp [upd]; done) | simpa [upd] using f8, by first | (simp [upd]; done) | simpa [upd] using f9, by first | (simp [upd]; done) | simpa [upd] using f10, by first | (simp [upd]; done) | simpa [upd] using f11, by first | (simp [upd]; done) | simpa [upd] using f12⟩, HSx, by first | (simp [upd]; done) | simpa [upd] using hkq, HKx⟩
          · obtain ⟨f0, f1, f2, f3, f4, f5, f6, f7, f8, f9, f10, f11, f12⟩ := HZ.out
            cases ho
            clear hall
            have hkz := HKx.out.size
            have hn8 : done 8 = true → False := fun h => by have := f11 h; rw [hdn] at this; simp at this
            have hn10 : done 10 = true → False := fun h => by have := f12 h; rw [hdn] at this; simp at this
            refine step_mk (by rfl) (.const (.int .i64 4096)) (.const (.int .i64 4096)) 22 (by rfl) 0 5 i0 _ 1 Try.underlying22 hi0 hz0 hz1 .i64 .i64 _ _ 4096 4096 (by rfl) (by rfl) (by rfl) (by rfl) (Nat.le_refl _) (by rw [hz2]; omega) (by unfold maxLen; omega) (Nat.zero_le _) ?_
            intro w4 hown4 hgr4 hlt4
            have hk4 : Same wx w4 := Kept.of_grown hgr4 (fun k e => by cases e)
            go_simp
            exact hK.out _ _ ⟨x5, x19, x20, x21, x22, x23, .slice (some ⟨wx.heap.size, 0, none⟩) 4096 4096, x25, x26, x27, kq, rfl, hid ⟨by first | (simp [upd]; done) | simpa [upd] using f0, by first | (simp [upd]; done) | simpa [upd] using f1, by first | (simp [upd]; done) | simpa [upd] using f2, by first | (simp [upd]; done) | simpa [upd] using f3, by first | (simp [upd]; done) | simpa [upd] using f4, (fun _ => ⟨wx.heap.size, List.replicate 4096 0, rfl, List.length_replicate, fun y hy => by rw [List.eq_of_mem_replicate hy]; omega, own_made (by have h := hown4; rw [List.take_of_length_le (by rw [Array.length_toList, size_madeCells]; exact Nat.le_refl _)] at h; simpa using h), hkz, fun hb h1 h2 => by
              obtain ⟨hb9, e1, e2, q9, q92, y, e3, e4⟩ := f9 (by first | (simp [upd]; done) | simpa [upd] using h2)
              rw [h1] at e1
              simp at e1
              have := e3.lt
              omega⟩), by first | (simp [upd]; done) | simpa [upd] using f6, by first | (simp [upd]; done) | simpa [upd] using f7, (fun h => (hn8 (by first | (simp [upd]; done) | simpa [upd] using h)).elim), (by
              intro h9
              obtain ⟨hb, e1, e2, q9, q92, y, e3, e4⟩ := f9 (by first | (simp [upd]; done) | simpa [upd] using h9)
              exact ⟨hb, e1, e2, q9, q92, y, e3.same hk4, fun h10 => (hn10 (by first | (simp [upd]; done) | simpa [upd] using h10)).elim⟩), by first | (simp [upd]; done) | simpa [upd] using f10, fun _ => by simp [upd], fun _ => by simp [upd]⟩, hid (HSx.out.same hk4), by first | (simp [upd]; done) | simpa [upd] using hkq, hid (HKx.out.next hk4 (fun _ _ h => h.elim))⟩
          · obtain ⟨f0, f1, f2, f3, f4, f5, f6, f7, f8, f9, f10, f11, f12⟩ := HZ.out
            cases ho
            clear hall
            go_simp
            exact hK.out _ _ ⟨x5, x19, x20, x21, x22, x23, x24, .pointer (some ⟨B, 0, none⟩), x26, x27, kq, rfl, hid ⟨by first | (simp [upd]; done) | simpa [upd] using f0, by first | (simp [upd]; done) | simpa [upd] using f1, by first | (simp [upd]; done) | simpa [upd] using f2, by first | (simp [upd]; done) | simpa [upd] using f3, by first | (simp [upd]; done) | simpa [upd] using f4, by first | (simp [upd]; done) | simpa [upd] using f5, fun _ => rfl, by first | (simp [upd]; done) | simpa [upd] using f7, by first | (simp [upd]; done) | simpa [upd] using f8, by first | (simp [upd]; done) | simpa [upd] using f9, by first | (simp [upd]; done) | simpa [upd] using f10, by first | (simp [upd]; done) | simpa [upd] using f11, by first | (simp [upd]; done) | simpa [upd] using f12⟩, HSx, by first | (simp [upd]; done) | simpa [upd] using hkq, HKx⟩
          · obtain ⟨f0, f1, f2, f3, f4, f5, f6, f7, f8, f9, f10, f11, f12⟩ := HZ.out
            cases ho
            have d6 : done 6 = true := hall ⟨6, .data⟩ (by simp) rfl
            have e0 := f6 d6
            subst e0
            clear hall
            go_simp
            refine (chance_k 2 HSx.out (by split at hkq <;> split at hkq <;> omega) (by constructor <;> decide)).mono ?_
            rintro e w4 ⟨q, rfl, hs4, hk4⟩
            exact hK.out _ _ ⟨x5, x19, x20, x21, x22, x23, x24, .pointer (some ⟨B, 0, none⟩), .bool q, x27, kq + 1, rfl, hid ⟨by first | (simp [upd]; done) | simpa [upd] using f0, by first | (simp [upd]; done) | simpa [upd] using f1, by first | (simp [upd]; done) | simpa [upd] using f2, by first | (simp [upd]; done) | simpa [upd] using f3, by first | (simp [upd]; done) | simpa [upd] using f4, (by
              intro h5
              obtain ⟨gb, bs, e1, e2, e3, e4, e5, e6⟩ := f5 (by first | (simp [upd]; done) | simpa [upd] using h5)
              exact ⟨gb, bs, e1, e2, e3, e4.kept hk4 (fun b hb e => by have h7 : gb = b := (by simpa [Value.ownBlock] using hb); omega), e5, fun hb h1 h2 => e6 hb h1 (by first | (simp [upd]; done) | simpa [upd] using h2)⟩), by first | (simp [upd]; done) | simpa [upd] using f6, fun _ => ⟨q, rfl⟩, by first | (simp [upd]; done) | simpa [upd] using f8, (by
              intro h9
              obtain ⟨hb, e1, e2, q9, q92, y, e3, e4⟩ := f9 (by first | (simp [upd]; done) | simpa [upd] using h9)
              exact ⟨hb, e1, e2, q9, q92, y, e3.kept hk4 (fun e => by omega), fun h10 => e4 (by first | (simp [upd]; done) | simpa [upd] using h10)⟩), by first | (simp [upd]; done) | simpa [upd] using f10, by first | (simp [upd]; done) | simpa [upd] using f11, by first | (simp [upd]; done) | simpa [upd] using f12⟩, hid hs4, by simp [upd, hdn] at hkq ⊢; omega, hid (HKx.out.trans hk4)⟩
          · obtain ⟨f0, f1, f2, f3, f4, f5, f6, f7, f8, f9, f10, f11, f12⟩ := HZ.out
            cases ho
            have d4 : done 4 = true := hall ⟨4, .data⟩ (by simp) rfl
            have d5 : done 5 = true := hall ⟨5, .data⟩ (by simp) rfl
            have d7 : done 7 = true := hall ⟨7, .data⟩ (by simp) rfl
            obtain ⟨q, e1⟩ := f4 d4
            subst e1
            obtain ⟨b7, e7⟩ := f7 d7
            subst e7
            obtain ⟨gb, bs, g1, g2, g3, g4, g5, g6⟩ := f5 d5
            subst g1
            clear hall
            go_simp
            exact hK.out _ _ ⟨x5, x19, x20, x21, x22, .int .i64 q, .slice (some ⟨gb, 0, none⟩) 4096 4096, x25, .bool b7, .agg #[.int .i64 q, .slice (some ⟨gb, 0, none⟩) 4096 4096, .int .i64 0, .bool false, .int .i64 0, .bool b7], kq, rfl, hid ⟨by first | (simp [upd]; done) | simpa [upd] using f0, by first | (simp [upd]; done) | simpa [upd] using f1, by first | (simp [upd]; done) | simpa [upd] using f2, by first | (simp [upd]; done) | simpa [upd] using f3, fun _ => ⟨q, rfl⟩, (fun _ => ⟨gb, bs, rfl, g2, g3, g4, g5, fun hb h1 h2 => g6 hb h1 (by first | (simp [upd]; done) | simpa [upd] using h2)⟩), by first | (simp [upd]; done) | simpa [upd] using f6, fun _ => ⟨b7, rfl⟩, fun _ => ⟨q, b7, rfl⟩, by first | (simp [upd]; done) | simpa [upd] using f9, by first | (simp [upd]; done) | simpa [upd] using f10, fun _ => by first | (simp [upd]; done) | simpa [upd] using d5, by first | (simp [upd]; done) | simpa [upd] using f12⟩, HSx, by first | (simp [upd]; done) | simpa [upd] using hkq, HKx⟩
          · obtain ⟨f0, f1, f2, f3, f4, f5, f6, f7, f8, f9, f10, f11, f12⟩ := HZ.out
            cases ho
            clear hall
            have hkz := HKx.out.size
            have hn10 : done 10 = true → False := fun h => by have := f10 h; rw [hdn] at this; simp at this
            go_simp
            exact hK.out _ (wx.alloc (.cells #[.int .i64 0, .slice none 0 0, .int .i64 0, .bool false, .int .i64 0, .bool false] 36)) ⟨.pointer (some ⟨wx.heap.size, 0, none⟩), x19, x20, x21, x22, x23, x24, x25, x26, x27, kq, rfl, hid ⟨by first | (simp [upd]; done) | simpa [upd] using f0, by first | (simp [upd]; done) | simpa [upd] using f1, by first | (simp [upd]; done) | simpa [upd] using f2, by first | (simp [upd]; done) | simpa [upd] using f3, by first | (simp [upd]; done) | simpa [upd] using f4, (by
              intro h5
              obtain ⟨gb, bs, e1, e2, e3, e4, e5, e6⟩ := f5 (by first | (simp [upd]; done) | simpa [upd] using h5)
              have hgl := e4.lt gb rfl
              exact ⟨gb, bs, e1, e2, e3, e4.same ((Kept.refl _ _).alloc _), e5, fun hb h1 h2 => by simp at h1; omega⟩), by first | (simp [upd]; done) | simpa [upd] using f6, by first | (simp [upd]; done) | simpa [upd] using f7, by first | (simp [upd]; done) | simpa [upd] using f8, (fun _ => ⟨wx.heap.size, rfl, hkz, 0, false, .slice none 0 0, Blk.newL wx [.int .i64 0, .slice none 0 0, .int .i64 0, .bool false, .int .i64 0, .bool false] _, fun h => (hn10 (by first | (simp [upd]; done) | simpa [upd] using h)).elim⟩), fun _ => by simp [upd], by first | (simp [upd]; done) | simpa [upd] using f11, by first | (simp [upd]; done) | simpa [upd] using f12⟩, hid (HSx.out.same ((Kept.refl _ _).alloc _)), by first | (simp [upd]; done) | simpa [upd] using hkq, hid (HKx.out.alloc _)⟩
          · obtain ⟨f0, f1, f2, f3, f4, f5, f6, f7, f8, f9, f10, f11, f12⟩ := HZ.out
            cases ho
            have d9 : done 9 = true := hall ⟨9, .data⟩ (by simp) rfl
            have d8 : done 8 = true := hall ⟨8, .data⟩ (by simp) rfl
            have d5 : done 5 = true := hall ⟨5, .phase⟩ (by simp) rfl
            obtain ⟨hb, e1, e2, q9, q92, y, e3, e4⟩ := f9 d9
            subst e1
            obtain ⟨q8, q82, e8⟩ := f8 d8
            subst e8
            obtain ⟨gb, bs, g1, g2, g3, g4, g5, g6⟩ := f5 d5
            have hne := g6 hb rfl d9
            obtain ⟨c0, c1, c2, c3, c4, c5⟩ := e3.all6
            have frh := e3.frozen
            have lth := e3.lt
            clear hall
            subst g1
            have hkS : Kept (fun b => b = hb) wx ((((((wx.setCell ⟨hb, 0, none⟩ (.int .i64 q8)).setCell ⟨hb, 1, none⟩ (.slice (some ⟨gb, 0, none⟩) 4096 4096)).setCell ⟨hb, 2, none⟩ (.int .i64 0)).setCell ⟨hb, 3, none⟩ (.bool false)).setCell ⟨hb, 4, none⟩ (.int .i64 0)).setCell ⟨hb, 5, none⟩ (.bool q82)) := by
              (iterate 6 refine Kept.setCell (R := fun b => b = hb) ?_ (.inr rfl) _)
              exact Kept.refl _ _
            have hBl : Blk ((((((wx.setCell ⟨hb, 0, none⟩ (.int .i64 q8)).setCell ⟨hb, 1, none⟩ (.slice (some ⟨gb, 0, none⟩) 4096 4096)).setCell ⟨hb, 2, none⟩ (.int .i64 0)).setCell ⟨hb, 3, none⟩ (.bool false)).setCell ⟨hb, 4, none⟩ (.int .i64 0)).setCell ⟨hb, 5, none⟩ (.bool q82)) hb 36 [.int .i64 q8, .slice (some ⟨gb, 0, none⟩) 4096 4096, .int .i64 0, .bool false, .int .i64 0, .bool q82] := (((((e3.stored 0 _).stored 1 _).stored 2 _).stored 3 _).stored 4 _).stored 5 _
            go_simp
            exact hK.out _ _ ⟨.pointer (some ⟨hb, 0, none⟩), x19, x20, x21, x22, x23, .slice (some ⟨gb, 0, none⟩) 4096 4096, x25, x26, .agg #[.int .i64 q8, .slice (some ⟨gb, 0, none⟩) 4096 4096, .int .i64 0, .bool false, .int .i64 0, .bool q82], kq, rfl, hid ⟨by first | (simp [upd]; done) | simpa [upd] using f0, by first | (simp [upd]; done) | simpa [upd] using f1, by first | (simp [upd]; done) | simpa [upd] using f2, by first | (simp [upd]; done) | simpa [upd] using f3, by first | (simp [upd]; done) | simpa [upd] using f4, (fun _ => ⟨gb, bs, rfl, g2, g3, g4.kept hkS (fun b hb2 e => by have h7 : gb = b := (by simpa [Value.ownBlock] using hb2); have h2 : b = hb := e; omega), g5, fun hb2 h1 h2 => by simp at h1; omega⟩), by first | (simp [upd]; done) | simpa [upd] using f6, by first | (simp [upd]; done) | simpa [upd] using f7, (fun _ => ⟨q8, q82, rfl⟩), (fun _ => ⟨hb, rfl, e2, q8, q82, _, hBl, fun _ => rfl⟩), fun _ => by first | (simp [upd]; done) | simpa [upd] using d9, fun _ => by first | (simp [upd]; done) | simpa [upd] using d5, fun _ => by first | (simp [upd]; done) | simpa [upd] using d5⟩, hid (HSx.out.on hkS (by omega) (fun i hi e => by have h2 : i = hb := e; omega)), by first | (simp [upd]; done) | simpa [upd] using hkq, hid (HKx.out.next hkS (fun i hi e => by have h2 : i = hb := e; omega))⟩
        · rintro done a wx ⟨x5, x19, x20, x21, x22, x23, x24, x25, x26, x27, kq, rfl, HZ, HSx, hkq, HKx⟩ hall
          have hB3 := HS3.out.lt
          have hw3 := HK3.out.size
          obtain ⟨f0, f1, f2, f3, f4, f5, f6, f7, f8, f9, f10, f11, f12⟩ := HZ.out
          have hd5 := hall 5 (by decide)
          have hd9 := hall 9 (by decide)
          have hd10 := hall 10 (by decide)
          obtain ⟨gb, bs, g1, g2, g3, g4, g5, g6⟩ := f5 hd5
          obtain ⟨hb, e1, e2, q9, q92, y, e3, e4⟩ := f9 hd9
          have hne := g6 hb e1 hd9
          have hy := e4 hd10
          subst e1
          rw [g1] at hy
          subst hy
          have HBh := hid e3
          have HOb := hid g4
          have HBB := hid g3
          clear f0 f1 f2 f3 f4 f5 f6 f7 f8 f9 f10 f11 f12 HZ e3 e4 g4 g3 g6 g1 hall hd5 hd9 hd10
          go_wp2_with fail
          have hS : ((fun wz : World => wz.cell? ⟨hb, 0 + 1, none⟩ = some (.slice (some ⟨gb, 0, none⟩) 4096 4096) ∧ (∀ j : Nat, j < 4096 → wz.frozen? ⟨gb, j, none⟩ = false ∧ ∃ y, wz.cell? ⟨gb, j, none⟩ = some y))) wx.drew := by exact ⟨HBh.out.drew.cell 1, fun j hj => ⟨(HOb.out.same ((Kept.refl _ _).drew)).frozen g2.symm j, _, (HOb.out.same ((Kept.refl _ _).drew)).cell g2.symm j (by omega)⟩⟩
          refine wp_region_V ((fun wz : World => wz.cell? ⟨hb, 0 + 1, none⟩ = some (.slice (some ⟨gb, 0, none⟩) 4096 4096) ∧ (∀ j : Nat, j < 4096 → wz.frozen? ⟨gb, j, none⟩ = false ∧ ∃ y, wz.cell? ⟨gb, j, none⟩ = some y))) 8 9 rfl (by kernel_rfl) ?_
          refine wpAnyV_tk 0 28 (v := ?vq1) ?hyq1 hS ?_
          case hyq1 => (intro w hSw; (try dsimp only at hSw); go_simp; (try with_reducible rfl))
          try simp only [Act.put, sA, s0, sS]
          refine wpAnyV_tk 1 29 (v := ?vq2) ?hyq2 hS ?_
          case hyq2 => (intro w hSw; (try dsimp only at hSw); go_simp; (try with_reducible rfl))
          try simp only [Act.put, sA, s0, sS]
          refine wpAnyV_tk 2 30 (v := ?vq3) ?hyq3 hS ?_
          case hyq3 => (intro w hSw; (try dsimp only at hSw); go_simp; (try with_reducible rfl))
          try simp only [Act.put, sA, s0, sS]
          refine wpAnyV_tk 4 32 (v := ?vq4) ?hyq4 hS ?_
          case hyq4 => (intro w hSw; (try dsimp only at hSw); go_simp; (try with_reducible rfl))
          try simp only [Act.put, sA, s0, sS]
          refine wpAnyV_one (i := 3) (by kernel_rfl) rfl (fun K hK => ?_)
          go_simp
          refine (next_k 4096 (HSx.out.same ((Kept.refl _ _).drew)) (by split at hkq <;> split at hkq <;> omega) (by constructor <;> decide)).mono ?_
          rintro e w7 ⟨p7, rfl, hd7, hs7, hk7⟩
          obtain ⟨hp1, hp2⟩ := hd7.2 (by decide)
          obtain ⟨p7, rfl⟩ : ∃ m : Nat, p7 = (m : Int) := ⟨p7.toNat, by omega⟩
          have HS7 := hid hs7
          have HB7 := hid (HBh.out.drew.kept hk7 (fun e => by omega))
          have HO7 := hid ((HOb.out.same ((Kept.refl _ _).drew)).kept hk7 (fun b hb2 e => by have h7 : gb = b := (by simpa [Value.ownBlock] using hb2); omega))
          have HK7 := hid (HKx.out.drew.trans hk7)
          clear hd7 hs7 hk7
          have hS : ((fun wz : World => wz.cell? ⟨hb, 0 + 1, none⟩ = some (.slice (some ⟨gb, 0, none⟩) 4096 4096) ∧ (∀ j : Nat, j < 4096 → wz.frozen? ⟨gb, j, none⟩ = false ∧ ∃ y, wz.cell? ⟨gb, j, none⟩ = some y))) w7 := by exact ⟨HB7.out.cell 1, fun j hj => ⟨HO7.out.frozen g2.symm j, _, HO7.out.cell g2.symm j (by omega)⟩⟩
          refine hK.out _ _ (fun _ => hS) ?_
          clear hK K
          try simp only [Act.put, sA, s0, sS]
          refine wpAnyV_one (i := 5) (by kernel_rfl) rfl (fun K hK => ?_)
          go_simp
          refine (next_k 256 HS7.out (by split at hkq <;> split at hkq <;> omega) (by constructor <;> decide)).mono ?_
          rintro e w8 ⟨p8, rfl, hd8, hs8, hk8⟩
          obtain ⟨hp3, hp4⟩ := hd8.2 (by decide)
          have HS8 := hid hs8
          have HB8 := hid (HB7.out.kept hk8 (fun e => by omega))
          have HO8 := hid (HO7.out.kept hk8 (fun b hb2 e => by have h7 : gb = b := (by simpa [Value.ownBlock] using hb2); omega))
          have HK8 := hid (HK7.out.trans hk8)
          have hcb := HO8.out.cell g2.symm p7 (by omega)
          have hfb := HO8.out.frozen g2.symm p7
          clear hd8 hs8 hk8
          have hS : ((fun wz : World => wz.cell? ⟨hb, 0 + 1, none⟩ = some (.slice (some ⟨gb, 0, none⟩) 4096 4096) ∧ (∀ j : Nat, j < 4096 → wz.frozen? ⟨gb, j, none⟩ = false ∧ ∃ y, wz.cell? ⟨gb, j, none⟩ = some y))) w8 := by exact ⟨HB8.out.cell 1, fun j hj => ⟨HO8.out.frozen g2.symm j, _, HO8.out.cell g2.symm j (by omega)⟩⟩
          refine hK.out _ _ (fun _ => hS) ?_
          clear hK K
          try simp only [Act.put, sA, s0, sS]
          refine wpAnyV_tk 6 34 (v := ?vq5) ?hyq5 hS ?_
          case hyq5 => (intro w hSw; (try dsimp only at hSw); go_simp; (try with_reducible rfl))
          try simp only [Act.put, sA, s0, sS]
          refine wpAnyV_tk 7 35 (v := ?vq6) ?hyq6 hS ?_
          case hyq6 => (intro w hSw; (try dsimp only at hSw); go_simp; (try rw [if_pos (by omega)]); (try with_reducible rfl))
          try simp only [Act.put, sA, s0, sS]
          refine wpAnyV_one (i := 8) (by kernel_rfl) rfl (fun K hK => ?_)
          go_simp
          refine hK.out _ _ (fun h => absurd rfl h) ?_
          clear hK K
          refine wpAnyV_done (by kernel_rfl) ?_
          try simp only [Act.put, sA, s0, sS]
          have hk9 : Kept (fun b => b = gb) w8 (w8.setCell ⟨gb, p7, none⟩ (.int .u8 p8)) := Kept.setCell (R := fun b => b = gb) (Kept.refl _ _) (.inr rfl) _
          have HFw := (show Hid (∀ b, footR kFrame (.slice (some ⟨g, 0, none⟩) n c) qs b → b < w3.heap.size) from fun b hb2 => (HO3.out.lt b hb2).2)
          obtain ⟨RS, hRS⟩ : ∃ RS : World → Nat → List Value → Prop, RS = fun wz kz cells => SrcR w0 wz B v cs kz size ∧ Blk wz hb 36 cells ∧ Own 0 5 .u8 wz (.slice (some ⟨gb, 0, none⟩) 4096 4096) (bs.set p7 p8) ∧ Blk wz w2.heap.size 25 [.slice (some ⟨g, 0, none⟩) n c, .int .i64 hh] ∧ Blk wz w.heap.size 25 [.slice none 0 0, .int .i64 0] ∧ OwnR kFrame 0 36 5 wz (.slice (some ⟨g, 0, none⟩) n c) qs ∧ Kept (fun b => b = B) w wz := ⟨_, rfl⟩
          have hP3l := HP3.out.lt
          have st0 : RS (w8.setCell ⟨gb, p7, none⟩ (.int .u8 p8)) (kq + 1 + 1) [.int .i64 q9, .slice (some ⟨gb, 0, none⟩) 4096 4096, .int .i64 0, .bool false, .int .i64 0, .bool q92] := by
            rw [hRS]
            exact ⟨HS8.out.on hk9 (by omega) (fun i hi e => by have h2 : i = gb := e; omega), HB8.out.kept hk9 (fun e => hne e), HO8.out.stored g2.symm p7 _, (HP3.out.kept HK8.out (fun e => by omega)).kept hk9 (fun e => by omega), (HR3.out.kept HK8.out (fun e => by omega)).kept hk9 (fun e => by omega), (HO3.out.kept HK8.out (fun b hb2 e => (HF.out b hb2).2.1 e)).kept hk9 (fun b hb2 e => by have h1 := HFw.out b hb2; have h2 : b = gb := e; omega), (HK3.out.trans HK8.out).next hk9 (fun i hi e => by have h2 : i = gb := e; omega)⟩
          have st1 : ∀ wz wz' kz kz' cells, RS wz kz cells → SrcR w0 wz' B v cs kz' size → Kept (fun b => b = B) wz wz' → RS wz' kz' cells := by
            intro wz wz' kz kz' cells h hs hk
            rw [hRS] at h ⊢
            obtain ⟨h1, h2, h3, h4, h5, h6, h7⟩ := h
            exact ⟨hs, h2.kept hk (fun e => by omega), h3.kept hk (fun b hb2 e => by have h7 : gb = b := (by simpa [Value.ownBlock] using hb2); omega), h4.kept hk (fun e => by omega), h5.kept hk (fun e => by omega), h6.kept hk (fun b hb2 e => (HF.out b hb2).2.1 e), h7.trans hk⟩
          have st2 : ∀ wz kz cells i u, RS wz kz cells → RS (wz.setCell ⟨hb, i, none⟩ u) kz (cells.set i u) := by
            intro wz kz cells i u h
            rw [hRS] at h ⊢
            obtain ⟨h1, h2, h3, h4, h5, h6, h7⟩ := h
            have hk : Kept (fun b => b = hb) wz (wz.setCell ⟨hb, i, none⟩ u) := Kept.setCell (R := fun b => b = hb) (Kept.refl _ _) (.inr rfl) _
            exact ⟨h1.on hk (by omega) (fun j hj e => by have h2 : j = hb := e; omega), h2.stored i u, h3.kept hk (fun b hb2 e => by have h7 : gb = b := (by simpa [Value.ownBlock] using hb2); have h8 : b = hb := e; omega), h4.kept hk (fun e => by omega), h5.kept hk (fun e => by omega), h6.kept hk (fun b hb2 e => by have h1 := HFw.out b hb2; have h8 : b = hb := e; omega), h7.next hk (fun j hj e => by have h8 : j = hb := e; omega)⟩
          have hkq2 : kq ≤ kk + 3 := by split at hkq <;> split at hkq <;> omega
          have ST0 := hid st0
          have ST1 := hid st1
          have ST2 := hid st2
          have SRC := (show Hid (∀ wz kz cells, RS wz kz cells → SrcR w0 wz B v cs kz size) from fun wz kz cells h => by rw [hRS] at h; exact h.1)
          have BLK := (show Hid (∀ wz kz cells, RS wz kz cells → Blk wz hb 36 cells) from fun wz kz cells h => by rw [hRS] at h; exact h.2.1)
          have FIN := (show Hid (∀ wz kz cells, RS wz kz cells → Own 0 5 .u8 wz (.slice (some ⟨gb, 0, none⟩) 4096 4096) (bs.set p7 p8) ∧ Blk wz w2.heap.size 25 [.slice (some ⟨g, 0, none⟩) n c, .int .i64 hh] ∧ Blk wz w.heap.size 25 [.slice none 0 0, .int .i64 0] ∧ OwnR kFrame 0 36 5 wz (.slice (some ⟨g, 0, none⟩) n c) qs ∧ Kept (fun b => b = B) w wz) from fun wz kz cells h => by rw [hRS] at h; exact h.2.2)
          clear st0 st1 st2 hRS hk9 HS8 HB8 HO8 HK8 HS7 HB7 HO7 HK7 HBh HOb hcb hfb
          go_wp2_with fail
          refine (chance_k 3 (SRC.out _ _ _ ST0.out) (by omega) (by constructor <;> decide)).mono ?_
          rintro e wa ⟨ba, rfl, hsa, hka⟩
          have STa := hid (ST1.out _ _ _ _ _ ST0.out hsa hka)
          clear hsa hka ST0
          cases ba with
          | true =>
            go_wp2_with fail
            refine (next_k 2 (SRC.out _ _ _ STa.out) (by omega) (by constructor <;> decide)).mono ?_
            rintro e wb ⟨pb, rfl, hdb, hsb, hkb⟩
            obtain ⟨hpb1, hpb2⟩ := hdb.2 (by decide)
            have STb := hid (ST1.out _ _ _ _ _ STa.out hsb hkb)
            have bb2 := BLK.out _ _ _ STb.out
            obtain ⟨a0, a1, a2, a3, a4, a5⟩ := bb2.all6
            have fra := bb2.frozen
            have STp := hid (ST2.out _ _ _ 2 (.int .i64 (1 + pb)) STb.out)
            clear bb2 STa STb hsb hkb hdb
            go_wp2_with fail
            refine (chance_k 2 (SRC.out _ _ _ STp.out) (by omega) (by constructor <;> decide)).mono ?_
            rintro e wc ⟨bc, rfl, hsc, hkc⟩
            have STc := hid (ST1.out _ _ _ _ _ STp.out hsc hkc)
            clear hsc hkc STp
            cases bc with
            | false =>
              obtain ⟨gO, gP, gR, gF, gK⟩ := FIN.out _ _ _ STc.out
              have bW := BLK.out _ _ _ STc.out
              obtain ⟨z0, z1, z2, z3, z4, z5⟩ := (show Blk wc hb 36 [.int .i64 q9, .slice (some ⟨gb, 0, none⟩) 4096 4096, .int .i64 (1 + pb), .bool false, .int .i64 0, .bool q92] from bW).all6
              obtain ⟨pp0, pp1⟩ := gP.all2
              have hkq3 : k < qs.length := by rw [HN.out]; exact hlt
              obtain ⟨pz, hpz⟩ : ∃ z, qs[k] = z := ⟨_, rfl⟩
              have hyy : ∀ i, i < 6 → (wc).cell? ⟨g, k * 6 + i, none⟩ = (kFrame.cells pz)[i]? := fun i hi => by have h := gF.cell HN.out.symm k i hkq3 hi; rw [hpz] at h; exact h
              have y0 : (wc).cell? ⟨g, k * 6, none⟩ = some (.int .i64 pz.page) := hyy 0 (by decide)
              have y1 : (wc).cell? ⟨g, k * 6 + 1, none⟩ = some pz.v := hyy 1 (by decide)
              have y2 : (wc).cell? ⟨g, k * 6 + 2, none⟩ = some (.int .i64 pz.pins) := hyy 2 (by decide)
              have y3 : (wc).cell? ⟨g, k * 6 + 3, none⟩ = some (.bool pz.dirty) := hyy 3 (by decide)
              have y4 : (wc).cell? ⟨g, k * 6 + 4, none⟩ = some (.int .i64 pz.rl) := hyy 4 (by decide)
              have y5 : (wc).cell? ⟨g, k * 6 + 5, none⟩ = some (.bool pz.rf) := hyy 5 (by decide)
              have fg := gF.frozen HN.out.symm
              have hgg := HF.out g (.inl rfl)
              have HOA := (show Hid (OwnR kFrame 0 36 5 ((wc).setCells g (k * 6) [.int .i64 q9, .slice (some ⟨gb, 0, none⟩) 4096 4096, .int .i64 (1 + pb), .bool false, .int .i64 0, .bool q92]) (.slice (some ⟨g, 0, none⟩) n c) (qs.set k (⟨q9, .slice (some ⟨gb, 0, none⟩) 4096 4096, bs.set p7 p8, (1 + pb), false, 0, q92⟩ : EFrame))) from OwnR.setWhole (p' := (⟨q9, .slice (some ⟨gb, 0, none⟩) 4096 4096, bs.set p7 p8, (1 + pb), false, 0, q92⟩ : EFrame)) gF HN.out.symm hkq3 gO (fun b hb2 hf2 => by have h7 : gb = b := (by simpa [kFrame, Value.ownBlock] using hb2); have h1 := HFw.out b hf2; omega) _ rfl)
              have HKB := (show Hid (Kept (fun b => b = g) (wc) ((wc).setCells g (k * 6) [.int .i64 q9, .slice (some ⟨gb, 0, none⟩) 4096 4096, .int .i64 (1 + pb), .bool false, .int .i64 0, .bool q92])) from Kept.setCells (R := fun b => b = g) (.inr rfl) _ _ (Kept.refl _ _))
              have HSz := hid ((SRC.out _ _ _ STc.out).on HKB.out (fun e => hgg.2.1 e.symm) (fun i hi e => by have h2 : i = g := e; omega))
              have HPz := hid (gP.kept HKB.out (fun e => hgg.2.2 e.symm))
              have HRz := hid (gR.kept HKB.out (fun e => by have h2 : w.heap.size = g := e; omega))
              have HKz := hid (gK.next HKB.out (fun i hi e => by have h2 : i = g := e; omega))
              have HFz := (show Hid (∀ b, footR kFrame (.slice (some ⟨g, 0, none⟩) n c) (qs.set k (⟨q9, .slice (some ⟨gb, 0, none⟩) 4096 4096, bs.set p7 p8, (1 + pb), false, 0, q92⟩ : EFrame)) b → w.heap.size < b ∧ b ≠ B ∧ b ≠ w2.heap.size) from fun b hb2 => by
                rcases footR_setNew b hb2 with h | h
                · exact HF.out b h
                · have h7 : gb = b := (by simpa [kFrame, Value.ownBlock] using h)
                  omega)
              have HNz := (show Hid ((qs.set k (⟨q9, .slice (some ⟨gb, 0, none⟩) 4096 4096, bs.set p7 p8, (1 + pb), false, 0, q92⟩ : EFrame)).length = n) from by unfold Hid; rw [List.length_set]; exact HN.out)
              clear gO gP gR gF gK bW hyy
              go_wp2
              go_roundw
              case rel => exact ⟨k + 1, _, qs.set k (⟨q9, .slice (some ⟨gb, 0, none⟩) 4096 4096, bs.set p7 p8, (1 + pb), false, 0, q92⟩ : EFrame), by omega, by go_num, by omega, HSz, HPz, HRz, HNz, HOA, HFz, HKz, hid (HSh.out.set hkq3 HOA.out rfl)⟩
              case measure => simp [intOf]; omega
            | true =>
              have bc := BLK.out _ _ _ STc.out
              obtain ⟨m0, m1, m2, m3, m4, m5⟩ := (show Blk wc hb 36 [.int .i64 q9, .slice (some ⟨gb, 0, none⟩) 4096 4096, .int .i64 (1 + pb), .bool false, .int .i64 0, .bool q92] from bc).all6
              have frm := bc.frozen
              have STd := hid (ST2.out _ _ _ 3 (.bool true) STc.out)
              clear bc STc
              go_wp2_with fail
              refine (lsn_k (SRC.out _ _ _ STd.out) (by omega)).mono ?_
              rintro e we ⟨rl, rfl, hl1, hl2, hse, hke⟩
              have STe := hid (ST1.out _ _ _ _ _ STd.out hse hke)
              have be := BLK.out _ _ _ STe.out
              obtain ⟨s0, s1, s2, s3, s4, s5⟩ := (show Blk we hb 36 [.int .i64 q9, .slice (some ⟨gb, 0, none⟩) 4096 4096, .int .i64 (1 + pb), .bool true, .int .i64 0, .bool q92] from be).all6
              have frs := be.frozen
              have STf := hid (ST2.out _ _ _ 4 (.int .i64 rl) STe.out)
              clear be STe STd hse hke m0 m1 m2 m3 m4 m5 frm
              obtain ⟨gO, gP, gR, gF, gK⟩ := FIN.out _ _ _ STf.out
              have bW := BLK.out _ _ _ STf.out
              obtain ⟨z0, z1, z2, z3, z4, z5⟩ := (show Blk (we.setCell ⟨hb, 4, none⟩ (.int .i64 rl)) hb 36 [.int .i64 q9, .slice (some ⟨gb, 0, none⟩) 4096 4096, .int .i64 (1 + pb), .bool true, .int .i64 rl, .bool q92] from bW).all6
              obtain ⟨pp0, pp1⟩ := gP.all2
              have hkq3 : k < qs.length := by rw [HN.out]; exact hlt
              obtain ⟨pz, hpz⟩ : ∃ z, qs[k] = z := ⟨_, rfl⟩
              have hyy : ∀ i, i < 6 → ((we.setCell ⟨hb, 4, none⟩ (.int .i64 rl))).cell? ⟨g, k * 6 + i, none⟩ = (kFrame.cells pz)[i]? := fun i hi => by have h := gF.cell HN.out.symm k i hkq3 hi; rw [hpz] at h; exact h
              have y0 : ((we.setCell ⟨hb, 4, none⟩ (.int .i64 rl))).cell? ⟨g, k * 6, none⟩ = some (.int .i64 pz.page) := hyy 0 (by decide)
              have y1 : ((we.setCell ⟨hb, 4, none⟩ (.int .i64 rl))).cell? ⟨g, k * 6 + 1, none⟩ = some pz.v := hyy 1 (by decide)
              have y2 : ((we.setCell ⟨hb, 4, none⟩ (.int .i64 rl))).cell? ⟨g, k * 6 + 2, none⟩ = some (.int .i64 pz.pins) := hyy 2 (by decide)
              have y3 : ((we.setCell ⟨hb, 4, none⟩ (.int .i64 rl))).cell? ⟨g, k * 6 + 3, none⟩ = some (.bool pz.dirty) := hyy 3 (by decide)
              have y4 : ((we.setCell ⟨hb, 4, none⟩ (.int .i64 rl))).cell? ⟨g, k * 6 + 4, none⟩ = some (.int .i64 pz.rl) := hyy 4 (by decide)
              have y5 : ((we.setCell ⟨hb, 4, none⟩ (.int .i64 rl))).cell? ⟨g, k * 6 + 5, none⟩ = some (.bool pz.rf) := hyy 5 (by decide)
              have fg := gF.frozen HN.out.symm
              have hgg := HF.out g (.inl rfl)
              have HOA := (show Hid (OwnR kFrame 0 36 5 (((we.setCell ⟨hb, 4, none⟩ (.int .i64 rl))).setCells g (k * 6) [.int .i64 q9, .slice (some ⟨gb, 0, none⟩) 4096 4096, .int .i64 (1 + pb), .bool true, .int .i64 rl, .bool q92]) (.slice (some ⟨g, 0, none⟩) n c) (qs.set k (⟨q9, .slice (some ⟨gb, 0, none⟩) 4096 4096, bs.set p7 p8, (1 + pb), true, rl, q92⟩ : EFrame))) from OwnR.setWhole (p' := (⟨q9, .slice (some ⟨gb, 0, none⟩) 4096 4096, bs.set p7 p8, (1 + pb), true, rl, q92⟩ : EFrame)) gF HN.out.symm hkq3 gO (fun b hb2 hf2 => by have h7 : gb = b := (by simpa [kFrame, Value.ownBlock] using hb2); have h1 := HFw.out b hf2; omega) _ rfl)
              have HKB := (show Hid (Kept (fun b => b = g) ((we.setCell ⟨hb, 4, none⟩ (.int .i64 rl))) (((we.setCell ⟨hb, 4, none⟩ (.int .i64 rl))).setCells g (k * 6) [.int .i64 q9, .slice (some ⟨gb, 0, none⟩) 4096 4096, .int .i64 (1 + pb), .bool true, .int .i64 rl, .bool q92])) from Kept.setCells (R := fun b => b = g) (.inr rfl) _ _ (Kept.refl _ _))
              have HSz := hid ((SRC.out _ _ _ STf.out).on HKB.out (fun e => hgg.2.1 e.symm) (fun i hi e => by have h2 : i = g := e; omega))
              have HPz := hid (gP.kept HKB.out (fun e => hgg.2.2 e.symm))
              have HRz := hid (gR.kept HKB.out (fun e => by have h2 : w.heap.size = g := e; omega))
              have HKz := hid (gK.next HKB.out (fun i hi e => by have h2 : i = g := e; omega))
              have HFz := (show Hid (∀ b, footR kFrame (.slice (some ⟨g, 0, none⟩) n c) (qs.set k (⟨q9, .slice (some ⟨gb, 0, none⟩) 4096 4096, bs.set p7 p8, (1 + pb), true, rl, q92⟩ : EFrame)) b → w.heap.size < b ∧ b ≠ B ∧ b ≠ w2.heap.size) from fun b hb2 => by
                rcases footR_setNew b hb2 with h | h
                · exact HF.out b h
                · have h7 : gb = b := (by simpa [kFrame, Value.ownBlock] using h)
                  omega)
              have HNz := (show Hid ((qs.set k (⟨q9, .slice (some ⟨gb, 0, none⟩) 4096 4096, bs.set p7 p8, (1 + pb), true, rl, q92⟩ : EFrame)).length = n) from by unfold Hid; rw [List.length_set]; exact HN.out)
              clear gO gP gR gF gK bW hyy
              go_wp2
              go_roundw
              case rel => exact ⟨k + 1, _, qs.set k (⟨q9, .slice (some ⟨gb, 0, none⟩) 4096 4096, bs.set p7 p8, (1 + pb), true, rl, q92⟩ : EFrame), by omega, by go_num, by omega, HSz, HPz, HRz, HNz, HOA, HFz, HKz, hid (HSh.out.set hkq3 HOA.out rfl)⟩
              case measure => simp [intOf]; omega
          | false =>
            go_wp2_with fail
            refine (chance_k 2 (SRC.out _ _ _ STa.out) (by omega) (by constructor <;> decide)).mono ?_
            rintro e wc ⟨bc, rfl, hsc, hkc⟩
            have STc := hid (ST1.out _ _ _ _ _ STa.out hsc hkc)
            clear hsc hkc STa
            cases bc with
            | false =>
              obtain ⟨gO, gP, gR, gF, gK⟩ := FIN.out _ _ _ STc.out
              have bW := BLK.out _ _ _ STc.out
              obtain ⟨z0, z1, z2, z3, z4, z5⟩ := (show Blk wc hb 36 [.int .i64 q9, .slice (some ⟨gb, 0, none⟩) 4096 4096, .int .i64 0, .bool false, .int .i64 0, .bool q92] from bW).all6
              obtain ⟨pp0, pp1⟩ := gP.all2
              have hkq3 : k < qs.length := by rw [HN.out]; exact hlt
              obtain ⟨pz, hpz⟩ : ∃ z, qs[k] = z := ⟨_, rfl⟩
              have hyy : ∀ i, i < 6 → (wc).cell? ⟨g, k * 6 + i, none⟩ = (kFrame.cells pz)[i]? := fun i hi => by have h := gF.cell HN.out.symm k i hkq3 hi; rw [hpz] at h; exact h
              have y0 : (wc).cell? ⟨g, k * 6, none⟩ = some (.int .i64 pz.page) := hyy 0 (by decide)
              have y1 : (wc).cell? ⟨g, k * 6 + 1, none⟩ = some pz.v := hyy 1 (by decide)
              have y2 : (wc).cell? ⟨g, k * 6 + 2, none⟩ = some (.int .i64 pz.pins) := hyy 2 (by decide)
              have y3 : (wc).cell? ⟨g, k * 6 + 3, none⟩ = some (.bool pz.dirty) := hyy 3 (by decide)
              have y4 : (wc).cell? ⟨g, k * 6 + 4, none⟩ = some (.int .i64 pz.rl) := hyy 4 (by decide)
              have y5 : (wc).cell? ⟨g, k * 6 + 5, none⟩ = some (.bool pz.rf) := hyy 5 (by decide)
              have fg := gF.frozen HN.out.symm
              have hgg := HF.out g (.inl rfl)
              have HOA := (show Hid (OwnR kFrame 0 36 5 ((wc).setCells g (k * 6) [.int .i64 q9, .slice (some ⟨gb, 0, none⟩) 4096 4096, .int .i64 0, .bool false, .int .i64 0, .bool q92]) (.slice (some ⟨g, 0, none⟩) n c) (qs.set k (⟨q9, .slice (some ⟨gb, 0, none⟩) 4096 4096, bs.set p7 p8, 0, false, 0, q92⟩ : EFrame))) from OwnR.setWhole (p' := (⟨q9, .slice (some ⟨gb, 0, none⟩) 4096 4096, bs.set p7 p8, 0, false, 0, q92⟩ : EFrame)) gF HN.out.symm hkq3 gO (fun b hb2 hf2 => by have h7 : gb = b := (by simpa [kFrame, Value.ownBlock] using hb2); have h1 := HFw.out b hf2; omega) _ rfl)
              have HKB := (show Hid (Kept (fun b => b = g) (wc) ((wc).setCells g (k * 6) [.int .i64 q9, .slice (some ⟨gb, 0, none⟩) 4096 4096, .int .i64 0, .bool false, .int .i64 0, .bool q92])) from Kept.setCells (R := fun b => b = g) (.inr rfl) _ _ (Kept.refl _ _))
              have HSz := hid ((SRC.out _ _ _ STc.out).on HKB.out (fun e => hgg.2.1 e.symm) (fun i hi e => by have h2 : i = g := e; omega))
              have HPz := hid (gP.kept HKB.out (fun e => hgg.2.2 e.symm))
              have HRz := hid (gR.kept HKB.out (fun e => by have h2 : w.heap.size = g := e; omega))
              have HKz := hid (gK.next HKB.out (fun i hi e => by have h2 : i = g := e; omega))
              have HFz := (show Hid (∀ b, footR kFrame (.slice (some ⟨g, 0, none⟩) n c) (qs.set k (⟨q9, .slice (some ⟨gb, 0, none⟩) 4096 4096, bs.set p7 p8, 0, false, 0, q92⟩ : EFrame)) b → w.heap.size < b ∧ b ≠ B ∧ b ≠ w2.heap.size) from fun b hb2 => by
                rcases footR_setNew b hb2 with h | h
                · exact HF.out b h
                · have h7 : gb = b := (by simpa [kFrame, Value.ownBlock] using h)
                  omega)
              have HNz := (show Hid ((qs.set k (⟨q9, .slice (some ⟨gb, 0, none⟩) 4096 4096, bs.set p7 p8, 0, false, 0, q92⟩ : EFrame)).length = n) from by unfold Hid; rw [List.length_set]; exact HN.out)
              clear gO gP gR gF gK bW hyy
              go_wp2
              go_roundw
              case rel => exact ⟨k + 1, _, qs.set k (⟨q9, .slice (some ⟨gb, 0, none⟩) 4096 4096, bs.set p7 p8, 0, false, 0, q92⟩ : EFrame), by omega, by go_num, by omega, HSz, HPz, HRz, HNz, HOA, HFz, HKz, hid (HSh.out.set hkq3 HOA.out rfl)⟩
              case measure => simp [intOf]; omega
            | true =>
              have bc := BLK.out _ _ _ STc.out
              obtain ⟨m0, m1, m2, m3, m4, m5⟩ := (show Blk wc hb 36 [.int .i64 q9, .slice (some ⟨gb, 0, none⟩) 4096 4096, .int .i64 0, .bool false, .int .i64 0, .bool q92] from bc).all6
              have frm := bc.frozen
              have STd := hid (ST2.out _ _ _ 3 (.bool true) STc.out)
              clear bc STc
              go_wp2_with fail
              refine (lsn_k (SRC.out _ _ _ STd.out) (by omega)).mono ?_
              rintro e we ⟨rl, rfl, hl1, hl2, hse, hke⟩
              have STe := hid (ST1.out _ _ _ _ _ STd.out hse hke)
              have be := BLK.out _ _ _ STe.out
              obtain ⟨s0, s1, s2, s3, s4, s5⟩ := (show Blk we hb 36 [.int .i64 q9, .slice (some ⟨gb, 0, none⟩) 4096 4096, .int .i64 0, .bool true, .int .i64 0, .bool q92] from be).all6
              have frs := be.frozen
              have STf := hid (ST2.out _ _ _ 4 (.int .i64 rl) STe.out)
              clear be STe STd hse hke m0 m1 m2 m3 m4 m5 frm
              obtain ⟨gO, gP, gR, gF, gK⟩ := FIN.out _ _ _ STf.out
              have bW := BLK.out _ _ _ STf.out
              obtain ⟨z0, z1, z2, z3, z4, z5⟩ := (show Blk (we.setCell ⟨hb, 4, none⟩ (.int .i64 rl)) hb 36 [.int .i64 q9, .slice (some ⟨gb, 0, none⟩) 4096 4096, .int .i64 0, .bool true, .int .i64 rl, .bool q92] from bW).all6
              obtain ⟨pp0, pp1⟩ := gP.all2
              have hkq3 : k < qs.length := by rw [HN.out]; exact hlt
              obtain ⟨pz, hpz⟩ : ∃ z, qs[k] = z := ⟨_, rfl⟩
              have hyy : ∀ i, i < 6 → ((we.setCell ⟨hb, 4, none⟩ (.int .i64 rl))).cell? ⟨g, k * 6 + i, none⟩ = (kFrame.cells pz)[i]? := fun i hi => by have h := gF.cell HN.out.symm k i hkq3 hi; rw [hpz] at h; exact h
              have y0 : ((we.setCell ⟨hb, 4, none⟩ (.int .i64 rl))).cell? ⟨g, k * 6, none⟩ = some (.int .i64 pz.page) := hyy 0 (by decide)
              have y1 : ((we.setCell ⟨hb, 4, none⟩ (.int .i64 rl))).cell? ⟨g, k * 6 + 1, none⟩ = some pz.v := hyy 1 (by decide)
              have y2 : ((we.setCell ⟨hb, 4, none⟩ (.int .i64 rl))).cell? ⟨g, k * 6 + 2, none⟩ = some (.int .i64 pz.pins) := hyy 2 (by decide)
              have y3 : ((we.setCell ⟨hb, 4, none⟩ (.int .i64 rl))).cell? ⟨g, k * 6 + 3, none⟩ = some (.bool pz.dirty) := hyy 3 (by decide)
              have y4 : ((we.setCell ⟨hb, 4, none⟩ (.int .i64 rl))).cell? ⟨g, k * 6 + 4, none⟩ = some (.int .i64 pz.rl) := hyy 4 (by decide)
              have y5 : ((we.setCell ⟨hb, 4, none⟩ (.int .i64 rl))).cell? ⟨g, k * 6 + 5, none⟩ = some (.bool pz.rf) := hyy 5 (by decide)
              have fg := gF.frozen HN.out.symm
              have hgg := HF.out g (.inl rfl)
              have HOA := (show Hid (OwnR kFrame 0 36 5 (((we.setCell ⟨hb, 4, none⟩ (.int .i64 rl))).setCells g (k * 6) [.int .i64 q9, .slice (some ⟨gb, 0, none⟩) 4096 4096, .int .i64 0, .bool true, .int .i64 rl, .bool q92]) (.slice (some ⟨g, 0, none⟩) n c) (qs.set k (⟨q9, .slice (some ⟨gb, 0, none⟩) 4096 4096, bs.set p7 p8, 0, true, rl, q92⟩ : EFrame))) from OwnR.setWhole (p' := (⟨q9, .slice (some ⟨gb, 0, none⟩) 4096 4096, bs.set p7 p8, 0, true, rl, q92⟩ : EFrame)) gF HN.out.symm hkq3 gO (fun b hb2 hf2 => by have h7 : gb = b := (by simpa [kFrame, Value.ownBlock] using hb2); have h1 := HFw.out b hf2; omega) _ rfl)
              have HKB := (show Hid (Kept (fun b => b = g) ((we.setCell ⟨hb, 4, none⟩ (.int .i64 rl))) (((we.setCell ⟨hb, 4, none⟩ (.int .i64 rl))).setCells g (k * 6) [.int .i64 q9, .slice (some ⟨gb, 0, none⟩) 4096 4096, .int .i64 0, .bool true, .int .i64 rl, .bool q92])) from Kept.setCells (R := fun b => b = g) (.inr rfl) _ _ (Kept.refl _ _))
              have HSz := hid ((SRC.out _ _ _ STf.out).on HKB.out (fun e => hgg.2.1 e.symm) (fun i hi e => by have h2 : i = g := e; omega))
              have HPz := hid (gP.kept HKB.out (fun e => hgg.2.2 e.symm))
              have HRz := hid (gR.kept HKB.out (fun e => by have h2 : w.heap.size = g := e; omega))
              have HKz := hid (gK.next HKB.out (fun i hi e => by have h2 : i = g := e; omega))
              have HFz := (show Hid (∀ b, footR kFrame (.slice (some ⟨g, 0, none⟩) n c) (qs.set k (⟨q9, .slice (some ⟨gb, 0, none⟩) 4096 4096, bs.set p7 p8, 0, true, rl, q92⟩ : EFrame)) b → w.heap.size < b ∧ b ≠ B ∧ b ≠ w2.heap.size) from fun b hb2 => by
                rcases footR_setNew b hb2 with h | h
                · exact HF.out b h
                · have h7 : gb = b := (by simpa [kFrame, Value.ownBlock] using h)
                  omega)
              have HNz := (show Hid ((qs.set k (⟨q9, .slice (some ⟨gb, 0, none⟩) 4096 4096, bs.set p7 p8, 0, true, rl, q92⟩ : EFrame)).length = n) from by unfold Hid; rw [List.length_set]; exact HN.out)
              clear gO gP gR gF gK bW hyy
              go_wp2
              go_roundw
              case rel => exact ⟨k + 1, _, qs.set k (⟨q9, .slice (some ⟨gb, 0, none⟩) 4096 4096, bs.set p7 p8, 0, true, rl, q92⟩ : EFrame), by omega, by go_num, by omega, HSz, HPz, HRz, HNz, HOA, HFz, HKz, hid (HSh.out.set hkq3 HOA.out rfl)⟩
              case measure => simp [intOf]; omega
    · obtain rfl : n = k := by omega
      go_wp2_with fail
      refine (next_k (n : Int) HS.out (by omega) (by constructor <;> omega)).mono ?_
      rintro e w3 ⟨r3, rfl, hd3, hs3, hk3⟩
      have HS3 := hid hs3
      have HP3 := hid (HP.out.kept hk3 (fun e => by omega))
      have HR3 := hid (HR.out.kept hk3 (fun e => by omega))
      have HO3 := hid (HO.out.kept hk3 (fun b hb e => (HF.out b hb).2.1 e))
      have HK3 := hid (HK.out.trans hk3)
      clear hs3 hk3 hd3 p0 p1 HS HP HR HO HK
      obtain ⟨p2, p3⟩ := HP3.out.all2
      have frP := HP3.out.frozen
      have lrP := HP3.out.lt
      have HKs := (show Hid (Kept (fun b => b = w2.heap.size) w3 (w3.setCell ⟨w2.heap.size, 1, none⟩ (.int .i64 r3))) from by unfold Hid; exact Kept.setCell (R := fun b => b = w2.heap.size) (Kept.refl _ _) (.inr rfl) _)
      have HP4 := (show Hid (Blk (w3.setCell ⟨w2.heap.size, 1, none⟩ (.int .i64 r3)) w2.heap.size 25 [.slice (some ⟨g, 0, none⟩) n c, .int .i64 r3]) from HP3.out.stored 1 _)
      have HS4 := hid (HS3.out.on HKs.out (by omega) (fun i hi e => by have h2 : i = w2.heap.size := e; omega))
      have HR4 := hid (HR3.out.kept HKs.out (by omega))
      have HO4 := hid (HO3.out.kept HKs.out (fun b hb e => (HF.out b hb).2.2 e))
      have HK4 := (show Hid (Kept (fun b => b = B) w (w3.setCell ⟨w2.heap.size, 1, none⟩ (.int .i64 r3))) from HK3.out.next HKs.out (fun i hi e => by have h2 : i = w2.heap.size := e; omega))
      clear HKs HS3 HP3 HR3 HO3 HK3
      go_wp2_with fail
      refine (chance_k 10 HS4.out (by omega) (by constructor <;> decide)).mono ?_
      rintro e w5 ⟨bb, rfl, hs5, hk5⟩
      have HS5 := hid hs5
      have HP5 := hid (HP4.out.kept hk5 (fun e => by omega))
      have HR5 := hid (HR4.out.kept hk5 (fun e => by omega))
      have HO5 := hid (HO4.out.kept hk5 (fun b hb e => (HF.out b hb).2.1 e))
      have HK5 := hid (HK4.out.trans hk5)
      clear hs5 hk5 p2 p3 frP lrP HS4 HP4 HR4 HO4 HK4
      cases bb with
      | false =>
          obtain ⟨q0, q1⟩ := HP5.out.all2
          obtain ⟨r0, r1⟩ := HR5.out.all2
          have frR := HR5.out.frozen
          have lrR := HR5.out.lt
          have HKR := (show Hid (Kept (fun b => b = w.heap.size) w5 ((w5.setCell ⟨w.heap.size, 0, none⟩ (.slice (some ⟨g, 0, none⟩) n c)).setCell ⟨w.heap.size, 1, none⟩ (.int .i64 r3))) from by unfold Hid; exact Kept.setCell (R := fun b => b = w.heap.size) (Kept.setCell (R := fun b => b = w.heap.size) (Kept.refl _ _) (.inr rfl) _) (.inr rfl) _)
          go_wp2
          refine bodyPost_ret (v := .agg #[.slice (some ⟨g, 0, none⟩) n c, .int .i64 r3]) (by simp [results, Try.results18, go_sem, r0, r1]) rfl ⟨(some ⟨g, 0, none⟩), n, c, r3, qs, (kk + 1 + 1), rfl, by omega, HN.out.symm, by omega, ?_, ?_, ?_, ?_⟩
          · exact (HO5.out.rd).kept HKR.out (fun b hb e => by have h1 := HF.out b hb; have h2 : b = w.heap.size := e; omega)
          · exact fun b hb => by have h1 := HF.out b hb; omega
          · exact HS5.out.on HKR.out (by omega) (fun i hi e => by have h2 : i = w.heap.size := e; omega)
          · exact HK5.out.next HKR.out (fun i hi e => by have h2 : i = w.heap.size := e; omega)
      | true =>
          obtain ⟨q0, q1⟩ := HP5.out.all2
          go_wp2_with fail
          refine (hbend w0 w5 B v cs _ size r3 g n c qs HS5.out (by omega) hn1 hn4 HN.out HSh.out HO5.out (fun b hb => by have := HF.out b hb; omega)).mono ?_
          rintro e w6 ⟨a6, n6, c6, h6, qs6, k6, rfl, hk6, hn6, hn17, hrd6, hft6, hs6, hkp6⟩
          have HS6 := hid hs6
          have HP6 := hid (HP5.out.kept hkp6 (fun e => by rcases e with e | e; omega; exact (HF.out _ e).2.2 rfl))
          have HR6 := hid (HR5.out.kept hkp6 (fun e => by rcases e with e | e; omega; have := HF.out _ e; omega))
          have HK6 := (show Hid (Kept (fun b => b = B) w w6) from HK5.out.next hkp6 (fun i hi e => by rcases e with e | e; exact e; have := HF.out _ e; omega))
          have hw5 := HP5.out.lt
          have HF6 := (show Hid (∀ b, footR kFrame (.slice a6 n6 c6) qs6 b → w.heap.size < b ∧ b ≠ B ∧ b ≠ w2.heap.size) from fun b hb => by
            obtain ⟨h1, h2⟩ := hft6 b hb
            rcases h2 with h2 | h2
            · exact HF.out b h2
            · omega)
          have HN6 := hid hn6
          have HRD6 := hid hrd6
          clear hs6 hkp6 hrd6 hft6 hn6 q0 q1 HS5 HP5 HR5 HO5 HK5
          obtain ⟨q2, q3⟩ := HP6.out.all2
          have frP := HP6.out.frozen
          have lrP := HP6.out.lt
          have HKs := (show Hid (Kept (fun b => b = w2.heap.size) w6 ((w6.setCell ⟨w2.heap.size, 0, none⟩ (.slice a6 n6 c6)).setCell ⟨w2.heap.size, 1, none⟩ (.int .i64 h6))) from by unfold Hid; exact Kept.setCell (R := fun b => b = w2.heap.size) (Kept.setCell (R := fun b => b = w2.heap.size) (Kept.refl _ _) (.inr rfl) _) (.inr rfl) _)
          have HP7 := (show Hid (Blk ((w6.setCell ⟨w2.heap.size, 0, none⟩ (.slice a6 n6 c6)).setCell ⟨w2.heap.size, 1, none⟩ (.int .i64 h6)) w2.heap.size 25 [.slice a6 n6 c6, .int .i64 h6]) from (HP6.out.stored 0 _).stored 1 _)
          have HS7 := hid (HS6.out.on HKs.out (by omega) (fun i hi e => by have h2 : i = w2.heap.size := e; omega))
          have HR7 := hid (HR6.out.kept HKs.out (by omega))
          have HRD7 := hid (HRD6.out.kept HKs.out (fun b hb e => (HF6.out b hb).2.2 e))
          have HK7 := hid (HK6.out.next HKs.out (fun i hi e => by have h2 : i = w2.heap.size := e; omega))
          obtain ⟨q4, q5⟩ := HP7.out.all2
          obtain ⟨r0, r1⟩ := HR7.out.all2
          have frR := HR7.out.frozen
          have lrR := HR7.out.lt
          have HKR := (show Hid (Kept (fun b => b = w.heap.size) ((w6.setCell ⟨w2.heap.size, 0, none⟩ (.slice a6 n6 c6)).setCell ⟨w2.heap.size, 1, none⟩ (.int .i64 h6)) ((((w6.setCell ⟨w2.heap.size, 0, none⟩ (.slice a6 n6 c6)).setCell ⟨w2.heap.size, 1, none⟩ (.int .i64 h6)).setCell ⟨w.heap.size, 0, none⟩ (.slice a6 n6 c6)).setCell ⟨w.heap.size, 1, none⟩ (.int .i64 h6))) from by unfold Hid; exact Kept.setCell (R := fun b => b = w.heap.size) (Kept.setCell (R := fun b => b = w.heap.size) (Kept.refl _ _) (.inr rfl) _) (.inr rfl) _)
          go_wp2
          refine bodyPost_ret (v := .agg #[.slice a6 n6 c6, .int .i64 h6]) (by simp [results, Try.results18, go_sem, r0, r1]) rfl ⟨a6, n6, c6, h6, qs6, k6, rfl, by omega, HN6.out, by omega, ?_, ?_, ?_, ?_⟩
          · exact (HRD7.out).kept HKR.out (fun b hb e => by have h1 := HF6.out b hb; have h2 : b = w.heap.size := e; omega)
          · exact fun b hb => by have h1 := HF6.out b hb; omega
          · exact HS7.out.on HKR.out (by omega) (fun i hi e => by have h2 : i = w.heap.size := e; omega)
          · exact HK7.out.next HKR.out (fun i hi e => by have h2 : i = w.heap.size := e; omega)
theorem drawPool_of (hbend : BendsPool) : DrawsPool := fun w0 w B v cs size h => drawPool_k hbend h
end Go.Proofs.Ytbbllmlokddolaa
