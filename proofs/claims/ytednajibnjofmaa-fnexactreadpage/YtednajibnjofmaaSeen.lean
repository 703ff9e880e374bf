/-
  impl.seenSectors: the sectors of a valid disk as a reader sees them.
-/
import Derived.Test.YtednajibnjofmaaSee
import Derived.Test.YtednajibnjofmaaBlkBig
namespace Go.Proofs.Ytednajibnjofmaa
set_option maxRecDepth 100000
set_option maxHeartbeats 4000000
open Go.RowKit
set_option linter.unusedVariables false
set_option linter.unusedSimpArgs false

theorem seeD_snoc (s t : Int) (dur : List Int) (ds : List (Int × List Int)) (bs : List Int) : seeD s dur (ds ++ [(t, bs)]) = if t = s then bs else seeD s dur ds := by
  unfold seeD
  by_cases h : t = s
  · subst h
    rw [lastP_snoc, if_pos rfl]
    rfl
  · rw [lastP_append_none _ _ _ (fun p hp => by simp at hp; rw [hp]; exact h), if_neg h]
/-- The answer: a list of slices, each of which reads as a sector. -/
def SeenR (w w' : World) (dur : List Int) (ds : List (Int × List Int)) (v : Value) : Prop :=
  ∃ G us, v = .slice (some ⟨G, 0, none⟩) us.length us.length ∧ us.length = dur.length / 512 ∧ w.heap.size ≤ G ∧ Blk w' G 22 us ∧ (∀ i (h : i < us.length), Rd .u8 w us[i] (seeD (i : Int) dur ds)) ∧ Same w w'
theorem Try.infoBytes' : (Try.prog.info? 22).map (fun i => (i.zero, i.size, i.bytes)) = some (some (.slice none 0 0), 1, 24) := by kernel_rfl

/-- A row of one-cell elements that fills its block. -/
theorem Blk.of_row {w : World} {base g n : Nat} {e : TypeId} {xs : List Value} (h : w.ownsRow base e 1 (.slice (some ⟨g, 0, none⟩) n n) n xs) : Blk w g e xs := by
  rcases h.2 with ⟨h, _⟩ | ⟨g', cap, cur, h, _, hg, _, _, hs, ht⟩
  · cases h
  · cases h
    have hl : cur.toList.length = n * 1 := by simpa using hs
    rw [List.take_of_length_le (by omega)] at ht
    unfold Blk
    rw [← ht]
    simpa using hg
theorem madeS (n : Nat) : (madeCells (Value.slice none 0 0).cells (n * 1)).toList = List.replicate n (Value.slice none 0 0) := by
  apply List.ext_getElem?
  intro j
  by_cases hj : j < n
  · simp [madeCells, Value.cells, hj, Nat.mod_one]
  · rw [List.getElem?_eq_none (by simp [madeCells]; omega), List.getElem?_eq_none (by simp; omega)]
/-- the sectors of the durable bytes -/
def durU (b o c : Nat) (i : Nat) : Value := .slice (some ⟨b, o + i * 512, none⟩) 512 (c - i * 512)
def durUs (b o c k : Nat) : List Value := (List.range k).map (durU b o c)
theorem durUs_length (b o c k : Nat) : (durUs b o c k).length = k := by simp [durUs]
theorem durUs_step (b o c k n : Nat) (h : k < n) : (durUs b o c k ++ List.replicate (n - k) (Value.slice none 0 0)).set k (durU b o c k) = durUs b o c (k + 1) ++ List.replicate (n - (k + 1)) (Value.slice none 0 0) := by
  obtain ⟨m, hm⟩ : ∃ m, n - k = m + 1 := ⟨n - k - 1, by omega⟩
  rw [hm, List.set_append_right (h := by rw [durUs_length]; exact Nat.le_refl _), durUs_length, Nat.sub_self, List.replicate_succ, List.set_cons_zero, show n - (k + 1) = m from by omega]
  unfold durUs
  rw [List.range_succ, List.map_append, List.append_assoc]
  rfl
theorem seen_any (dv pv : Value) (dur : List Int) (ps : List PW) (w : World) (hV : Valid dur.length (dataP ps)) (hv : RdD w dv pv dur ps) :
    Calls Try.prog 30 #[.agg #[dv, pv]] w fun e w' => ∃ v, e = .returned v ∧ SeenR w w' dur (dataP ps) v := by
  obtain ⟨⟨h1, h2, h3, h4⟩, hall⟩ := hV
  rw [dataP_length] at h4
  have HALL : Hid (∀ k (h : k < ps.length), 0 ≤ ps[k].sec ∧ ps[k].sec < (dur.length / 512 : Nat) ∧ ps[k].bs.length = 512) := fun k h => hall (ps[k].sec, ps[k].bs) (List.mem_map.2 ⟨ps[k], List.getElem_mem h, rfl⟩)
  have hn2 := hv.pend.len
  have hm := hv.dur.1
  unfold maxLen at hn2
  obtain ⟨N, hN⟩ : ∃ N, dur.length / 512 = N := ⟨_, rfl⟩
  have hlen : dur.length = N * 512 := by omega
  obtain ⟨b0, o0, c0, rfl, hl0, hc0⟩ : ∃ b off c, dv = .slice (some ⟨b, off, none⟩) dur.length c ∧ dur.length ≤ c ∧ ∀ i, i < dur.length → w.cell? ⟨b, off + i, none⟩ = some (.int .u8 (dur.getD i 0)) := by
    rcases hv.dur.2 with ⟨rfl, _⟩ | h
    · simp at h2
    · exact h
  have HC0 := hid hc0
  obtain ⟨a2, c2, rfl⟩ := hv.pend.form
  have HP := hid hv.pend
  obtain ⟨i0, hi, hz0, hz1, hz2⟩ := info_parts Try.infoBytes'
  have HK0 := hid (sameA w [.slice (some ⟨b0, o0, none⟩) dur.length c0, .slice a2 ps.length c2] 32)
  have HB0 := hid (Blk.newL w [.slice (some ⟨b0, o0, none⟩) dur.length c0, .slice a2 ps.length c2] 32)
  have k0 := fun wx => countSectors_any (some ⟨b0, o0, none⟩) dur.length c0 a2 ps.length c2 wx hm
  rw [hN] at h2 h3 k0 HALL
  have HLN := hid hlen
  have HN := hid hN
  clear hv hc0 hall hN h1
  generalize hdl : dur.length = L at hm hlen hl0 HLN HK0 HB0 k0 ⊢
  have HDL := hid hdl
  clear hdl
  subst hlen
  go_enter Try.func30, Try.ntmps30
  go_wp2_with fail
  refine (k0 _).mono ?_
  rintro e w1 ⟨rfl, hw1⟩
  have hk1 : Same (w.alloc (.cells #[.slice (some ⟨b0, o0, none⟩) (N * 512) c0, .slice a2 ps.length c2] 32)) w1 := by rw [hw1]; exact (Kept.refl _ _).alloc _
  have HK1 := hid (HK0.out.trans hk1)
  have HB1 := hid (HB0.out.same hk1)
  clear hk1 hw1 k0 HK0 HB0
  go_wp2_with (at_make; go_loud (refine wpList_make_full _ rfl (.tmp 8) (.tmp 8) 54 rfl 0 22 i0 (.slice none 0 0) 1 Try.underlying54 hi hz0 hz1 .i64 .i64 _ _ N rfl rfl (by simp) (by simp) (by rw [hz2]; omega) (by unfold maxLen; omega) (Nat.zero_le _) ?_); intro w2 hown hgrow; have HG2 := (show Hid (Blk w2 w1.heap.size 22 (List.replicate N (Value.slice none 0 0))) from (by rw [madeS] at hown; exact Blk.of_row hown)); have HK2 : Hid (Same w1 w2) := Kept.of_grown hgrow (fun k e => by cases e); clear hown hgrow)
  have hzw : w.heap.size < w1.heap.size := HB1.out.lt
  have HB2 := hid (HB1.out.same HK2.out)
  go_loopw [12] (fun i wr => ∃ (k : Nat), k ≤ N ∧ i = .int .i64 (k : Int) ∧ Hid (Blk wr w1.heap.size 22 (durUs b0 o0 c0 k ++ List.replicate (N - k) (Value.slice none 0 0))) ∧ Hid (Blk wr w.heap.size 32 [.slice (some ⟨b0, o0, none⟩) (N * 512) c0, .slice a2 ps.length c2]) ∧ Hid (Same w1 wr)) (fun i _ => N - (intOf i).toNat)
  case atStart => exact ⟨0, Nat.zero_le _, rfl, by simpa [durUs, Hid] using HG2.out, HB2, HK2⟩
  case round =>
    obtain ⟨k, hk, rfl, HG, HB, HK⟩ := hrel
    clear HG2 HB2 HK2 HB1
    by_cases hlt : k < N
    case pos =>
      obtain ⟨d0, d1⟩ := HB.out.all2
      have e1 : ((k : Int) * 512).toNat = k * 512 := by omega
      have e2 : (((k : Int) + 1) * 512).toNat = k * 512 + 512 := by omega
      have g1 : ((k : Int) + 1) * 512 ≤ (c0 : Int) := by omega
      have g2 : 0 ≤ ((k : Int) + 1) * 512 := by omega
      have g3 : (k : Int) * 512 ≤ ((k : Int) + 1) * 512 := by omega
      have hcl := HG.out.cell k
      have hfz := HG.out.frozen k
      rw [List.getElem?_append_right (by rw [durUs_length]; exact Nat.le_refl _), durUs_length, Nat.sub_self, List.getElem?_replicate, if_pos (by omega)] at hcl
      have HST := hid (HG.out.stored k (durU b0 o0 c0 k))
      rw [durUs_step b0 o0 c0 k N hlt] at HST
      unfold durU at HST
      go_wp2
      go_roundw
      case rel => exact ⟨k + 1, by omega, by go_num, HST, HB.out.other (by dsimp only; omega) _, HK.out.setCell (.inl (Nat.le_refl _)) _⟩
      case measure => simp [intOf]; omega
    obtain rfl : k = N := by omega
    have hzr := HK.out.size
    have HG1 := HG.out
    rw [Nat.sub_self, List.replicate_zero, List.append_nil] at HG1
    have HUS : Hid (∀ i (h : i < (durUs b0 o0 c0 k).length), Rd .u8 w (durUs b0 o0 c0 k)[i] (seeD (i : Int) dur (dataP (ps.take 0)))) := fun i h => by
      rw [durUs_length] at h
      have e : (durUs b0 o0 c0 k)[i]'(by rw [durUs_length]; exact h) = durU b0 o0 c0 i := by simp [durUs]
      rw [e]
      have hs : seeD (i : Int) dur (dataP (ps.take 0)) = (dur.drop (i * 512)).take 512 := by simp [seeD, dataP, lastP]
      rw [hs]
      exact Rd.part (fun j hj => HC0.out j hj) (i * 512) 512 (by rw [HDL.out]; omega) rfl (by omega) (by simp [maxLen])
    have HGF := hid HG1
    clear HG1 HG
    obtain ⟨d0, d1⟩ := HB.out.all2
    go_wp2_with fail
    go_loopw [30] (fun i wx => ∃ (j : Nat) (us : List Value), j ≤ ps.length ∧ i = .int .i64 (j : Int) ∧ Hid (us.length = k) ∧ Hid (Blk wx w1.heap.size 22 us) ∧ Hid (∀ i (h : i < us.length), Rd .u8 w us[i] (seeD (i : Int) dur (dataP (ps.take j)))) ∧ Hid (Same w1 wx)) (fun i _ => ps.length - (intOf i).toNat)
    case atStart => exact ⟨0, _, Nat.zero_le _, rfl, durUs_length _ _ _ _, HGF, HUS, HK⟩
    case round =>
      clear HGF HUS d0 d1 HB HK
      obtain ⟨j, us, hj, rfl, HUL, HG, HUS, HK⟩ := hrel
      by_cases hlt : j < ps.length
      case neg =>
        obtain rfl : j = ps.length := by omega
        rw [List.take_length] at HUS
        go_wp2
        go_ret
        exact ⟨_, rfl, w1.heap.size, us, by rw [HUL.out]; rfl, by rw [HUL.out, HN.out], by omega, HG.out, HUS.out, HK1.out.trans HK.out⟩
      obtain ⟨b2, off2, rfl, hc⟩ : ∃ b off, a2 = some ⟨b, off, none⟩ ∧ ∀ i (h : i < ps.length), w.cell? ⟨b, off + i * 2, none⟩ = some (.int .i64 ps[i].sec) ∧ w.cell? ⟨b, off + i * 2 + 1, none⟩ = some ps[i].v := by
        rcases HP.out.row with ⟨h, _⟩ | ⟨b, off, c, e, hc⟩
        · rw [h] at hlt; simp at hlt
        · simp only [Value.slice.injEq, true_and] at e
          obtain ⟨rfl, rfl⟩ := e
          exact ⟨b, off, rfl, hc⟩
      have q1 := (HK1.out.trans HK.out).cellOf (hc j hlt).1 id
      have q2 := (HK1.out.trans HK.out).cellOf (hc j hlt).2 id
      obtain ⟨s1, s2, s3⟩ := HALL.out j hlt
      obtain ⟨sn, hsn⟩ : ∃ sn : Nat, ps[j].sec = sn := ⟨ps[j].sec.toNat, by omega⟩
      have HD := hid (HP.out.data _ (List.getElem_mem hlt))
      obtain ⟨a5, c5, e5⟩ := HD.out.form
      have hstep : ps.take (j + 1) = ps.take j ++ [ps[j]] := List.take_succ_eq_append_getElem hlt
      have hdat : dataP (ps.take (j + 1)) = dataP (ps.take j) ++ [((sn : Int), ps[j].bs)] := by
        rw [hstep]; unfold dataP; rw [List.map_append]; simp [hsn]
      have HDAT := hid hdat
      have HD5 := HD.out
      rw [e5, s3] at HD5
      have HDV := hid HD5
      rw [hsn] at q1 s1 s2
      rw [e5, s3] at q2
      have hsk : sn < k := by omega
      have hcl := HG.out.cell sn
      have hfz := HG.out.frozen sn
      rw [List.getElem?_eq_getElem (by rw [HUL.out]; exact hsk)] at hcl
      generalize us[sn]'(by rw [HUL.out]; exact hsk) = uold at hcl
      have hzk := HK.out.size
      have hz1 := HG.out.lt
      clear hc hstep hdat e5 hsn HD5 HD s1 s2 s3
      go_wp2
      go_roundw
      case rel =>
        refine ⟨j + 1, us.set sn (.slice a5 512 c5), by omega, by go_num, by rw [List.length_set]; exact HUL.out, ?_, fun i h => ?_, ?_⟩
        · first | exact (HG.out.stored sn _).alloc _ | exact (HG.out.alloc _).stored sn _
        · rw [HDAT.out, seeD_snoc]
          by_cases e : (sn : Int) = (i : Int)
          · rw [if_pos e]
            obtain rfl : sn = i := by omega
            rw [List.getElem_set_self]
            exact HDV.out
          · rw [if_neg e, List.getElem_set_ne (by omega)]
            exact HUS.out i (by rwa [List.length_set] at h)
        · first | exact (HK.out.setCell (.inl (Nat.le_refl _)) _).alloc _ | exact (HK.out.alloc _).setCell (.inl (Nat.le_refl _)) _
      case measure => simp [intOf]; omega
end Go.Proofs.Ytednajibnjofmaa
