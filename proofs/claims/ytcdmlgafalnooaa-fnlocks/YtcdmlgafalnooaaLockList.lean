/-
  (lockTable).list.
-/
import Derived.Test.YtcdmlgafalnooaaLockLs
import Derived.Test.YtcdmlgafalnooaaApp3
namespace Go.Proofs.Ytcdmlgafalnooaa
set_option maxRecDepth 100000
set_option maxHeartbeats 8000000
open Go Go.RowKit Go.MapKept
set_option linter.unusedVariables false
set_option linter.unusedSimpArgs false

def iv8 : Value → Nat | .int _ q => q.toNat | _ => 0
theorem cont_ids {tt : List TE} (hf : Full tt) : tt.length ≤ (cont tt).length ∧ ∀ e ∈ tt, ∃ l ∈ cont tt, l.1 = e.id := by
  constructor
  · induction tt with
    | nil => simp
    | cons e r ih =>
      have h1 := ih (fun y hy => hf y (List.mem_cons_of_mem _ hy))
      have h2 : 0 < e.inn.length := List.length_pos_iff.2 (hf e List.mem_cons_self)
      rw [cont, List.length_append, List.length_cons]
      simp [TE.ls]
      omega
  · intro e he
    obtain ⟨x, hx⟩ := List.exists_mem_of_ne_nil _ (hf e he)
    exact ⟨(e.id, x.1, x.2.1), mem_cont.2 ⟨e, he, rfl, x, hx, rfl, rfl⟩, rfl⟩
theorem inn_len {tt : List TE} {e : TE} (he : e ∈ tt) : e.inn.length ≤ (cont tt).length := by
  obtain ⟨pre, post, rfl⟩ := List.append_of_mem he
  rw [(cont_mid_perm pre post e).length_eq, List.length_append]
  simp [TE.ls]
theorem rd_row {w : World} {base : Nat} {v : Value} {n : Nat} {zs : List Int} (h : w.ownsRow base 2 1 v n (zs.map encZ)) : Rd .i64 w v zs ∧ zs.length = n ∧ (∀ b, v.ownBlock = some b → base ≤ b ∧ b < w.heap.size) := by
  have hl : zs.length = n := by have := h.1; simpa using this
  have ho : Own base 2 .i64 w v zs := by
    unfold Own
    rw [hl]
    exact h
  refine ⟨ho.rd, hl, fun b hb => ?_⟩
  rcases ho.form with ⟨rfl, _⟩ | ⟨g, cap, rfl, h1, h2, _⟩
  · simp [Value.ownBlock] at hb
  · have : g = b := by simpa [Value.ownBlock] using hb
    omega
theorem Rd.at8 {w : World} {a : Option Addr} {c : Nat} {zs : List Int} (h : Rd .i64 w (.slice a zs.length c) zs) (h0 : 0 < zs.length) : ∃ b off, a = some ⟨b, off, none⟩ ∧ zs.length ≤ c ∧ ∀ j (hj : j < zs.length), w.cell? ⟨b, off + j, none⟩ = some (.int .i64 zs[j]) := by
  rcases h.2 with ⟨rfl, _⟩ | ⟨b, off, c', hv, hl, hc⟩
  · simp at h0
  · simp only [Value.slice.injEq] at hv
    obtain ⟨rfl, _, rfl⟩ := hv
    refine ⟨b, off, rfl, hl, fun j hj => ?_⟩
    rw [hc j hj]
    simp [List.getD_eq_getElem?_getD, hj]

theorem part_le {S : List T3} {ids : List Int} (h : ids.flatMap (grp S) = S) {k : Nat} (hk : k < ids.length) (j : Nat) : ((ids.take k).flatMap (grp S) ++ (grp S ids[k]).take j).length ≤ S.length := by
  have h1 : (ids.take (k + 1)).flatMap (grp S) ++ (ids.drop (k + 1)).flatMap (grp S) = S := by rw [← List.flatMap_append, List.take_append_drop]; exact h
  have h2 := congrArg List.length h1
  rw [List.take_succ_eq_append_getElem hk, List.flatMap_append, List.length_append, List.length_append] at h2
  rw [List.length_append]
  have h3 : ((grp S ids[k]).take j).length ≤ ([ids[k]].flatMap (grp S)).length := by
    rw [List.flatMap_singleton]
    exact List.length_take_le' _ _
  omega
theorem list8_any (w : World) (b0 B ck : Nat) (tt : List TE) (S : List T3) (h : Tab w b0 B tt ck) (hp : (cont tt).Perm S) (hr : S.Pairwise ltK) (hf : Full tt) (hl : S.length ≤ 1000000)
    (hb : ∀ l ∈ S, IsI l.1 ∧ IsI l.2.1) :
    Calls Try.prog 29 #[.map (some B)] w fun e w' => ∃ y : FR, e = .returned y.v ∧ y.bs = flat3 S ∧ (∀ b, FootL (FR.rows 3 y) b → w.heap.size ≤ b) ∧ OwnL w' (FR.rows 3 y) ∧ Same w w' := by
  obtain ⟨i0, hi, hz0, hz1, hz2⟩ := info_parts Try.infoLock
  have k1 := count8_any w b0 B ck tt h (by rw [hp.length_eq]; exact hl)
  have hcl := hp.length_eq
  rw [hcl] at k1
  obtain ⟨hid1, hid2⟩ := cont_ids hf
  have hkl : (tt.map TE.kv).length ≤ 1000000 := by rw [List.length_map]; omega
  have hkb : ∀ e ∈ tt.map TE.kv, -9223372036854775808 ≤ e.1 ∧ e.1 ≤ 9223372036854775807 := fun e he => by
    obtain ⟨y, hy, rfl⟩ := List.mem_map.1 he
    obtain ⟨l, hl1, hl2⟩ := hid2 y hy
    have := (hb l (hp.mem_iff.1 hl1)).1
    rw [hl2] at this
    exact this
  have hall := ids_all h hp hr
  obtain ⟨ids, hids⟩ : ∃ ids, sortI ((tt.map TE.kv).map (·.1)) = ids := ⟨_, rfl⟩
  have hmem : ∀ x ∈ ids, ∃ e ∈ tt, e.id = x := fun x hx => by
    rw [← hids, sortI_mem, List.map_map] at hx
    obtain ⟨e, he, h1⟩ := List.mem_map.1 hx
    exact ⟨e, he, h1⟩
  rw [hids] at hall
  have HT := hid h
  have HP := hid hp
  have HR := hid hr
  have HB := hid hb
  have HALL := hid hall
  have HME := hid hmem
  have HKB := hid hkb
  have HID := hid hids
  clear h hp hr hb hall hmem hkb hids hid1 hid2 hcl
  go_enter Try.func29, Try.ntmps29
  go_wp2_with fail
  refine k1.mono ?_
  rintro e w1 ⟨rfl, hk1⟩
  have HK1 := hid hk1
  clear k1 hk1
  obtain ⟨w2, hrun2, hown2, hgr2⟩ := run_make_own (P := Try.prog) w1 0 23 51 i0 _ 3 Try.underlying23 hi hz0 hz1 .i64 .i64 S.length (by rw [hz2]; omega) (by unfold maxLen; omega) (Nat.zero_le _)
  have HO2 := (show Hid (OwnF 3 51 w2 w1.heap.size 0 S.length []) from hown2)
  have HK2 := (show Hid (Same w w2) from HK1.out.grown hgr2 (fun k e => by simp at e))
  have hs2 : w1.heap.size < w2.heap.size := HO2.out.lt
  have hs1 : w.heap.size ≤ w1.heap.size := HK1.out.size
  clear hown2 hgr2
  have HT2 := hid (HT.out.same HK2.out)
  have k3 := keysA_any (some B) w2
  have k4 := sortedA_any w2 B ck (tt.map TE.kv) HT2.out.out HT2.out.ok hkl HKB.out
  go_wp2_with fail
  refine k3.mono ?_
  rintro e w3 ⟨rfl, rfl⟩
  clear k3 hrun2
  go_wp2_with fail
  refine k4.mono ?_
  rintro e w4 ⟨v, rfl, hrow, hk4⟩
  rw [HID.out] at hrow
  obtain ⟨hrd, hlen, hfoot⟩ := rd_row hrow
  obtain ⟨ai, ci, rfl⟩ := hrd.form
  have HS4 := (show Hid (Same w2 w4) from ((Kept.refl _ _).alloc _).trans hk4)
  have HO4 := hid (HO2.out.same HS4.out)
  have HK4 := hid (HK2.out.trans HS4.out)
  have HRD := hid hrd
  have HFT := (show Hid (∀ b, (Value.slice ai ids.length ci).ownBlock = some b → w1.heap.size < b ∧ b < w4.heap.size) from fun b hb => by have := hfoot b hb; omega)
  have hidl : ids.length ≤ 1000000 := by omega
  clear k4 hrow hk4 hrd hfoot hlen HS4 HO2 HT2 HK2 HK1
  go_wp2_with fail
  go_loopw [3, 15] (fun o i wr => ∃ (k g q c : Nat) (ys : List Int), k ≤ ids.length ∧ o = .slice (some ⟨g, 0, none⟩) q c ∧ i = .int .i64 k ∧ w.heap.size ≤ g ∧ Hid (OwnF 3 51 wr g q c ys) ∧ Hid (ys = flat3 ((ids.take k).flatMap (grp S))) ∧ Hid (Same w wr) ∧ Hid (Rd .i64 wr (.slice ai ids.length ci) ids) ∧ Hid (∀ b, (Value.slice ai ids.length ci).ownBlock = some b → b ≠ g ∧ b < wr.heap.size)) (fun _ i _ => ids.length - iv8 i)
  case atStart => exact ⟨0, w1.heap.size, 0, S.length, [], Nat.zero_le _, rfl, rfl, hs1, HO4, hid rfl, HK4, HRD, hid (fun b e => by have := HFT.out _ e; omega)⟩
  case round =>
    obtain ⟨k, g, q, c, ys, hk, rfl, rfl, hg, HO, HY, HK, HD, HNE⟩ := hrel
    clear HO4 HK4 HRD HFT
    by_cases hlt : k < ids.length
    · obtain ⟨bi, oi, ha, hci, hcell⟩ := HD.out.at8 (by omega)
      subst ha
      have hc0 := hcell k hlt
      clear hcell
      obtain ⟨e, he, hei⟩ := HME.out _ (List.getElem_mem hlt)
      rw [← hei] at hc0
      obtain ⟨pre, post, hpp⟩ := List.append_of_mem he
      have HTr := hid (HT.out.same HK.out)
      rw [hpp] at HTr
      have HPp := HP
      rw [hpp] at HPp
      have r1 : ∀ wx, Same w wx → (Instr.lookup 45 (.map (some B)) (.int .i64 e.id) false).run Try.prog wx = .ok (.map (some e.blk)) wx := fun wx hx => by
        have hT := HT.out.same hx
        rw [hpp] at hT
        exact run_lookup_hit (pre := pre.map TE.kv) (post := post.map TE.kv) (b := e.st) Try.underlying45 Try.underlying2 (by have h := hT.out; rw [map_mid] at h; exact h) (te_miss (fun y hy => hT.once y (List.mem_append_left _ hy))) false
      have r1r := r1 _ HK.out
      have htx := txns_all HTr.out HPp.out HR.out
      have heT : e ∈ pre ++ e :: post := List.mem_append_right _ List.mem_cons_self
      have hilen : e.inn.length ≤ 1000000 := by
        have h1 := inn_len he
        have h2 := HP.out.length_eq
        omega
      have k5 := keysB_any (some e.blk) wr
      have k6 := sortedB_any wr e.blk e.ck (e.inn.map ikv) (HTr.out.inn e heT) (HTr.out.iok e heT) (by rw [List.length_map]; exact hilen) (fun y hy => by
        obtain ⟨x, hx, rfl⟩ := List.mem_map.1 hy
        have h1 := HB.out (e.id, x.1, x.2.1) (HP.out.mem_iff.1 (mem_cont.2 ⟨e, he, rfl, x, hx, rfl, rfl⟩))
        exact h1.2)
      rw [htx] at k6
      have HR1 := hid r1
      have HEI := hid hei
      have HPPt := hid hpp
      clear htx r1 he hei hpp
      go_wp2_with fail
      refine k5.mono ?_
      rintro e' w6 ⟨rfl, rfl⟩
      clear k5
      go_wp2_with fail
      refine k6.mono ?_
      rintro e' w7 ⟨v, rfl, hrow, hk7⟩
      obtain ⟨hrd, hlen, hfoot⟩ := rd_row hrow
      obtain ⟨at7, ct7, rfl⟩ := hrd.form
      have HS7 := (show Hid (Same wr w7) from ((Kept.refl _ _).alloc _).trans hk7)
      have hsr := HS7.out.size
      have HO7 := hid (HO.out.same HS7.out)
      have HK7 := hid (HK.out.trans HS7.out)
      have HD7 := hid (HD.out.same HS7.out)
      have HDt := hid hrd
      have HN7 := (show Hid (∀ b, (Value.slice (some ⟨bi, oi, none⟩) ids.length ci).ownBlock = some b → b ≠ g ∧ b < w7.heap.size) from fun b hb => by have := HNE.out b hb; omega)
      have hgr : g < wr.heap.size := HO.out.lt
      have HNt := (show Hid (∀ b, (Value.slice at7 ((grp S e.id).map (·.2.1)).length ct7).ownBlock = some b → b ≠ g ∧ b < w7.heap.size) from fun b hb => by have := hfoot b hb; omega)
      obtain ⟨ts, hts⟩ : ∃ ts, (grp S e.id).map (·.2.1) = ts := ⟨_, rfl⟩
      rw [hts] at HDt HNt ⊢
      have HTS := hid hts
      have htl : ts.length ≤ 1000000 := by
        rw [← hts, List.length_map]
        exact Nat.le_trans (List.length_filter_le _ _) hl
      clear k6 hrow hk7 hrd hlen hfoot HS7 HD HO HK HNE hts r1r
      go_wp2_with fail
      go_loopw [3, 25] (fun o i wj => ∃ (j g q c : Nat) (ys : List Int), j ≤ ts.length ∧ o = .slice (some ⟨g, 0, none⟩) q c ∧ i = .int .i64 j ∧ w.heap.size ≤ g ∧ Hid (OwnF 3 51 wj g q c ys) ∧ Hid (ys = flat3 ((ids.take k).flatMap (grp S) ++ (grp S e.id).take j)) ∧ Hid (Same w wj) ∧ Hid (Rd .i64 wj (.slice (some ⟨bi, oi, none⟩) ids.length ci) ids) ∧ Hid (∀ b, (Value.slice (some ⟨bi, oi, none⟩) ids.length ci).ownBlock = some b → b ≠ g ∧ b < wj.heap.size) ∧ Hid (Rd .i64 wj (.slice at7 ts.length ct7) ts) ∧ Hid (∀ b, (Value.slice at7 ts.length ct7).ownBlock = some b → b ≠ g ∧ b < wj.heap.size)) (fun _ i _ => ts.length - iv8 i)
      case atStart => exact ⟨0, g, q, c, ys, Nat.zero_le _, rfl, rfl, hg, HO7, hid (by rw [HY.out]; simp), HK7, HD7, HN7, HDt, HNt⟩
      case round =>
        clear HO7 HK7 HD7 HN7 HDt HNt HY hg hgr hsr HTr
        obtain ⟨j, g, q, c, ys, hj, rfl, rfl, hg, HO, HY, HK, HD, HN, HDt, HNt⟩ := hrel
        have HTr := hid (HT.out.same HK.out)
        rw [HPPt.out] at HTr
        have HTG := (show Hid (ts.length = (grp S e.id).length) from by unfold Hid; rw [← HTS.out, List.length_map])
        have hqs : q * 3 = ys.length := HO.out.len.symm
        have hys : ys.length ≤ S.length * 3 := by
          rw [HY.out, flat3_length, HEI.out]
          exact Nat.mul_le_mul_right 3 (part_le HALL.out hlt j)
        by_cases hlt2 : j < ts.length
        · obtain ⟨bt, ot, hat, hct, hcell⟩ := HDt.out.at8 (by omega)
          subst hat
          have hc1 := hcell j hlt2
          clear hcell
          have hjg : j < (grp S e.id).length := by rw [← HTG.out]; exact hlt2
          obtain ⟨⟨i3, t, m⟩, hq3⟩ : ∃ z, (grp S e.id)[j] = z := ⟨_, rfl⟩
          obtain ⟨h3, pr, s, po, hin, hpr⟩ := look_at HTr.out HPp.out (q := (i3, t, m)) (by rw [← hq3]; exact List.getElem_mem hjg)
          dsimp only at h3 hin hpr
          subst h3
          have htj : ts[j] = t := by
            have h1 : ts[j]? = some t := by rw [← HTS.out, List.getElem?_map, List.getElem?_eq_getElem hjg, hq3]; rfl
            rw [List.getElem?_eq_getElem hlt2] at h1
            exact Option.some.inj h1
          rw [htj] at hc1
          have r1 := HR1.out wr HK.out
          have r2 : (Instr.lookup 62 (.map (some e.blk)) (.int .i64 t) false).run Try.prog wr = .ok (.int .i64 m) wr := run_lookup_hit (pre := pr.map ikv) (post := po.map ikv) (b := s) Try.underlying62 Try.underlying2 (by have h := HTr.out.inn e heT; rw [hin, imap_mid] at h; exact h) (ie_miss hpr) false
          have HY2 := (show Hid (ys ++ [e.id, t, m] = flat3 ((ids.take k).flatMap (grp S) ++ (grp S e.id).take (j + 1))) from by
            unfold Hid
            rw [List.take_succ_eq_append_getElem hjg, hq3, ← List.append_assoc, flat3_snoc, HY.out])
          have HKO5 := (show Hid ((wr.alloc (.cells #[.int .i64 e.id, .int .i64 t, .int .i64 m] 51)).ownsRow 0 51 3 (.slice (some ⟨g, 0, none⟩) q c) q (vals .i64 ys)) from HO.out.same ((Kept.refl _ _).alloc _))
          have HN5 := (show Hid (Blk (wr.alloc (.cells #[.int .i64 e.id, .int .i64 t, .int .i64 m] 51)) wr.heap.size 51 [.int .i64 e.id, .int .i64 t, .int .i64 m]) from Blk.newL wr [.int .i64 e.id, .int .i64 t, .int .i64 m] 51)
          have hgl := HO.out.lt
          clear hin hpr hq3 HTr htj HY
          go_wp2_with (at_builtin; go_loud (refine wpList_append_lies _ rfl (.tmp 29) (.tmp 38) 23 rfl 0 51 i0 _ 3 24 Try.underlying23 hi hz0 hz1 hz2 rfl (by omega) (.slice (some ⟨g, 0, none⟩) q c) q (vals .i64 ys) rfl (by exact HKO5.out) ⟨wr.heap.size, 0, none⟩ 1 1 [.int .i64 e.id, .int .i64 t, .int .i64 m] rfl rfl (World.news_of_block (cs := #[.int .i64 e.id, .int .i64 t, .int .i64 m]) (t := 51) (fr := (0, 0)) (by exact HN5.out)) (by simp [Value.oneCell']) (by omega) (by unfold maxLen; omega) (by omega) (Nat.zero_le _) (wr.heap.size + 1) (by simp) ?_); intro g5 cap5 w5 hown5 hgrow5 hat5 hlt5; have HO5 := (show Hid (OwnF 3 51 w5 g5 (q + 1) cap5 (ys ++ [e.id, t, m])) from OwnF.of_app3 hown5); have HG5 := (show Hid ((wr.alloc (.cells #[.int .i64 e.id, .int .i64 t, .int .i64 m] 51)).grownBy w5 (Value.slice (some ⟨g, 0, none⟩) q c).ownBlock) from hgrow5); have HAT5 : Hid ((Value.slice (some ⟨g, 0, none⟩) q c).ownBlock = some g5 ∨ g5 = wr.heap.size + 1) := hat5; clear hown5 hgrow5 hat5)
          have hsz5 : wr.heap.size + 1 ≤ w5.heap.size := by have h := HG5.out.size; rw [World.size_alloc] at h; exact h
          have hwr := HK.out.size
          have hg5 : w.heap.size ≤ g5 ∧ (g5 = g ∨ g5 = wr.heap.size + 1) := by
            rcases HAT5.out with h | h
            · have : g = g5 := by simpa [Value.ownBlock] using h
              exact ⟨by omega, .inl this.symm⟩
            · exact ⟨by omega, .inr h⟩
          have HK5 := hid (Same.app HK.out HG5.out hg)
          have HD5 := hid ((HD.out.same ((Kept.refl _ _).alloc _)).kept (Kept.of_grown HG5.out (fun k e => e)) (fun b hb => not_at (fun e => (HN.out b hb).1 e.symm)))
          have HDt5 := hid ((HDt.out.same ((Kept.refl _ _).alloc _)).kept (Kept.of_grown HG5.out (fun k e => e)) (fun b hb => not_at (fun e => (HNt.out b hb).1 e.symm)))
          go_roundw
          case rel => exact ⟨j + 1, g5, q + 1, cap5, ys ++ [e.id, t, m], by omega, rfl, by go_num, hg5.1, HO5, HY2, HK5, HD5, hid (fun b hb => by have := HN.out b hb; omega), HDt5, hid (fun b hb => by have := HNt.out b hb; omega)⟩
          case measure => simp [iv8]; omega
        · obtain rfl : ts.length = j := by omega
          have HY2 := (show Hid (ys = flat3 ((ids.take (k + 1)).flatMap (grp S))) from by
            unfold Hid
            rw [HY.out, List.take_succ_eq_append_getElem hlt, List.flatMap_append, ← HEI.out, HTG.out, List.take_length]
            simp)
          clear HY HTr
          go_wp2
          go_roundw
          case rel => exact ⟨k + 1, g, q, c, ys, by omega, rfl, by go_num, hg, HO, HY2, HK, HD, HN⟩
          case measure => simp [iv8]; omega
    · obtain rfl : ids.length = k := by omega
      have hy := HY.out
      rw [List.take_length, HALL.out] at hy
      go_wp2
      go_ret
      refine ⟨⟨51, some ⟨g, 0, none⟩, q, c, ys⟩, rfl, hy, ?_, HO.out.out, HK.out⟩
      intro b hb
      have := FootL_fr hb
      omega
end Go.Proofs.Ytcdmlgafalnooaa
