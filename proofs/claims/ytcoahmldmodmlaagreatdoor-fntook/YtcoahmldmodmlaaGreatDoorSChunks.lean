/-
 Contracts: the model's chunks.
-/
import Derived.Test.YtcoahmldmodmlaaGreatDoorIChunks
namespace Go.Proofs.YtcoahmldmodmlaaGreatDoor
open Go.RowKit
set_option linter.unusedVariables false
set_option maxHeartbeats 1000000 in
set_option maxRecDepth 100000 in
theorem spec_l13Pairs (b off cap:Nat) (qs:List PairL) (w:World) (hl:qs.length≤1000) (hs:IsPairs w (some ⟨b,off,none⟩) qs) :
 Calls Tryz.prog 21 #[.slice (some ⟨b,off,none⟩) qs.length cap] w fun e w'=>∃ (a:Option Addr) (m c:Nat),e=.returned (.slice a m c)∧w'.ownsRow w.heap.size 46 2 (.slice a m c) qs.length (pcells qs)∧Below w.heap.size w w':=by
 obtain⟨i0,hi0,hz0,hz1,hz2⟩:=info_parts infoPair
 have B0:Below w.heap.size w (w.alloc (.cells #[] 46)):=(Below.refl _ _).alloc (Nat.le_refl _) _
 have HF:Hid (∀ j u,(pcells qs)[j]? = some u→(w.alloc (.cells #[] 46)).cell? ((⟨b,off,none⟩:Addr).add j)=some u):=isPairs_flat (hs.later B0)
 have o0:=World.ownsRow_lit (e:=46) (size:=2) w #[] 0 (base:=w.heap.size) (Nat.le_refl _) (Nat.zero_le _) rfl
 have HO0:=hidOwn o0
 clear hs o0
 go_enter Tryz.func21,Tryz.ntmps21
 go_wp2_with (at_builtin;refine wpList_append_own _ rfl _ _ 24 rfl w.heap.size 46 i0 (.agg #[.string ⟨#[]⟩,.string ⟨#[]⟩]) 2 32 Tryz.underlying24 hi0 hz0 hz1 hz2 rfl (by decide) (.slice (some ⟨w.heap.size,0,none⟩) 0 0) 0 _ rfl HO0.out ⟨b,off,none⟩ qs.length cap (pcells qs) rfl (pcells_length qs) HF.out (pcells_one qs) (by unfold maxLen;omega) (by omega) (by simp <;> omega) ?_;intro v3 w3 hown3 hgrow3 hnil3;obtain⟨a3,m3,c3,rfl⟩:=own_slice2 hown3)
 have B3:Below w.heap.size w w3:=B0.grown hgrow3 (by simp) (fun k hk=>by simp[Value.ownBlock] at hk;omega)
 have HO3:Hid (w3.ownsRow w.heap.size 46 2 (.slice a3 m3 c3) qs.length (pcells qs)):=by rw[Hid];simpa using hown3
 clear hown3 hgrow3 hnil3
 go_wp2
 go_ret
 exact⟨a3,m3,c3,rfl,HO3.out,B3⟩
set_option maxRecDepth 100000 in
theorem l1In_ch (n:Int) (w:World) :
 Calls Tryz.prog 59 #[.int .i64 n,.int .i64 1,.int .i64 8] w fun e w'=>e=.returned (.bool (decide (1≤n) && decide (n≤8)))∧w'=w:=by
 by_cases h1:1≤n
 · by_cases h2:n≤8
   · have HZ:Hid ((decide (1≤n) && decide (n≤8))=true):=by rw[Hid,decide_eq_true h1,decide_eq_true h2];rfl
     go_enter Tryz.func59,Tryz.ntmps59
     go_wp2
     go_ret
     exact⟨by first | exact rfl | (rw[HZ.out];exact rfl) | (show Ending.returned (.bool false)=_;congr 2;symm;exact decide_eq_false (by omega)),rfl⟩
   · have HZ:Hid ((decide (1≤n) && decide (n≤8))=false):=by rw[Hid,decide_eq_false h2,Bool.and_false]
     go_enter Tryz.func59,Tryz.ntmps59
     go_wp2
     go_ret
     exact⟨by first | exact rfl | (rw[HZ.out];exact rfl) | (show Ending.returned (.bool false)=_;congr 2;symm;exact decide_eq_false (by omega)),rfl⟩
 · have HZ:Hid ((decide (1≤n) && decide (n≤8))=false):=by rw[Hid,decide_eq_false h1,Bool.false_and]
   go_enter Tryz.func59,Tryz.ntmps59
   go_wp2
   go_ret
   exact⟨by first | exact rfl | (rw[HZ.out];exact rfl) | (show Ending.returned (.bool false)=_;congr 2;symm;exact decide_eq_false (by omega)),rfl⟩
set_option maxHeartbeats 2000000 in
set_option maxRecDepth 100000 in
theorem spec_chunksOf (b off cp : Nat) (ps : List PairL) (mo : Int) (w : World) (hl : ps.length ≤ 1048576) (hcap : ps.length ≤ cp) (hm : ∀ p ∈ ps, p.1.length ≤ 1048576 ∧ p.2.length ≤ 1048576) (hs : IsPairs w (some ⟨b, off, none⟩) ps) :
 Calls Tryz.prog 40 #[.slice (some ⟨b,off,none⟩) ps.length cp,.int .i64 mo] w fun e w'=>∃ (v:Value) (vs:List Value),e=.returned (.tuple #[v,.bool (chunksOkL ps mo)])∧OwnC w' w.heap.size 28 v (chunksR ps mo) vs∧Below w.heap.size w w':=by
 obtain⟨i0,hi0,hz0,hz1,hz2⟩:=info_parts infoChunk
 have K1:=spec_pairsOk (some ⟨b,off,none⟩) cp ps w hl hm hs
 have HD:Hid (chunksOkL ps mo=(pairsOkL ps && (decide (1≤mo) && decide (mo≤8)))∧chunksR ps mo=if chunksOkL ps mo=true then chunksL ps mo.toNat else []):=⟨rfl,rfl⟩
 have HP:Hid (pairsOkL ps=true→ps.length≤60):=fun h=>(pairsOk_of ps h).1
 have HIS:Hid (∀ W,Below w.heap.size w W→IsPairs W (some ⟨b,off,none⟩) ps):=fun W hW=>hs.later hW
 have K2:=fun W=>l1In_ch mo W
 obtain⟨r,hr⟩:∃ r,r=chunksR ps mo:=⟨_,rfl⟩
 obtain⟨ok,hok⟩:∃ ok,ok=chunksOkL ps mo:=⟨_,rfl⟩
 rw[←hok,←hr] at HD
 rw[←hr,←hok]
 obtain⟨pk,hpk⟩:∃ pk,pk=pairsOkL ps:=⟨_,rfl⟩
 rw[←hpk] at K1 HD HP
 obtain⟨ib,hib⟩:∃ ib,ib=(decide (1≤mo) && decide (mo≤8)):=⟨_,rfl⟩
 rw[←hib] at K2 HD
 clear hr hok hs hm hpk
 by_cases hgo:pk=true∧ib=true
 · obtain ⟨rfl, rfl⟩ := hgo
   have hib':=hib.symm
   simp only[Bool.and_eq_true,decide_eq_true_eq] at hib'
   obtain⟨m,rfl⟩:∃ m:Nat,mo=(m:Int):=⟨mo.toNat,by omega⟩
   have hm1:1≤m:=by omega
   have hm8:m≤8:=by omega
   have e1:ok=true:=by rw[HD.out.1];rfl
   subst e1
   have HR:Hid (r=chunksL ps m):=by rw[Hid];have:=HD.out.2;simpa using this
   have h60:ps.length≤60:=HP.out rfl
   have hr':=HR.out
   subst hr'
   clear HD HP HR hib hib'
   go_enter Tryz.func40,Tryz.ntmps40
   go_wp2_with fail
   refine K1.mono ?_
   rintro e w1 ⟨rfl,b1⟩
   clear K1
   go_wp2_with fail
   refine (K2 _).mono ?_
   rintro e w1' ⟨rfl,rfl⟩
   clear K2
   have b0:=b1.alloc b1.size (.cells #[] 28)
   go_wp2
   go_loopw [6,7] (fun v i wr=>∃ (j f:Nat) (vs:List Value),Hid (f=j*m)∧j≤61∧f≤600∧(j=0∨j=1∨(f - m<ps.length))∧i=.int .i64 (f:Int)∧Hid (OwnC wr w.heap.size 28 v (chunksTo ps m j) vs)∧Below w.heap.size w wr) (fun _ i _=>700 - (intOf i).toNat)
   case atStart=>exact⟨0,0,[],by rw[Hid];simp,by omega,by omega,.inl rfl,rfl,OwnC.nil _ _ _ _ (World.ownsRow_lit _ #[] 0 b1.size (Nat.zero_le _) rfl),b0⟩
   case round =>
    obtain⟨j,f,vs,HF,hj,hf,hr,rfl,HO,hbel⟩:=hrel
    have hsz:=hbel.size
    by_cases hgo:f=0∨f<ps.length
    · have hj0 : (f : Int) = 0 ∨ (¬ (f : Int) = 0 ∧ (f : Int) < (ps.length : Int)) := by omega
      have hf0:(0:Int)≤(f:Int):=by omega
      rcases hj0 with h0 | ⟨h0,h1⟩
      · obtain rfl:f=0:=by omega
        by_cases hz:ps.length=0
        · have hmin:ps.length≤m:=by omega
          have HZ0:Hid (ps.length=0):=hz
          have hy1:((0:Int)<(ps.length:Int))=False:=eq_false (by omega)
          have hy2:(0<ps.length)=False:=eq_false (by omega)
          have hmin':(ps.length:Int)≤(m:Int):=by omega
          clear hz
          have hjz:Hid (j=0):=by rw[Hid];rcases Nat.eq_zero_or_pos j with h | h;exact h;exact absurd HF.out (Nat.ne_of_lt (Nat.mul_pos h hm1))
          have HP:Hid (((ps.drop 0).take m).length=ps.length):=by rw[Hid];first | (simp;done) | (simp;omega)
          have K3:=spec_l13Pairs b off cp ((ps.drop 0).take m) wr (by rw[HP.out];omega) (by have:=piece_isPairs (p:=0) (m:=m) (HIS.out wr hbel);simpa using this)
          rw[HP.out] at K3
          have HC:Hid (chunkAt ps m j=(true,true,(ps.drop 0).take m)):=by
           rw[Hid,chunkAt,←HF.out]
           refine Prod.ext ?_ (Prod.ext ?_ rfl)
           · exact decide_eq_true hjz.out
           · exact decide_eq_true (by first | omega | (simp;done))
          obtain⟨qs,hqs⟩:∃ qs,qs=(ps.drop 0).take m:=⟨_,rfl⟩
          rw[←hqs] at K3 HC HP
          clear hqs
          have hmm:min (ps.length:Int) (m:Int)=(ps.length:Int):=by omega
          go_wp2_with fail
          refine K3.mono ?_
          rintro e w3 ⟨a3,m3,c3,rfl,o3,b3⟩
          have s3:=b3.size
          have OU:Hid (w3.ownsRow wr.heap.size 46 2 (.slice a3 m3 c3) qs.length (pcells qs)):=by rw[Hid,HP.out];exact o3
          have OR:Hid (w3.ownsRow w.heap.size 28 3 u6 (chunksTo ps m j).length (ccells (chunksTo ps m j) vs)):=kept_new HO.out.row b3
          have HL:Hid ((chunksTo ps m j).length=j):=chunksTo_length ps m j
          have B3:=hbel.trans (b3.mono hsz)
          clear K3 o3
          go_wp2_with (at_builtin;refine wpList_append_lies _ rfl _ _ 39 rfl w.heap.size 28 i0 (.agg #[.bool false,.bool false,.slice none 0 0]) 3 32 Tryz.underlying39 hi0 hz0 hz1 hz2 rfl (by decide) u6 (chunksTo ps m j).length _ rfl (OR.out.alloc _) ⟨w3.heap.size,0,none⟩ 1 1 [.bool true,.bool true,.slice a3 m3 c3] rfl rfl (World.news_of_block (cs:=#[.bool true,.bool true,.slice a3 m3 c3]) (t:=28) (fr:=(0,0)) (heap_alloc_new w3 _)) (by simp[Value.oneCell']) (by omega) (by unfold maxLen;rw[HL.out];omega) (by rw[HL.out];omega) (by simp;omega) (w3.heap.size+1) (by simp) ?_;intro g4 cap4 w4 hown4 hgrow4 hat4 hlt4)
          have HO4:=HO.out.snoc (c:=chunkAt ps m j) hsz b3 (by rw[HC.out];exact OU.out) rfl (by rw[HC.out];exact hown4) hgrow4 hat4
          rw[←chunksTo_succ] at HO4
          have B4:Below w.heap.size w w4:=(B3.alloc B3.size _).grown hgrow4 (by have:=B3.size;simp;omega) (fun q hq=>(HO.out.row.lt q hq).1)
          have H4:Hid (OwnC w4 w.heap.size 28 (.slice (some ⟨g4,0,none⟩) (chunksTo ps m (j+1)).length cap4) (chunksTo ps m (j+1)) (vs ++ [.slice a3 m3 c3])):=HO4
          have HF2:Hid (0+m=(j+1)*m):=by rw[Hid,Nat.succ_mul,←HF.out]
          have HL2:Hid ((chunksTo ps m (j+1)).length=(chunksTo ps m j).length+1):=by rw[Hid,chunksTo_length,chunksTo_length]
          rw[HL2.out] at H4
          clear HO4 hown4 hgrow4 hat4 OU OR HO HC
          go_wp2
          go_roundw
          case rel=>exact⟨j+1,0+m,vs ++ [.slice a3 m3 c3],HF2,by have:=hjz.out;omega,by omega,by have:=hjz.out;omega,by go_num,H4,B4⟩
          case measure=>simp[intOf];omega
        · have hz':(0:Int)<(ps.length:Int):=by omega
          by_cases hmin:ps.length≤m
          · have hmin':(ps.length:Int)≤(m:Int):=by omega
            have hjz:Hid (j=0):=by rw[Hid];rcases Nat.eq_zero_or_pos j with h | h;exact h;exact absurd HF.out (Nat.ne_of_lt (Nat.mul_pos h hm1))
            have HP:Hid (((ps.drop 0).take m).length=ps.length):=by rw[Hid];first | (simp;done) | (simp;omega)
            have K3:=spec_l13Pairs b off cp ((ps.drop 0).take m) wr (by rw[HP.out];omega) (by have:=piece_isPairs (p:=0) (m:=m) (HIS.out wr hbel);simpa using this)
            rw[HP.out] at K3
            have HC:Hid (chunkAt ps m j=(true,true,(ps.drop 0).take m)):=by
             rw[Hid,chunkAt,←HF.out]
             refine Prod.ext ?_ (Prod.ext ?_ rfl)
             · exact decide_eq_true hjz.out
             · exact decide_eq_true (by first | omega | (simp;done))
            obtain⟨qs,hqs⟩:∃ qs,qs=(ps.drop 0).take m:=⟨_,rfl⟩
            rw[←hqs] at K3 HC HP
            clear hqs
            have hmm:min (ps.length:Int) (m:Int)=(ps.length:Int):=by omega
            go_wp2_with fail
            refine K3.mono ?_
            rintro e w3 ⟨a3,m3,c3,rfl,o3,b3⟩
            have s3:=b3.size
            have OU:Hid (w3.ownsRow wr.heap.size 46 2 (.slice a3 m3 c3) qs.length (pcells qs)):=by rw[Hid,HP.out];exact o3
            have OR:Hid (w3.ownsRow w.heap.size 28 3 u6 (chunksTo ps m j).length (ccells (chunksTo ps m j) vs)):=kept_new HO.out.row b3
            have HL:Hid ((chunksTo ps m j).length=j):=chunksTo_length ps m j
            have B3:=hbel.trans (b3.mono hsz)
            clear K3 o3
            go_wp2_with (at_builtin;refine wpList_append_lies _ rfl _ _ 39 rfl w.heap.size 28 i0 (.agg #[.bool false,.bool false,.slice none 0 0]) 3 32 Tryz.underlying39 hi0 hz0 hz1 hz2 rfl (by decide) u6 (chunksTo ps m j).length _ rfl (OR.out.alloc _) ⟨w3.heap.size,0,none⟩ 1 1 [.bool true,.bool true,.slice a3 m3 c3] rfl rfl (World.news_of_block (cs:=#[.bool true,.bool true,.slice a3 m3 c3]) (t:=28) (fr:=(0,0)) (heap_alloc_new w3 _)) (by simp[Value.oneCell']) (by omega) (by unfold maxLen;rw[HL.out];omega) (by rw[HL.out];omega) (by simp;omega) (w3.heap.size+1) (by simp) ?_;intro g4 cap4 w4 hown4 hgrow4 hat4 hlt4)
            have HO4:=HO.out.snoc (c:=chunkAt ps m j) hsz b3 (by rw[HC.out];exact OU.out) rfl (by rw[HC.out];exact hown4) hgrow4 hat4
            rw[←chunksTo_succ] at HO4
            have B4:Below w.heap.size w w4:=(B3.alloc B3.size _).grown hgrow4 (by have:=B3.size;simp;omega) (fun q hq=>(HO.out.row.lt q hq).1)
            have H4:Hid (OwnC w4 w.heap.size 28 (.slice (some ⟨g4,0,none⟩) (chunksTo ps m (j+1)).length cap4) (chunksTo ps m (j+1)) (vs ++ [.slice a3 m3 c3])):=HO4
            have HF2:Hid (0+m=(j+1)*m):=by rw[Hid,Nat.succ_mul,←HF.out]
            have HL2:Hid ((chunksTo ps m (j+1)).length=(chunksTo ps m j).length+1):=by rw[Hid,chunksTo_length,chunksTo_length]
            rw[HL2.out] at H4
            clear HO4 hown4 hgrow4 hat4 OU OR HO HC
            go_wp2
            go_roundw
            case rel=>exact⟨j+1,0+m,vs ++ [.slice a3 m3 c3],HF2,by have:=hjz.out;omega,by omega,by have:=hjz.out;omega,by go_num,H4,B4⟩
            case measure=>simp[intOf];omega
          · have hmin':¬ (ps.length:Int)≤(m:Int):=by omega
            have hjz:Hid (j=0):=by rw[Hid];rcases Nat.eq_zero_or_pos j with h | h;exact h;exact absurd HF.out (Nat.ne_of_lt (Nat.mul_pos h hm1))
            have HP:Hid (((ps.drop 0).take m).length=m):=by rw[Hid];first | (simp;done) | (simp;omega)
            have K3:=spec_l13Pairs b off cp ((ps.drop 0).take m) wr (by rw[HP.out];omega) (by have:=piece_isPairs (p:=0) (m:=m) (HIS.out wr hbel);simpa using this)
            rw[HP.out] at K3
            have HC:Hid (chunkAt ps m j=(true,((m:Int) == (ps.length:Int)),(ps.drop 0).take m)):=by
             rw[Hid,chunkAt,←HF.out]
             refine Prod.ext ?_ (Prod.ext ?_ rfl)
             · exact decide_eq_true hjz.out
             · show decide _=_;rw[Bool.eq_iff_iff];simp;omega
            obtain⟨qs,hqs⟩:∃ qs,qs=(ps.drop 0).take m:=⟨_,rfl⟩
            rw[←hqs] at K3 HC HP
            clear hqs
            have hmm:min (ps.length:Int) (m:Int)=(m:Int):=by omega
            go_wp2_with fail
            refine K3.mono ?_
            rintro e w3 ⟨a3,m3,c3,rfl,o3,b3⟩
            have s3:=b3.size
            have OU:Hid (w3.ownsRow wr.heap.size 46 2 (.slice a3 m3 c3) qs.length (pcells qs)):=by rw[Hid,HP.out];exact o3
            have OR:Hid (w3.ownsRow w.heap.size 28 3 u6 (chunksTo ps m j).length (ccells (chunksTo ps m j) vs)):=kept_new HO.out.row b3
            have HL:Hid ((chunksTo ps m j).length=j):=chunksTo_length ps m j
            have B3:=hbel.trans (b3.mono hsz)
            clear K3 o3
            go_wp2_with (at_builtin;refine wpList_append_lies _ rfl _ _ 39 rfl w.heap.size 28 i0 (.agg #[.bool false,.bool false,.slice none 0 0]) 3 32 Tryz.underlying39 hi0 hz0 hz1 hz2 rfl (by decide) u6 (chunksTo ps m j).length _ rfl (OR.out.alloc _) ⟨w3.heap.size,0,none⟩ 1 1 [.bool true,.bool ((m:Int) == (ps.length:Int)),.slice a3 m3 c3] rfl rfl (World.news_of_block (cs:=#[.bool true,.bool ((m:Int) == (ps.length:Int)),.slice a3 m3 c3]) (t:=28) (fr:=(0,0)) (heap_alloc_new w3 _)) (by simp[Value.oneCell']) (by omega) (by unfold maxLen;rw[HL.out];omega) (by rw[HL.out];omega) (by simp;omega) (w3.heap.size+1) (by simp) ?_;intro g4 cap4 w4 hown4 hgrow4 hat4 hlt4)
            have HO4:=HO.out.snoc (c:=chunkAt ps m j) hsz b3 (by rw[HC.out];exact OU.out) rfl (by rw[HC.out];exact hown4) hgrow4 hat4
            rw[←chunksTo_succ] at HO4
            have B4:Below w.heap.size w w4:=(B3.alloc B3.size _).grown hgrow4 (by have:=B3.size;simp;omega) (fun q hq=>(HO.out.row.lt q hq).1)
            have H4:Hid (OwnC w4 w.heap.size 28 (.slice (some ⟨g4,0,none⟩) (chunksTo ps m (j+1)).length cap4) (chunksTo ps m (j+1)) (vs ++ [.slice a3 m3 c3])):=HO4
            have HF2:Hid (0+m=(j+1)*m):=by rw[Hid,Nat.succ_mul,←HF.out]
            have HL2:Hid ((chunksTo ps m (j+1)).length=(chunksTo ps m j).length+1):=by rw[Hid,chunksTo_length,chunksTo_length]
            rw[HL2.out] at H4
            clear HO4 hown4 hgrow4 hat4 OU OR HO HC
            go_wp2
            go_roundw
            case rel=>exact⟨j+1,0+m,vs ++ [.slice a3 m3 c3],HF2,by have:=hjz.out;omega,by omega,by have:=hjz.out;omega,by go_num,H4,B4⟩
            case measure=>simp[intOf];omega
      · by_cases hmin:ps.length≤f+m
        · have hmin':(ps.length:Int)≤(f:Int)+(m:Int):=by omega
          have hjf:j≤f:=by have h9:j*1≤j*m:=Nat.mul_le_mul_left j hm1;have:=HF.out;omega
          have HP:Hid (((ps.drop f).take m).length=(ps.length - f)):=by rw[Hid];first | (simp;done) | (simp;omega)
          have K3:=spec_l13Pairs b (off+f*2) (cp - f) ((ps.drop f).take m) wr (by rw[HP.out];omega) (by have:=piece_isPairs (p:=f) (m:=m) (HIS.out wr hbel);simpa using this)
          rw[HP.out] at K3
          have HC:Hid (chunkAt ps m j=(((f:Int) == 0),true,(ps.drop f).take m)):=by
           rw[Hid,chunkAt,←HF.out]
           refine Prod.ext ?_ (Prod.ext ?_ rfl)
           · show decide _=_;rw[decide_eq_false (fun h:j=0=>by have:=HF.out;rw[h] at this;simp at this;omega)];symm;simp;omega
           · exact decide_eq_true (by first | omega | (simp;done))
          obtain⟨qs,hqs⟩:∃ qs,qs=(ps.drop f).take m:=⟨_,rfl⟩
          rw[←hqs] at K3 HC HP
          clear hqs
          have hmm:min (ps.length:Int) ((f:Int)+(m:Int))=(ps.length:Int):=by omega
          go_wp2_with fail
          refine K3.mono ?_
          rintro e w3 ⟨a3,m3,c3,rfl,o3,b3⟩
          have s3:=b3.size
          have OU:Hid (w3.ownsRow wr.heap.size 46 2 (.slice a3 m3 c3) qs.length (pcells qs)):=by rw[Hid,HP.out];exact o3
          have OR:Hid (w3.ownsRow w.heap.size 28 3 u6 (chunksTo ps m j).length (ccells (chunksTo ps m j) vs)):=kept_new HO.out.row b3
          have HL:Hid ((chunksTo ps m j).length=j):=chunksTo_length ps m j
          have B3:=hbel.trans (b3.mono hsz)
          clear K3 o3
          go_wp2_with (at_builtin;refine wpList_append_lies _ rfl _ _ 39 rfl w.heap.size 28 i0 (.agg #[.bool false,.bool false,.slice none 0 0]) 3 32 Tryz.underlying39 hi0 hz0 hz1 hz2 rfl (by decide) u6 (chunksTo ps m j).length _ rfl (OR.out.alloc _) ⟨w3.heap.size,0,none⟩ 1 1 [.bool ((f:Int) == 0),.bool true,.slice a3 m3 c3] rfl rfl (World.news_of_block (cs:=#[.bool ((f:Int) == 0),.bool true,.slice a3 m3 c3]) (t:=28) (fr:=(0,0)) (heap_alloc_new w3 _)) (by simp[Value.oneCell']) (by omega) (by unfold maxLen;rw[HL.out];omega) (by rw[HL.out];omega) (by simp;omega) (w3.heap.size+1) (by simp) ?_;intro g4 cap4 w4 hown4 hgrow4 hat4 hlt4)
          have HO4:=HO.out.snoc (c:=chunkAt ps m j) hsz b3 (by rw[HC.out];exact OU.out) rfl (by rw[HC.out];exact hown4) hgrow4 hat4
          rw[←chunksTo_succ] at HO4
          have B4:Below w.heap.size w w4:=(B3.alloc B3.size _).grown hgrow4 (by have:=B3.size;simp;omega) (fun q hq=>(HO.out.row.lt q hq).1)
          have H4:Hid (OwnC w4 w.heap.size 28 (.slice (some ⟨g4,0,none⟩) (chunksTo ps m (j+1)).length cap4) (chunksTo ps m (j+1)) (vs ++ [.slice a3 m3 c3])):=HO4
          have HF2:Hid (f+m=(j+1)*m):=by rw[Hid,Nat.succ_mul,←HF.out]
          have HL2:Hid ((chunksTo ps m (j+1)).length=(chunksTo ps m j).length+1):=by rw[Hid,chunksTo_length,chunksTo_length]
          rw[HL2.out] at H4
          clear HO4 hown4 hgrow4 hat4 OU OR HO HC
          go_wp2
          go_roundw
          case rel=>exact⟨j+1,f+m,vs ++ [.slice a3 m3 c3],HF2,by omega,by omega,by omega,by go_num,H4,B4⟩
          case measure=>simp[intOf];omega
        · have hmin':¬ (ps.length:Int)≤(f:Int)+(m:Int):=by omega
          have hjf:j≤f:=by have h9:j*1≤j*m:=Nat.mul_le_mul_left j hm1;have:=HF.out;omega
          have HP:Hid (((ps.drop f).take m).length=m):=by rw[Hid];first | (simp;done) | (simp;omega)
          have K3:=spec_l13Pairs b (off+f*2) (cp - f) ((ps.drop f).take m) wr (by rw[HP.out];omega) (by have:=piece_isPairs (p:=f) (m:=m) (HIS.out wr hbel);simpa using this)
          rw[HP.out] at K3
          have HC:Hid (chunkAt ps m j=(((f:Int) == 0),((f:Int)+(m:Int) == (ps.length:Int)),(ps.drop f).take m)):=by
           rw[Hid,chunkAt,←HF.out]
           refine Prod.ext ?_ (Prod.ext ?_ rfl)
           · show decide _=_;rw[decide_eq_false (fun h:j=0=>by have:=HF.out;rw[h] at this;simp at this;omega)];symm;simp;omega
           · show decide _=_;rw[Bool.eq_iff_iff];simp;omega
          obtain⟨qs,hqs⟩:∃ qs,qs=(ps.drop f).take m:=⟨_,rfl⟩
          rw[←hqs] at K3 HC HP
          clear hqs
          have hmm:min (ps.length:Int) ((f:Int)+(m:Int))=((f:Int)+(m:Int)):=by omega
          have hmt:((f:Int)+(m:Int)).toNat=f+m:=by omega
          go_wp2_with fail
          refine K3.mono ?_
          rintro e w3 ⟨a3,m3,c3,rfl,o3,b3⟩
          have s3:=b3.size
          have OU:Hid (w3.ownsRow wr.heap.size 46 2 (.slice a3 m3 c3) qs.length (pcells qs)):=by rw[Hid,HP.out];exact o3
          have OR:Hid (w3.ownsRow w.heap.size 28 3 u6 (chunksTo ps m j).length (ccells (chunksTo ps m j) vs)):=kept_new HO.out.row b3
          have HL:Hid ((chunksTo ps m j).length=j):=chunksTo_length ps m j
          have B3:=hbel.trans (b3.mono hsz)
          clear K3 o3
          go_wp2_with (at_builtin;refine wpList_append_lies _ rfl _ _ 39 rfl w.heap.size 28 i0 (.agg #[.bool false,.bool false,.slice none 0 0]) 3 32 Tryz.underlying39 hi0 hz0 hz1 hz2 rfl (by decide) u6 (chunksTo ps m j).length _ rfl (OR.out.alloc _) ⟨w3.heap.size,0,none⟩ 1 1 [.bool ((f:Int) == 0),.bool ((f:Int)+(m:Int) == (ps.length:Int)),.slice a3 m3 c3] rfl rfl (World.news_of_block (cs:=#[.bool ((f:Int) == 0),.bool ((f:Int)+(m:Int) == (ps.length:Int)),.slice a3 m3 c3]) (t:=28) (fr:=(0,0)) (heap_alloc_new w3 _)) (by simp[Value.oneCell']) (by omega) (by unfold maxLen;rw[HL.out];omega) (by rw[HL.out];omega) (by simp;omega) (w3.heap.size+1) (by simp) ?_;intro g4 cap4 w4 hown4 hgrow4 hat4 hlt4)
          have HO4:=HO.out.snoc (c:=chunkAt ps m j) hsz b3 (by rw[HC.out];exact OU.out) rfl (by rw[HC.out];exact hown4) hgrow4 hat4
          rw[←chunksTo_succ] at HO4
          have B4:Below w.heap.size w w4:=(B3.alloc B3.size _).grown hgrow4 (by have:=B3.size;simp;omega) (fun q hq=>(HO.out.row.lt q hq).1)
          have H4:Hid (OwnC w4 w.heap.size 28 (.slice (some ⟨g4,0,none⟩) (chunksTo ps m (j+1)).length cap4) (chunksTo ps m (j+1)) (vs ++ [.slice a3 m3 c3])):=HO4
          have HF2:Hid (f+m=(j+1)*m):=by rw[Hid,Nat.succ_mul,←HF.out]
          have HL2:Hid ((chunksTo ps m (j+1)).length=(chunksTo ps m j).length+1):=by rw[Hid,chunksTo_length,chunksTo_length]
          rw[HL2.out] at H4
          clear HO4 hown4 hgrow4 hat4 OU OR HO HC
          go_wp2
          go_roundw
          case rel=>exact⟨j+1,f+m,vs ++ [.slice a3 m3 c3],HF2,by omega,by omega,by omega,by go_num,H4,B4⟩
          case measure=>simp[intOf];omega
    · have h0:¬ (f:Int)=0:=by omega
      have h1:¬ (f:Int)<(ps.length:Int):=by omega
      have hj1:1≤j:=by rcases Nat.eq_zero_or_pos j with h | h;(exfalso;have:=HF.out;rw[h] at this;simp at this;omega);exact h
      have HN:Hid (j=chunksN ps.length m):=chunksN_of hj1 (by rw[←HF.out];omega) (by
       have e:(j - 1)*m=f - m:=by rw[Nat.sub_mul,←HF.out,Nat.one_mul]
       rw[e];omega)
      have H9:Hid (OwnC wr w.heap.size 28 u6 (chunksL ps m) vs):=by rw[Hid,chunksL,←HN.out];exact HO.out
      clear HO HN HF
      go_wp2
      go_ret2
      first | exact⟨_,vs,rfl,H9.out,hbel⟩ | exact⟨_,rfl,⟨vs,H9.out⟩,hbel⟩
 · have e1:ok=false:=by
    rw[HD.out.1]
    cases pk
    · rfl
    · cases ib
      · rfl
      · exact absurd ⟨rfl,rfl⟩ hgo
   subst e1
   have e2:r=[]:=by rw[HD.out.2];rfl
   subst e2
   have HN:Hid (∀ W:World,OwnC W w.heap.size 28 (.slice none 0 0) [] []):=fun W=>OwnC.nil _ _ _ _ (World.ownsRow_nil _ _ _ _)
   clear HIS HP HD hib
   go_enter Tryz.func40,Tryz.ntmps40
   go_wp2_with fail
   refine K1.mono ?_
   rintro e w1 ⟨rfl,b1⟩
   clear K1
   cases pk
   · go_wp2
     go_ret2
     first | exact⟨_,[],rfl,HN.out _,b1⟩ | exact⟨_,[],trivial,HN.out _,b1⟩
   · go_wp2_with fail
     refine (K2 _).mono ?_
     rintro e w1' ⟨rfl,rfl⟩
     cases ib
     · clear hgo
       go_wp2
       go_ret2
       first | exact⟨_,[],rfl,HN.out _,b1⟩ | exact⟨_,[],trivial,HN.out _,b1⟩
     · exact absurd (by simp) hgo
end Go.Proofs.YtcoahmldmodmlaaGreatDoor
