/-
 Texts that are laid as one: MathPrune, SPrune, IPrune.
-/
import Derived.Test.YtokfcfcdfhoejaaGreatDoorIReach
import Derived.Test.YtokfcfcdfhoejaaGreatDoorPairs
import Derived.Maps.OwnSet
import Derived.Maps.OwnOps
namespace Go.Proofs.YtokfcfcdfhoejaaGreatDoor
open Go.RowKit
set_option linter.unusedVariables false
theorem store_400P (ps:List PairL) (h:storeOkL ps=true):ps.length≤400:=by
 simp only[storeOkL,Bool.and_eq_true,decide_eq_true_eq] at h
 exact h.1
noncomputable def keepR (ps:List PairL) (rts:List Bs):List Bs:=rts.flatMap fun r=>(reachR ps r).getD []
noncomputable def prunedR (ps:List PairL) (rts:List Bs):Option (List PairL):=if storeOkL ps=true∧rts.length≤30∧rts.all (fun r=>(reachR ps r).isSome)=true then some (ps.filter fun p=>(keepR ps rts).contains p.1) else none
theorem pruned_no {ps:List PairL} {rts:List Bs} (h:¬ (storeOkL ps=true∧rts.length≤30)):prunedR ps rts=none:=by
 unfold prunedR
 rw[if_neg (fun e=>h ⟨e.1,e.2.1⟩)]
theorem pruned_lost {ps:List PairL} {rts:List Bs} (r:Bs) (hr:r∈rts) (h:reachR ps r=none):prunedR ps rts=none:=by
 unfold prunedR
 rw[if_neg]
 rintro⟨_,_,h3⟩
 have:=List.all_eq_true.1 h3 r hr
 rw[h] at this
 cases this
theorem pruned_yes {ps:List PairL} {rts:List Bs} (h1:storeOkL ps=true) (h2:rts.length≤30) (h3:∀ r∈rts,(reachR ps r).isSome=true):prunedR ps rts=some (ps.filter fun p=>(keepR ps rts).contains p.1):=by
 unfold prunedR
 rw[if_pos ⟨h1,h2,List.all_eq_true.2 h3⟩]
theorem keep_step {ps:List PairL} {rts:List Bs} {i:Nat} (hi:i<rts.length):keepR ps (rts.take (i+1))=keepR ps (rts.take i) ++ (reachR ps rts[i]).getD []:=by
 unfold keepR
 rw[List.take_succ_eq_append_getElem hi,List.flatMap_append]
 simp
theorem reach_leads {ps:List PairL} {r:Bs} (h:(reachR ps r).isSome=true) (hx:¬ r=emptyL):(∀ x,x∈(reachR ps r).getD []↔Leads (kidsW ps) r x)∧AllThere (kidsW ps) (thereN ps) r:=by
 unfold reachR at h ⊢
 rw[if_neg hx] at h ⊢
 by_cases ha:allB (kidsW ps) (thereN ps) r=true
 · have hA:AllThere (kidsW ps) (thereN ps) r:=Classical.byContradiction fun hn=>by rw[all_no hn] at ha;exact absurd ha (by simp)
   rw[if_pos ha]
   refine⟨fun x=>?_,hA⟩
   classical
   obtain⟨h1,h2⟩:=textsR_facts ((ps.map (·.1)).filter fun y=>decide (Leads (kidsW ps) r y))
   have h3:∀ y,y∈textsR ((ps.map (·.1)).filter fun y=>decide (Leads (kidsW ps) r y))↔Leads (kidsW ps) r y:=fun y=>by
    rw[h2 y,List.mem_filter,decide_eq_true_iff]
    exact⟨fun h=>h.2,fun h=>⟨there_mem ps y (hA y h),h⟩⟩
   rw[leads_is _ _ _ h1 h3,Option.getD_some,h3 x]
 · rw[if_neg ha] at h;cases h
theorem reach_empty' {ps:List PairL} {root:Bs} (h:root=emptyL):reachR ps root=some []:=by unfold reachR;rw[if_pos h]
theorem reach_len {ps : List PairL} (r : Bs) : ((reachR ps r).getD []).length ≤ ps.length := by
 by_cases hs:(reachR ps r).isSome=true
 · by_cases he:r=emptyL
   · rw[reach_empty' he];simp
   · have hm := reach_leads hs he
     have hnd : ((reachR ps r).getD []).Pairwise (· ≠ ·) := by
      unfold reachR
      rw[if_neg he]
      split
      · rw[Option.getD_some]
        unfold ledL
        split
        · rename_i hx
          exact hx.choose_spec.1.imp fun {a b} hab=>fun e=>by subst e;exact absurd hab (List.lt_irrefl a)
        · exact List.Pairwise.nil
      · exact List.Pairwise.nil
     have:=nodup_le _ (ps.map (·.1)) hnd (fun x hx=>there_mem ps x (hm.2 x ((hm.1 x).1 hx)))
     simpa using this
 · rw[Option.not_isSome_iff_eq_none.1 hs];simp
theorem keep_len {ps:List PairL}:∀ (rts:List Bs),(keepR ps rts).length≤rts.length*ps.length
 | []=>by simp[keepR]
 | r :: t => by
   have:=keep_len (ps:=ps) t
   have:=reach_len (ps:=ps) r
   unfold keepR at *
   rw[List.flatMap_cons,List.length_append,List.length_cons,Nat.succ_mul]
   omega
structure PrunS (ps:List PairL) (rts:List Bs) (out:List Bs):Prop where
 all:∀ r∈rts,(reachR ps r).isSome=true
 mem:∀ x,x∈out↔x∈keepR ps rts
 srch:SrchR (kidsW ps) (thereN ps) (fun x=>x∈rts∧¬ x=emptyL) out []
theorem prun_start (ps:List PairL):PrunS ps [] []:=⟨by simp,by simp[keepR],⟨fun x h=>by simp at h,fun x h=>by simp at h,fun r h=>by simp at h,fun x h=>by simp at h,List.Pairwise.nil⟩⟩
theorem srch_iff {kids:Bs→List Bs} {there:Bs→Bool} {R T:Bs→Prop} (h:∀ x,R x↔T x) {out todo:List Bs} (hs:SrchR kids there R out todo):SrchR kids there T out todo:=by
 have:R=T:=funext fun x=>propext (h x)
 rw[←this];exact hs
theorem prun_empty {ps:List PairL} {rts out:List Bs} (h:PrunS ps rts out) (r:Bs) (hr:r=emptyL):PrunS ps (rts ++ [r]) out:=by
 refine⟨fun x hx=>?_,fun x=>?_,srch_iff (fun x=>?_) h.srch⟩
 · rw[List.mem_append,List.mem_singleton] at hx
   rcases hx with hx | hx
   · exact h.all x hx
   · rw[hx,reach_empty' hr];rfl
 · rw[h.mem]
   unfold keepR
   rw[List.flatMap_append]
   simp[reach_empty' hr]
 · rw[List.mem_append,List.mem_singleton]
   constructor
   · rintro⟨h1,h2⟩;exact⟨.inl h1,h2⟩
   · rintro⟨h1 | h1,h2⟩
     · exact⟨h1,h2⟩
     · exact absurd (h1.trans hr) h2
theorem prun_ahead {ps:List PairL} {rts out:List Bs} (h:PrunS ps rts out) (r:Bs):SrchR (kidsW ps) (thereN ps) (fun x=>(x∈rts∧¬ x=emptyL)∨x=r) out [r]:=srch_more h.srch r
theorem prun_more {ps:List PairL} {rts out out':List Bs} (h:PrunS ps rts out) (r:Bs) (hr:¬ r=emptyL) (hs:SrchR (kidsW ps) (thereN ps) (fun x=>(x∈rts∧¬ x=emptyL)∨x=r) out' []):PrunS ps (rts ++ [r]) out':=by
 obtain⟨hm,hA⟩:=srch_end hs
 have hAr:AllThere (kidsW ps) (thereN ps) r:=fun x hx=>hA x ((leadsR_or x).2 (.inr hx))
 have hsm:(reachR ps r).isSome=true:=by unfold reachR;rw[if_neg hr,if_pos (all_yes hAr)];rfl
 obtain⟨hl,_⟩:=reach_leads hsm hr
 obtain⟨hm0,_⟩:=srch_end h.srch
 refine⟨fun x hx=>?_,fun x=>?_,srch_iff (fun x=>?_) hs⟩
 · rw[List.mem_append,List.mem_singleton] at hx
   rcases hx with hx | hx
   · exact h.all x hx
   · rw[hx];exact hsm
 · rw[hm,leadsR_or,←hm0,h.mem]
   unfold keepR
   rw[List.flatMap_append,List.mem_append,List.flatMap_singleton,hl]
 · rw[List.mem_append,List.mem_singleton]
   constructor
   · rintro (⟨h1,h2⟩ | h1)
     · exact⟨.inl h1,h2⟩
     · exact⟨.inr h1,by rw[h1];exact hr⟩
   · rintro⟨h1 | h1,h2⟩
     · exact .inl ⟨h1,h2⟩
     · exact .inr h1
theorem prun_lost {ps:List PairL} {rts out:List Bs} (h:PrunS ps rts out) (r:Bs) (hr:¬ r=emptyL) (hn:¬ AllThereR (kidsW ps) (thereN ps) (fun x=>(x∈rts∧¬ x=emptyL)∨x=r)):reachR ps r=none:=by
 obtain⟨_,hA⟩:=srch_end h.srch
 unfold reachR
 rw[if_neg hr,if_neg]
 intro ha
 have hAr:AllThere (kidsW ps) (thereN ps) r:=Classical.byContradiction fun hn=>by rw[all_no hn] at ha;exact absurd ha (by simp)
 refine hn fun x hx=>?_
 rcases (leadsR_or x).1 hx with h1 | h1
 · exact hA x h1
 · exact hAr x h1
theorem filter_stepP {ps:List PairL} {f:PairL→Bool} {j:Nat} (hj:j<ps.length):(ps.take (j+1)).filter f=(ps.take j).filter f ++ (if f ps[j]=true then [ps[j]] else []):=by
 rw[List.take_succ_eq_append_getElem hj,List.filter_append]
 congr 1
 cases h:f ps[j] <;> simp[h]
def PPost (w:World) (res:Option (List PairL)) (e:Ending) (w':World):Prop:=∃ (a:Option Addr) (m c:Nat),e=.returned (.tuple #[.slice a m c,.bool res.isSome])∧w'.ownsRow w.heap.size 45 2 (.slice a m c) (res.getD []).length (pcells (res.getD []))∧Below w.heap.size w w'
theorem pp_none {w w':World} {res:Option (List PairL)} (h:res=none) (hb:Below w.heap.size w w'):PPost w res (.returned (.tuple #[.slice none 0 0,.bool false])) w':=by
 subst h
 exact⟨none,0,0,rfl,World.ownsRow_nil _ _ _ _,hb⟩
theorem pair_atP {w:World} {a:Option Addr} {ps:List PairL} (h:IsPairs w a ps) (j:Nat) (hj:j<ps.length):∃ b off,a=some ⟨b,off,none⟩∧b<w.heap.size∧w.cell? ⟨b,off+j*2,none⟩=some (.string ⟨ps[j].1.toArray⟩)∧w.cell? ⟨b,off+j*2+1,none⟩=some (.string ⟨ps[j].2.toArray⟩):=by
 rcases h with rfl | ⟨b,off,rfl,hc⟩
 · simp at hj
 · exact⟨b,off,rfl,World.block_lt_of_cell? w _ (hc j hj).1,hc j hj⟩
theorem root_atP {w:World} {a:Option Addr} {ls:List Bs} (h:IsStrs w a ls) (j:Nat) (hj:j<ls.length):∃ b off,a=some ⟨b,off,none⟩∧b<w.heap.size∧w.cell? ⟨b,off+j,none⟩=some (.string ⟨ls[j].toArray⟩):=by
 obtain⟨b,off,h1,h2⟩:=strs_at h j hj
 have h3:=h2 j hj
 rw[show ls.getD j []=ls[j] by simp[hj]] at h3
 exact⟨b,off,h1,World.block_lt_of_cell? w _ h3,h3⟩
theorem pcells_snocP (l:List PairL) (p:PairL):pcells (l ++ [p])=pcells l ++ [.string ⟨p.1.toArray⟩,.string ⟨p.2.toArray⟩]:=by rw[pcells_app];rfl
set_option maxRecDepth 100000 in
set_option maxHeartbeats 4000000 in
theorem spec_pruned (a : Option Addr) (cap : Nat) (ps : List PairL) (ar : Option Addr) (cr : Nat) (rts : List Bs) (w : World) (hl : ps.length ≤ 1048576) (hm : ∀ p ∈ ps, p.1.length ≤ 1048576 ∧ p.2.length ≤ 1048576) (hs : IsPairs w a ps) (hrn : rts.length ≤ 1048576) (hrs : IsStrs w ar rts) :
 Calls Tryz.prog 7 #[.slice a ps.length cap,.slice ar rts.length cr] w fun e w'=>PPost w (prunedR ps rts) e w':=by
 obtain⟨i0,hi0,hz0,hz1,hz2⟩:=info_parts info9t
 obtain⟨j0,hj0,hy0,hy1,hy2⟩:=info_parts infoStored
 have K:=spec_storeOk a cap ps w hl hm hs
 have HNO:Hid (¬ (storeOkL ps=true∧rts.length≤30)→prunedR ps rts=none):=pruned_no
 have HLO:Hid (∀ r∈rts,reachR ps r=none→prunedR ps rts=none):=fun r hr h=>pruned_lost r hr h
 have HYS:Hid (storeOkL ps=true→rts.length≤30→(∀ r∈rts,(reachR ps r).isSome=true)→prunedR ps rts=some (ps.filter fun p=>(keepR ps rts).contains p.1)):=pruned_yes
 obtain⟨res,hres⟩:∃ res,res=prunedR ps rts:=⟨_,rfl⟩
 rw[←hres] at HNO HLO HYS ⊢
 clear hres
 cases hok:storeOkL ps with
 | false =>
   have HN:Hid (res=none):=HNO.out (by simp[hok])
   rw[hok] at K
   clear hs hm hrs hok HNO HLO HYS
   go_enter Tryz.func7,Tryz.ntmps7
   go_wp2_with fail
   refine K.mono ?_
   rintro e w1 ⟨rfl,b1⟩
   go_wp2
   go_ret2
   exact pp_none HN.out b1
 | true =>
   by_cases h30:rts.length≤30
   · have h400 := store_400P ps hok
     have HY:Hid ((∀ r∈rts,(reachR ps r).isSome=true)→res=some (ps.filter fun p=>(keepR ps rts).contains p.1)):=HYS.out hok h30
     have KR:Hid (∀ root W,Below w.heap.size w W→Calls Tryz.prog 21 #[.slice a ps.length cap,.string ⟨root.toArray⟩] W fun e w'=>RPostN W (reachR ps root) e w'):=fun root W hW=>spec_l7ReachedN a cap ps root W hl h400 hm (hs.later hW) hok
     have HS:Hid (IsPairs w a ps):=hs
     have HR:Hid (IsStrs w ar rts):=hrs
     rw[hok] at K
     have h30d:decide ((30:Int)<(rts.length:Int))=false:=by simp;omega
     have h30i:¬ (30:Int)<(rts.length:Int):=by omega
     unfold RPostN at KR
     clear hs hm hrs hok HNO HYS
     go_enter Tryz.func7,Tryz.ntmps7
     go_wp2_with fail
     refine K.mono ?_
     rintro e w1 ⟨rfl,b1⟩
     have hs1:=b1.size
     have O1:Hid ((w1.alloc (.cells #[] 9)).ownsRow w.heap.size 9 1 (.slice (some ⟨w1.heap.size,0,none⟩) 0 0) 0 (scells [])):=World.ownsRow_lit (e:=9) (size:=1) w1 #[] 0 (base:=w.heap.size) hs1 (Nat.zero_le _) rfl
     have B1:Hid (Below w.heap.size w (w1.alloc (.cells #[] 9))):=b1.alloc hs1 _
     clear K b1
     go_wp2
     go_loopw [6,7,8,9] (fun v6 v7 _ _ wr=>∃ (i g c n:Nat),i≤rts.length∧v7=.int .i64 (i:Int)∧v6=.slice (some ⟨g,0,none⟩) n c∧Hid (n=(keepR ps (rts.take i)).length)∧n≤i*400∧Hid (wr.ownsRow w.heap.size 9 1 (.slice (some ⟨g,0,none⟩) n c) n (scells (keepR ps (rts.take i))))∧Hid (∀ r∈rts.take i,(reachR ps r).isSome=true)∧Hid (Below w.heap.size w wr)) (fun _ v7 _ _ _=>rts.length - (intOf v7).toNat)
     case atStart=>exact⟨0,w1.heap.size,0,0,Nat.zero_le _,rfl,rfl,by simp[Hid,keepR],by omega,by simpa [Hid,keepR] using O1.out,by simp[Hid],B1⟩
     case round =>
      obtain⟨i,g,c,n,hi,rfl,rfl,HN,hn,HO,HA,HB⟩:=hrel
      have hsz:=HB.out.size
      have hi9:(0:Int)≤(i:Int):=by omega
      by_cases hlt:i<rts.length
      · have hii:(i:Int)<(rts.length:Int):=by omega
        obtain⟨bk,offk,ha4,hbk,hkc⟩:=root_atP HR.out i hlt
        have d1:=(HB.out.cell (p:=⟨bk,offk+i,none⟩) hbk).trans hkc
        have HST:Hid (keepR ps (rts.take (i+1))=keepR ps (rts.take i) ++ (reachR ps rts[i]).getD []):=keep_step hlt
        have HMR:Hid (rts[i]∈rts):=List.getElem_mem hlt
        have HA2:Hid ((reachR ps rts[i]).isSome=true→∀ r∈rts.take (i+1),(reachR ps r).isSome=true):=fun h r hr=>by
         rw[List.take_succ_eq_append_getElem hlt,List.mem_append,List.mem_singleton] at hr
         rcases hr with hr | hr
         · exact HA.out r hr
         · rw[hr];exact h
        have hlen:=reach_len (ps:=ps) rts[i]
        obtain⟨root,hroot⟩:∃ root,root=rts[i]:=⟨_,rfl⟩
        rw[←hroot] at d1 HST HMR HA2 hlen
        have K2:=KR.out root wr HB.out
        have HLX:Hid (reachR ps root=none→res=none):=HLO.out root HMR.out
        obtain⟨r1,hr1⟩:∃ r1,r1=reachR ps root:=⟨_,rfl⟩
        rw[←hr1] at K2 HST HA2 hlen HLX
        clear hr1 hroot hkc HA KR HMR HLO
        subst ha4
        go_wp2_with fail
        refine K2.mono ?_
        rintro e w5 ⟨a5,m5,c5,rfl,hg5,o5,b5⟩
        have B5:Hid (Below w.heap.size w w5):=HB.out.trans (b5.mono hsz)
        cases r1 with
        | none =>
          have HNN:Hid (res=none):=HLX.out rfl
          clear o5 b5 HST HA2 HLX hg5 K2
          go_wp2
          go_ret2
          exact pp_none HNN.out B5.out
        | some l5 =>
          obtain⟨g5,rfl⟩:=hg5 rfl
          simp only[Option.getD_some,Option.isSome_some] at o5 hlen HST ⊢
          obtain⟨rfl,_,_⟩:=strs_own o5
          have OW5:=hidOwn (kept1 HO.out b5)
          have NEW5:Hid (∀ j u,(scells l5)[j]? = some u→w5.cell? ((⟨g5,0,none⟩:Addr).add j)=some u):=by
           have:=flat_partT o5 0 l5.length
           simpa [Hid] using this
          have S5:w.heap.size≤w5.heap.size:=B5.out.size
          have HAX:=HA2.out rfl
          have HAX:Hid (∀ r∈rts.take (i+1),(reachR ps r).isSome=true):=HAX
          have hsl:(scells l5).length=l5.length:=by simp[scells]
          have hn30:n≤12000:=by omega
          clear o5 b5 HA2 HLX K2 hg5
          go_wp2_with (at_builtin;refine wpList_append_own _ rfl _ _ 25 rfl w.heap.size 9 i0 (.string ⟨#[]⟩) 1 16 Tryz.underlying25 hi0 hz0 hz1 hz2 rfl (by decide) (.slice (some ⟨g,0,none⟩) n c) n _ rfl OW5.out ⟨g5,0,none⟩ l5.length c5 (scells l5) rfl (by rw[hsl];omega) NEW5.out (soneT l5) (by unfold maxLen;omega) (by omega) S5 ?_)
          intro v6 w6 hown6 hgrow6 hnil6
          obtain⟨g6,c6,rfl⟩:=own_shape hown6 (by first | exact hnil6 | exact fun h=>by have:=hnil6.1 h;simp at this)
          have HB6:Hid (Below w.heap.size w w6):=B5.out.grown hgrow6 S5 (fun q hq=>by have:=OW5.out.lt q hq;omega)
          have HO6:Hid (w6.ownsRow w.heap.size 9 1 (.slice (some ⟨g6,0,none⟩) (n+l5.length) c6) (n+l5.length) (scells (keepR ps (rts.take (i+1))))):=by rw[Hid,HST.out];simp only[scells,List.map_append];exact hown6
          have HN6:Hid (n+l5.length=(keepR ps (rts.take (i+1))).length):=by rw[Hid,HST.out,List.length_append,←HN.out]
          clear hown6 hgrow6 hnil6 NEW5 HST HN
          go_wp2
          go_roundw
          case rel=>exact⟨i+1,g6,c6,n+l5.length,by omega,by go_num,rfl,HN6,by omega,HO6,HAX,HB6⟩
          case measure=>simp[intOf];omega
      · obtain rfl : i = rts.length := by omega
        have hii:¬ (rts.length:Int)<(rts.length:Int):=by omega
        have ha:=HA.out
        have hnn:=HN.out
        have hoo:=HO.out
        rw[List.take_length] at ha hnn hoo
        have HRS:Hid (res=some (ps.filter fun p=>(keepR ps rts).contains p.1)):=HY.out ha
        obtain⟨kp,hkp⟩:∃ kp,kp=keepR ps rts:=⟨_,rfl⟩
        rw[←hkp] at HRS hnn hoo
        subst hnn
        obtain⟨wk,hwk⟩:∃ wk,wk=wr:=⟨_,rfl⟩
        rw[←hwk] at hoo HB hsz
        have HK0:=hidOwn hoo
        have HKP:Hid (∀ W,Below wk.heap.size wk W→W.ownsRow w.heap.size 9 1 (.slice (some ⟨g,0,none⟩) kp.length c) kp.length (scells kp)):=fun W hW=>kept1 HK0.out hW
        have hkl:kp.length≤12000:=by omega
        have O2:Hid ((wk.alloc (.cells #[] 45)).ownsRow wk.heap.size 45 2 (.slice (some ⟨wk.heap.size,0,none⟩) 0 0) 0 (pcells [])):=World.ownsRow_lit (e:=45) (size:=2) wk #[] 0 (base:=wk.heap.size) (Nat.le_refl _) (Nat.zero_le _) rfl
        have B2:Hid (Below wk.heap.size wk (wk.alloc (.cells #[] 45))):=(Below.refl _ _).alloc (Nat.le_refl _) _
        clear ha hoo hkp HA HN HO HY HLO KR HK0 hn
        subst hwk
        go_wp2
        go_loopw [10,11,12,13] (fun v10 v11 _ _ wq=>∃ (j g2 c2 n2:Nat),j≤ps.length∧v11=.int .i64 (j:Int)∧v10=.slice (some ⟨g2,0,none⟩) n2 c2∧Hid (n2=((ps.take j).filter fun p=>kp.contains p.1).length)∧n2≤j∧Hid (wq.ownsRow wk.heap.size 45 2 (.slice (some ⟨g2,0,none⟩) n2 c2) n2 (pcells ((ps.take j).filter fun p=>kp.contains p.1)))∧Hid (Below wk.heap.size wk wq)) (fun _ v11 _ _ _=>ps.length - (intOf v11).toNat)
        case atStart=>exact⟨0,wk.heap.size,0,0,Nat.zero_le _,rfl,rfl,by simp[Hid],by omega,by simpa [Hid] using O2.out,B2⟩
        case round =>
         obtain⟨j,g2,c2,n2,hj,rfl,rfl,HN2,hn2,HO2,HB2⟩:=hrel
         have hsz2:=HB2.out.size
         have hj9:(0:Int)≤(j:Int):=by omega
         by_cases hlt:j<ps.length
         · have hji : (j : Int) < (ps.length : Int) := by omega
           obtain⟨bp,offp,hap,hbp,hp1,hp2⟩:=pair_atP HS.out j hlt
           have HC:Hid (∀ W,Below wk.heap.size wk W→W.cell? ⟨bp,offp+j*2,none⟩=some (.string ⟨ps[j].1.toArray⟩)∧W.cell? ⟨bp,offp+j*2+1,none⟩=some (.string ⟨ps[j].2.toArray⟩)):=fun W hW=>by
            have hW2:=HB.out.trans (hW.mono hsz)
            exact⟨(hW2.cell (p:=⟨bp,offp+j*2,none⟩) hbp).trans hp1,(hW2.cell (p:=⟨bp,offp+j*2+1,none⟩) hbp).trans hp2⟩
           have HF1:=filter_stepP (f:=fun p=>kp.contains p.1) hlt
           obtain⟨hh,tt,hpj⟩:∃ hh tt,ps[j]=(hh,tt):=⟨_,_,rfl⟩
           rw[hpj] at HC HF1
           have HF1:Hid (_=_):=HF1
           clear hpj hp1 hp2 hbp
           subst hap
           obtain⟨wo,hwo⟩:∃ wo,wo=wr:=⟨_,rfl⟩
           rw[←hwo] at HO2 HB2 hsz2
           subst hwo
           go_wp2
           go_loopw [12,13] (fun v12 v13 wi=>∃ (k:Nat) (od:Bool),k≤kp.length∧v13=.int .i64 (k:Int)∧v12=.bool od∧Hid (od=true↔hh∈kp.take k)∧Hid (Below wo.heap.size wo wi)) (fun _ v13 _=>kp.length - (intOf v13).toNat)
           case atStart=>exact⟨0,false,Nat.zero_le _,rfl,rfl,by simp[Hid],Below.refl _ _⟩
           case round =>
            obtain⟨k,od,hk,rfl,rfl,HOD,HBI⟩:=hrel
            have hk9:(0:Int)≤(k:Int):=by omega
            have B3:Hid (Below wk.heap.size wk wr):=HB2.out.trans (HBI.out.mono hsz2)
            by_cases hlk:k<kp.length
            · have hki : (k : Int) < (kp.length : Int) := by omega
              have dk:wr.cell? ⟨g,k,none⟩=some (.string ⟨kp[k].toArray⟩):=by
               have:=(HKP.out wr B3.out).cellAt k (by omega)
               rw[this]
               simp[scells,hlk]
              obtain⟨e1,e2⟩:=HC.out wr B3.out
              have HM1:=mem_take_succ hlk hh
              obtain⟨y,hy⟩:∃ y,y=kp[k]:=⟨_,rfl⟩
              rw[←hy] at dk HM1
              have SX:Hid (wr.cell? ⟨g,k,none⟩=some (.string ⟨y.toArray⟩)∧wr.cell? ⟨bp,offp+j*2,none⟩=some (.string ⟨hh.toArray⟩)):=⟨dk,e1⟩
              have D2:Hid (Below wo.heap.size wo wr.drew):=⟨HBI.out.os,HBI.out.tape,HBI.out.output,HBI.out.size,HBI.out.block⟩
              clear hy e1 e2 dk
              cases od with
              | true =>
                have H1:Hid (true=true↔hh∈kp.take (k+1)):=⟨fun _=>HM1.2 (.inl (HOD.out.1 rfl)),fun _=>rfl⟩
                clear HM1 HOD
                go_wp2_with fail
                refine wp_region_held_drew (S:=(fun w'=>w'.cell? ⟨g,k,none⟩=some (.string ⟨y.toArray⟩)∧w'.cell? ⟨bp,offp+j*2,none⟩=some (.string ⟨hh.toArray⟩))) (by kernel_rfl) SX.out (fun hHeld=>?_)
                refine wpAnyH_take (i := 0) (oi := { dst := some 56, op := Op.move (Operand.tmp 12), type := 4, pos := "l07_updates.go:110", after := #[], guard := none }) (v := ?vb0) rfl (by kernel_rfl) (by kernel_rfl) (by kernel_rfl) (fun _ _ _ h => h) (Or.inl ⟨by rfl, ?yb0⟩) (by assumption) ?rb0
                case yb0=>(intro w hSw;(try dsimp only at hSw);go_simp;(try with_reducible rfl))
                try simp only[Act.put,List.setIfInBounds_toArray,List.set_cons_zero,List.set_cons_succ]
                refine wpAnyH_take (i := 1) (oi := { dst := some 57, op := Op.move (Operand.tmp 56), type := 4, pos := "l07_updates.go:110", after := #[{ on := 0, ground := Ground.data }], guard := none }) (v := ?vb1) rfl (by kernel_rfl) (by kernel_rfl) (by kernel_rfl) (fun _ _ _ h => h) (Or.inl ⟨by rfl, ?yb1⟩) (by assumption) ?rb1
                case yb1=>(intro w hSw;(try dsimp only at hSw);go_simp;(try with_reducible rfl))
                try simp only[Act.put,List.setIfInBounds_toArray,List.set_cons_zero,List.set_cons_succ]
                refine wpAnyH_take (i := 2) (oi := { dst := some 58, op := Op.move (Operand.tmp 6), type := 25, pos := "l07_updates.go:110", after := #[{ on := 1, ground := Ground.guard }], guard := some (1, false) }) (v := undef) rfl (by kernel_rfl) (by kernel_rfl) (by kernel_rfl) (fun _ _ _ h => h) (Or.inr ⟨by rfl, rfl⟩) (by assumption) ?_
                try simp only[Act.put,List.setIfInBounds_toArray,List.set_cons_zero,List.set_cons_succ]
                refine wpAnyH_take (i := 3) (oi := { dst := some 59, op := Op.move (Operand.tmp 13), type := 3, pos := "l07_updates.go:110", after := #[{ on := 1, ground := Ground.guard }], guard := some (1, false) }) (v := undef) rfl (by kernel_rfl) (by kernel_rfl) (by kernel_rfl) (fun _ _ _ h => h) (Or.inr ⟨by rfl, rfl⟩) (by assumption) ?_
                try simp only[Act.put,List.setIfInBounds_toArray,List.set_cons_zero,List.set_cons_succ]
                refine wpAnyH_take (i := 4) (oi := { dst := some 60, op := Op.indexAddr 25 (Operand.tmp 58) (Operand.tmp 59), type := 0, pos := "l07_updates.go:110", after := #[{ on := 2, ground := Ground.data }, { on := 3, ground := Ground.data }, { on := 1, ground := Ground.guard }], guard := some (1, false) }) (v := undef) rfl (by kernel_rfl) (by kernel_rfl) (by kernel_rfl) (fun _ _ _ h => h) (Or.inr ⟨by rfl, rfl⟩) (by assumption) ?_
                try simp only[Act.put,List.setIfInBounds_toArray,List.set_cons_zero,List.set_cons_succ]
                refine wpAnyH_take (i := 5) (oi := { dst := some 61, op := Op.load 9 (Operand.tmp 60), type := 9, pos := "l07_updates.go:110", after := #[{ on := 4, ground := Ground.data }, { on := 1, ground := Ground.guard }], guard := some (1, false) }) (v := undef) rfl (by kernel_rfl) (by kernel_rfl) (by kernel_rfl) (fun _ _ _ h => h) (Or.inr ⟨by rfl, rfl⟩) (by assumption) ?_
                try simp only[Act.put,List.setIfInBounds_toArray,List.set_cons_zero,List.set_cons_succ]
                refine wpAnyH_take (i := 6) (oi := { dst := some 62, op := Op.move (Operand.tmp 0), type := 24, pos := "l07_updates.go:110", after := #[{ on := 1, ground := Ground.guard }], guard := some (1, false) }) (v := undef) rfl (by kernel_rfl) (by kernel_rfl) (by kernel_rfl) (fun _ _ _ h => h) (Or.inr ⟨by rfl, rfl⟩) (by assumption) ?_
                try simp only[Act.put,List.setIfInBounds_toArray,List.set_cons_zero,List.set_cons_succ]
                refine wpAnyH_take (i := 7) (oi := { dst := some 63, op := Op.move (Operand.tmp 11), type := 3, pos := "l07_updates.go:110", after := #[{ on := 1, ground := Ground.guard }], guard := some (1, false) }) (v := undef) rfl (by kernel_rfl) (by kernel_rfl) (by kernel_rfl) (fun _ _ _ h => h) (Or.inr ⟨by rfl, rfl⟩) (by assumption) ?_
                try simp only[Act.put,List.setIfInBounds_toArray,List.set_cons_zero,List.set_cons_succ]
                refine wpAnyH_take (i := 8) (oi := { dst := some 64, op := Op.indexAddr 24 (Operand.tmp 62) (Operand.tmp 63), type := 0, pos := "l07_updates.go:110", after := #[{ on := 6, ground := Ground.data }, { on := 7, ground := Ground.data }, { on := 1, ground := Ground.guard }], guard := some (1, false) }) (v := undef) rfl (by kernel_rfl) (by kernel_rfl) (by kernel_rfl) (fun _ _ _ h => h) (Or.inr ⟨by rfl, rfl⟩) (by assumption) ?_
                try simp only[Act.put,List.setIfInBounds_toArray,List.set_cons_zero,List.set_cons_succ]
                refine wpAnyH_take (i := 9) (oi := { dst := some 65, op := Op.fieldAddr 45 (Operand.tmp 64) 0, type := 0, pos := "l07_updates.go:110", after := #[{ on := 8, ground := Ground.data }, { on := 1, ground := Ground.guard }], guard := some (1, false) }) (v := undef) rfl (by kernel_rfl) (by kernel_rfl) (by kernel_rfl) (fun _ _ _ h => h) (Or.inr ⟨by rfl, rfl⟩) (by assumption) ?_
                try simp only[Act.put,List.setIfInBounds_toArray,List.set_cons_zero,List.set_cons_succ]
                refine wpAnyH_take (i := 10) (oi := { dst := some 66, op := Op.load 9 (Operand.tmp 65), type := 9, pos := "l07_updates.go:110", after := #[{ on := 9, ground := Ground.data }, { on := 1, ground := Ground.guard }], guard := some (1, false) }) (v := undef) rfl (by kernel_rfl) (by kernel_rfl) (by kernel_rfl) (fun _ _ _ h => h) (Or.inr ⟨by rfl, rfl⟩) (by assumption) ?_
                try simp only[Act.put,List.setIfInBounds_toArray,List.set_cons_zero,List.set_cons_succ]
                refine wpAnyH_take (i := 11) (oi := { dst := some 67, op := Op.binOp BinOp.eql 9 (Operand.tmp 61) (Operand.tmp 66) 9, type := 4, pos := "l07_updates.go:110", after := #[{ on := 5, ground := Ground.data }, { on := 10, ground := Ground.data }, { on := 1, ground := Ground.guard }], guard := some (1, false) }) (v := undef) rfl (by kernel_rfl) (by kernel_rfl) (by kernel_rfl) (fun _ _ _ h => h) (Or.inr ⟨by rfl, rfl⟩) (by assumption) ?_
                try simp only[Act.put,List.setIfInBounds_toArray,List.set_cons_zero,List.set_cons_succ]
                refine wpAnyH_take (i := 12) (oi := { dst := some 68, op := Op.pick (Operand.tmp 57) (Operand.const (Value.bool true)) (Operand.tmp 67), type := 4, pos := "l07_updates.go:110", after := #[{ on := 1, ground := Ground.data }, { on := 11, ground := Ground.data }], guard := none }) (v := ?vb12) rfl (by kernel_rfl) (by kernel_rfl) (by kernel_rfl) (fun _ _ _ h => h) (Or.inl ⟨by rfl, ?yb12⟩) (by assumption) ?rb12
                case yb12=>(intro w hSw;(try dsimp only at hSw);go_simp;(try with_reducible rfl))
                try simp only[Act.put,List.setIfInBounds_toArray,List.set_cons_zero,List.set_cons_succ]
                refine wpAnyH_take (i := 13) (oi := { dst := some 12, op := Op.assign (Operand.tmp 68), type := 4, pos := "l07_updates.go:110", after := #[{ on := 12, ground := Ground.data }, { on := 1, ground := Ground.chain }, { on := 0, ground := Ground.phase }, { on := 1, ground := Ground.phase }, { on := 2, ground := Ground.phase }, { on := 3, ground := Ground.phase }, { on := 4, ground := Ground.phase }, { on := 5, ground := Ground.phase }, { on := 6, ground := Ground.phase }, { on := 7, ground := Ground.phase }, { on := 8, ground := Ground.phase }, { on := 9, ground := Ground.phase }, { on := 10, ground := Ground.phase }, { on := 11, ground := Ground.phase }, { on := 12, ground := Ground.phase }], guard := none }) (v := ?vb13) rfl (by kernel_rfl) (by kernel_rfl) (by kernel_rfl) (fun _ _ _ h => h) (Or.inl ⟨by rfl, ?yb13⟩) (by assumption) ?rb13
                case yb13=>(intro w hSw;(try dsimp only at hSw);go_simp;(try with_reducible rfl))
                try simp only[Act.put,List.setIfInBounds_toArray,List.set_cons_zero,List.set_cons_succ]
                refine wpAnyH_done (by kernel_rfl) ?_ _
                go_wp2
                go_roundw
                case rel=>exact⟨k+1,true,by omega,by go_num,rfl,(by have h9:=H1.out;simpa [Hid] using h9),D2⟩
                case measure=>simp[intOf];omega
              | false =>
                by_cases hyx:y=hh
                · have H1:Hid (true=true↔hh∈kp.take (k+1)):=⟨fun _=>HM1.2 (.inr hyx),fun _=>rfl⟩
                  clear HM1 HOD
                  subst hyx
                  go_wp2_with fail
                  refine wp_region_held_drew (S:=(fun w'=>w'.cell? ⟨g,k,none⟩=some (.string ⟨y.toArray⟩)∧w'.cell? ⟨bp,offp+j*2,none⟩=some (.string ⟨y.toArray⟩))) (by kernel_rfl) SX.out (fun hHeld=>?_)
                  refine wpAnyH_take (i := 0) (oi := { dst := some 56, op := Op.move (Operand.tmp 12), type := 4, pos := "l07_updates.go:110", after := #[], guard := none }) (v := ?vc0) rfl (by kernel_rfl) (by kernel_rfl) (by kernel_rfl) (fun _ _ _ h => h) (Or.inl ⟨by rfl, ?yc0⟩) (by assumption) ?rc0
                  case yc0=>(intro w hSw;(try dsimp only at hSw);go_simp;(try with_reducible rfl))
                  try simp only[Act.put,List.setIfInBounds_toArray,List.set_cons_zero,List.set_cons_succ]
                  refine wpAnyH_take (i := 1) (oi := { dst := some 57, op := Op.move (Operand.tmp 56), type := 4, pos := "l07_updates.go:110", after := #[{ on := 0, ground := Ground.data }], guard := none }) (v := ?vc1) rfl (by kernel_rfl) (by kernel_rfl) (by kernel_rfl) (fun _ _ _ h => h) (Or.inl ⟨by rfl, ?yc1⟩) (by assumption) ?rc1
                  case yc1=>(intro w hSw;(try dsimp only at hSw);go_simp;(try with_reducible rfl))
                  try simp only[Act.put,List.setIfInBounds_toArray,List.set_cons_zero,List.set_cons_succ]
                  refine wpAnyH_take (i := 2) (oi := { dst := some 58, op := Op.move (Operand.tmp 6), type := 25, pos := "l07_updates.go:110", after := #[{ on := 1, ground := Ground.guard }], guard := some (1, false) }) (v := ?vc2) rfl (by kernel_rfl) (by kernel_rfl) (by kernel_rfl) (fun _ _ _ h => h) (Or.inl ⟨by rfl, ?yc2⟩) (by assumption) ?rc2
                  case yc2=>(intro w hSw;(try dsimp only at hSw);go_simp;(try with_reducible rfl))
                  try simp only[Act.put,List.setIfInBounds_toArray,List.set_cons_zero,List.set_cons_succ]
                  refine wpAnyH_take (i := 3) (oi := { dst := some 59, op := Op.move (Operand.tmp 13), type := 3, pos := "l07_updates.go:110", after := #[{ on := 1, ground := Ground.guard }], guard := some (1, false) }) (v := ?vc3) rfl (by kernel_rfl) (by kernel_rfl) (by kernel_rfl) (fun _ _ _ h => h) (Or.inl ⟨by rfl, ?yc3⟩) (by assumption) ?rc3
                  case yc3=>(intro w hSw;(try dsimp only at hSw);go_simp;(try with_reducible rfl))
                  try simp only[Act.put,List.setIfInBounds_toArray,List.set_cons_zero,List.set_cons_succ]
                  refine wpAnyH_take (i := 4) (oi := { dst := some 60, op := Op.indexAddr 25 (Operand.tmp 58) (Operand.tmp 59), type := 0, pos := "l07_updates.go:110", after := #[{ on := 2, ground := Ground.data }, { on := 3, ground := Ground.data }, { on := 1, ground := Ground.guard }], guard := some (1, false) }) (v := ?vc4) rfl (by kernel_rfl) (by kernel_rfl) (by kernel_rfl) (fun _ _ _ h => h) (Or.inl ⟨by rfl, ?yc4⟩) (by assumption) ?rc4
                  case yc4=>(intro w hSw;(try dsimp only at hSw);go_simp;(try with_reducible rfl))
                  try simp only[Act.put,List.setIfInBounds_toArray,List.set_cons_zero,List.set_cons_succ]
                  refine wpAnyH_take (i := 5) (oi := { dst := some 61, op := Op.load 9 (Operand.tmp 60), type := 9, pos := "l07_updates.go:110", after := #[{ on := 4, ground := Ground.data }, { on := 1, ground := Ground.guard }], guard := some (1, false) }) (v := ?vc5) rfl (by kernel_rfl) (by kernel_rfl) (by kernel_rfl) (fun _ _ _ h => h) (Or.inl ⟨by rfl, ?yc5⟩) (by assumption) ?rc5
                  case yc5=>(intro w hSw;(try dsimp only at hSw);go_simp;(try with_reducible rfl))
                  try simp only[Act.put,List.setIfInBounds_toArray,List.set_cons_zero,List.set_cons_succ]
                  refine wpAnyH_take (i := 6) (oi := { dst := some 62, op := Op.move (Operand.tmp 0), type := 24, pos := "l07_updates.go:110", after := #[{ on := 1, ground := Ground.guard }], guard := some (1, false) }) (v := ?vc6) rfl (by kernel_rfl) (by kernel_rfl) (by kernel_rfl) (fun _ _ _ h => h) (Or.inl ⟨by rfl, ?yc6⟩) (by assumption) ?rc6
                  case yc6=>(intro w hSw;(try dsimp only at hSw);go_simp;(try with_reducible rfl))
                  try simp only[Act.put,List.setIfInBounds_toArray,List.set_cons_zero,List.set_cons_succ]
                  refine wpAnyH_take (i := 7) (oi := { dst := some 63, op := Op.move (Operand.tmp 11), type := 3, pos := "l07_updates.go:110", after := #[{ on := 1, ground := Ground.guard }], guard := some (1, false) }) (v := ?vc7) rfl (by kernel_rfl) (by kernel_rfl) (by kernel_rfl) (fun _ _ _ h => h) (Or.inl ⟨by rfl, ?yc7⟩) (by assumption) ?rc7
                  case yc7=>(intro w hSw;(try dsimp only at hSw);go_simp;(try with_reducible rfl))
                  try simp only[Act.put,List.setIfInBounds_toArray,List.set_cons_zero,List.set_cons_succ]
                  refine wpAnyH_take (i := 8) (oi := { dst := some 64, op := Op.indexAddr 24 (Operand.tmp 62) (Operand.tmp 63), type := 0, pos := "l07_updates.go:110", after := #[{ on := 6, ground := Ground.data }, { on := 7, ground := Ground.data }, { on := 1, ground := Ground.guard }], guard := some (1, false) }) (v := ?vc8) rfl (by kernel_rfl) (by kernel_rfl) (by kernel_rfl) (fun _ _ _ h => h) (Or.inl ⟨by rfl, ?yc8⟩) (by assumption) ?rc8
                  case yc8=>(intro w hSw;(try dsimp only at hSw);go_simp;(try with_reducible rfl))
                  try simp only[Act.put,List.setIfInBounds_toArray,List.set_cons_zero,List.set_cons_succ]
                  refine wpAnyH_take (i := 9) (oi := { dst := some 65, op := Op.fieldAddr 45 (Operand.tmp 64) 0, type := 0, pos := "l07_updates.go:110", after := #[{ on := 8, ground := Ground.data }, { on := 1, ground := Ground.guard }], guard := some (1, false) }) (v := ?vc9) rfl (by kernel_rfl) (by kernel_rfl) (by kernel_rfl) (fun _ _ _ h => h) (Or.inl ⟨by rfl, ?yc9⟩) (by assumption) ?rc9
                  case yc9=>(intro w hSw;(try dsimp only at hSw);go_simp;(try with_reducible rfl))
                  try simp only[Act.put,List.setIfInBounds_toArray,List.set_cons_zero,List.set_cons_succ]
                  refine wpAnyH_take (i := 10) (oi := { dst := some 66, op := Op.load 9 (Operand.tmp 65), type := 9, pos := "l07_updates.go:110", after := #[{ on := 9, ground := Ground.data }, { on := 1, ground := Ground.guard }], guard := some (1, false) }) (v := ?vc10) rfl (by kernel_rfl) (by kernel_rfl) (by kernel_rfl) (fun _ _ _ h => h) (Or.inl ⟨by rfl, ?yc10⟩) (by assumption) ?rc10
                  case yc10=>(intro w hSw;(try dsimp only at hSw);go_simp;(try with_reducible rfl))
                  try simp only[Act.put,List.setIfInBounds_toArray,List.set_cons_zero,List.set_cons_succ]
                  refine wpAnyH_take (i := 11) (oi := { dst := some 67, op := Op.binOp BinOp.eql 9 (Operand.tmp 61) (Operand.tmp 66) 9, type := 4, pos := "l07_updates.go:110", after := #[{ on := 5, ground := Ground.data }, { on := 10, ground := Ground.data }, { on := 1, ground := Ground.guard }], guard := some (1, false) }) (v := ?vc11) rfl (by kernel_rfl) (by kernel_rfl) (by kernel_rfl) (fun _ _ _ h => h) (Or.inl ⟨by rfl, ?yc11⟩) (by assumption) ?rc11
                  case yc11=>(intro w hSw;(try dsimp only at hSw);go_simp;(try with_reducible rfl))
                  try simp only[Act.put,List.setIfInBounds_toArray,List.set_cons_zero,List.set_cons_succ]
                  refine wpAnyH_take (i := 12) (oi := { dst := some 68, op := Op.pick (Operand.tmp 57) (Operand.const (Value.bool true)) (Operand.tmp 67), type := 4, pos := "l07_updates.go:110", after := #[{ on := 1, ground := Ground.data }, { on := 11, ground := Ground.data }], guard := none }) (v := ?vc12) rfl (by kernel_rfl) (by kernel_rfl) (by kernel_rfl) (fun _ _ _ h => h) (Or.inl ⟨by rfl, ?yc12⟩) (by assumption) ?rc12
                  case yc12=>(intro w hSw;(try dsimp only at hSw);go_simp;(try with_reducible rfl))
                  try simp only[Act.put,List.setIfInBounds_toArray,List.set_cons_zero,List.set_cons_succ]
                  refine wpAnyH_take (i := 13) (oi := { dst := some 12, op := Op.assign (Operand.tmp 68), type := 4, pos := "l07_updates.go:110", after := #[{ on := 12, ground := Ground.data }, { on := 1, ground := Ground.chain }, { on := 0, ground := Ground.phase }, { on := 1, ground := Ground.phase }, { on := 2, ground := Ground.phase }, { on := 3, ground := Ground.phase }, { on := 4, ground := Ground.phase }, { on := 5, ground := Ground.phase }, { on := 6, ground := Ground.phase }, { on := 7, ground := Ground.phase }, { on := 8, ground := Ground.phase }, { on := 9, ground := Ground.phase }, { on := 10, ground := Ground.phase }, { on := 11, ground := Ground.phase }, { on := 12, ground := Ground.phase }], guard := none }) (v := ?vc13) rfl (by kernel_rfl) (by kernel_rfl) (by kernel_rfl) (fun _ _ _ h => h) (Or.inl ⟨by rfl, ?yc13⟩) (by assumption) ?rc13
                  case yc13=>(intro w hSw;(try dsimp only at hSw);go_simp;(try with_reducible rfl))
                  try simp only[Act.put,List.setIfInBounds_toArray,List.set_cons_zero,List.set_cons_succ]
                  refine wpAnyH_done (by kernel_rfl) ?_ _
                  go_wp2
                  go_roundw
                  case rel=>exact⟨k+1,true,by omega,by go_num,rfl,(by have h9:=H1.out;simpa [Hid] using h9),D2⟩
                  case measure=>simp[intOf];omega
                · have H1:Hid (false=true↔hh∈kp.take (k+1)):=⟨fun h=>absurd h (by decide),fun h=>by
                   rcases HM1.1 h with h | h
                   · exact absurd (HOD.out.2 h) (by decide)
                   · exact absurd h hyx⟩
                  have hyb:(y == hh)=false:=by rw[beq_eq_false_iff_ne];exact hyx
                  clear HM1 HOD
                  go_wp2_with fail
                  refine wp_region_held_drew (S:=(fun w'=>w'.cell? ⟨g,k,none⟩=some (.string ⟨y.toArray⟩)∧w'.cell? ⟨bp,offp+j*2,none⟩=some (.string ⟨hh.toArray⟩))) (by kernel_rfl) SX.out (fun hHeld=>?_)
                  refine wpAnyH_take (i := 0) (oi := { dst := some 56, op := Op.move (Operand.tmp 12), type := 4, pos := "l07_updates.go:110", after := #[], guard := none }) (v := ?vd0) rfl (by kernel_rfl) (by kernel_rfl) (by kernel_rfl) (fun _ _ _ h => h) (Or.inl ⟨by rfl, ?yd0⟩) (by assumption) ?rd0
                  case yd0=>(intro w hSw;(try dsimp only at hSw);go_simp;(try with_reducible rfl))
                  try simp only[Act.put,List.setIfInBounds_toArray,List.set_cons_zero,List.set_cons_succ]
                  refine wpAnyH_take (i := 1) (oi := { dst := some 57, op := Op.move (Operand.tmp 56), type := 4, pos := "l07_updates.go:110", after := #[{ on := 0, ground := Ground.data }], guard := none }) (v := ?vd1) rfl (by kernel_rfl) (by kernel_rfl) (by kernel_rfl) (fun _ _ _ h => h) (Or.inl ⟨by rfl, ?yd1⟩) (by assumption) ?rd1
                  case yd1=>(intro w hSw;(try dsimp only at hSw);go_simp;(try with_reducible rfl))
                  try simp only[Act.put,List.setIfInBounds_toArray,List.set_cons_zero,List.set_cons_succ]
                  refine wpAnyH_take (i := 2) (oi := { dst := some 58, op := Op.move (Operand.tmp 6), type := 25, pos := "l07_updates.go:110", after := #[{ on := 1, ground := Ground.guard }], guard := some (1, false) }) (v := ?vd2) rfl (by kernel_rfl) (by kernel_rfl) (by kernel_rfl) (fun _ _ _ h => h) (Or.inl ⟨by rfl, ?yd2⟩) (by assumption) ?rd2
                  case yd2=>(intro w hSw;(try dsimp only at hSw);go_simp;(try with_reducible rfl))
                  try simp only[Act.put,List.setIfInBounds_toArray,List.set_cons_zero,List.set_cons_succ]
                  refine wpAnyH_take (i := 3) (oi := { dst := some 59, op := Op.move (Operand.tmp 13), type := 3, pos := "l07_updates.go:110", after := #[{ on := 1, ground := Ground.guard }], guard := some (1, false) }) (v := ?vd3) rfl (by kernel_rfl) (by kernel_rfl) (by kernel_rfl) (fun _ _ _ h => h) (Or.inl ⟨by rfl, ?yd3⟩) (by assumption) ?rd3
                  case yd3=>(intro w hSw;(try dsimp only at hSw);go_simp;(try with_reducible rfl))
                  try simp only[Act.put,List.setIfInBounds_toArray,List.set_cons_zero,List.set_cons_succ]
                  refine wpAnyH_take (i := 4) (oi := { dst := some 60, op := Op.indexAddr 25 (Operand.tmp 58) (Operand.tmp 59), type := 0, pos := "l07_updates.go:110", after := #[{ on := 2, ground := Ground.data }, { on := 3, ground := Ground.data }, { on := 1, ground := Ground.guard }], guard := some (1, false) }) (v := ?vd4) rfl (by kernel_rfl) (by kernel_rfl) (by kernel_rfl) (fun _ _ _ h => h) (Or.inl ⟨by rfl, ?yd4⟩) (by assumption) ?rd4
                  case yd4=>(intro w hSw;(try dsimp only at hSw);go_simp;(try with_reducible rfl))
                  try simp only[Act.put,List.setIfInBounds_toArray,List.set_cons_zero,List.set_cons_succ]
                  refine wpAnyH_take (i := 5) (oi := { dst := some 61, op := Op.load 9 (Operand.tmp 60), type := 9, pos := "l07_updates.go:110", after := #[{ on := 4, ground := Ground.data }, { on := 1, ground := Ground.guard }], guard := some (1, false) }) (v := ?vd5) rfl (by kernel_rfl) (by kernel_rfl) (by kernel_rfl) (fun _ _ _ h => h) (Or.inl ⟨by rfl, ?yd5⟩) (by assumption) ?rd5
                  case yd5=>(intro w hSw;(try dsimp only at hSw);go_simp;(try with_reducible rfl))
                  try simp only[Act.put,List.setIfInBounds_toArray,List.set_cons_zero,List.set_cons_succ]
                  refine wpAnyH_take (i := 6) (oi := { dst := some 62, op := Op.move (Operand.tmp 0), type := 24, pos := "l07_updates.go:110", after := #[{ on := 1, ground := Ground.guard }], guard := some (1, false) }) (v := ?vd6) rfl (by kernel_rfl) (by kernel_rfl) (by kernel_rfl) (fun _ _ _ h => h) (Or.inl ⟨by rfl, ?yd6⟩) (by assumption) ?rd6
                  case yd6=>(intro w hSw;(try dsimp only at hSw);go_simp;(try with_reducible rfl))
                  try simp only[Act.put,List.setIfInBounds_toArray,List.set_cons_zero,List.set_cons_succ]
                  refine wpAnyH_take (i := 7) (oi := { dst := some 63, op := Op.move (Operand.tmp 11), type := 3, pos := "l07_updates.go:110", after := #[{ on := 1, ground := Ground.guard }], guard := some (1, false) }) (v := ?vd7) rfl (by kernel_rfl) (by kernel_rfl) (by kernel_rfl) (fun _ _ _ h => h) (Or.inl ⟨by rfl, ?yd7⟩) (by assumption) ?rd7
                  case yd7=>(intro w hSw;(try dsimp only at hSw);go_simp;(try with_reducible rfl))
                  try simp only[Act.put,List.setIfInBounds_toArray,List.set_cons_zero,List.set_cons_succ]
                  refine wpAnyH_take (i := 8) (oi := { dst := some 64, op := Op.indexAddr 24 (Operand.tmp 62) (Operand.tmp 63), type := 0, pos := "l07_updates.go:110", after := #[{ on := 6, ground := Ground.data }, { on := 7, ground := Ground.data }, { on := 1, ground := Ground.guard }], guard := some (1, false) }) (v := ?vd8) rfl (by kernel_rfl) (by kernel_rfl) (by kernel_rfl) (fun _ _ _ h => h) (Or.inl ⟨by rfl, ?yd8⟩) (by assumption) ?rd8
                  case yd8=>(intro w hSw;(try dsimp only at hSw);go_simp;(try with_reducible rfl))
                  try simp only[Act.put,List.setIfInBounds_toArray,List.set_cons_zero,List.set_cons_succ]
                  refine wpAnyH_take (i := 9) (oi := { dst := some 65, op := Op.fieldAddr 45 (Operand.tmp 64) 0, type := 0, pos := "l07_updates.go:110", after := #[{ on := 8, ground := Ground.data }, { on := 1, ground := Ground.guard }], guard := some (1, false) }) (v := ?vd9) rfl (by kernel_rfl) (by kernel_rfl) (by kernel_rfl) (fun _ _ _ h => h) (Or.inl ⟨by rfl, ?yd9⟩) (by assumption) ?rd9
                  case yd9=>(intro w hSw;(try dsimp only at hSw);go_simp;(try with_reducible rfl))
                  try simp only[Act.put,List.setIfInBounds_toArray,List.set_cons_zero,List.set_cons_succ]
                  refine wpAnyH_take (i := 10) (oi := { dst := some 66, op := Op.load 9 (Operand.tmp 65), type := 9, pos := "l07_updates.go:110", after := #[{ on := 9, ground := Ground.data }, { on := 1, ground := Ground.guard }], guard := some (1, false) }) (v := ?vd10) rfl (by kernel_rfl) (by kernel_rfl) (by kernel_rfl) (fun _ _ _ h => h) (Or.inl ⟨by rfl, ?yd10⟩) (by assumption) ?rd10
                  case yd10=>(intro w hSw;(try dsimp only at hSw);go_simp;(try with_reducible rfl))
                  try simp only[Act.put,List.setIfInBounds_toArray,List.set_cons_zero,List.set_cons_succ]
                  refine wpAnyH_take (i := 11) (oi := { dst := some 67, op := Op.binOp BinOp.eql 9 (Operand.tmp 61) (Operand.tmp 66) 9, type := 4, pos := "l07_updates.go:110", after := #[{ on := 5, ground := Ground.data }, { on := 10, ground := Ground.data }, { on := 1, ground := Ground.guard }], guard := some (1, false) }) (v := ?vd11) rfl (by kernel_rfl) (by kernel_rfl) (by kernel_rfl) (fun _ _ _ h => h) (Or.inl ⟨by rfl, ?yd11⟩) (by assumption) ?rd11
                  case yd11=>(intro w hSw;(try dsimp only at hSw);go_simp;(try with_reducible rfl))
                  try simp only[Act.put,List.setIfInBounds_toArray,List.set_cons_zero,List.set_cons_succ]
                  refine wpAnyH_take (i := 12) (oi := { dst := some 68, op := Op.pick (Operand.tmp 57) (Operand.const (Value.bool true)) (Operand.tmp 67), type := 4, pos := "l07_updates.go:110", after := #[{ on := 1, ground := Ground.data }, { on := 11, ground := Ground.data }], guard := none }) (v := ?vd12) rfl (by kernel_rfl) (by kernel_rfl) (by kernel_rfl) (fun _ _ _ h => h) (Or.inl ⟨by rfl, ?yd12⟩) (by assumption) ?rd12
                  case yd12=>(intro w hSw;(try dsimp only at hSw);go_simp;(try with_reducible rfl))
                  try simp only[Act.put,List.setIfInBounds_toArray,List.set_cons_zero,List.set_cons_succ]
                  refine wpAnyH_take (i := 13) (oi := { dst := some 12, op := Op.assign (Operand.tmp 68), type := 4, pos := "l07_updates.go:110", after := #[{ on := 12, ground := Ground.data }, { on := 1, ground := Ground.chain }, { on := 0, ground := Ground.phase }, { on := 1, ground := Ground.phase }, { on := 2, ground := Ground.phase }, { on := 3, ground := Ground.phase }, { on := 4, ground := Ground.phase }, { on := 5, ground := Ground.phase }, { on := 6, ground := Ground.phase }, { on := 7, ground := Ground.phase }, { on := 8, ground := Ground.phase }, { on := 9, ground := Ground.phase }, { on := 10, ground := Ground.phase }, { on := 11, ground := Ground.phase }, { on := 12, ground := Ground.phase }], guard := none }) (v := ?vd13) rfl (by kernel_rfl) (by kernel_rfl) (by kernel_rfl) (fun _ _ _ h => h) (Or.inl ⟨by rfl, ?yd13⟩) (by assumption) ?rd13
                  case yd13=>(intro w hSw;(try dsimp only at hSw);go_simp;(try with_reducible rfl))
                  try simp only[Act.put,List.setIfInBounds_toArray,List.set_cons_zero,List.set_cons_succ]
                  refine wpAnyH_done (by kernel_rfl) ?_ _
                  go_wp2
                  go_roundw
                  case rel=>exact⟨k+1,false,by omega,by go_num,rfl,H1,D2⟩
                  case measure=>simp[intOf];omega
            · obtain rfl:k=kp.length:=by omega
              have hki:¬ (kp.length:Int)<(kp.length:Int):=by omega
              have hod:=HOD.out
              rw[List.take_length] at hod
              have HO3:=hidOwn (kept2 HO2.out HBI.out)
              obtain⟨e1,e2⟩:=HC.out wr B3.out
              have hs3:=B3.out.size
              clear HOD HC HO2
              cases od with
              | false =>
                have hc0:kp.contains hh=false:=by
                 cases hc:kp.contains hh with
                 | false=>rfl
                 | true=>exact absurd (hod.2 (by simpa using hc)) (by decide)
                have hn0:hh ∉ kp:=fun h=>absurd (hod.2 h) (by decide)
                have HFX:Hid ((ps.take (j+1)).filter (fun p=>kp.contains p.1)=(ps.take j).filter fun p=>kp.contains p.1):=by
                 rw[Hid,HF1.out]
                 simp[hn0]
                clear hod hc0 HF1 e1 e2 hn0
                go_wp2
                go_roundw
                case rel=>exact⟨j+1,g2,c2,n2,by omega,by go_num,rfl,by rw[Hid,HFX.out];exact HN2.out,by omega,by rw[Hid,HFX.out];exact HO3.out,B3⟩
                case measure=>simp[intOf];omega
              | true =>
                have hc1:kp.contains hh=true:=by simpa using hod.1 rfl
                have HFX:Hid ((ps.take (j+1)).filter (fun p=>kp.contains p.1)=((ps.take j).filter fun p=>kp.contains p.1) ++ [(hh,tt)]):=by
                 rw[Hid,HF1.out]
                 simp[hod.1 rfl]
                clear hod hc1 HF1
                go_wp2_with (at_builtin;refine wpList_append_lies _ rfl _ _ 24 rfl wk.heap.size 45 j0 (.agg #[.string ⟨#[]⟩,.string ⟨#[]⟩]) 2 32 Tryz.underlying24 hj0 hy0 hy1 hy2 rfl (by decide) (.slice (some ⟨g2,0,none⟩) n2 c2) n2 _ rfl (HO3.out.alloc _) ⟨wr.heap.size,0,none⟩ 1 1 [.string ⟨hh.toArray⟩,.string ⟨tt.toArray⟩] rfl rfl (World.news_of_block (cs:=#[.string ⟨hh.toArray⟩,.string ⟨tt.toArray⟩]) (t:=45) (fr:=(0,0)) (heap_alloc_new wr _)) (by simp[Value.oneCell']) (by omega) (by unfold maxLen;omega) (by omega) (by simp;omega) (wr.heap.size+1) (by simp) ?_;intro g5 cap5 w5 hown5 hgrow5 hat5 hlt5)
                have B5:Hid (Below wk.heap.size wk w5):=(B3.out.alloc hs3 _).grown hgrow5 (by simp;omega) (fun q hq=>by have:=HO3.out.lt q hq;omega)
                have HO5:Hid (w5.ownsRow wk.heap.size 45 2 (.slice (some ⟨g5,0,none⟩) (n2+1) cap5) (n2+1) (pcells ((ps.take (j+1)).filter fun p=>kp.contains p.1))):=by rw[Hid,HFX.out,pcells_snocP];exact hown5
                have HN5:Hid (n2+1=((ps.take (j+1)).filter fun p=>kp.contains p.1).length):=by rw[Hid,HFX.out,List.length_append,←HN2.out];rfl
                clear hown5 hgrow5 hat5 HFX HN2 e1 e2
                go_roundw
                case rel=>exact⟨j+1,g5,cap5,n2+1,by omega,by go_num,rfl,HN5,by omega,HO5,B5⟩
                case measure=>simp[intOf];omega
         · obtain rfl:j=ps.length:=by omega
           have hji:¬ (ps.length:Int)<(ps.length:Int):=by omega
           have hnn:=HN2.out
           have hoo:=HO2.out
           rw[List.take_length] at hnn hoo
           have HOX:=hidOwn (hoo.mono hsz)
           have HNN:Hid (n2=(ps.filter fun p=>kp.contains p.1).length):=hnn
           have HBX:Hid (Below w.heap.size w wr):=HB.out.trans (HB2.out.mono hsz)
           clear hoo HN2 HO2 HB2 hnn
           go_wp2
           go_ret2
           rw[HRS.out]
           exact⟨_,_,_,rfl,by simp only[Option.getD_some];rw[←HNN.out];exact HOX.out,HBX.out⟩
   · have HN:Hid (res=none):=HNO.out (fun h=>h30 h.2)
     rw[hok] at K
     have h30d:decide ((30:Int)<(rts.length:Int))=true:=by simp;omega
     have h30i:(30:Int)<(rts.length:Int):=by omega
     clear hs hm hrs hok HNO HLO HYS
     go_enter Tryz.func7,Tryz.ntmps7
     go_wp2_with fail
     refine K.mono ?_
     rintro e w1 ⟨rfl,b1⟩
     go_wp2
     go_ret2
     exact pp_none HN.out b1
theorem two_cellsP {w:World} {b:Nat} {u v:Value} {t:TypeId} (h:w.heap[b]? = some (.cells #[u,v] t (0,0))):w.cell? ⟨b,0,none⟩=some u∧w.cell? ⟨b,1,none⟩=some v:=by
 constructor <;> simp[World.cell?,h]
set_option maxRecDepth 100000 in
set_option maxHeartbeats 4000000 in
theorem impl_pruned (a : Option Addr) (cap : Nat) (ps : List PairL) (ar : Option Addr) (cr : Nat) (rts : List Bs) (w : World) (hT : Tab w) (hl : ps.length ≤ 1048576) (hm : ∀ p ∈ ps, p.1.length ≤ 1048576 ∧ p.2.length ≤ 1048576) (hs : IsPairs w a ps) (hrn : rts.length ≤ 1048576) (hrl : ∀ r ∈ rts, r.length ≤ 1048576) (hrs : IsStrs w ar rts) :
 Calls Tryz.prog 6 #[.slice a ps.length cap,.slice ar rts.length cr] w fun e w'=>PPost w (prunedR ps rts) e w':=by
 obtain⟨j0,hj0,hy0,hy1,hy2⟩:=info_parts infoStored
 have K:=impl_heldNodesV a cap ps w hT hl hm hs
 have HT:Hid (Tab w):=hT
 have HNO:Hid (¬ (storeOkL ps=true∧rts.length≤30)→prunedR ps rts=none):=pruned_no
 have HLO:Hid (∀ r∈rts,reachR ps r=none→prunedR ps rts=none):=fun r hr h=>pruned_lost r hr h
 have HYS:Hid (storeOkL ps=true→rts.length≤30→(∀ r∈rts,(reachR ps r).isSome=true)→prunedR ps rts=some (ps.filter fun p=>(keepR ps rts).contains p.1)):=pruned_yes
 obtain⟨res,hres⟩:∃ res,res=prunedR ps rts:=⟨_,rfl⟩
 rw[←hres] at HNO HLO HYS ⊢
 clear hres
 cases hok:storeOkL ps with
 | false =>
   have HN:Hid (res=none):=HNO.out (by simp[hok])
   rw[hok] at K
   clear hs hm hrs hrl hT hok HNO HLO HYS
   go_enter Tryz.func6,Tryz.ntmps6
   go_wp2_with fail
   refine K.mono ?_
   rintro e w1 ⟨rfl,b1⟩
   go_wp2
   go_ret2
   exact pp_none HN.out b1
 | true =>
   by_cases h30:rts.length≤30
   · have h400 := store_400P ps hok
     have HY:Hid ((∀ r∈rts,(reachR ps r).isSome=true)→res=some (ps.filter fun p=>(keepR ps rts).contains p.1)):=HYS.out hok h30
     have H32:Hid (∀ j (h:j<ps.length),ps[j].1.length=32):=fun j h=>by have:=storeOk_len ps hok j h;rwa [keyAt_lt ps j h] at this
     have HOK:Hid (storeOkL ps=true):=hok
     have HS:Hid (IsPairs w a ps):=hs
     have HR:Hid (IsStrs w ar rts):=hrs
     have HRL:Hid (∀ r∈rts,r.length≤1048576):=hrl
     rw[hok] at K
     have h30d:decide ((30:Int)<(rts.length:Int))=false:=by simp;omega
     have h30i:¬ (30:Int)<(rts.length:Int):=by omega
     have hmm:=@run_makeMap Tryz.prog
     clear hs hm hrs hrl hok hT HNO HYS
     go_enter Tryz.func6,Tryz.ntmps6
     go_wp2_with fail
     refine K.mono ?_
     rintro e w1 ⟨mb,rfl,hM,hmb,b1⟩
     have hs1:=b1.size
     have HM:Hid (HeldM w1 mb ps ps.length):=hM
     have HT1:Hid (Tab w1):=HT.out.later b1
     have B1:Hid (Below w.heap.size w w1):=b1
     have S1:Hid (SeenM (w1.alloc (.map #[] 0)) w1.heap.size []):=seen_made w1
     have BA:Hid (Below w1.heap.size w1 (w1.alloc (.map #[] 0))):=(Below.refl _ _).alloc (Nat.le_refl _) _
     clear K b1 hM HT
     go_wp2
     go_loopw [10,31] (fun _ v31 wr=>∃ (i:Nat) (out:List Bs),i≤rts.length∧v31=.int .i64 (i:Int)∧Hid (SeenM wr w1.heap.size out)∧Hid (PrunS ps (rts.take i) out)∧Hid (KeptT (w1.alloc (.map #[] 0)) wr w1.heap.size)) (fun _ v31 _=>rts.length - (intOf v31).toNat)
     case atStart=>exact⟨0,[],Nat.zero_le _,rfl,S1,prun_start ps,KeptT.refl _ _⟩
     case round =>
      obtain⟨i,out,hi,rfl,HSE,HP,HK⟩:=hrel
      have hksz:=HK.out.size
      have hkz:w1.heap.size+1≤wr.heap.size:=by simpa using hksz
      have BW:Hid (Below w1.heap.size w1 wr):=HK.out.belowT BA.out (Nat.le_refl _)
      have BF:Hid (Below w.heap.size w wr):=B1.out.trans (BW.out.mono hs1)
      have hi9:(0:Int)≤(i:Int):=by omega
      by_cases hlt:i<rts.length
      · have hii:(i:Int)<(rts.length:Int):=by omega
        obtain⟨bk,offk,ha4,hbk,hkc⟩:=root_atP HR.out i hlt
        have d1:=(BF.out.cell (p:=⟨bk,offk+i,none⟩) hbk).trans hkc
        have HTK:Hid (rts.take (i+1)=rts.take i ++ [rts[i]]):=List.take_succ_eq_append_getElem hlt
        have HMR:Hid (rts[i]∈rts):=List.getElem_mem hlt
        obtain⟨root,hroot⟩:∃ root,root=rts[i]:=⟨_,rfl⟩
        rw[←hroot] at d1 HTK HMR
        have K2:=impl_reachG mb w1.heap.size ps root _ out w1 wr HOK.out h400 HM.out BW.out (Nat.le_refl _) HSE.out (prun_ahead HP.out root) HT1.out (HRL.out root HMR.out)
        have HLX:Hid (reachR ps root=none→res=none):=HLO.out root HMR.out
        have HPY:Hid (∀ out',((root=emptyL∧out'=out)∨(¬ root=emptyL∧SrchR (kidsW ps) (thereN ps) (fun x=>(x∈rts.take i∧¬ x=emptyL)∨x=root) out' []))→PrunS ps (rts.take (i+1)) out'):=fun out' h=>by
         rw[HTK.out]
         rcases h with ⟨h1,rfl⟩ | ⟨h1,h2⟩
         · exact prun_empty HP.out root h1
         · exact prun_more HP.out root h1 h2
        have HPN:Hid (¬ root=emptyL∧¬ AllThereR (kidsW ps) (thereN ps) (fun x=>(x∈rts.take i∧¬ x=emptyL)∨x=root)→res=none):=fun h=>HLX.out (prun_lost HP.out root h.1 h.2)
        clear hroot hkc HMR HLX HLO HTK HP HM HT1 HSE
        subst ha4
        go_wp2_with fail
        refine K2.mono ?_
        rintro e w3 ⟨ok,rfl,hk,hy,hn⟩
        have K3:Hid (KeptT (w1.alloc (.map #[] 0)) w3 w1.heap.size):=HK.out.next hk.os hk.tape hk.output hk.size (fun q h1 h2=>hk.block q (by omega) h2)
        have B3:Hid (Below w.heap.size w w3):=B1.out.trans ((K3.out.belowT BA.out (Nat.le_refl _)).mono hs1)
        cases ok with
        | false =>
          have HNN:Hid (res=none):=HPN.out (hn rfl)
          clear hk hy hn K2 HPY HPN
          go_wp2
          go_ret2
          exact pp_none HNN.out B3.out
        | true =>
          obtain⟨out',hse,hor⟩:=hy rfl
          have HPX:Hid (PrunS ps (rts.take (i+1)) out'):=HPY.out out' hor
          have SE3:Hid (SeenM w3 w1.heap.size out'):=hse
          clear hk hy hn K2 HPY HPN hse hor
          go_wp2
          go_roundw
          case rel=>exact⟨i+1,out',by omega,by go_num,SE3,HPX,K3⟩
          case measure=>simp[intOf];omega
      · obtain rfl:i=rts.length:=by omega
        have hii:¬ (rts.length:Int)<(rts.length:Int):=by omega
        have hpp:=HP.out
        rw[List.take_length] at hpp
        have HRS:Hid (res=some (ps.filter fun p=>out.contains p.1)):=by
         rw[Hid,HY.out hpp.all]
         congr 2
         funext p
         rw[Bool.eq_iff_iff,List.contains_iff_mem,List.contains_iff_mem]
         exact (hpp.mem p.1).symm
        obtain⟨wk,hwk⟩:∃ wk,wk=wr:=⟨_,rfl⟩
        rw[←hwk] at HSE BF hkz
        have hwz:w.heap.size≤wk.heap.size:=BF.out.size
        clear hpp HP HY HLO HK BW hksz HM HT1
        subst hwk
        go_wp2
        go_loopw [11,13,14,15,43] (fun v11 _ _ _ v43 wq=>∃ (j c2 n2:Nat) (a2:Option Addr),j≤ps.length∧v43=.int .i64 (j:Int)∧v11=.slice a2 n2 c2∧Hid (n2=((ps.take j).filter fun p=>out.contains p.1).length)∧n2≤j∧Hid (wq.ownsRow wk.heap.size 45 2 (.slice a2 n2 c2) n2 (pcells ((ps.take j).filter fun p=>out.contains p.1)))∧Hid (Below wk.heap.size wk wq)) (fun _ _ _ _ v43 _=>ps.length - (intOf v43).toNat)
        case atStart=>exact⟨0,0,0,none,Nat.zero_le _,rfl,rfl,by simp[Hid],by omega,World.ownsRow_nil _ _ _ _,Below.refl _ _⟩
        case round =>
         obtain⟨j,c2,n2,a2,hj,rfl,rfl,HN2,hn2,HO2,HB2⟩:=hrel
         have hsz2:=HB2.out.size
         have hj9:(0:Int)≤(j:Int):=by omega
         by_cases hlt:j<ps.length
         · have hji:(j:Int)<(ps.length:Int):=by omega
           obtain⟨bp,offp,hap,hbp,hp1,hp2⟩:=pair_atP HS.out j hlt
           have hW2:=BF.out.trans (HB2.out.mono hwz)
           have e1:=(hW2.cell (p:=⟨bp,offp+j*2,none⟩) hbp).trans hp1
           have e2:=(hW2.cell (p:=⟨bp,offp+j*2+1,none⟩) hbp).trans hp2
           have HF1:=filter_stepP (f:=fun p=>out.contains p.1) hlt
           have hx32:=H32.out j hlt
           obtain⟨hh,tt,hpj⟩:∃ hh tt,ps[j]=(hh,tt):=⟨_,_,rfl⟩
           rw[hpj] at e1 e2 HF1 hx32
           have HF1:Hid (_=_):=HF1
           simp only at e1 e2 hx32
           clear hpj hp1 hp2 hbp hW2
           subst hap
           have KK:=impl_keyOfHash hh (wr.alloc (.cells #[.string ⟨hh.toArray⟩,.string ⟨tt.toArray⟩] 45)) hx32
           obtain⟨cs,hcs⟩:∃ cs,cs=(bcells hh).toArray:=⟨_,rfl⟩
           have HKR:Hid (keyOf Tryz.prog 56 (.agg cs)=some (keyLit hh)):=by rw[Hid,hcs];exact key_reads hh hx32
           rw[←hcs] at KK
           have QN:=heap_alloc_new wr (.cells #[.string ⟨hh.toArray⟩,.string ⟨tt.toArray⟩] 45)
           obtain⟨q0,q1⟩:=two_cellsP QN
           have BA2:Below wk.heap.size wk (wr.alloc (.cells #[.string ⟨hh.toArray⟩,.string ⟨tt.toArray⟩] 45)):=HB2.out.alloc hsz2 _
           have HA2:=hidOwn (HO2.out.alloc (.cells #[.string ⟨hh.toArray⟩,.string ⟨tt.toArray⟩] 45))
           clear hcs
           go_wp2_with fail
           refine KK.mono ?_
           rintro e w4 ⟨rfl,b4⟩
           have B4:=BA2.trans (b4.mono BA2.size)
           have hs4:wr.heap.size+1≤w4.heap.size:=by have:=b4.size;simpa using this
           have SE4:Hid (SeenM w4 w1.heap.size out):=HSE.out.later B4
           have Q4:w4.heap[wr.heap.size]? = some (.cells #[.string ⟨hh.toArray⟩,.string ⟨tt.toArray⟩] 45 (0,0)):=(b4.block _ (by simp)).trans QN
           have Q5:(w4.alloc (.cells #[] 53)).heap[wr.heap.size]? = some (.cells #[.string ⟨hh.toArray⟩,.string ⟨tt.toArray⟩] 45 (0,0)):=(Below.heap_alloc _ _ _ (lt_of_block Q4)).trans Q4
           have B5:Hid (Below wk.heap.size wk (w4.alloc (.cells #[] 53))):=B4.alloc B4.size _
           have O5:=hidOwn ((kept2 HA2.out b4).alloc (.cells #[] 53))
           obtain⟨z0,z1⟩:=two_cellsP Q5
           have hk4:wk.heap.size≤w4.heap.size:=B4.size
           clear KK QN q0 q1 BA2 HA2 b4 B4 Q4 Q5 e1 e2
           by_cases hxo:hh∈out
           · have HH:Hid (Maps.has (datS out) (keyLit hh)=true):=(datS_has out hh hx32 SE4.out.2).2 hxo
             have hc1:out.contains hh=true:=by simpa using hxo
             have HFX:Hid ((ps.take (j+1)).filter (fun p=>out.contains p.1)=((ps.take j).filter fun p=>out.contains p.1) ++ [(hh,tt)]):=by
              rw[Hid,HF1.out]
              simp[hxo]
             clear hc1 HF1 hxo
             go_wp2_with (first
              | (at_lookup;refine wpList_lookup_own_ok _ rfl _ _ 51 rfl 56 53 keyedH Tryz.underlying51 seR (zeroSE _) (.held ()) [] rfl w1.heap.size out.length (datS out) rfl SE4.out.1 _ (keyLit hh) rfl HKR.out ?_;intro vv qs hv;rw[HH.out];obtain rfl:=seR_inv hv;clear hv)
              | (at_builtin;refine wpList_append_lies _ rfl _ _ 24 rfl wk.heap.size 45 j0 (.agg #[.string ⟨#[]⟩,.string ⟨#[]⟩]) 2 32 Tryz.underlying24 hj0 hy0 hy1 hy2 rfl (by decide) (.slice a2 n2 c2) n2 _ rfl (O5.out.alloc _) ⟨w4.heap.size+1,0,none⟩ 1 1 [.string ⟨hh.toArray⟩,.string ⟨tt.toArray⟩] (by first | rfl | simp) rfl (World.news_of_block (cs:=#[.string ⟨hh.toArray⟩,.string ⟨tt.toArray⟩]) (t:=45) (fr:=(0,0)) (by have:=heap_alloc_new (w4.alloc (.cells #[] 53)) (.cells #[.string ⟨hh.toArray⟩,.string ⟨tt.toArray⟩] 45);simpa using this)) (by simp[Value.oneCell']) (by omega) (by unfold maxLen;omega) (by omega) (by simp;omega) (w4.heap.size+2) (by simp) ?_;intro g5 cap5 w5 hown5 hgrow5 hat5 hlt5)
              | go_in)
             have B6:Hid (Below wk.heap.size wk w5):=(B5.out.alloc B5.out.size _).grown hgrow5 (by simp;omega) (fun q hq=>by have:=O5.out.lt q hq;omega)
             have HO6:Hid (w5.ownsRow wk.heap.size 45 2 (.slice (some ⟨g5,0,none⟩) (n2+1) cap5) (n2+1) (pcells ((ps.take (j+1)).filter fun p=>out.contains p.1))):=by rw[Hid,HFX.out,pcells_snocP];exact hown5
             have HN6:Hid (n2+1=((ps.take (j+1)).filter fun p=>out.contains p.1).length):=by rw[Hid,HFX.out,List.length_append,←HN2.out];rfl
             clear hown5 hgrow5 hat5 HFX HN2
             go_roundw
             case rel=>exact⟨j+1,cap5,n2+1,_,by omega,by go_num,rfl,HN6,by omega,HO6,B6⟩
             case measure=>simp[intOf];omega
           · have HH:Hid (Maps.has (datS out) (keyLit hh)=false):=by
              cases hq:Maps.has (datS out) (keyLit hh) with
              | false=>rfl
              | true=>exact absurd ((datS_has out hh hx32 SE4.out.2).1 hq) hxo
             have hc0:out.contains hh=false:=by
              cases hc:out.contains hh with
              | false=>rfl
              | true=>exact absurd (by simpa using hc) hxo
             have HFX:Hid ((ps.take (j+1)).filter (fun p=>out.contains p.1)=(ps.take j).filter fun p=>out.contains p.1):=by
              rw[Hid,HF1.out]
              simp[hxo]
             clear hc0 HF1 hxo
             go_wp2_with (first
              | (at_lookup;refine wpList_lookup_own_ok _ rfl _ _ 51 rfl 56 53 keyedH Tryz.underlying51 seR (zeroSE _) (.held ()) [] rfl w1.heap.size out.length (datS out) rfl SE4.out.1 _ (keyLit hh) rfl HKR.out ?_;intro vv qs hv;rw[HH.out];obtain rfl:=seR_inv hv;clear hv)
              | go_in)
             go_roundw
             case rel=>exact⟨j+1,c2,n2,a2,by omega,by go_num,rfl,by rw[Hid,HFX.out];exact HN2.out,by omega,by rw[Hid,HFX.out];exact O5.out,B5⟩
             case measure=>simp[intOf];omega
         · obtain rfl:j=ps.length:=by omega
           have hji:¬ (ps.length:Int)<(ps.length:Int):=by omega
           have hnn:=HN2.out
           have hoo:=HO2.out
           rw[List.take_length] at hnn hoo
           have HOX:=hidOwn (hoo.mono hwz)
           have HNN:Hid (n2=(ps.filter fun p=>out.contains p.1).length):=hnn
           have HBX:Hid (Below w.heap.size w wr):=BF.out.trans (HB2.out.mono hwz)
           clear hoo HN2 HO2 HB2 hnn
           go_wp2
           go_ret2
           rw[HRS.out]
           exact⟨_,_,_,rfl,by simp only[Option.getD_some];rw[←HNN.out];exact HOX.out,HBX.out⟩
   · have HN:Hid (res=none):=HNO.out (fun h=>h30 h.2)
     rw[hok] at K
     have h30d:decide ((30:Int)<(rts.length:Int))=true:=by simp;omega
     have h30i:(30:Int)<(rts.length:Int):=by omega
     clear hs hm hrs hrl hT hok HNO HLO HYS
     go_enter Tryz.func6,Tryz.ntmps6
     go_wp2_with fail
     refine K.mono ?_
     rintro e w1 ⟨mb,rfl,hM,hmb,b1⟩
     go_wp2
     go_ret2
     exact pp_none HN.out b1
end Go.Proofs.YtokfcfcdfhoejaaGreatDoor
