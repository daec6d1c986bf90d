/-
 Texts that are laid as one: Step, SStep, Way, WayG.
-/
import Derived.Test.YtllmclmcncolcaaGreatDoorGetAll
import Derived.Test.YtllmclmcncolcaaGreatDoorHexAll
import Derived.Test.YtllmclmcncolcaaGreatDoorIReadAll
import Derived.Test.YtllmclmcncolcaaGreatDoorSReadM
import Derived.Test.YtllmclmcncolcaaGreatDoorIReads
namespace Go.Proofs.YtllmclmcncolcaaGreatDoor
open Go.RowKit
set_option linter.unusedVariables false
theorem nib_head (x:UInt8) (r:List UInt8) (h:isNibs (x :: r)=true):x.toNat<16∧isNibs r=true:=by
 simp only[isNibs,List.all_cons,Bool.and_eq_true,decide_eq_true_eq] at h
 exact⟨by omega,h.2⟩
theorem isNibs_drop (n:Nat) (l:List UInt8) (h:isNibs l=true):isNibs (l.drop n)=true:=by
 simp only[isNibs,List.all_eq_true] at h ⊢
 exact fun x hx=>h x (List.mem_of_mem_drop hx)
set_option maxRecDepth 100000 in
set_option maxHeartbeats 400000 in
theorem litePrefix_any (s p:List UInt8) (w:World) (hs:s.length≤1048576) (hp:p.length≤1048576) :
 Calls Tryz.prog 133 #[.string ⟨s.toArray⟩,.string ⟨p.toArray⟩] w fun e w'=>e=.returned (.bool (decide (s.take p.length=p)))∧w'=w:=by
 have hz:(ByteArray.mk s.toArray).size=s.length:=by simp[ByteArray.size]
 have hy:(ByteArray.mk p.toArray).size=p.length:=by simp[ByteArray.size]
 by_cases hle:p.length≤s.length
 · have hle':(p.length:Int)≤(s.length:Int):=by omega
   have hx:=ext_to s p.length hle
   by_cases h:s.take p.length=p
   · have hd:decide (s.take p.length=p)=true:=decide_eq_true h
     rw[hd]
     have hx2:(ByteArray.mk s.toArray).extract 0 p.length=⟨p.toArray⟩:=by rw[hx,h]
     clear hd h hx
     go_enter Tryz.func133,Tryz.ntmps133
     go_wp2
     go_ret
     exact⟨rfl,rfl⟩
   · have hd:decide (s.take p.length=p)=false:=decide_eq_false h
     rw[hd]
     obtain⟨q,hq⟩:∃ q,q=s.take p.length:=⟨_,rfl⟩
     rw[←hq] at hx h
     have hb:(q == p)=false:=by rw[beq_eq_false_iff_ne];exact h
     clear hd hq h
     go_enter Tryz.func133,Tryz.ntmps133
     go_wp2
     go_ret
     exact⟨rfl,rfl⟩
 · have hle':¬ (p.length:Int)≤(s.length:Int):=by omega
   have hd:decide (s.take p.length=p)=false:=decide_eq_false fun e=>by
    have:=congrArg List.length e
    rw[List.length_take] at this
    omega
   rw[hd]
   clear hd
   go_enter Tryz.func133,Tryz.ntmps133
   go_wp2
   go_ret
   exact⟨rfl,rfl⟩
set_option maxRecDepth 100000 in
theorem hasPrefix_any (s p:List UInt8) (w:World) (hs:s.length≤1048576) (hp:p.length≤1048576) :
 Calls Tryz.prog 114 #[.string ⟨s.toArray⟩,.string ⟨p.toArray⟩] w fun e w'=>e=.returned (.bool (decide (s.take p.length=p)))∧w'=w:=by
 have K:=litePrefix_any s p w hs hp
 obtain⟨d,hd⟩:∃ d,d=decide (s.take p.length=p):=⟨_,rfl⟩
 rw[←hd] at K ⊢
 clear hd
 go_enter Tryz.func114,Tryz.ntmps114
 go_wp2_with fail
 refine K.mono ?_
 rintro e w1 ⟨rfl,rfl⟩
 go_wp2
 go_ret
 exact⟨rfl,rfl⟩
def StepPost (s:StepL) (e:Ending):Prop:=match s with
 | .ends c v=>∃ q:List UInt8,e=.returned (.agg #[.string ⟨#[]⟩,.string ⟨q.toArray⟩,.int .i64 c,.string ⟨v.toArray⟩])
 | .on h p=>e=.returned (.agg #[.string ⟨h.toArray⟩,.string ⟨p.toArray⟩,.int .i64 0,.string ⟨#[]⟩])
theorem strs_get {w:World} {a:Option Addr} {ls:List (List UInt8)} (h:IsStrs w a ls) (j:Nat) (hj:j<ls.length):∃ b off,a=some ⟨b,off,none⟩∧w.cell? ⟨b,off+j,none⟩=some (.string ⟨(ls.getD j []).toArray⟩)∧b<w.heap.size:=by
 obtain⟨b,off,h1,h2⟩:=strs_at h j hj
 exact⟨b,off,h1,h2 j hj,World.block_lt_of_cell? w _ (h2 j hj)⟩
theorem two_new (w:World) (x y:Obj):((w.alloc x).alloc y).heap[w.heap.size+1]? = some y:=by
 have:=heap_alloc_new (w.alloc x) y
 simpa using this
theorem two_below (w:World) (x y:Obj):Below w.heap.size w ((w.alloc x).alloc y):=((Below.refl _ _).alloc (Nat.le_refl _) _).alloc (by simp) _
theorem two_belowD (w:World) (x y:Obj):Below w.heap.size w ((w.alloc x).alloc y).drew:=⟨(two_below w x y).os,(two_below w x y).tape,(two_below w x y).output,(two_below w x y).size,(two_below w x y).block⟩
set_option maxRecDepth 100000 in
set_option maxHeartbeats 1000000 in
theorem impl_stepAt (k : Int) (p : List UInt8) (ls : List (List UInt8)) (v : List UInt8) (hok : NodeL.ok ⟨k, p, ls, v⟩ = true) (a : Option Addr) (c : Nat) (path : List UInt8) (w : World) (hpl : path.length ≤ 1048576) (hpn : isNibs path = true) (hs : IsStrs w a ls) :
 Calls Tryz.prog 100 #[.agg #[.int .i64 k,.string ⟨p.toArray⟩,.slice a ls.length c,.string ⟨v.toArray⟩],.string ⟨path.toArray⟩] w fun e w'=>StepPost (stepL ⟨k,p,ls,v⟩ path) e∧Below w.heap.size w w':=by
 obtain⟨n1,n2,n3,n4⟩:=ok_parts _ hok
 simp only at n1 n2 n3 n4
 have HC:=heap_alloc_new w (.cells #[.int .i64 k,.string ⟨p.toArray⟩,.slice a ls.length c,.string ⟨v.toArray⟩] 79)
 obtain⟨p0,p1,p2,p3,_⟩:=quad_cells HC
 have hz:(ByteArray.mk path.toArray).size=path.length:=by simp[ByteArray.size]
 have hzp:(ByteArray.mk p.toArray).size=p.length:=by simp[ByteArray.size]
 clear hok HC
 rcases n4 with ⟨rfl,rfl,h3⟩ | ⟨rfl,h3,rfl,x,rfl,h5⟩ | ⟨rfl,rfl,h3,h4⟩
 · clear hs
   by_cases he:p=path
   · have HS:Hid (stepL ⟨1,p,[],v⟩ path=.ends 1 v):=by rw[Hid];simp[stepL,he]
     rw[HS.out]
     subst he
     go_enter Tryz.func100,Tryz.ntmps100
     go_wp2
     exact bodyPost_ret (v:=.agg #[.string ⟨#[]⟩,.string ⟨#[]⟩,.int .i64 1,.string ⟨v.toArray⟩]) (results_cell_row rfl _ _ (w.heap.size+1) 127 _ (0,0) _ rfl (two_new _ _ _) Tryz.underlying127 rfl (by kernel_rfl)) rfl ⟨⟨_,rfl⟩,two_below _ _ _⟩
   · have heb:(p == path)=false:=by rw[beq_eq_false_iff_ne];exact he
     have HS:Hid (stepL ⟨1,p,[],v⟩ path=.ends 0 []):=by rw[Hid];simp[stepL,he]
     rw[HS.out]
     go_enter Tryz.func100,Tryz.ntmps100
     go_wp2
     exact bodyPost_ret (v:=.agg #[.string ⟨#[]⟩,.string ⟨#[]⟩,.int .i64 0,.string ⟨#[]⟩]) (results_cell_row rfl _ _ (w.heap.size+1) 127 _ (0,0) _ rfl (two_new _ _ _) Tryz.underlying127 rfl (by kernel_rfl)) rfl ⟨⟨_,rfl⟩,two_below _ _ _⟩
 · obtain⟨b,off,rfl,hc,hb⟩:=strs_get hs 0 (by simp)
   have hc1:∀ o,(w.alloc o).cell? ⟨b,off,none⟩=some (.string ⟨x.toArray⟩):=fun o=>by rw[World.cell?_alloc_lt _ _ _ hb];simpa using hc
   have hc2:∀ o o',((w.alloc o).alloc o').cell? ⟨b,off,none⟩=some (.string ⟨x.toArray⟩):=fun o o'=>by rw[World.cell?_alloc_lt _ _ _ (by simp;omega),World.cell?_alloc_lt _ _ _ hb];simpa using hc
   have KH:=fun W=>hasPrefix_any path p W hpl (by omega)
   by_cases he:path.take p.length=p
   · have HS:Hid (stepL ⟨2,p,[x],[]⟩ path=.on x (path.drop p.length)):=by rw[Hid];simp[stepL,he]
     rw[HS.out]
     have hd:decide (path.take p.length=p)=true:=decide_eq_true he
     rw[hd] at KH
     have hle:p.length≤path.length:=by
      have:=congrArg List.length he
      rw[List.length_take] at this
      omega
     have hle':(p.length:Int)≤(path.length:Int):=by omega
     have hx:=ext_from path p.length hle
     clear he HS hd hs hc
     go_enter Tryz.func100,Tryz.ntmps100
     go_wp2_with fail
     refine (KH _).mono ?_
     rintro e w1 ⟨rfl,rfl⟩
     clear KH
     have S0:(fun w':World=>w'.cell? ⟨w.heap.size,1,none⟩=some (.string ⟨p.toArray⟩)∧w'.cell? ⟨w.heap.size,2,none⟩=some (.slice (some ⟨b,off,none⟩) 1 c)∧w'.cell? ⟨b,off,none⟩=some (.string ⟨x.toArray⟩)) ((w.alloc (.cells #[.int .i64 2,.string ⟨p.toArray⟩,.slice (some ⟨b,off,none⟩) 1 c,.string ⟨#[]⟩] 79)).alloc (.cells #[.string ⟨#[]⟩,.string ⟨#[]⟩,.int .i64 0,.string ⟨#[]⟩] 127)).drew:=⟨(World.cell?_alloc_lt _ _ _ (by simp)).trans p1,(World.cell?_alloc_lt _ _ _ (by simp)).trans p2,hc2 _ _⟩
     go_wp2
     go_region_held3 (fun w'=>w'.cell? ⟨w.heap.size,1,none⟩=some (.string ⟨p.toArray⟩)∧w'.cell? ⟨w.heap.size,2,none⟩=some (.slice (some ⟨b,off,none⟩) 1 c)∧w'.cell? ⟨b,off,none⟩=some (.string ⟨x.toArray⟩)) (first | with_reducible exact S0 | go_keep) (fail)
     go_wp2
     exact bodyPost_ret (v:=.agg #[.string ⟨x.toArray⟩,.string ⟨(path.drop p.length).toArray⟩,.int .i64 0,.string ⟨#[]⟩]) (results_cell_row rfl _ _ (w.heap.size+1) 127 _ (0,0) _ rfl (two_new _ _ _) Tryz.underlying127 rfl (by kernel_rfl)) rfl ⟨rfl,two_belowD _ _ _⟩
   · have HS:Hid (stepL ⟨2,p,[x],[]⟩ path=.ends 0 []):=by rw[Hid];simp[stepL,he]
     rw[HS.out]
     have hd:decide (path.take p.length=p)=false:=decide_eq_false he
     rw[hd] at KH
     clear he HS hd hs hc hc1 hc2
     go_enter Tryz.func100,Tryz.ntmps100
     go_wp2_with fail
     refine (KH _).mono ?_
     rintro e w1 ⟨rfl,rfl⟩
     clear KH
     go_wp2
     exact bodyPost_ret (v:=.agg #[.string ⟨#[]⟩,.string ⟨#[]⟩,.int .i64 0,.string ⟨#[]⟩]) (results_cell_row rfl _ _ (w.heap.size+1) 127 _ (0,0) _ rfl (two_new _ _ _) Tryz.underlying127 rfl (by kernel_rfl)) rfl ⟨⟨_,rfl⟩,two_below _ _ _⟩
 · have h3' : (ls.length : Int) = 16 := by omega
   cases path with
   | nil =>
     clear hs
     cases v with
     | nil =>
       have HS:Hid (stepL ⟨3,[],ls,[]⟩ []=.ends 0 []):=by rw[Hid];simp[stepL]
       rw[HS.out]
       go_enter Tryz.func100,Tryz.ntmps100
       go_wp2
       exact bodyPost_ret (v:=.agg #[.string ⟨#[]⟩,.string ⟨#[]⟩,.int .i64 0,.string ⟨#[]⟩]) (results_cell_row rfl _ _ (w.heap.size+1) 127 _ (0,0) _ rfl (two_new _ _ _) Tryz.underlying127 rfl (by kernel_rfl)) rfl ⟨⟨_,rfl⟩,two_below _ _ _⟩
     | cons y r =>
       have HS:Hid (stepL ⟨3,[],ls,y :: r⟩ []=.ends 1 (y :: r)):=by rw[Hid];simp[stepL]
       rw[HS.out]
       obtain⟨v,hv⟩:∃ v,v=y :: r:=⟨_,rfl⟩
       have hve:v.isEmpty=false:=by rw[hv];rfl
       rw[←hv] at p0 p1 p2 p3 ⊢
       clear hv HS
       go_enter Tryz.func100,Tryz.ntmps100
       go_wp2
       exact bodyPost_ret (v:=.agg #[.string ⟨#[]⟩,.string ⟨#[]⟩,.int .i64 1,.string ⟨v.toArray⟩]) (results_cell_row rfl _ _ (w.heap.size+1) 127 _ (0,0) _ rfl (two_new _ _ _) Tryz.underlying127 rfl (by kernel_rfl)) rfl ⟨⟨_,rfl⟩,two_below _ _ _⟩
   | cons y r =>
     obtain⟨hy,hr⟩:=nib_head y r hpn
     obtain⟨b,off,rfl,hc,hb⟩:=strs_get hs y.toNat (by omega)
     have hc1:∀ o,(w.alloc o).cell? ⟨b,off+y.toNat,none⟩=some (.string ⟨(ls.getD y.toNat []).toArray⟩):=fun o=>by rw[World.cell?_alloc_lt _ _ _ hb];exact hc
     have hc2:∀ o o',((w.alloc o).alloc o').cell? ⟨b,off+y.toNat,none⟩=some (.string ⟨(ls.getD y.toNat []).toArray⟩):=fun o o'=>by rw[World.cell?_alloc_lt _ _ _ (by simp;omega),World.cell?_alloc_lt _ _ _ hb];exact hc
     have hix:∀ W,(Instr.index 9 (.string ⟨(y :: r).toArray⟩) (.int .i64 0)).run Tryz.prog W=.ok (.int .u8 (y.toNat:Int)) W:=fun W=>by
      have:=ix_at (P:=Tryz.prog) (t:=9) Tryz.underlying9 (y :: r) 0 0 rfl (by simp) W
      simpa using this
     obtain⟨path,hpa⟩:∃ path,path=y :: r:=⟨_,rfl⟩
     have hpe:path.isEmpty=false:=by rw[hpa];rfl
     have hp0:(1:Int)≤(path.length:Int):=by rw[hpa];simp;omega
     have hx:(ByteArray.mk path.toArray).extract 1 path.length=⟨r.toArray⟩:=by rw[ext_from path 1 (by omega),hpa];rfl
     have HSX:Hid (stepL ⟨3,[],ls,v⟩ path=if ls.getD y.toNat []=[] then .ends 0 [] else .on (ls.getD y.toNat []) r):=by rw[Hid,hpa];simp[stepL]
     obtain⟨kd,hkd⟩:∃ kd,kd=ls.getD y.toNat []:=⟨_,rfl⟩
     rw[←hkd] at hc1 hc2 HSX
     rw[←hpa] at hix hz hpl ⊢
     obtain⟨yn,hyn⟩:∃ yn,yn=y.toNat:=⟨_,rfl⟩
     rw[←hyn] at hc1 hc2 hix hy
     rw[HSX.out]
     have hy1:(yn:Int)<(ls.length:Int):=by omega
     have hy0:(0:Int)≤(yn:Int):=by omega
     have HF:Hid (∀ e w',e=.returned (.agg #[.string ⟨kd.toArray⟩,.string ⟨r.toArray⟩,.int .i64 0,.string ⟨#[]⟩])∧Below w.heap.size w w'→StepPost (if kd=[] then .ends 0 [] else .on kd r) e∧Below w.heap.size w w'):=by
      rintro e w' ⟨he,hb'⟩
      refine⟨?_,hb'⟩
      split
      · rename_i hk
        rw[hk] at he
        exact⟨r,he⟩
      · exact he
     refine Calls.mono ?_ HF.out
     clear hs hc hkd hyn hpa hpn h4 HSX HF h3 h3'
     have S0:(fun w':World=>w'.cell? ⟨w.heap.size,2,none⟩=some (.slice (some ⟨b,off,none⟩) ls.length c)∧w'.cell? ⟨b,off+yn,none⟩=some (.string ⟨kd.toArray⟩)) ((w.alloc (.cells #[.int .i64 3,.string ⟨#[]⟩,.slice (some ⟨b,off,none⟩) ls.length c,.string ⟨v.toArray⟩] 79)).alloc (.cells #[.string ⟨#[]⟩,.string ⟨#[]⟩,.int .i64 0,.string ⟨#[]⟩] 127)).drew:=⟨(World.cell?_alloc_lt _ _ _ (by simp)).trans p2,hc2 _ _⟩
     go_enter Tryz.func100,Tryz.ntmps100
     go_wp2
     go_region_held3 (fun w'=>w'.cell? ⟨w.heap.size,2,none⟩=some (.slice (some ⟨b,off,none⟩) ls.length c)∧w'.cell? ⟨b,off+yn,none⟩=some (.string ⟨kd.toArray⟩)) (first | with_reducible exact S0 | go_keep) (fail)
     go_wp2
     exact bodyPost_ret (v:=.agg #[.string ⟨kd.toArray⟩,.string ⟨r.toArray⟩,.int .i64 0,.string ⟨#[]⟩]) (results_cell_row rfl _ _ (w.heap.size+1) 127 _ (0,0) _ rfl (two_new _ _ _) Tryz.underlying127 rfl (by kernel_rfl)) rfl ⟨rfl,two_belowD _ _ _⟩
def SStepPost (s:StepL) (e:Ending):Prop:=match s with
 | .ends c v=>e=.returned (.tuple #[.string ⟨#[]⟩,.int .i64 c,.string ⟨v.toArray⟩])
 | .on h p=>e=.returned (.tuple #[.string ⟨h.toArray⟩,.int .i64 2,.string ⟨#[]⟩])
set_option maxRecDepth 100000 in
set_option maxHeartbeats 1000000 in
theorem spec_l6Step (k:Int) (p:List UInt8) (ls:List (List UInt8)) (v:List UInt8) (hok:NodeL.ok ⟨k,p,ls,v⟩=true) (a:Option Addr) (c:Nat) (path:List UInt8) (w:World) (hpl:path.length≤1048576) (hpn:isNibs path=true) (hs:IsStrs w a ls) :
 Calls Tryz.prog 40 #[.agg #[.int .i64 k,.string ⟨p.toArray⟩,.slice a ls.length c,.string ⟨v.toArray⟩],.string ⟨path.toArray⟩] w fun e w'=>SStepPost (stepL ⟨k,p,ls,v⟩ path) e∧Below w.heap.size w w':=by
 obtain⟨n1,n2,n3,n4⟩:=ok_parts _ hok
 simp only at n1 n2 n3 n4
 have HC:=heap_alloc_new w (.cells #[.int .i64 k,.string ⟨p.toArray⟩,.slice a ls.length c,.string ⟨v.toArray⟩] 79)
 have B0:Below w.heap.size w (w.alloc (.cells #[.int .i64 k,.string ⟨p.toArray⟩,.slice a ls.length c,.string ⟨v.toArray⟩] 79)):=(Below.refl _ _).alloc (Nat.le_refl _) _
 obtain⟨p0,p1,p2,p3,_⟩:=quad_cells HC
 have hz:(ByteArray.mk path.toArray).size=path.length:=by simp[ByteArray.size]
 have hzp:(ByteArray.mk p.toArray).size=p.length:=by simp[ByteArray.size]
 clear hok HC
 rcases n4 with ⟨rfl,rfl,h3⟩ | ⟨rfl,h3,rfl,x,rfl,h5⟩ | ⟨rfl,rfl,h3,h4⟩
 · clear hs
   by_cases he:p=path
   · have HS:Hid (stepL ⟨1,p,[],v⟩ path=.ends 1 v):=by rw[Hid];simp[stepL,he]
     rw[HS.out]
     subst he
     go_enter Tryz.func40,Tryz.ntmps40
     go_wp2
     first | (go_quiet (fail);go_wp2;first | (go_quiet (fail);go_wp2) | skip) | skip
     go_ret3
     exact⟨rfl,by first | exact B0 | exact below_dr B0⟩
   · have heb:(path == p)=false:=by rw[beq_eq_false_iff_ne];exact fun e=>he e.symm
     have HS:Hid (stepL ⟨1,p,[],v⟩ path=.ends 0 []):=by rw[Hid];simp[stepL,he]
     rw[HS.out]
     go_enter Tryz.func40,Tryz.ntmps40
     go_wp2
     first | (go_quiet (fail);go_wp2;first | (go_quiet (fail);go_wp2) | skip) | skip
     go_ret3
     exact⟨rfl,by first | exact B0 | exact below_dr B0⟩
 · obtain⟨b,off,rfl,hc,hb⟩:=strs_get hs 0 (by simp)
   have hc1:∀ o,(w.alloc o).cell? ⟨b,off,none⟩=some (.string ⟨x.toArray⟩):=fun o=>by rw[World.cell?_alloc_lt _ _ _ hb];simpa using hc
   have hc2:∀ o q,((w.alloc o).drewN q).cell? ⟨b,off,none⟩=some (.string ⟨x.toArray⟩):=fun o q=>hc1 o
   clear hs hc
   by_cases hle:p.length≤path.length
   · have hle':(p.length:Int)≤(path.length:Int):=by omega
     have hld:decide ((p.length:Int)≤(path.length:Int))=true:=decide_eq_true hle'
     have hx:=ext_to path p.length hle
     by_cases he:path.take p.length=p
     · have HS:Hid (stepL ⟨2,p,[x],[]⟩ path=.on x (path.drop p.length)):=by rw[Hid];simp[stepL,he]
       rw[HS.out]
       rw[he] at hx
       clear he HS
       go_enter Tryz.func40,Tryz.ntmps40
       go_wp2
       first | (go_quiet (fail);go_wp2;first | (go_quiet (fail);go_wp2) | skip) | skip
       go_ret3
       exact⟨rfl,by first | exact B0 | exact below_dr B0⟩
     · have HS:Hid (stepL ⟨2,p,[x],[]⟩ path=.ends 0 []):=by rw[Hid];simp[stepL,he]
       rw[HS.out]
       obtain⟨q,hq⟩:∃ q,q=path.take p.length:=⟨_,rfl⟩
       rw[←hq] at hx he
       have heb:(q == p)=false:=by rw[beq_eq_false_iff_ne];exact he
       clear he HS hq
       go_enter Tryz.func40,Tryz.ntmps40
       go_wp2
       first | (go_quiet (fail);go_wp2;first | (go_quiet (fail);go_wp2) | skip) | skip
       go_ret3
       exact⟨rfl,by first | exact B0 | exact below_dr B0⟩
   · have hle':¬ (p.length:Int)≤(path.length:Int):=by omega
     have hld:decide ((p.length:Int)≤(path.length:Int))=false:=decide_eq_false hle'
     have HS:Hid (stepL ⟨2,p,[x],[]⟩ path=.ends 0 []):=by
      rw[Hid]
      have:¬ path.take p.length=p:=fun e=>by
       have:=congrArg List.length e
       rw[List.length_take] at this
       omega
      simp[stepL,this]
     rw[HS.out]
     clear HS
     go_enter Tryz.func40,Tryz.ntmps40
     go_wp2
     first | (go_quiet (fail);go_wp2;first | (go_quiet (fail);go_wp2) | skip) | skip
     go_ret3
     exact⟨rfl,by first | exact B0 | exact below_dr B0⟩
 · have h3':(ls.length:Int)=16:=by omega
   cases path with
   | nil =>
     clear hs h3 h3'
     cases v with
     | nil =>
       have HS:Hid (stepL ⟨3,[],ls,[]⟩ []=.ends 0 []):=by rw[Hid];simp[stepL]
       rw[HS.out]
       go_enter Tryz.func40,Tryz.ntmps40
       go_wp2
       first | (go_quiet (fail);go_wp2;first | (go_quiet (fail);go_wp2) | skip) | skip
       go_ret3
       exact⟨rfl,by first | exact B0 | exact below_dr B0⟩
     | cons y r =>
       have HS:Hid (stepL ⟨3,[],ls,y :: r⟩ []=.ends 1 (y :: r)):=by rw[Hid];simp[stepL]
       rw[HS.out]
       obtain⟨v,hv⟩:∃ v,v=y :: r:=⟨_,rfl⟩
       have hve:v.isEmpty=false:=by rw[hv];rfl
       rw[←hv] at p0 p1 p2 p3 B0 ⊢
       clear hv HS
       go_enter Tryz.func40,Tryz.ntmps40
       go_wp2
       first | (go_quiet (fail);go_wp2;first | (go_quiet (fail);go_wp2) | skip) | skip
       go_ret3
       exact⟨rfl,by first | exact B0 | exact below_dr B0⟩
   | cons y r =>
     obtain⟨hy,hr⟩:=nib_head y r hpn
     obtain⟨b,off,rfl,hc,hb⟩:=strs_get hs y.toNat (by omega)
     have hc1:(w.alloc (.cells #[.int .i64 3,.string ⟨([]:List UInt8).toArray⟩,.slice (some ⟨b,off,none⟩) ls.length c,.string ⟨v.toArray⟩] 79)).cell? ⟨b,off+y.toNat,none⟩=some (.string ⟨(ls.getD y.toNat []).toArray⟩):=by rw[World.cell?_alloc_lt _ _ _ hb];exact hc
     have hix:∀ W,(Instr.index 9 (.string ⟨(y :: r).toArray⟩) (.int .i64 0)).run Tryz.prog W=.ok (.int .u8 (y.toNat:Int)) W:=fun W=>by
      have:=ix_at (P:=Tryz.prog) (t:=9) Tryz.underlying9 (y :: r) 0 0 rfl (by simp) W
      simpa using this
     obtain⟨path,hpa⟩:∃ path,path=y :: r:=⟨_,rfl⟩
     have hpe:path.isEmpty=false:=by rw[hpa];rfl
     have hp0:(0:Int)<(path.length:Int):=by rw[hpa];simp
     have HSX:Hid (stepL ⟨3,[],ls,v⟩ path=if ls.getD y.toNat []=[] then .ends 0 [] else .on (ls.getD y.toNat []) r):=by rw[Hid,hpa];simp[stepL]
     obtain⟨kd,hkd⟩:∃ kd,kd=ls.getD y.toNat []:=⟨_,rfl⟩
     rw[←hkd] at hc1 HSX
     rw[←hpa] at hix hz hpl ⊢
     obtain⟨yn,hyn⟩:∃ yn,yn=y.toNat:=⟨_,rfl⟩
     rw[←hyn] at hc1 hix hy
     rw[HSX.out]
     have hy1:(yn:Int)<(ls.length:Int):=by omega
     have hy0:(0:Int)≤(yn:Int):=by omega
     clear hs hc hkd hyn hpa hpn h4 h3 h3'
     cases kd with
     | nil =>
       rw[if_pos rfl]
       go_enter Tryz.func40,Tryz.ntmps40
       go_wp2
       first | (go_quiet (fail);go_wp2;first | (go_quiet (fail);go_wp2) | skip) | skip
       go_ret3
       exact⟨rfl,by first | exact B0 | exact below_dr B0⟩
     | cons z q =>
       rw[if_neg (by simp)]
       obtain⟨kd,hkd⟩:∃ kd,kd=z :: q:=⟨_,rfl⟩
       have hke:kd.isEmpty=false:=by rw[hkd];rfl
       rw[←hkd] at hc1 ⊢
       clear hkd HSX
       go_enter Tryz.func40,Tryz.ntmps40
       go_wp2
       first | (go_quiet (fail);go_wp2;first | (go_quiet (fail);go_wp2) | skip) | skip
       go_ret3
       exact⟨rfl,by first | exact B0 | exact below_dr B0⟩
def usedL (n:NodeL):Nat:=if n.k=3 then 1 else n.p.length
set_option maxRecDepth 100000 in
theorem spec_l6Used (k:Int) (p:List UInt8) (n m:Nat) (a:Option Addr) (v:List UInt8) (w:World) (hp:p.length≤1048576) (ls:List (List UInt8)) :
 Calls Tryz.prog 41 #[.agg #[.int .i64 k,.string ⟨p.toArray⟩,.slice a n m,.string ⟨v.toArray⟩]] w fun e w'=>e=.returned (.int .i64 (usedL ⟨k,p,ls,v⟩:Int))∧Below w.heap.size w w':=by
 have HC:=heap_alloc_new w (.cells #[.int .i64 k,.string ⟨p.toArray⟩,.slice a n m,.string ⟨v.toArray⟩] 79)
 have B0:Below w.heap.size w (w.alloc (.cells #[.int .i64 k,.string ⟨p.toArray⟩,.slice a n m,.string ⟨v.toArray⟩] 79)):=(Below.refl _ _).alloc (Nat.le_refl _) _
 obtain⟨p0,p1,p2,p3,_⟩:=quad_cells HC
 have hzp:(ByteArray.mk p.toArray).size=p.length:=by simp[ByteArray.size]
 clear HC
 by_cases hk:k=3
 · subst hk
   go_enter Tryz.func41,Tryz.ntmps41
   go_wp2
   go_ret
   exact⟨rfl,B0⟩
 · have HU:Hid (usedL ⟨k,p,ls,v⟩=p.length):=if_neg hk
   rw[HU.out]
   clear HU
   go_enter Tryz.func41,Tryz.ntmps41
   go_wp2
   go_ret
   exact⟨rfl,B0⟩
theorem stepL_used (n:NodeL) (hok:n.ok=true) (path h p:List UInt8) (hs:stepL n path=.on h p):p=path.drop (usedL n)∧usedL n≤path.length∧h.length=32:=by
 obtain⟨_,_,_,h4⟩:=ok_parts n hok
 rcases h4 with ⟨hk,_,_⟩ | ⟨hk,hp,_,x,hls,hx⟩ | ⟨hk,hp,hl,hall⟩
 · unfold stepL at hs
   rw[if_pos hk] at hs
   split at hs <;> cases hs
 · unfold stepL at hs
   rw[if_neg (by rw[hk];decide),if_pos hk] at hs
   split at hs
   · rename_i ht
     cases hs
     refine⟨by rw[usedL,if_neg (by rw[hk];decide)],?_,by rw[hls];simpa using hx⟩
     rw[usedL,if_neg (by rw[hk];decide)]
     have:=congrArg List.length ht
     rw[List.length_take] at this
     omega
   · cases hs
 · unfold stepL at hs
   rw[if_neg (by rw[hk];decide),if_neg (by rw[hk];decide)] at hs
   split at hs
   · split at hs <;> cases hs
   · rename_i x r
     split at hs
     · cases hs
     · rename_i hne
       cases hs
       refine⟨by rw[usedL,if_pos hk];simp,by rw[usedL,if_pos hk];simp,?_⟩
       by_cases hx:x.toNat<n.ls.length
       · have hm:n.ls.getD x.toNat []∈n.ls:=by
          rw[List.getD_eq_getElem?_getD,List.getElem?_eq_getElem hx];exact List.getElem_mem hx
         rcases hall _ hm with h | h
         · exact absurd h hne
         · exact h
       · exact absurd (by rw[List.getD_eq_getElem?_getD,List.getElem?_eq_none (by omega)];rfl) hne
theorem read_post {w w':World} {t:List UInt8} {e:Ending} (h:ReadPost w (readNode t) e w'):∃ (a:Option Addr) (c:Nat),e=.returned (.tuple #[.agg #[.int .i64 (nodeAt t).k,.string ⟨(nodeAt t).p.toArray⟩,.slice a (nodeAt t).ls.length c,.string ⟨(nodeAt t).v.toArray⟩],.bool (readNode t).isSome])∧w'.ownsRow w.heap.size 9 1 (.slice a (nodeAt t).ls.length c) (nodeAt t).ls.length (scells (nodeAt t).ls)∧Below w.heap.size w w':=by
 obtain⟨a,m,c,he,ho,hb⟩:=h
 obtain⟨hm,_,_⟩:=strs_own ho
 subst hm
 exact⟨a,c,he,ho,hb⟩
theorem stepL_code (n:NodeL) (p:List UInt8) (c:Int) (v:List UInt8) (h:stepL n p=.ends c v):c=0∨c=1:=by
 unfold stepL at h
 split at h
 · split at h <;> cases h
   · exact .inr rfl
   · exact .inl rfl
 · split at h
   · split at h <;> cases h
     exact .inl rfl
   · split at h
     · split at h <;> cases h
       · exact .inl rfl
       · exact .inr rfl
     · split at h <;> cases h
       exact .inl rfl
end Go.Proofs.YtllmclmcncolcaaGreatDoor
