/-
 Texts that are laid as one: MathOp, OpS, OpM, BatchS, Open9, OpOk, BatOk, BatchM, SzG.
-/
import Derived.Test.YtppljdnbhoeeoaaGreatDoorPairs
import Derived.Lib.SmallJoins
namespace Go.Proofs.YtppljdnbhoeeoaaGreatDoor
open Go.RowKit
set_option linter.unusedVariables false
set_option maxHeartbeats 1000000
set_option maxRecDepth 100000
abbrev OpL:=List UInt8 × List UInt8 × Bool
def zam:List OpL→List Value
 | []=>[]
 | p :: ps=>.string ⟨p.1.toArray⟩ :: .string ⟨p.2.1.toArray⟩ :: .bool p.2.2 :: zam ps
theorem zfy (ps:List OpL):(zam ps).length=ps.length*3:=by
 induction ps with
 | nil=>rfl
 | cons p ps ih=>simp[zam,ih];omega
theorem zmt (a b:List OpL):zam (a ++ b)=zam a ++ zam b:=by
 induction a with
 | nil=>rfl
 | cons p ps ih=>simp[zam,ih]
theorem zti (ps:List OpL) (j:Nat) (h:j<ps.length):(zam ps)[j*3]? = some (.string ⟨ps[j].1.toArray⟩)∧(zam ps)[j*3+1]? = some (.string ⟨ps[j].2.1.toArray⟩)∧(zam ps)[j*3+2]? = some (.bool ps[j].2.2):=by
 induction ps generalizing j with
 | nil=>simp at h
 | cons p ps ih =>
   match j,h with
   | 0,_=>exact⟨rfl,rfl,rfl⟩
   | j + 1, h =>
     have:=ih j (by simpa using h)
     have e:(j+1)*3=j*3+1+1+1:=by omega
     rw[e]
     simpa [zam] using this
def IsOps (w:World) (a:Option Addr) (ps:List OpL):Prop :=
 ps=[]∨∃ b off,a=some ⟨b,off,none⟩∧∀ j (h:j<ps.length),w.cell? ⟨b,off+j*3,none⟩=some (.string ⟨ps[j].1.toArray⟩)∧w.cell? ⟨b,off+j*3+1,none⟩=some (.string ⟨ps[j].2.1.toArray⟩)∧w.cell? ⟨b,off+j*3+2,none⟩=some (.bool ps[j].2.2)
theorem IsOps.later {w w':World} {a:Option Addr} {ps:List OpL} (h:IsOps w a ps) (hb:Below w.heap.size w w'):IsOps w' a ps:=by
 rcases h with h | ⟨b,off,h1,h2⟩
 · exact .inl h
 · exact .inr ⟨b,off,h1,fun j h=>⟨(hb.cell (p:=⟨b,off+j*3,none⟩) (World.block_lt_of_cell? w _ (h2 j h).1)).trans (h2 j h).1,(hb.cell (p:=⟨b,off+j*3+1,none⟩) (World.block_lt_of_cell? w _ (h2 j h).2.1)).trans (h2 j h).2.1,(hb.cell (p:=⟨b,off+j*3+2,none⟩) (World.block_lt_of_cell? w _ (h2 j h).2.2)).trans (h2 j h).2.2⟩⟩
theorem zfz {w:World} {base e n:Nat} {a:Option Addr} {m cap:Nat} {ps:List OpL} (h:w.ownsRow base e 3 (.slice a m cap) n (zam ps)):m=ps.length∧n=ps.length∧IsOps w a ps:=by
 have hl:ps.length=n:=by have:=h.1;rw[zfy] at this;omega
 rcases h.2 with ⟨h',h0⟩ | ⟨g,cap',cur,h',_⟩
 · cases h'
   exact⟨by omega,by omega,.inl (List.length_eq_zero_iff.1 (by omega))⟩
 · cases h'
   exact⟨by omega,by omega,.inr ⟨g,0,rfl,fun j hj=>by
    rw[Nat.zero_add,h.cellAt (j*3) (by omega),h.cellAt (j*3+1) (by omega),h.cellAt (j*3+2) (by omega)]
    exact zti ps j hj⟩⟩
theorem ztj {w:World} {base e n:Nat} {v:Value} {xs:List Value} (h:w.ownsRow base e 3 v n xs) :
 (v=.slice none 0 0∧n=0∧xs=[])∨∃ g cap,v=.slice (some ⟨g,0,none⟩) n cap∧base≤g∧g<w.heap.size∧(∀ j,j<n*3→w.cell? ⟨g,j,none⟩=xs[j]?)∧∀ j,w.frozen? ⟨g,j,none⟩=false:=by
 rcases h.2 with ⟨rfl,hn⟩ | ⟨g,cap,cur,rfl,hb,hg,_⟩
 · exact .inl ⟨rfl,hn,List.length_eq_zero_iff.1 (by rw[h.1,hn])⟩
 · exact .inr ⟨g,cap,rfl,hb,lt_of_block hg,fun j hj=>h.cellAt j hj,fun j=>h.frozenAt j⟩
theorem zh1 {w w':World} {b e n:Nat} {v:Value} {xs:List Value} (h:w.ownsRow b e 3 v n xs) (hb:Below w.heap.size w w'):w'.ownsRow b e 3 v n xs :=
 h.kept (row:=none) ⟨hb.os,hb.tape,hb.output,hb.size,fun k hk _=>hb.block k hk⟩ (by cases v.ownBlock with | none=>exact .inl rfl | some k=>exact .inr (by simp))
def zcn:Nat→List Value
 | 0=>[]
 | n+1=>.string ⟨#[]⟩ :: .string ⟨#[]⟩ :: .bool false :: zcn n
theorem zmu (n:Nat):(zcn n).length=n*3:=by
 induction n with
 | zero=>rfl
 | succ n ih=>simp[zcn,ih];omega
theorem ztk (n j:Nat) (h:j<n):(zcn n)[j*3]? = some (.string ⟨#[]⟩)∧(zcn n)[j*3+1]? = some (.string ⟨#[]⟩)∧(zcn n)[j*3+2]? = some (.bool false):=by
 induction n generalizing j with
 | zero=>omega
 | succ n ih =>
   match j,h with
   | 0,_=>exact⟨rfl,rfl,rfl⟩
   | j + 1, h =>
     have:=ih j (by omega)
     have e:(j+1)*3=j*3+1+1+1:=by omega
     rw[e]
     simpa [zcn] using this
def zdb (ps:List OpL) (j:Nat):List Value:=zam (ps.take j) ++ zcn (ps.length - j)
theorem ztl (ps:List OpL) (j:Nat) (h:j≤ps.length):(zdb ps j).length=ps.length*3:=by
 simp[zdb,zfy,zmu,Nat.min_eq_left h]
 try omega
theorem ztm (ps:List OpL):zdb ps ps.length=zam ps:=by simp[zdb,zcn]
theorem ztn (ps:List OpL):zdb ps 0=zcn ps.length:=by simp[zdb,zam]
theorem zjb (ps:List OpL) (j:Nat) (h:j<ps.length):ps.take (j+1)=ps.take j ++ [ps[j]]:=by rw[List.take_succ_eq_append_getElem h]
theorem zto (ps:List OpL) (j:Nat) (h:j<ps.length):(((zdb ps j).set (j*3) (.string ⟨ps[j].1.toArray⟩)).set (j*3+1) (.string ⟨ps[j].2.1.toArray⟩)).set (j*3+2) (.bool ps[j].2.2)=zdb ps (j+1):=by
 have hl:(zam (ps.take j)).length=j*3:=by rw[zfy,List.length_take];omega
 obtain⟨n,hn⟩:∃ n,n=ps.length - (j+1):=⟨_,rfl⟩
 have e:ps.length - j=n+1:=by omega
 simp only[zdb,zjb ps j h,zmt,e,←hn,zcn]
 rw[List.set_append_right _ _ (by omega),hl,Nat.sub_self,List.set_append_right _ _ (by omega),hl,List.set_append_right _ _ (by omega),hl]
 simp[zam]
def zd0 (k n:Nat):List OpL:=(List.range n).map fun i=>(markT (k+3*i),markT (k+3*i+1),decide ((k+3*i+2) % 3=0))
theorem zmv (k n:Nat):(zd0 k n).length=n:=by simp[zd0]
theorem ztp (k j:Nat):zd0 k (j+1)=zd0 k j ++ [(markT (k+3*j),markT (k+3*j+1),decide ((k+3*j+2) % 3=0))]:=by simp[zd0,List.range_succ]
def zco (k j:Nat) (ps:List OpL):List Value:=zam (zd0 k j) ++ zam (ps.drop j)
theorem ztq (k:Nat) (ps:List OpL):zco k 0 ps=zam ps:=by simp[zco,zd0,zam]
theorem ztr (k:Nat) (ps:List OpL):zco k ps.length ps=zam (zd0 k ps.length):=by simp[zco,zam]
theorem zts (k j:Nat) (ps:List OpL) (h:j≤ps.length):(zco k j ps).length=ps.length*3:=by simp[zco,zfy,zmv];omega
theorem ztt (k j:Nat) (ps:List OpL) (h:j<ps.length):(((zco k j ps).set (j*3) (.string ⟨(markT (k+3*j)).toArray⟩)).set (j*3+1) (.string ⟨(markT (k+3*j+1)).toArray⟩)).set (j*3+2) (.bool (decide ((k+3*j+2) % 3=0)))=zco k (j+1) ps:=by
 have hl:(zam (zd0 k j)).length=j*3:=by rw[zfy,zmv]
 have e:ps.drop j=ps[j] :: ps.drop (j+1):=by rw[List.drop_eq_getElem_cons h]
 simp only[zco,ztp,zmt,e,zam]
 rw[List.set_append_right _ _ (by omega),hl,Nat.sub_self,List.set_append_right _ _ (by omega),hl,List.set_append_right _ _ (by omega),hl]
 simp
theorem ztu (n:Nat):(madeCells (Value.agg #[.string ⟨#[]⟩,.string ⟨#[]⟩,.bool false]).cells (n*3)).toList=zcn n:=by
 apply List.ext_getElem?
 intro j
 by_cases hj:j<n*3
 · obtain⟨q,r,hr,rfl⟩:∃ q r,r<3∧j=q*3+r:=⟨j / 3,j % 3,by omega,by omega⟩
   have hq:q<n:=by omega
   have ha:=ztk n q hq
   match r,hr with
   | 0,_=>rw[Nat.add_zero] at hj ⊢;rw[ha.1];simp[madeCells,hj,Value.cells]
   | 1,_=>rw[ha.2.1];simp[madeCells,hj,Value.cells,Nat.add_mod]
   | 2,_=>rw[ha.2.2];simp[madeCells,hj,Value.cells,Nat.add_mod]
 · have h1:(zcn n)[j]? = none:=List.getElem?_eq_none (by rw[zmu];omega)
   rw[h1]
   simp[madeCells,hj]
def zbd (ps:List OpL):Nat:=(ps.map fun p=>p.1.length+p.2.1.length).sum
theorem zmw (ps:List OpL) (j:Nat) (h:j<ps.length):zbd (ps.take (j+1))=zbd (ps.take j)+(ps[j].1.length+ps[j].2.1.length):=by
 rw[zjb ps j h];simp only[zbd,List.map_append,List.sum_append,List.map_cons,List.map_nil,List.sum_cons,List.sum_nil,Nat.add_zero]
theorem ztv (ps:List OpL) (j:Nat) (h:j<ps.length):ps[j].1.length+ps[j].2.1.length≤zbd ps:=by
 have h1:zbd ps=zbd (ps.take (j+1))+zbd (ps.drop (j+1)):=by
  conv=>lhs;rw[←List.take_append_drop (j+1) ps]
  simp only[zbd,List.map_append,List.sum_append]
 rw[h1,zmw ps j h];omega
theorem ztw (ps:List OpL) (h:ps.length+zbd ps≤1048576):∀ p∈ps,p.1.length≤1048576∧p.2.1.length≤1048576:=by
 intro p hp
 obtain⟨j,hj,rfl⟩:=List.getElem_of_mem hp
 have:=ztv ps j hj
 exact⟨by omega,by omega⟩
def opOk (p:OpL):Bool:=decide (p.1.length≤12) && (if p.2.2 then p.2.1.isEmpty else (!p.2.1.isEmpty && decide (p.2.1.length≤60)))
def za4 (n:Int):Bool:=decide (1≤n∧n≤1000000000000)
def zab (c n:Int) (ps:List OpL):Bool:=za4 c && za4 n && decide (1≤ps.length) && decide (ps.length≤12) && ps.all opOk
theorem zmx (c n:Int) (ps:List OpL) (j:Nat) (h:j<ps.length) (hb:opOk ps[j]=false):zab c n ps=false:=by
 have:ps.all opOk=false:=by
  rw[List.all_eq_false]
  exact⟨ps[j],List.getElem_mem _,by simp[hb]⟩
 simp[zab,this]
theorem zmy (c n:Int) (ps:List OpL) (h1:za4 c=true) (h2:za4 n=true) (h3:1≤ps.length) (h4:ps.length≤12) (h:∀ j (hj:j<ps.length),opOk ps[j]=true):zab c n ps=true:=by
 simp only[zab,Bool.and_eq_true,decide_eq_true_eq,List.all_eq_true]
 refine⟨⟨⟨⟨h1,h2⟩,h3⟩,h4⟩,fun p hp=>?_⟩
 obtain⟨j,hj,rfl⟩:=List.getElem_of_mem hp
 exact h j hj
theorem ztx:(Tryz.prog.info? 94).map (fun i=>(i.zero,i.size,i.bytes))=some (some (.agg #[.string ⟨#[]⟩,.string ⟨#[]⟩,.bool false]),3,40):=by kernel_rfl
theorem zty (k v:List UInt8) (c:Bool) (w:World) :
 Calls Tryz.prog 54 #[.agg #[.string ⟨k.toArray⟩,.string ⟨v.toArray⟩,.bool c]] w fun e w'=>e=.returned (.agg #[.string ⟨k.toArray⟩,.string ⟨v.toArray⟩,.bool c])∧Below w.heap.size w w':=by
 go_enter Tryz.func54,Tryz.ntmps54
 go_wp2
 have hb:(((w.alloc (.cells #[.string ⟨k.toArray⟩,.string ⟨v.toArray⟩,.bool c] 81)).alloc (.cells #[.string ⟨k.toArray⟩,.string ⟨v.toArray⟩,.bool c] 94)).alloc (.cells #[.string ⟨k.toArray⟩,.string ⟨v.toArray⟩,.bool c] 94)).heap[w.heap.size+1]? = some (.cells #[.string ⟨k.toArray⟩,.string ⟨v.toArray⟩,.bool c] 94 (0,0)):=by
  rw[Below.heap_alloc _ _ _ (by simp)]
  have:=heap_alloc_new (w.alloc (.cells #[.string ⟨k.toArray⟩,.string ⟨v.toArray⟩,.bool c] 81)) (.cells #[.string ⟨k.toArray⟩,.string ⟨v.toArray⟩,.bool c] 94)
  simpa using this
 exact bodyPost_ret (v:=.agg #[.string ⟨k.toArray⟩,.string ⟨v.toArray⟩,.bool c]) (results_cell_row rfl _ _ (w.heap.size+1) 94 _ (0,0) _ rfl hb Tryz.underlying94 rfl (by kernel_rfl)) rfl ⟨rfl,(((Below.refl _ _).alloc (Nat.le_refl _) _).alloc (by simp) _).alloc (by simp;omega) _⟩
theorem ztz (k v:List UInt8) (c:Bool) (q:Nat) (w:World) (hq:q≤1048576) (hk:k.length≤9223372036854775807) (hv:v.length≤9223372036854775807) :
 Calls Tryz.prog 40 #[.agg #[.string ⟨k.toArray⟩,.string ⟨v.toArray⟩,.bool c],.int .i64 (q:Int)] w fun e w'=>((q<k.length+v.length∧e=.returned (.int .i64 (-1)))∨(k.length+v.length≤q∧e=.returned (.int .i64 ((q - (k.length+v.length):Nat):Int))))∧Below w.heap.size w w':=by
 have hb:Below w.heap.size w (w.alloc (.cells #[.string ⟨k.toArray⟩,.string ⟨v.toArray⟩,.bool c] 81)):=(Below.refl _ _).alloc (Nat.le_refl _) _
 by_cases h1:k.length≤q
 · have h1':(k.length:Int)≤(q:Int):=by omega
   by_cases h2:k.length+v.length≤q
   · have h2':(v.length:Int)≤(q:Int) - (k.length:Int):=by omega
     have HE:Hid ((q:Int) - (k.length:Int) - (v.length:Int)=((q - (k.length+v.length):Nat):Int)):=by rw[Hid];omega
     go_enter Tryz.func40,Tryz.ntmps40
     go_wp2
     go_ret
     exact⟨.inr ⟨h2,by rw[←HE.out];rfl⟩,hb⟩
   · have h2':¬ (v.length:Int)≤(q:Int) - (k.length:Int):=by omega
     go_enter Tryz.func40,Tryz.ntmps40
     go_wp2
     go_ret
     first | exact⟨.inl ⟨by omega,rfl⟩,hb⟩ | exact⟨⟨by omega,rfl⟩,hb⟩
 · have h1':¬ (k.length:Int)≤(q:Int):=by omega
   go_enter Tryz.func40,Tryz.ntmps40
   go_wp2
   go_ret
   first | exact⟨.inl ⟨by omega,rfl⟩,hb⟩ | exact⟨⟨by omega,rfl⟩,hb⟩
theorem zu0 (a:Option Addr) (cap:Nat) (ps:List OpL) (w:World) (hl:ps.length≤1048576) (hs:IsOps w a ps) :
 Calls Tryz.prog 22 #[.slice a ps.length cap] w fun e w'=>e=.returned (.slice (some ⟨w.heap.size,0,none⟩) ps.length ps.length)∧w'.ownsRow w.heap.size 94 3 (.slice (some ⟨w.heap.size,0,none⟩) ps.length ps.length) ps.length (zam ps)∧Below w.heap.size w w':=by
 obtain⟨i0,hi0,hz0,hz1,hz2⟩:=info_parts ztx
 go_enter Tryz.func22,Tryz.ntmps22
 go_wp2_with (at_make;refine wpList_make_full _ rfl _ _ 38 rfl w.heap.size 94 i0 (.agg #[.string ⟨#[]⟩,.string ⟨#[]⟩,.bool false]) 3 Tryz.underlying38 hi0 hz0 hz1 _ _ _ _ ps.length rfl rfl (by omega) (by omega) (by rw[hz2];omega) (by unfold maxLen;omega) (Nat.le_refl _) ?_;intro w0 hown0 hgrow0)
 rw[ztu] at hown0
 have hb0:=(Below.refl w.heap.size w).grown hgrow0 (Nat.le_refl _) (by simp)
 have hs0:=hgrow0.size
 rcases hs with rfl | ⟨b,off,rfl,hc⟩
 · refine wp_loop_rounds 1 ?_
   rw[rounds_succ]
   go_wp2
   go_ret
   exact⟨rfl,hown0,hb0⟩
 · clear hgrow0
   go_loopw [4] (fun i wr=>∃ j:Nat,j≤ps.length∧i=.int .i64 (j:Int)∧wr.ownsRow w.heap.size 94 3 (.slice (some ⟨w.heap.size,0,none⟩) ps.length ps.length) ps.length (zdb ps j)∧Below w.heap.size w wr) (fun i _=>ps.length - (intOf i).toNat)
   case atStart=>exact⟨0,Nat.zero_le _,rfl,by rw[ztn];exact hown0,hb0⟩
   case round =>
    obtain⟨j,hj,rfl,hown,hbel⟩:=hrel
    have hsz:=hbel.size
    by_cases hlt:j<ps.length
    · have hbl:=World.block_lt_of_cell? w _ (hc j hlt).1
      have c1:=(hbel.cell (p:=⟨b,off+j*3,none⟩) hbl).trans (hc j hlt).1
      have c2:=(hbel.cell (p:=⟨b,off+j*3+1,none⟩) hbl).trans (hc j hlt).2.1
      have c3:=(hbel.cell (p:=⟨b,off+j*3+2,none⟩) hbl).trans (hc j hlt).2.2
      simp only at hbl
      have hlt2:=zci hown
      have HL2:Hid _:=zto ps j hlt
      have hj0:(0:Int)≤(j:Int):=by omega
      have hj1:(j:Int)<(ps.length:Int):=by omega
      have HOW:=zc hown
      have HLEN:Hid _:=ztl ps j (by omega)
      obtain⟨x,hx⟩:∃ x,x=ps[j].1:=⟨_,rfl⟩
      obtain⟨y,hy⟩:∃ y,y=ps[j].2.1:=⟨_,rfl⟩
      obtain⟨z,hz⟩:∃ z,z=ps[j].2.2:=⟨_,rfl⟩
      rw[←hx] at c1 HL2
      rw[←hy] at c2 HL2
      rw[←hz] at c3 HL2
      have K:=zty x y z wr
      clear hc hx hy hz hown hown0 hb0
      go_wp2_with fail
      refine K.mono ?_
      rintro e w1 ⟨rfl,b1⟩
      have hO1:=zh1 HOW.out b1
      obtain⟨o1,ho1⟩:∃ o,w1.cell? ⟨w.heap.size,j*3,none⟩=some o:=by rw[hO1.cellAt (j*3) (by omega)];exact⟨_,List.getElem?_eq_getElem (by rw[HLEN.out];omega)⟩
      obtain⟨o2,ho2⟩:∃ o,w1.cell? ⟨w.heap.size,j*3+1,none⟩=some o:=by rw[hO1.cellAt (j*3+1) (by omega)];exact⟨_,List.getElem?_eq_getElem (by rw[HLEN.out];omega)⟩
      obtain⟨o3,ho3⟩:∃ o,w1.cell? ⟨w.heap.size,j*3+2,none⟩=some o:=by rw[hO1.cellAt (j*3+2) (by omega)];exact⟨_,List.getElem?_eq_getElem (by rw[HLEN.out];omega)⟩
      have hf1:=hO1.frozenAt (j*3)
      have hf2:=hO1.frozenAt (j*3+1)
      have hf3:=hO1.frozenAt (j*3+2)
      have hst:=(((hO1.stored (j*3) (.string ⟨x.toArray⟩)).1.stored (j*3+1) (.string ⟨y.toArray⟩)).1.stored (j*3+2) (.bool z)).1
      rw[HL2.out] at hst
      have HS2:=zc hst
      have hb2:=(((hbel.trans (b1.mono hsz)).setCell (p:=⟨w.heap.size,j*3,none⟩) (Nat.le_refl _) (.string ⟨x.toArray⟩)).setCell (p:=⟨w.heap.size,j*3+1,none⟩) (Nat.le_refl _) (.string ⟨y.toArray⟩)).setCell (p:=⟨w.heap.size,j*3+2,none⟩) (Nat.le_refl _) (.bool z)
      clear hO1 b1 hst HOW HL2 K
      go_wp2
      go_roundw
      case rel=>exact⟨j+1,by omega,by go_num,HS2.out,hb2⟩
      case measure=>simp[intOf];omega
    · have hjl:j=ps.length:=by omega
      subst hjl
      rw[ztm] at hown
      clear hown0 hb0
      go_wp2
      go_ret
      exact⟨rfl,hown,hbel⟩
theorem zu1 (k v:List UInt8) (c:Bool) (w:World) :
 Calls Tryz.prog 68 #[.agg #[.string ⟨k.toArray⟩,.string ⟨v.toArray⟩,.bool c],.agg #[.string ⟨k.toArray⟩,.string ⟨v.toArray⟩,.bool c]] w fun e w'=>e=.returned (.bool true)∧Below w.heap.size w w':=by
 go_enter Tryz.func68,Tryz.ntmps68
 go_wp2
 go_ret
 exact⟨rfl,((Below.refl _ _).alloc (Nat.le_refl _) _).alloc (by simp) _⟩
theorem zu2 (ps : List OpL) (a c : Option Addr) (n m : Nat) (w : World) (hl : ps.length ≤ 16777216) (hu : IsOps w a ps) (hv : IsOps w c ps) :
 Calls Tryz.prog 33 #[.slice a ps.length n,.slice c ps.length m] w fun e w'=>e=.returned (.bool true)∧Below w.heap.size w w':=by
 rcases hu with rfl | ⟨b,off,rfl,h1⟩
 · go_enter Tryz.func33,Tryz.ntmps33
   go_wp2
   refine wp_loop_rounds 1 ?_
   rw[rounds_succ]
   go_wp2
   go_ret
   exact⟨rfl,Below.refl _ _⟩
 · rcases hv with rfl | ⟨d,of2,rfl,h2⟩
   · go_enter Tryz.func33,Tryz.ntmps33
     go_wp2
     refine wp_loop_rounds 1 ?_
     rw[rounds_succ]
     go_wp2
     go_ret
     exact⟨rfl,Below.refl _ _⟩
   · go_enter Tryz.func33,Tryz.ntmps33
     go_wp2
     go_loopw [5] (fun i wr=>∃ j:Nat,j≤ps.length∧i=.int .i64 (j:Int)∧Below w.heap.size w wr) (fun i _=>ps.length - (intOf i).toNat)
     case atStart=>exact⟨0,Nat.zero_le _,rfl,Below.refl _ _⟩
     case round =>
      obtain⟨j,hj,rfl,hbel⟩:=hrel
      have hsz:=hbel.size
      by_cases hlt:j<ps.length
      · have hbl:=World.block_lt_of_cell? w _ (h1 j hlt).1
        have hdl:=World.block_lt_of_cell? w _ (h2 j hlt).1
        have c1:=(hbel.cell (p:=⟨b,off+j*3,none⟩) hbl).trans (h1 j hlt).1
        have c2:=(hbel.cell (p:=⟨b,off+j*3+1,none⟩) hbl).trans (h1 j hlt).2.1
        have c3:=(hbel.cell (p:=⟨b,off+j*3+2,none⟩) hbl).trans (h1 j hlt).2.2
        have d1:=(hbel.cell (p:=⟨d,of2+j*3,none⟩) hdl).trans (h2 j hlt).1
        have d2:=(hbel.cell (p:=⟨d,of2+j*3+1,none⟩) hdl).trans (h2 j hlt).2.1
        have d3:=(hbel.cell (p:=⟨d,of2+j*3+2,none⟩) hdl).trans (h2 j hlt).2.2
        have hj0:(0:Int)≤(j:Int):=by omega
        have hj1:(j:Int)<(ps.length:Int):=by omega
        obtain⟨x,hx⟩:∃ x,x=ps[j].1:=⟨_,rfl⟩
        obtain⟨y,hy⟩:∃ y,y=ps[j].2.1:=⟨_,rfl⟩
        obtain⟨z,hz⟩:∃ z,z=ps[j].2.2:=⟨_,rfl⟩
        rw[←hx] at c1 d1
        rw[←hy] at c2 d2
        rw[←hz] at c3 d3
        have K:=fun W=>zu1 x y z W
        clear h1 h2 hx hy hz hbl hdl
        go_wp2_with fail
        go_region_held3 (fun w'=>w'.cell? ⟨b,off+j*3,none⟩=some (.string ⟨x.toArray⟩)∧w'.cell? ⟨b,off+j*3+1,none⟩=some (.string ⟨y.toArray⟩)∧w'.cell? ⟨b,off+j*3+2,none⟩=some (.bool z)∧w'.cell? ⟨d,of2+j*3,none⟩=some (.string ⟨x.toArray⟩)∧w'.cell? ⟨d,of2+j*3+1,none⟩=some (.string ⟨y.toArray⟩)∧w'.cell? ⟨d,of2+j*3+2,none⟩=some (.bool z))
         (first | (exact⟨by assumption,by assumption,by assumption,by assumption,by assumption,by assumption⟩) | go_keep)
         ((go_at_call 68
           refine (K _).mono ?_
           rintro e w1 ⟨rfl,b1'⟩
           have b1:Below wr.heap.size wr w1:=⟨b1'.os,b1'.tape,b1'.output,b1'.size,b1'.block⟩
           have x1:=(b1.cell (p:=⟨b,off+j*3,none⟩) (World.block_lt_of_cell? wr _ c1)).trans c1
           have x2:=(b1.cell (p:=⟨b,off+j*3+1,none⟩) (World.block_lt_of_cell? wr _ c2)).trans c2
           have x3:=(b1.cell (p:=⟨b,off+j*3+2,none⟩) (World.block_lt_of_cell? wr _ c3)).trans c3
           have y1:=(b1.cell (p:=⟨d,of2+j*3,none⟩) (World.block_lt_of_cell? wr _ d1)).trans d1
           have y2:=(b1.cell (p:=⟨d,of2+j*3+1,none⟩) (World.block_lt_of_cell? wr _ d2)).trans d2
           have y3:=(b1.cell (p:=⟨d,of2+j*3+2,none⟩) (World.block_lt_of_cell? wr _ d3)).trans d3
           have B1:=hbel.trans (b1.mono hsz)))
        all_goals
         clear K
         go_wp2
         go_roundw
         case rel=>exact⟨j+1,by omega,by go_num,B1⟩
         case measure=>simp[intOf];omega
      · go_wp2
        go_ret
        exact⟨rfl,hbel⟩
theorem zu3 (ps:List OpL) (a:Option Addr) (m cap b1 k:Nat) (w:World) (hl:ps.length≤4000000) (hk:0<k) (hk2:k≤8000000) (hv:w.ownsRow b1 94 3 (.slice a m cap) ps.length (zam ps)) :
 Calls Tryz.prog 36 #[.slice a m cap,.int .i64 k] w fun e w'=>e=.returned (.int .i64 ((k:Int)+3*(ps.length:Int)))∧w'.ownsRow b1 94 3 (.slice a m cap) ps.length (zam (zd0 k ps.length))∧w.grownBy w' (Value.slice a m cap).ownBlock:=by
 rcases ztj hv with ⟨hv0,hn,hx⟩ | ⟨g,cap',hv0,hg1,hg2,hc,hf⟩
 · cases hv0
   have hls:ps=[]:=List.length_eq_zero_iff.1 hn
   subst hls
   go_enter Tryz.func36,Tryz.ntmps36
   go_wp2
   refine wp_loop_rounds 1 ?_
   rw[rounds_succ]
   go_wp2
   go_ret
   exact⟨by simp,hv,World.grownBy.refl _ _⟩
 · cases hv0
   clear hc hf
   go_enter Tryz.func36,Tryz.ntmps36
   go_wp2
   go_loopw [1,5] (fun mm i wr=>∃ j:Nat,j≤ps.length∧i=.int .i64 (j:Int)∧mm=.int .i64 ((k+3*j:Nat):Int)∧wr.ownsRow b1 94 3 (.slice (some ⟨g,0,none⟩) ps.length cap) ps.length (zco k j ps)∧w.grownBy wr (some g)) (fun _ i _=>ps.length - (intOf i).toNat)
   case atStart=>exact⟨0,Nat.zero_le _,rfl,rfl,by rw[ztq];exact hv,World.grownBy.refl _ _⟩
   case round =>
    obtain⟨j,hj,rfl,rfl,hown,hgr⟩:=hrel
    by_cases hlt:j<ps.length
    · have hj1:(j:Int)<(ps.length:Int):=by omega
      have hj0:(0:Int)≤(j:Int):=by omega
      have HLEN:Hid ((zco k j ps).length=ps.length*3):=zts k j ps (by omega)
      have HSTEP:Hid ((((zco k j ps).set (j*3) (.string ⟨(markT (k+3*j)).toArray⟩)).set (j*3+1) (.string ⟨(markT (k+3*j+1)).toArray⟩)).set (j*3+2) (.bool (decide ((k+3*j+2) % 3=0)))=zco k (j+1) ps):=ztt k j ps hlt
      have K1:=fun W=>zfs (k+3*j) W (by omega) (by omega)
      have K2:=fun W=>zfs (k+3*j+1) W (by omega) (by omega)
      rw[show ((k+3*j+1:Nat):Int)=((k+3*j:Nat):Int)+1 by omega] at K2
      obtain⟨q,hq⟩:∃ q,q=k+3*j:=⟨_,rfl⟩
      rw[←hq] at K1 K2 HSTEP ⊢
      have HQ:Hid (q=k+3*j):=hq
      have HO:=zc hown
      have HG:Hid (w.grownBy wr (some g)):=hgr
      have hqs:(q:Int)≤100000000:=by omega
      have hq0:(0:Int)≤(q:Int):=by omega
      obtain⟨t1,ht1⟩:∃ t,t=markT q:=⟨_,rfl⟩
      obtain⟨t2,ht2⟩:∃ t,t=markT (q+1):=⟨_,rfl⟩
      obtain⟨t3,ht3⟩:∃ t,t=decide ((q+2) % 3=0):=⟨_,rfl⟩
      have h3:(((q:Int)+2) % 3 == 0)=t3:=by
       rw[ht3,Bool.eq_iff_iff];simp;omega
      have h3d:decide (((q:Int)+2) % 3=0)=t3:=by
       rw[ht3,Bool.eq_iff_iff];simp;omega
      have h3t:(((q:Int)+2).tmod 3 == 0)=t3:=by
       rw[Int.tmod_eq_emod_of_nonneg (by omega)];exact h3
      have h3s:((q:Int)+1+1)=(q:Int)+2:=by omega
      rw[←ht1] at K1 HSTEP
      rw[←ht2] at K2 HSTEP
      rw[←ht3] at HSTEP
      clear hown hgr hq ht1 ht2 ht3
      go_wp2_with fail
      refine (K1 _).mono ?_
      rintro e w1 ⟨rfl,b1'⟩
      have o1:=zh1 HO.out b1'
      have g1:=HG.out.trans (zbw b1' (some g))
      obtain⟨x1,hx1⟩:∃ o,w1.cell? ⟨g,j*3,none⟩=some o:=by rw[o1.cellAt (j*3) (by omega)];exact⟨_,List.getElem?_eq_getElem (by rw[HLEN.out];omega)⟩
      have f1:=o1.frozenAt (j*3)
      have st1:=o1.stored (j*3) (.string ⟨t1.toArray⟩)
      have O2:=zc st1.1
      have HG2:Hid (w.grownBy (w1.setCell ⟨g,j*3,none⟩ (.string ⟨t1.toArray⟩)) (some g)):=g1.trans st1.2
      clear o1 g1 st1 b1' HO HG
      go_wp2_with fail
      refine (K2 _).mono ?_
      rintro e w2 ⟨rfl,b2'⟩
      have o2:=zh1 O2.out b2'
      have g2:=HG2.out.trans (zbw b2' (some g))
      obtain⟨x2,hx2⟩:∃ o,w2.cell? ⟨g,j*3+1,none⟩=some o:=by rw[o2.cellAt (j*3+1) (by omega)];exact⟨_,List.getElem?_eq_getElem (by rw[List.length_set,HLEN.out];omega)⟩
      have f2:=o2.frozenAt (j*3+1)
      obtain⟨x3,hx3⟩:∃ o,w2.cell? ⟨g,j*3+2,none⟩=some o:=by rw[o2.cellAt (j*3+2) (by omega)];exact⟨_,List.getElem?_eq_getElem (by rw[List.length_set,HLEN.out];omega)⟩
      have f3:=o2.frozenAt (j*3+2)
      have st2:=o2.stored (j*3+1) (.string ⟨t2.toArray⟩)
      have st3:=st2.1.stored (j*3+2) (.bool t3)
      rw[HSTEP.out] at st3
      have O3:=zc st3.1
      have HG3:Hid (w.grownBy ((w2.setCell ⟨g,j*3+1,none⟩ (.string ⟨t2.toArray⟩)).setCell ⟨g,j*3+2,none⟩ (.bool t3)) (some g)):=g2.trans (st2.2.trans st3.2)
      clear o2 g2 st2 st3 b2' O2 HG2 hx1 f1
      go_wp2
      go_roundw
      case rel=>exact⟨j+1,by omega,by go_num,by have:=HQ.out;congr 1;omega,O3.out,HG3.out⟩
      case measure=>simp[intOf];omega
    · have hjl:j=ps.length:=by omega
      subst hjl
      rw[ztr] at hown
      go_wp2
      go_ret
      exact⟨by congr 2,hown,hgr⟩
theorem zaf {w:World} {b:Nat} {u v x:Value} {t:TypeId} (h:w.heap[b]? = some (.cells #[u,v,x] t (0,0))) :
 w.cell? ⟨b,0,none⟩=some u∧w.cell? ⟨b,1,none⟩=some v∧w.cell? ⟨b,2,none⟩=some x∧∀ j,w.frozen? ⟨b,j,none⟩=false:=by
 refine⟨?_,?_,?_,fun j=>frozen_of_row w b j _ t h⟩ <;> simp only[World.cell?,h] <;> rfl
theorem zjc {w:World} {b j:Nat} {u v x y:Value} {t:TypeId} (h:w.heap[b]? = some (.cells #[u,v,x] t (0,0))):(w.setCell ⟨b,j,none⟩ y).heap[b]? = some (.cells (#[u,v,x].setIfInBounds j y) t (0,0)):=by
 have hlt:=lt_of_block h
 have h':w.heap[b]=.cells #[u,v,x] t (0,0):=by simpa [Array.getElem?_eq_getElem hlt] using h
 show (w.heap.modify b _)[b]? = _
 rw[Array.getElem?_eq_getElem (by simpa using hlt),Array.getElem_modify_self,h']
 rfl
theorem zu4 (c n:Int) (a:Option Addr) (cap:Nat) (ps:List OpL) (w:World) (hl:ps.length≤1048576) (hs:IsOps w a ps) :
 Calls Tryz.prog 8 #[.agg #[.int .i64 c,.int .i64 n,.slice a ps.length cap]] w fun e w'=>∃ g:Nat,e=.returned (.agg #[.int .i64 c,.int .i64 n,.slice (some ⟨g,0,none⟩) ps.length ps.length])∧w'.ownsRow w.heap.size 94 3 (.slice (some ⟨g,0,none⟩) ps.length ps.length) ps.length (zam ps)∧Below w.heap.size w w':=by
 obtain⟨wa,hwa⟩:∃ wa,wa=((w.alloc (.cells #[.int .i64 c,.int .i64 n,.slice a ps.length cap] 28)).alloc (.cells #[.int .i64 0,.int .i64 0,.slice none 0 0] 40)).alloc (.cells #[.int .i64 c,.int .i64 n,.slice none 0 0] 40):=⟨_,rfl⟩
 have Ba:Below w.heap.size w wa:=by rw[hwa];exact (((Below.refl _ _).alloc (Nat.le_refl _) _).alloc (by simp) _).alloc (by simp;omega) _
 have sa:wa.heap.size=w.heap.size+3:=by rw[hwa];simp
 have a0:wa.heap[w.heap.size]? = some (.cells #[.int .i64 c,.int .i64 n,.slice a ps.length cap] 28 (0,0)):=by rw[hwa,Below.heap_alloc _ _ _ (by simp;omega),Below.heap_alloc _ _ _ (by simp)];exact heap_alloc_new w _
 have a1:wa.heap[w.heap.size+1]? = some (.cells #[.int .i64 0,.int .i64 0,.slice none 0 0] 40 (0,0)):=by
  rw[hwa,Below.heap_alloc _ _ _ (by simp)]
  have:=heap_alloc_new (w.alloc (.cells #[.int .i64 c,.int .i64 n,.slice a ps.length cap] 28)) (.cells #[.int .i64 0,.int .i64 0,.slice none 0 0] 40)
  simpa using this
 have a2:wa.heap[w.heap.size+2]? = some (.cells #[.int .i64 c,.int .i64 n,.slice none 0 0] 40 (0,0)):=by
  rw[hwa]
  have:=heap_alloc_new ((w.alloc (.cells #[.int .i64 c,.int .i64 n,.slice a ps.length cap] 28)).alloc (.cells #[.int .i64 0,.int .i64 0,.slice none 0 0] 40)) (.cells #[.int .i64 c,.int .i64 n,.slice none 0 0] 40)
  rw[show ((w.alloc (.cells #[.int .i64 c,.int .i64 n,.slice a ps.length cap] 28)).alloc (.cells #[.int .i64 0,.int .i64 0,.slice none 0 0] 40)).heap.size=w.heap.size+2 by simp] at this
  exact this
 have K1:=zu0 a cap ps wa hl (hs.later Ba)
 have HWA:Hid _:=hwa
 clear hs hwa
 go_enter Tryz.func8,Tryz.ntmps8
 go_wp2_with fail
 rw[←HWA.out]
 refine K1.mono ?_
 rintro e w1 ⟨rfl,o1,b1⟩
 rw[sa] at o1 ⊢
 have B1:=Ba.trans (b1.mono (by omega))
 have e0:=(b1.block (w.heap.size) (by omega)).trans a0
 have e1:=(b1.block (w.heap.size+1) (by omega)).trans a1
 have e2:=(b1.block (w.heap.size+2) (by omega)).trans a2
 have s1:=zci o1
 have O1:=zc o1
 obtain⟨x0,x1,x2,xf⟩:=zaf e0
 obtain⟨p0,p1,p2,pf⟩:=zaf e2
 obtain⟨q0,q1,q2,qf⟩:=zaf e1
 have pf2:=pf 2
 have qf0:=qf 0
 have qf1:=qf 1
 have qf2:=qf 2
 clear K1 a0 a1 a2 b1 Ba o1 sa xf pf qf HWA
 go_wp2
 have y1:(w1.setCell ⟨w.heap.size+1+1,2,none⟩ (.slice (some ⟨w.heap.size+3,0,none⟩) ps.length ps.length)).heap[w.heap.size+1]? = _:=(Below.heap_setCell _ _ _ _ (by simp)).trans e1
 have y2:=zjc (j:=0) (y:=.int .i64 c) y1
 have y3:=zjc (j:=1) (y:=.int .i64 n) y2
 have y4:=zjc (j:=2) (y:=(.slice (some ⟨w.heap.size+3,0,none⟩) ps.length ps.length)) y3
 have hO:=ownsRow_setCell_other (ownsRow_setCell_other (ownsRow_setCell_other (ownsRow_setCell_other (a:=⟨w.heap.size+1+1,2,none⟩) O1.out (by simp[Value.ownBlock]) (.slice (some ⟨w.heap.size+3,0,none⟩) ps.length ps.length)) (a:=⟨w.heap.size+1,0,none⟩) (by simp[Value.ownBlock]) (.int .i64 c)) (a:=⟨w.heap.size+1,1,none⟩) (by simp[Value.ownBlock]) (.int .i64 n)) (a:=⟨w.heap.size+1,2,none⟩) (by simp[Value.ownBlock]) (.slice (some ⟨w.heap.size+3,0,none⟩) ps.length ps.length)
 exact bodyPost_ret (v:=.agg #[.int .i64 c,.int .i64 n,(.slice (some ⟨w.heap.size+3,0,none⟩) ps.length ps.length)]) (results_cell_row rfl _ _ (w.heap.size+1) 40 _ (0,0) _ rfl y4 Tryz.underlying40 rfl (by kernel_rfl)) rfl ⟨w.heap.size+3,rfl,hO.mono (by omega),(((B1.setCell (by simp;omega) _).setCell (by simp) _).setCell (by simp) _).setCell (by simp) _⟩
theorem zu5 (c n:Int) (a1 a2:Option Addr) (c1 c2:Nat) (ps:List OpL) (w:World) (hl:ps.length≤16777216) (h1:IsOps w a1 ps) (h2:IsOps w a2 ps) :
 Calls Tryz.prog 11 #[.agg #[.int .i64 c,.int .i64 n,.slice a1 ps.length c1],.agg #[.int .i64 c,.int .i64 n,.slice a2 ps.length c2]] w fun e w'=>e=.returned (.bool true)∧Below w.heap.size w w':=by
 have Bx:Below w.heap.size w ((w.alloc (.cells #[.int .i64 c,.int .i64 n,.slice a1 ps.length c1] 40)).alloc (.cells #[.int .i64 c,.int .i64 n,.slice a2 ps.length c2] 40)):=((Below.refl _ _).alloc (Nat.le_refl _) _).alloc (by simp) _
 have K:=zu2 ps a1 a2 c1 c2 _ hl (h1.later Bx) (h2.later Bx)
 have HB:Hid _:=Bx
 clear h1 h2 Bx
 go_enter Tryz.func11,Tryz.ntmps11
 go_wp2_with fail
 refine K.mono ?_
 rintro e w1 ⟨rfl,b1⟩
 have B1:=HB.out.trans (b1.mono HB.out.size)
 clear b1 K
 go_wp2
 go_ret
 exact⟨rfl,B1⟩
open Go.ChangeShapes Go.WideShapes Go.ChangeAt Go.RowKit
theorem zu6 {H : Type} {enc : TypeId × Value → H} {W : World} {fuel : Nat} {u : Value} {y : DataW H × List MemPlace} (hf : DataW.trod enc Tryz.prog W 0 (fun _ => true) true fuel 26 [u] = some y) :
 ∃ (a:Option Addr) (ps:List OpL) (cap:Nat),u=.slice a ps.length cap∧(∀ p∈ps,p.1.length≤9223372036854775807∧p.2.1.length≤9223372036854775807)∧IsOps W a ps∧ps.length≤9223372036854775807:=by
 rcases Go.Deep.open_slice Tryz.underlying26 hf with ⟨hcs,_⟩ | ⟨a,len,cap,m,n,D,Pl,hcs,_,hl,hm,hmm,_,hx⟩
 · simp at hcs
   exact⟨none,[],0,hcs,by simp,.inl rfl,by simp⟩
 · simp at hcs
   unfold maxLen at hm
   simp only[if_true] at hmm
   have ce:Tryz.prog.cellsOf 81=3:=by kernel_rfl
   have each : ∀ i, ∃ q : OpL, i < len → W.cell? (a.add (i * 3)) = some (.string ⟨q.1.toArray⟩) ∧ W.cell? (a.add (i * 3 + 1)) = some (.string ⟨q.2.1.toArray⟩) ∧ W.cell? (a.add (i * 3 + 2)) = some (.bool q.2.2) ∧ q.1.length ≤ 9223372036854775807 ∧ q.2.1.length ≤ 9223372036854775807 := by
    intro i
    by_cases hi:i<len
    · obtain⟨cs',h1,h2⟩:=hx i (by omega)
      rw[ce] at h1
      obtain⟨_,hlen,hcell⟩:=World.cells?_some h1
      obtain⟨xs,k,hk,hxy,_,hxl,hf⟩:=DataW.trod_struct Tryz.underlying81 h2
      match xs,hxl,cs',hlen with
      | [y0, y1, y2], _, [v0, v1, v2], _ =>
        have g0:=hf 0 _ rfl
        have g1:=hf 1 _ rfl
        have g2:=hf 2 _ rfl
        have k0:Tryz.prog.cellsOf 9=1:=by kernel_rfl
        have k1:Tryz.prog.cellsOf 4=1:=by kernel_rfl
        simp[k0,k1] at g0 g1 g2
        have e0:=hcell 0 (by omega)
        have e1:=hcell 1 (by omega)
        have e2:=hcell 2 (by omega)
        rw[Go.Deep.add_add] at e0 e1 e2
        obtain⟨s0,hs0,_,w0⟩:=DataW.trod_string Tryz.underlying9 g0
        obtain⟨s1,hs1,_,w1⟩:=DataW.trod_string Tryz.underlying9 g1
        obtain⟨s2,hs2,_⟩:=DataW.trod_bool Tryz.underlying4 g2
        simp at hs0 hs1 hs2
        subst hs0 hs1 hs2
        unfold maxLen at w0 w1
        refine⟨(s0.data.toList,s1.data.toList,s2),fun _=>⟨by simpa using e0,by simpa using e1,by simpa using e2,?_,?_⟩⟩
        · simp only[Array.length_toList];exact w0
        · simp only[Array.length_toList];exact w1
    · exact⟨([],[],false),fun h=>absurd h hi⟩
   obtain⟨q,hq⟩:=Classical.skolem.1 each
   refine⟨some a,(List.range len).map q,cap,by rw[hcs];simp,?_,?_,by simp;omega⟩
   · intro p hp
     simp only[List.mem_map,List.mem_range] at hp
     obtain⟨i,hi,rfl⟩:=hp
     exact⟨(hq i hi).2.2.2.1,(hq i hi).2.2.2.2⟩
   · by_cases h0:len=0
     · exact .inl (by simp[h0])
     · obtain⟨b,off,spot⟩:=a
       have hc:=(hq 0 (by omega)).1
       have hspot:spot=none:=by simpa [Addr.add] using World.cell?_spot hc
       subst hspot
       refine .inr ⟨b,off,rfl,fun j hj=>?_⟩
       simp at hj
       have hcj:=hq j hj
       have e1:(⟨b,off,none⟩:Addr).add (j*3)=⟨b,off+j*3,none⟩:=by simp[Addr.add]
       have e2:(⟨b,off,none⟩:Addr).add (j*3+1)=⟨b,off+j*3+1,none⟩:=by simp[Addr.add,Nat.add_assoc]
       have e3:(⟨b,off,none⟩:Addr).add (j*3+2)=⟨b,off+j*3+2,none⟩:=by simp[Addr.add,Nat.add_assoc]
       rw[e1,e2,e3] at hcj
       simp only[List.getElem_map,List.getElem_range]
       exact⟨hcj.1,hcj.2.1,hcj.2.2.1⟩
theorem zu7 {H:Type} {enc:TypeId × Value→H} {W:World} {r:Reach} {b0:Nat} {v:Value} {d:DataW H} {p:List MemPlace} (hv:Value.okWide Tryz.prog W r b0 28 v) (h:DataW.Trod enc Tryz.prog W 0 (fun _=>true) true 28 v d p) :
 ∃ (c n:Int) (a:Option Addr) (cap:Nat) (ps:List OpL),v=.agg #[.int .i64 c,.int .i64 n,.slice a ps.length cap]∧IsOps W a ps∧ps.length≤9223372036854775807∧(∀ p∈ps,p.1.length≤9223372036854775807∧p.2.1.length≤9223372036854775807):=by
 obtain⟨u0,u1,u2,y0,y1,y2,n,rfl,_,_,t0,t1,t2⟩:=Go.Joins.open_agg3 Tryz.underlying28 (by kernel_rfl) (by kernel_rfl) hv h
 obtain⟨c,hc,_,_⟩:=DataW.trod_int Tryz.underlying2 t0
 obtain⟨m,hm,_,_⟩:=DataW.trod_int Tryz.underlying2 t1
 obtain⟨a,ps,cap,rfl,m2,i2,l2⟩:=zu6 t2
 simp at hc hm
 subst hc hm
 exact⟨c,m,a,cap,ps,rfl,i2,l2,m2⟩
def chV (p:OpL):Value:=if p.2.2 then .iface 137 (.string ⟨p.1.toArray⟩) else .iface 136 (.agg #[.string ⟨p.1.toArray⟩,.string ⟨p.2.1.toArray⟩])
theorem zh2 {B:Nat} {w w':World} {q:Nat} (h:Below B w w'):Below B w (w'.drewN q):=⟨h.os,h.tape,h.output,h.size,h.block⟩
theorem zh3 {B:Nat} {w w':World} (h:Below B w w'):Below B w w'.drew:=⟨h.os,h.tape,h.output,h.size,h.block⟩
theorem zu8 (k v:List UInt8) (c:Bool) (w:World) (hk:k.length≤1048576) (hv:v.length≤1048576) :
 Calls Tryz.prog 82 #[.agg #[.string ⟨k.toArray⟩,.string ⟨v.toArray⟩,.bool c]] w fun e w'=>∃ u:Value,e=.returned (.tuple #[u,.bool (opOk (k,v,c))])∧(opOk (k,v,c)=true→u=chV (k,v,c))∧Below w.heap.size w w':=by
 have hb:Below w.heap.size w (w.alloc (.cells #[.string ⟨k.toArray⟩,.string ⟨v.toArray⟩,.bool c] 94)):=(Below.refl _ _).alloc (Nat.le_refl _) _
 by_cases q1:k.length≤12
 · have q1':(k.length:Int)≤12:=by omega
   have q1b:decide ((12:Int)<(k.length:Int))=false:=decide_eq_false (by omega)
   cases c with
   | true =>
     have HO:Hid (opOk (k,v,true)=v.isEmpty):=by rw[Hid];simp[opOk,q1]
     go_enter Tryz.func82,Tryz.ntmps82
     go_wp2
     go_quiet (fail)
     go_wp2
     go_ret2
     exact⟨_,by rw[HO.out];cases v <;> rfl,fun _=>rfl,by first | exact hb | exact zh3 hb | exact zh2 hb⟩
   | false =>
     cases v with
     | nil =>
       have HO:Hid (opOk (k,[],false)=false):=by rw[Hid];simp[opOk]
       go_enter Tryz.func82,Tryz.ntmps82
       go_wp2
       go_quiet (fail)
       go_wp2
       go_ret2
       exact⟨_,by rw[HO.out];rfl,fun h=>by rw[HO.out] at h;simp at h,by first | exact hb | exact zh3 hb | exact zh2 hb⟩
     | cons x xs =>
       obtain⟨v,hve⟩:∃ v,v=x :: xs:=⟨_,rfl⟩
       have q2p:0<v.length:=by rw[hve];simp
       have q2e:v.isEmpty=false:=by rw[hve];rfl
       have q2n:¬ v=[]:=by rw[hve];simp
       rw[←hve] at hv hb ⊢
       clear hve
       by_cases q3:v.length≤60
       · have q3':(v.length:Int)≤60:=by omega
         have q3b:=decide_eq_true q3'
         have HO:Hid (opOk (k,v,false)=true):=by rw[Hid];simp[opOk,q1,q2e,q3]
         go_enter Tryz.func82,Tryz.ntmps82
         go_wp2
         go_quiet (fail)
         go_wp2
         go_ret2
         exact⟨_,by rw[HO.out];rfl,fun h=>rfl,by first | exact hb | exact zh3 hb | exact zh2 hb⟩
       · have q3':¬ (v.length:Int)≤60:=by omega
         have q3b:=decide_eq_false q3'
         have HO:Hid (opOk (k,v,false)=false):=by rw[Hid];simp[opOk,q3]
         go_enter Tryz.func82,Tryz.ntmps82
         go_wp2
         go_quiet (fail)
         go_wp2
         go_ret2
         exact⟨_,by rw[HO.out];rfl,fun h=>by rw[HO.out] at h;simp at h,by first | exact hb | exact zh3 hb | exact zh2 hb⟩
 · have q1':¬ (k.length:Int)≤12:=by omega
   have HO:Hid (opOk (k,v,c)=false):=by rw[Hid];simp[opOk,q1]
   obtain⟨r,hr⟩:∃ r,r=opOk (k,v,c):=⟨_,rfl⟩
   rw[←hr] at HO ⊢
   clear hr
   go_enter Tryz.func82,Tryz.ntmps82
   go_wp2
   go_ret2
   exact⟨_,by rw[HO.out];rfl,fun h=>by rw[HO.out] at h;simp at h,hb⟩
theorem zu9 (k v:List UInt8) (c:Bool) (w:World) (hk:k.length≤1048576) (hv:v.length≤1048576) :
 Calls Tryz.prog 75 #[.agg #[.string ⟨k.toArray⟩,.string ⟨v.toArray⟩,.bool c]] w fun e w'=>e=.returned (.bool (opOk (k,v,c)))∧Below w.heap.size w w':=by
 have hb:Below w.heap.size w (w.alloc (.cells #[.string ⟨k.toArray⟩,.string ⟨v.toArray⟩,.bool c] 94)):=(Below.refl _ _).alloc (Nat.le_refl _) _
 obtain⟨r,hr⟩:∃ r,r=opOk (k,v,c):=⟨_,rfl⟩
 have HR:Hid _:=hr
 rw[←hr]
 clear hr
 by_cases q1:k.length≤12
 · have q1':(k.length:Int)≤12:=by omega
   have q1b:=decide_eq_true q1'
   cases c with
   | true =>
     cases v with
     | nil =>
       have HO:Hid (r=true):=by rw[Hid,HR.out];simp[opOk,q1]
       clear HR
       go_enter Tryz.func75,Tryz.ntmps75
       go_wp2
       go_ret
       rw[HO.out]
       exact⟨rfl,hb⟩
     | cons x xs =>
       obtain⟨v,hve⟩:∃ v,v=x :: xs:=⟨_,rfl⟩
       have q2e:v.isEmpty=false:=by rw[hve];rfl
       have q2n:¬ v=[]:=by rw[hve];simp
       rw[←hve] at hv hb HR
       rw[←hve]
       clear hve
       have HO:Hid (r=false):=by rw[Hid,HR.out];simp[opOk,q2e]
       clear HR
       go_enter Tryz.func75,Tryz.ntmps75
       go_wp2
       go_ret
       rw[HO.out]
       exact⟨rfl,hb⟩
   | false =>
     cases v with
     | nil =>
       have HO:Hid (r=false):=by rw[Hid,HR.out];simp[opOk]
       clear HR
       go_enter Tryz.func75,Tryz.ntmps75
       go_wp2
       go_ret
       rw[HO.out]
       exact⟨rfl,hb⟩
     | cons x xs =>
       obtain⟨v,hve⟩:∃ v,v=x :: xs:=⟨_,rfl⟩
       have q2p:0<v.length:=by rw[hve];simp
       have q2e:v.isEmpty=false:=by rw[hve];rfl
       have q2n:¬ v=[]:=by rw[hve];simp
       have q2':(1:Int)≤(v.length:Int):=by omega
       have q2b:=decide_eq_true q2'
       rw[←hve] at hv hb HR
       rw[←hve]
       clear hve
       by_cases q3:v.length≤60
       · have q3':(v.length:Int)≤60:=by omega
         have q3b:=decide_eq_true q3'
         have HO:Hid (r=true):=by rw[Hid,HR.out];simp[opOk,q1,q2e,q3]
         clear HR
         go_enter Tryz.func75,Tryz.ntmps75
         go_wp2
         go_ret
         rw[HO.out]
         exact⟨rfl,hb⟩
       · have q3':¬ (v.length:Int)≤60:=by omega
         have q3b:=decide_eq_false q3'
         have HO:Hid (r=false):=by rw[Hid,HR.out];simp[opOk,q3]
         clear HR
         go_enter Tryz.func75,Tryz.ntmps75
         go_wp2
         go_ret
         rw[HO.out]
         exact⟨rfl,hb⟩
 · have q1':¬ (k.length:Int)≤12:=by omega
   have q1b:=decide_eq_false q1'
   have HO:Hid (r=false):=by rw[Hid,HR.out];simp[opOk,q1]
   clear HR
   go_enter Tryz.func75,Tryz.ntmps75
   go_wp2
   go_ret
   rw[HO.out]
   exact⟨rfl,hb⟩
theorem zjd (c n:Int) (w:World) :
 Calls Tryz.prog 77 #[.int .i64 c,.int .i64 n] w fun e w'=>e=.returned (.bool (za4 c && za4 n))∧Below w.heap.size w w':=by
 obtain⟨r,hr⟩:∃ r,r=(za4 c && za4 n):=⟨_,rfl⟩
 have HR:Hid (r=(decide (1≤c∧c≤1000000000000) && decide (1≤n∧n≤1000000000000))):=hr
 rw[←hr]
 clear hr
 by_cases h0:1≤c
 · have b0:decide (1≤c)=true:=decide_eq_true h0
   by_cases h1:c≤1000000000000
   · have b1:decide (c≤1000000000000)=true:=decide_eq_true h1
     by_cases h2:1≤n
     · have b2:decide (1≤n)=true:=decide_eq_true h2
       by_cases h3:n≤1000000000000
       · have b3:decide (n≤1000000000000)=true:=decide_eq_true h3
         have HO:Hid (r=true):=by rw[Hid,HR.out];simp[h0,h1,h2,h3]
         clear HR
         go_enter Tryz.func77,Tryz.ntmps77
         go_wp2
         go_ret
         rw[HO.out]
         exact⟨rfl,Below.refl _ _⟩
       · have b3:=decide_eq_false h3
         have HO:Hid (r=false):=by rw[Hid,HR.out];simp[h3]
         clear HR
         go_enter Tryz.func77,Tryz.ntmps77
         go_wp2
         go_ret
         rw[HO.out]
         exact⟨rfl,Below.refl _ _⟩
     · have b2:=decide_eq_false h2
       have HO:Hid (r=false):=by rw[Hid,HR.out];simp[h2]
       clear HR
       go_enter Tryz.func77,Tryz.ntmps77
       go_wp2
       go_ret
       rw[HO.out]
       exact⟨rfl,Below.refl _ _⟩
   · have b1:=decide_eq_false h1
     have HO:Hid (r=false):=by rw[Hid,HR.out];simp[h1]
     clear HR
     go_enter Tryz.func77,Tryz.ntmps77
     go_wp2
     go_ret
     rw[HO.out]
     exact⟨rfl,Below.refl _ _⟩
 · have b0:=decide_eq_false h0
   have HO:Hid (r=false):=by rw[Hid,HR.out];simp[h0]
   clear HR
   go_enter Tryz.func77,Tryz.ntmps77
   go_wp2
   go_ret
   rw[HO.out]
   exact⟨rfl,Below.refl _ _⟩
theorem zg0 (n lo hi:Int) (w:World) :
 Calls Tryz.prog 41 #[.int .i64 n,.int .i64 lo,.int .i64 hi] w fun e w'=>e=.returned (.bool (decide (lo≤n∧n≤hi)))∧Below w.heap.size w w':=by
 obtain⟨r,hr⟩:∃ r,r=decide (lo≤n∧n≤hi):=⟨_,rfl⟩
 have HR:Hid _:=hr
 rw[←hr]
 clear hr
 by_cases h0:lo≤n
 · have b0:=decide_eq_true h0
   by_cases h1:n≤hi
   · have b1:=decide_eq_true h1
     have HO:Hid (r=true):=by rw[Hid,HR.out];simp[h0,h1]
     clear HR
     go_enter Tryz.func41,Tryz.ntmps41
     go_wp2
     go_ret
     rw[HO.out]
     exact⟨rfl,Below.refl _ _⟩
   · have b1:=decide_eq_false h1
     have HO:Hid (r=false):=by rw[Hid,HR.out];simp[h1]
     clear HR
     go_enter Tryz.func41,Tryz.ntmps41
     go_wp2
     go_ret
     rw[HO.out]
     exact⟨rfl,Below.refl _ _⟩
 · have b0:=decide_eq_false h0
   have HO:Hid (r=false):=by rw[Hid,HR.out];simp[h0]
   clear HR
   go_enter Tryz.func41,Tryz.ntmps41
   go_wp2
   go_ret
   rw[HO.out]
   exact⟨rfl,Below.refl _ _⟩
theorem zje {w w':World} {b e n:Nat} {v:Value} {xs:List Value} (h:w.ownsRow b e 1 v n xs) (hb:Below w.heap.size w w'):w'.ownsRow b e 1 v n xs :=
 h.kept (row:=none) ⟨hb.os,hb.tape,hb.output,hb.size,fun k hk _=>hb.block k hk⟩ (by cases v.ownBlock with | none=>exact .inl rfl | some k=>exact .inr (by simp))
theorem zmz (p:OpL):∃ t v,chV p=.iface t v:=by
 unfold chV;split
 · exact⟨_,_,rfl⟩
 · exact⟨_,_,rfl⟩
theorem zua:(Tryz.prog.info? 105).map (fun i=>(i.zero,i.size,i.bytes))=some (some .nilIface,1,16):=by kernel_rfl
def zn0 (w:World) (ok:Bool) (ps:List OpL) (e:Ending) (w':World):Prop:=match ok with
 | false=>e=.returned (.tuple #[.slice none 0 0,.bool false])∧Below w.heap.size w w'
 | true=>∃ (a:Option Addr) (c:Nat),e=.returned (.tuple #[.slice a ps.length c,.bool true])∧w'.ownsRow w.heap.size 105 1 (.slice a ps.length c) ps.length (ps.map chV)∧Below w.heap.size w w'
theorem zn1 (c n : Int) (a : Option Addr) (cap : Nat) (ps : List OpL) (w : World) (hl : ps.length ≤ 1048576) (hm : ∀ p ∈ ps, p.1.length ≤ 1048576 ∧ p.2.1.length ≤ 1048576) (hs : IsOps w a ps) :
 Calls Tryz.prog 59 #[.agg #[.int .i64 c,.int .i64 n,.slice a ps.length cap]] w fun e w'=>zn0 w (zab c n ps) ps e w':=by
 obtain⟨i0,hi0,hz0,hz1,hz2⟩:=info_parts zua
 have B0:Below w.heap.size w (w.alloc (.cells #[.int .i64 c,.int .i64 n,.slice a ps.length cap] 40)):=(Below.refl _ _).alloc (Nat.le_refl _) _
 have HQ:Hid ((w.alloc (.cells #[.int .i64 c,.int .i64 n,.slice a ps.length cap] 40)).heap[w.heap.size]? = some (.cells #[.int .i64 c,.int .i64 n,.slice a ps.length cap] 40 (0,0))):=heap_alloc_new w _
 have HL:Hid (w.heap.size<(w.alloc (.cells #[.int .i64 c,.int .i64 n,.slice a ps.length cap] 40)).heap.size):=by rw[Hid];simp
 have BX:Hid _:=B0
 have hsx:=hs.later B0
 obtain⟨r,hr⟩:∃ r,r=zab c n ps:=⟨_,rfl⟩
 have HR:Hid _:=hr
 have K:=zjd c n (w.alloc (.cells #[.int .i64 c,.int .i64 n,.slice a ps.length cap] 40))
 rw[←hr]
 clear hr hs B0
 cases hn:(za4 c && za4 n) with
 | false =>
   rw[hn] at K
   have HO:Hid (r=false):=by rw[Hid,HR.out,zab,hn];simp
   clear HR hn hsx hm
   go_enter Tryz.func59,Tryz.ntmps59
   go_wp2_with fail
   refine K.mono ?_
   rintro e w1 ⟨rfl,b1⟩
   have B1:=BX.out.trans (b1.mono BX.out.size)
   clear b1 K
   go_wp2
   go_ret2
   rw[HO.out]
   exact⟨rfl,B1⟩
 | true =>
   rw[hn] at K
   have HNC:Hid (za4 c=true∧za4 n=true):=by rw[Hid];simpa using hn
   clear hn
   by_cases h1:1≤ps.length
   · have h1' : ¬ (ps.length : Int) < 1 := by omega
     have h1b:=decide_eq_false h1'
     by_cases h12:ps.length≤12
     · have h12' : ¬ (12 : Int) < (ps.length : Int) := by omega
       have h12b:=decide_eq_false h12'
       have hm':∀ j (h:j<ps.length),ps[j].1.length≤1048576∧ps[j].2.1.length≤1048576:=fun j h=>hm _ (List.getElem_mem _)
       have HBAD:Hid (∀ j (h:j<ps.length),opOk ps[j]=false→r=false):=fun j h hb=>by rw[HR.out];exact zmx c n ps j h hb
       have HALL:Hid ((∀ j (h:j<ps.length),opOk ps[j]=true)→r=true):=fun h=>by rw[HR.out];exact zmy c n ps HNC.out.1 HNC.out.2 h1 h12 h
       obtain⟨b,off,rfl,hc⟩:∃ b off,a=some ⟨b,off,none⟩∧∀ j (h:j<ps.length),(w.alloc (.cells #[.int .i64 c,.int .i64 n,.slice a ps.length cap] 40)).cell? ⟨b,off+j*3,none⟩=some (.string ⟨ps[j].1.toArray⟩)∧(w.alloc (.cells #[.int .i64 c,.int .i64 n,.slice a ps.length cap] 40)).cell? ⟨b,off+j*3+1,none⟩=some (.string ⟨ps[j].2.1.toArray⟩)∧(w.alloc (.cells #[.int .i64 c,.int .i64 n,.slice a ps.length cap] 40)).cell? ⟨b,off+j*3+2,none⟩=some (.bool ps[j].2.2):=by
        rcases hsx with h | h
        · rw[h] at h1;simp at h1
        · exact h
       clear HR hsx hm
       go_enter Tryz.func59,Tryz.ntmps59
       go_wp2_with fail
       refine K.mono ?_
       rintro e w1 ⟨rfl,b1⟩
       obtain⟨bc0,bc1,bc2,bcf⟩:=zaf ((b1.block w.heap.size HL.out).trans HQ.out)
       have hc1:∀ j (h:j<ps.length),w1.cell? ⟨b,off+j*3,none⟩=some (.string ⟨ps[j].1.toArray⟩)∧w1.cell? ⟨b,off+j*3+1,none⟩=some (.string ⟨ps[j].2.1.toArray⟩)∧w1.cell? ⟨b,off+j*3+2,none⟩=some (.bool ps[j].2.2):=fun j h=>⟨(b1.cell (p:=⟨b,off+j*3,none⟩) (World.block_lt_of_cell? _ _ (hc j h).1)).trans (hc j h).1,(b1.cell (p:=⟨b,off+j*3+1,none⟩) (World.block_lt_of_cell? _ _ (hc j h).2.1)).trans (hc j h).2.1,(b1.cell (p:=⟨b,off+j*3+2,none⟩) (World.block_lt_of_cell? _ _ (hc j h).2.2)).trans (hc j h).2.2⟩
       have B1:=BX.out.trans (b1.mono BX.out.size)
       have hs1:=B1.size
       clear b1 K bcf hc bc0 bc1
       go_wp2
       go_loopw [4,6,7,8,30] (fun v _ _ _ i wr=>∃ j c2:Nat,∃ a2:Option Addr,j≤ps.length∧i=.int .i64 (j:Int)∧v=.slice a2 j c2∧Hid (∀ q (h:q<ps.length),q<j→opOk ps[q]=true)∧wr.ownsRow w1.heap.size 105 1 (.slice a2 j c2) j ((ps.take j).map chV)∧Below w1.heap.size w1 wr) (fun _ _ _ _ i _=>ps.length - (intOf i).toNat)
       case atStart=>exact⟨0,0,none,Nat.zero_le _,rfl,rfl,fun q _ h=>by omega,World.ownsRow_nil _ _ _ _,Below.refl _ _⟩
       case round =>
        obtain⟨j,c2,a2,hj,rfl,rfl,HA,hown,hbel⟩:=hrel
        have hsz:=hbel.size
        have hwb:=B1.trans (hbel.mono hs1)
        by_cases hlt:j<ps.length
        · have d1:=(hbel.cell (p:=⟨b,off+j*3,none⟩) (World.block_lt_of_cell? _ _ (hc1 j hlt).1)).trans (hc1 j hlt).1
          have d2:=(hbel.cell (p:=⟨b,off+j*3+1,none⟩) (World.block_lt_of_cell? _ _ (hc1 j hlt).2.1)).trans (hc1 j hlt).2.1
          have d3:=(hbel.cell (p:=⟨b,off+j*3+2,none⟩) (World.block_lt_of_cell? _ _ (hc1 j hlt).2.2)).trans (hc1 j hlt).2.2
          have m1:=hm' j hlt
          have hj0:(0:Int)≤(j:Int):=by omega
          have hj1:(j:Int)<(ps.length:Int):=by omega
          have HB:Hid _:=HBAD.out j hlt
          have HN:Hid (opOk ps[j]=true→∀ q (h:q<ps.length),q<j+1→opOk ps[q]=true):=fun h q hq hk=>by
           by_cases e:q=j
           · subst e;exact h
           · exact HA.out q hq (by omega)
          have HT:Hid ((ps.take (j+1)).map chV=(ps.take j).map chV ++ [chV ps[j]]):=by rw[Hid,zjb ps j hlt,List.map_append];rfl
          have hlow:∀ k,(Value.slice a2 j c2).ownBlock=some k→w1.heap.size≤k:=fun k hk=>(hown.lt k hk).1
          obtain⟨p,hp⟩:∃ p,p=ps[j]:=⟨_,rfl⟩
          rw[←hp] at d1 d2 d3 m1 HB HN HT
          obtain⟨x,y,z⟩:=p
          simp only at d1 d2 d3 m1
          have HW:Hid (wr.ownsRow w1.heap.size 105 1 (.slice a2 j c2) j ((ps.take j).map chV)):=hown
          have KO:=zu8 x y z (wr.alloc (.cells #[.string ⟨x.toArray⟩,.string ⟨y.toArray⟩,.bool z] 94)) m1.1 m1.2
          have BW:Hid (Below wr.heap.size wr (wr.alloc (.cells #[.string ⟨x.toArray⟩,.string ⟨y.toArray⟩,.bool z] 94))):=(Below.refl _ _).alloc (Nat.le_refl _) _
          clear hp hown hm' hc1 HA HALL HBAD m1
          go_wp2_with fail
          refine KO.mono ?_
          rintro e w2 ⟨u,rfl,hu,b2⟩
          have bw2:=BW.out.trans (b2.mono BW.out.size)
          have hown2:=zje HW.out bw2
          have hbel2:=hbel.trans (bw2.mono hsz)
          have hsz2:=hbel2.size
          have B2:=B1.trans (hbel2.mono hs1)
          cases hok:opOk (x,y,z) with
          | false =>
            have HO:Hid (r=false):=HB.out hok
            clear HW b2 bw2 KO hbel hu hok HB HN HT hown2
            go_wp2
            go_ret2
            rw[HO.out]
            exact⟨rfl,B2⟩
          | true =>
            obtain⟨ut,uv,hch⟩:=zmz (x,y,z)
            have hu':=hu hok
            rw[hch] at hu'
            subst hu'
            have HU:Hid (Value.iface ut uv=chV (x,y,z)):=hch.symm
            have HN2:Hid (∀ q (h:q<ps.length),q<j+1→opOk ps[q]=true):=HN.out hok
            clear HW b2 bw2 KO hbel hu hok HB HN B2 hch
            go_wp2_with (at_builtin;refine wpList_append_lies _ rfl _ _ 96 rfl w1.heap.size 105 i0 .nilIface 1 16 Tryz.underlying96 hi0 hz0 hz1 hz2 rfl (by decide) (.slice a2 j c2) j _ rfl (hown2.alloc _) ⟨w2.heap.size,0,none⟩ 1 1 [.iface ut uv] rfl rfl (World.news_of_block (cs:=#[.iface ut uv]) (t:=105) (fr:=(0,0)) (heap_alloc_new w2 _)) (by simp[Value.oneCell']) (by omega) (by unfold maxLen;omega) (by omega) (by simp;omega) (w2.heap.size+1) (by simp) ?_;intro g2 cap2 w3 hown3 hgrow hat hlt3)
            have hbel3:Below w1.heap.size w1 w3:=(hbel2.alloc hsz2 _).grown hgrow (by simp;omega) hlow
            have HO3:Hid (w3.ownsRow w1.heap.size 105 1 (.slice (some ⟨g2,0,none⟩) (j+1) cap2) (j+1) ((ps.take (j+1)).map chV)):=by rw[Hid,HT.out,←HU.out];exact hown3
            clear hgrow hown3 hown2 hbel2
            go_roundw
            case rel=>exact⟨j+1,cap2,some ⟨g2,0,none⟩,by omega,by go_num,rfl,HN2.out,HO3.out,hbel3⟩
            case measure=>simp[intOf];omega
        · have hjl:j=ps.length:=by omega
          subst hjl
          have HO:Hid (r=true):=HALL.out (fun q h=>HA.out q h h)
          rw[List.take_length] at hown
          have HW:Hid (wr.ownsRow w1.heap.size 105 1 (.slice a2 ps.length c2) ps.length (ps.map chV)):=hown
          clear hown hc1 hm' HBAD HALL HA
          go_wp2
          go_ret2
          rw[HO.out]
          exact⟨a2,c2,rfl,HW.out.mono hs1,hwb⟩
     · have h12':(12:Int)<(ps.length:Int):=by omega
       have h12b:=decide_eq_true h12'
       have HO:Hid (r=false):=by rw[Hid,HR.out,zab];simp[h12]
       clear HR hsx hm
       go_enter Tryz.func59,Tryz.ntmps59
       go_wp2_with fail
       refine K.mono ?_
       rintro e w1 ⟨rfl,b1⟩
       obtain⟨bc0,bc1,bc2,bcf⟩:=zaf ((b1.block w.heap.size HL.out).trans HQ.out)
       have B1:=BX.out.trans (b1.mono BX.out.size)
       clear b1 K bcf
       go_wp2
       go_ret2
       rw[HO.out]
       exact⟨rfl,B1⟩
   · have h1':(ps.length:Int)<1:=by omega
     have h1b:=decide_eq_true h1'
     have h0':ps.length=0:=by omega
     have HO:Hid (r=false):=by rw[Hid,HR.out,zab];simp[h0']
     clear HR hsx hm h0'
     go_enter Tryz.func59,Tryz.ntmps59
     go_wp2_with fail
     refine K.mono ?_
     rintro e w1 ⟨rfl,b1⟩
     obtain⟨bc0,bc1,bc2,bcf⟩:=zaf ((b1.block w.heap.size HL.out).trans HQ.out)
     have B1:=BX.out.trans (b1.mono BX.out.size)
     clear b1 K bcf
     go_wp2
     go_ret2
     rw[HO.out]
     exact⟨rfl,B1⟩
theorem zub (c n:Int) (a:Option Addr) (cap:Nat) (ps:List OpL) (w:World) (hl:ps.length≤1048576) (hm:∀ p∈ps,p.1.length≤1048576∧p.2.1.length≤1048576) (hs:IsOps w a ps) :
 Calls Tryz.prog 26 #[.agg #[.int .i64 c,.int .i64 n,.slice a ps.length cap]] w fun e w'=>e=.returned (.bool (zab c n ps))∧Below w.heap.size w w':=by
 have B0:Below w.heap.size w (w.alloc (.cells #[.int .i64 c,.int .i64 n,.slice a ps.length cap] 40)):=(Below.refl _ _).alloc (Nat.le_refl _) _
 have K:=zn1 c n a cap ps (w.alloc (.cells #[.int .i64 c,.int .i64 n,.slice a ps.length cap] 40)) hl hm (hs.later B0)
 have BX:Hid _:=B0
 obtain⟨r,hr⟩:∃ r,r=zab c n ps:=⟨_,rfl⟩
 rw[←hr] at K ⊢
 clear hr hs B0 hm
 cases r with
 | false =>
   go_enter Tryz.func26,Tryz.ntmps26
   go_wp2_with fail
   refine K.mono ?_
   rintro e w1 ⟨rfl,b1⟩
   have B1:=BX.out.trans (b1.mono BX.out.size)
   clear b1 K
   go_wp2
   go_ret
   exact⟨rfl,B1⟩
 | true =>
   go_enter Tryz.func26,Tryz.ntmps26
   go_wp2_with fail
   refine K.mono ?_
   rintro e w1 ⟨a1,c1,rfl,o1,b1⟩
   have B1:=BX.out.trans (b1.mono BX.out.size)
   clear b1 K o1
   go_wp2
   go_ret
   exact⟨rfl,B1⟩
theorem zn2 (c n:Int) (a:Option Addr) (cap:Nat) (ps:List OpL) (w:World) (hl:ps.length≤1048576) (hm:∀ p∈ps,p.1.length≤1048576∧p.2.1.length≤1048576) (hs:IsOps w a ps) :
 Calls Tryz.prog 47 #[.agg #[.int .i64 c,.int .i64 n,.slice a ps.length cap]] w fun e w'=>e=.returned (.bool (zab c n ps))∧Below w.heap.size w w':=by
 have B0:Below w.heap.size w (w.alloc (.cells #[.int .i64 c,.int .i64 n,.slice a ps.length cap] 40)):=(Below.refl _ _).alloc (Nat.le_refl _) _
 have HQ:Hid ((w.alloc (.cells #[.int .i64 c,.int .i64 n,.slice a ps.length cap] 40)).heap[w.heap.size]? = some (.cells #[.int .i64 c,.int .i64 n,.slice a ps.length cap] 40 (0,0))):=heap_alloc_new w _
 have HL:Hid (w.heap.size<(w.alloc (.cells #[.int .i64 c,.int .i64 n,.slice a ps.length cap] 40)).heap.size):=by rw[Hid];simp
 have BX:Hid _:=B0
 have hsx:=hs.later B0
 obtain⟨r,hr⟩:∃ r,r=zab c n ps:=⟨_,rfl⟩
 have HR:Hid _:=hr
 have K:=zg0 c 1 1000000000000 (w.alloc (.cells #[.int .i64 c,.int .i64 n,.slice a ps.length cap] 40))
 have K2:=fun W=>zg0 n 1 1000000000000 W
 change Calls _ _ _ _ (fun e w'=>e=.returned (.bool (za4 c))∧_) at K
 change ∀ W,Calls _ _ _ _ (fun e w'=>e=.returned (.bool (za4 n))∧_) at K2
 rw[←hr]
 clear hr hs B0
 cases hn:za4 c with
 | false =>
   rw[hn] at K
   have HO:Hid (r=false):=by rw[Hid,HR.out,zab,hn];simp
   clear HR hn hsx hm K2
   go_enter Tryz.func47,Tryz.ntmps47
   go_wp2_with fail
   refine K.mono ?_
   rintro e w1 ⟨rfl,b1⟩
   obtain⟨bc0,bc1,bc2,bcf⟩:=zaf ((b1.block w.heap.size HL.out).trans HQ.out)
   have B1:=BX.out.trans (b1.mono BX.out.size)
   have HB1:Hid _:=b1
   clear b1 K bcf
   go_wp2
   go_ret
   rw[HO.out]
   exact⟨rfl,B1⟩
 | true =>
   rw[hn] at K
   cases hn2:za4 n with
   | false =>
     rw[hn2] at K2
     have HO:Hid (r=false):=by rw[Hid,HR.out,zab,hn2];simp
     clear HR hn hn2 hsx hm
     go_enter Tryz.func47,Tryz.ntmps47
     go_wp2_with fail
     refine K.mono ?_
     rintro e w1 ⟨rfl,b1⟩
     obtain⟨bc0,bc1,bc2,bcf⟩:=zaf ((b1.block w.heap.size HL.out).trans HQ.out)
     have B1:=BX.out.trans (b1.mono BX.out.size)
     have HB1:Hid _:=b1
     clear b1 K bcf
     go_wp2_with fail
     refine (K2 _).mono ?_
     rintro e w2 ⟨rfl,b2⟩
     have B2:=B1.trans (b2.mono B1.size)
     have b12:=HB1.out.trans (b2.mono HB1.out.size)
     clear bc0 bc1 bc2 HB1
     obtain⟨bc0,bc1,bc2,bcf⟩:=zaf ((b12.block w.heap.size HL.out).trans HQ.out)
     clear bcf b2 B1 K2
     go_wp2
     go_ret
     rw[HO.out]
     exact⟨rfl,B2⟩
   | true =>
     rw[hn2] at K2
     have HNC:Hid (za4 c=true∧za4 n=true):=⟨hn,hn2⟩
     clear hn hn2
     by_cases h1:1≤ps.length
     · have h1' : ¬ (ps.length : Int) < 1 := by omega
       have h1b:=decide_eq_false h1'
       by_cases h12:ps.length≤12
       · have h12' : ¬ (12 : Int) < (ps.length : Int) := by omega
         have h12b:=decide_eq_false h12'
         have hm':∀ j (h:j<ps.length),ps[j].1.length≤1048576∧ps[j].2.1.length≤1048576:=fun j h=>hm _ (List.getElem_mem _)
         have HBAD:Hid (∀ j (h:j<ps.length),opOk ps[j]=false→r=false):=fun j h hb=>by rw[HR.out];exact zmx c n ps j h hb
         have HALL:Hid ((∀ j (h:j<ps.length),opOk ps[j]=true)→r=true):=fun h=>by rw[HR.out];exact zmy c n ps HNC.out.1 HNC.out.2 h1 h12 h
         obtain⟨b,off,rfl,hc⟩:∃ b off,a=some ⟨b,off,none⟩∧∀ j (h:j<ps.length),(w.alloc (.cells #[.int .i64 c,.int .i64 n,.slice a ps.length cap] 40)).cell? ⟨b,off+j*3,none⟩=some (.string ⟨ps[j].1.toArray⟩)∧(w.alloc (.cells #[.int .i64 c,.int .i64 n,.slice a ps.length cap] 40)).cell? ⟨b,off+j*3+1,none⟩=some (.string ⟨ps[j].2.1.toArray⟩)∧(w.alloc (.cells #[.int .i64 c,.int .i64 n,.slice a ps.length cap] 40)).cell? ⟨b,off+j*3+2,none⟩=some (.bool ps[j].2.2):=by
          rcases hsx with h | h
          · rw[h] at h1;simp at h1
          · exact h
         clear HR hsx hm
         go_enter Tryz.func47,Tryz.ntmps47
         go_wp2_with fail
         refine K.mono ?_
         rintro e w1 ⟨rfl,b1⟩
         obtain⟨bc0,bc1,bc2,bcf⟩:=zaf ((b1.block w.heap.size HL.out).trans HQ.out)
         have B1:=BX.out.trans (b1.mono BX.out.size)
         have HB1:Hid _:=b1
         clear b1 K bcf
         go_wp2_with fail
         refine (K2 _).mono ?_
         rintro e w2 ⟨rfl,b2⟩
         have B2:=B1.trans (b2.mono B1.size)
         have b12:=HB1.out.trans (b2.mono HB1.out.size)
         clear bc0 bc1 bc2 HB1
         obtain⟨bc0,bc1,bc2,bcf⟩:=zaf ((b12.block w.heap.size HL.out).trans HQ.out)
         clear bcf b2 B1 K2
         have hs2:=B2.size
         have hc1:∀ j (h:j<ps.length),w2.cell? ⟨b,off+j*3,none⟩=some (.string ⟨ps[j].1.toArray⟩)∧w2.cell? ⟨b,off+j*3+1,none⟩=some (.string ⟨ps[j].2.1.toArray⟩)∧w2.cell? ⟨b,off+j*3+2,none⟩=some (.bool ps[j].2.2):=fun j h=>⟨(b12.cell (p:=⟨b,off+j*3,none⟩) (World.block_lt_of_cell? _ _ (hc j h).1)).trans (hc j h).1,(b12.cell (p:=⟨b,off+j*3+1,none⟩) (World.block_lt_of_cell? _ _ (hc j h).2.1)).trans (hc j h).2.1,(b12.cell (p:=⟨b,off+j*3+2,none⟩) (World.block_lt_of_cell? _ _ (hc j h).2.2)).trans (hc j h).2.2⟩
         have HBC:Hid _:=bc2
         clear b12 hc bc0 bc1
         go_wp2
         clear bc2
         go_loopw [3] (fun i wr=>∃ j:Nat,j≤ps.length∧i=.int .i64 (j:Int)∧Hid (∀ q (h:q<ps.length),q<j→opOk ps[q]=true)∧Below w2.heap.size w2 wr) (fun i _=>ps.length - (intOf i).toNat)
         case atStart=>exact⟨0,Nat.zero_le _,rfl,fun q _ h=>by omega,Below.refl _ _⟩
         case round =>
          obtain⟨j,hj,rfl,HA,hbel⟩:=hrel
          have hsz:=hbel.size
          have hwb:=B2.trans (hbel.mono hs2)
          have bq:=(hbel.cell (p:=⟨w.heap.size,2,none⟩) (World.block_lt_of_cell? _ _ HBC.out)).trans HBC.out
          by_cases hlt:j<ps.length
          · have d1:=(hbel.cell (p:=⟨b,off+j*3,none⟩) (World.block_lt_of_cell? _ _ (hc1 j hlt).1)).trans (hc1 j hlt).1
            have d2:=(hbel.cell (p:=⟨b,off+j*3+1,none⟩) (World.block_lt_of_cell? _ _ (hc1 j hlt).2.1)).trans (hc1 j hlt).2.1
            have d3:=(hbel.cell (p:=⟨b,off+j*3+2,none⟩) (World.block_lt_of_cell? _ _ (hc1 j hlt).2.2)).trans (hc1 j hlt).2.2
            have m1:=hm' j hlt
            have hj0:(0:Int)≤(j:Int):=by omega
            have hj1:(j:Int)<(ps.length:Int):=by omega
            have HB:Hid _:=HBAD.out j hlt
            have HN:Hid (opOk ps[j]=true→∀ q (h:q<ps.length),q<j+1→opOk ps[q]=true):=fun h q hq hk=>by
             by_cases e:q=j
             · subst e;exact h
             · exact HA.out q hq (by omega)
            obtain⟨p,hp⟩:∃ p,p=ps[j]:=⟨_,rfl⟩
            rw[←hp] at d1 d2 d3 m1 HB HN
            obtain⟨x,y,z⟩:=p
            simp only at d1 d2 d3 m1
            have KO:=zu9 x y z wr m1.1 m1.2
            clear hp hm' hc1 HA HALL HBAD m1
            go_wp2_with fail
            refine KO.mono ?_
            rintro e w3 ⟨rfl,b3⟩
            have hbel3:=hbel.trans (b3.mono hsz)
            have B3:=B2.trans (hbel3.mono hs2)
            cases hok:opOk (x,y,z) with
            | false =>
              have HO:Hid _:=HB.out hok
              clear b3 KO hbel hok HB HN
              go_wp2
              go_ret
              rw[HO.out]
              exact⟨rfl,B3⟩
            | true =>
              have HN2:Hid _:=HN.out hok
              clear b3 KO hbel hok HB HN B3
              go_wp2
              go_roundw
              case rel=>exact⟨j+1,by omega,by go_num,HN2.out,hbel3⟩
              case measure=>simp[intOf];omega
          · have hjl:j=ps.length:=by omega
            subst hjl
            have HO:Hid _:=HALL.out (fun q h=>HA.out q h h)
            clear hc1 hm' HBAD HALL HA
            go_wp2
            go_ret
            rw[HO.out]
            exact⟨rfl,hwb⟩
       · have h12':(12:Int)<(ps.length:Int):=by omega
         have h12b:=decide_eq_true h12'
         have HO:Hid (r=false):=by rw[Hid,HR.out,zab];simp[h12]
         clear HR hsx hm
         go_enter Tryz.func47,Tryz.ntmps47
         go_wp2_with fail
         refine K.mono ?_
         rintro e w1 ⟨rfl,b1⟩
         obtain⟨bc0,bc1,bc2,bcf⟩:=zaf ((b1.block w.heap.size HL.out).trans HQ.out)
         have B1:=BX.out.trans (b1.mono BX.out.size)
         have HB1:Hid _:=b1
         clear b1 K bcf
         go_wp2_with fail
         refine (K2 _).mono ?_
         rintro e w2 ⟨rfl,b2⟩
         have B2:=B1.trans (b2.mono B1.size)
         have b12:=HB1.out.trans (b2.mono HB1.out.size)
         clear bc0 bc1 bc2 HB1
         obtain⟨bc0,bc1,bc2,bcf⟩:=zaf ((b12.block w.heap.size HL.out).trans HQ.out)
         clear bcf b2 B1 K2
         go_wp2
         go_ret
         rw[HO.out]
         exact⟨rfl,B2⟩
     · have h1':(ps.length:Int)<1:=by omega
       have h1b:=decide_eq_true h1'
       have h0':ps.length=0:=by omega
       have HO:Hid (r=false):=by rw[Hid,HR.out,zab];simp[h0']
       clear HR hsx hm h0'
       go_enter Tryz.func47,Tryz.ntmps47
       go_wp2_with fail
       refine K.mono ?_
       rintro e w1 ⟨rfl,b1⟩
       obtain⟨bc0,bc1,bc2,bcf⟩:=zaf ((b1.block w.heap.size HL.out).trans HQ.out)
       have B1:=BX.out.trans (b1.mono BX.out.size)
       have HB1:Hid _:=b1
       clear b1 K bcf
       go_wp2_with fail
       refine (K2 _).mono ?_
       rintro e w2 ⟨rfl,b2⟩
       have B2:=B1.trans (b2.mono B1.size)
       have b12:=HB1.out.trans (b2.mono HB1.out.size)
       clear bc0 bc1 bc2 HB1
       obtain⟨bc0,bc1,bc2,bcf⟩:=zaf ((b12.block w.heap.size HL.out).trans HQ.out)
       clear bcf b2 B1 K2
       go_wp2
       go_ret
       rw[HO.out]
       exact⟨rfl,B2⟩
theorem zuc (w:World) (o:Obj) (x:Option Nat):w.grownBy (w.alloc o) x:=zbw ((Below.refl _ _).alloc (Nat.le_refl _) _) x
theorem zud (L : Nat) (hL : L ≤ 1048576) (a : Option Addr) (cap : Nat) (ps : List OpL) (w : World) (hl : ps.length ≤ 9223372036854775807) (hm : ∀ p ∈ ps, p.1.length ≤ 9223372036854775807 ∧ p.2.1.length ≤ 9223372036854775807) (hs : IsOps w a ps) :
 Calls Tryz.prog 17 #[.slice a ps.length cap,.int .i64 (L:Int)] w fun e w'=>(e=.returned (.int .i64 (-1))∨(ps.length+zbd ps≤L∧∃ n:Nat,n≤L∧e=.returned (.int .i64 (n:Int))))∧Below w.heap.size w w':=by
 by_cases hb:ps.length≤L
 · rcases hs with rfl | ⟨b, off, rfl, hc⟩
   · go_enter Tryz.func17,Tryz.ntmps17
     go_wp2
     refine wp_loop_rounds 1 ?_
     rw[rounds_succ]
     go_wp2
     go_ret
     exact⟨.inr ⟨by simp[zbd],L,Nat.le_refl _,rfl⟩,Below.refl _ _⟩
   · have hm' : ∀ j (h : j < ps.length), ps[j].1.length ≤ 9223372036854775807 ∧ ps[j].2.1.length ≤ 9223372036854775807 := fun j h => hm _ (List.getElem_mem _)
     clear hm
     go_enter Tryz.func17,Tryz.ntmps17
     go_wp2
     go_loopw [1,5] (fun v i wr=>∃ j q:Nat,j≤ps.length∧i=.int .i64 (j:Int)∧v=.int .i64 (q:Int)∧q+ps.length+zbd (ps.take j)=L∧Below w.heap.size w wr) (fun _ i _=>ps.length - (intOf i).toNat)
     case atStart=>exact⟨0,L - ps.length,Nat.zero_le _,rfl,by simp;omega,by simp[zbd];omega,Below.refl _ _⟩
     case round =>
      obtain⟨j,q,hj,rfl,rfl,hq,hbel⟩:=hrel
      have hsz:=hbel.size
      by_cases hlt:j<ps.length
      · have hbl:=World.block_lt_of_cell? w _ (hc j hlt).1
        have c1:=(hbel.cell (p:=⟨b,off+j*3,none⟩) hbl).trans (hc j hlt).1
        have c2:=(hbel.cell (p:=⟨b,off+j*3+1,none⟩) hbl).trans (hc j hlt).2.1
        have c3:=(hbel.cell (p:=⟨b,off+j*3+2,none⟩) hbl).trans (hc j hlt).2.2
        have m1:=hm' j hlt
        have HS:Hid (zbd (ps.take (j+1))=zbd (ps.take j)+(ps[j].1.length+ps[j].2.1.length)):=zmw ps j hlt
        have hj0:(0:Int)≤(j:Int):=by omega
        have hj1:(j:Int)<(ps.length:Int):=by omega
        have hqs:q≤1048576:=by omega
        have HQ:Hid (q+ps.length+zbd (ps.take j)=L):=hq
        obtain⟨x,hx⟩:∃ x,x=ps[j].1:=⟨_,rfl⟩
        obtain⟨y,hy⟩:∃ y,y=ps[j].2.1:=⟨_,rfl⟩
        obtain⟨z,hz⟩:∃ z,z=ps[j].2.2:=⟨_,rfl⟩
        rw[←hx] at c1 m1 HS
        rw[←hy] at c2 m1 HS
        rw[←hz] at c3
        have K:=fun W=>ztz x y z q W hqs m1.1 m1.2
        clear hc hm' hx hy hz hq m1 hbl
        go_wp2_with fail
        refine (K _).mono ?_
        rintro e w1 ⟨he,b1⟩
        have B1:=hbel.trans (b1.mono hsz)
        clear K b1 hbel
        rcases he with ⟨hn,rfl⟩ | ⟨hn,rfl⟩
        · go_wp2
          go_ret
          exact⟨.inl rfl,B1⟩
        · go_wp2
          go_roundw
          case rel=>exact⟨j+1,_,by omega,by go_num,rfl,by have:=HS.out;have:=HQ.out;omega,B1⟩
          case measure=>simp[intOf];omega
      · have hjl:j=ps.length:=by omega
        subst hjl
        have HQ:Hid (ps.length+zbd ps≤L):=by rw[Hid];rw[List.take_length] at hq;omega
        have HQL:Hid (q≤L):=by rw[Hid];omega
        clear hq
        go_wp2
        go_ret
        exact⟨.inr ⟨HQ.out,q,HQL.out,rfl⟩,hbel⟩
 · have hb':¬ (ps.length:Int)≤L:=by omega
   clear hs hm
   go_enter Tryz.func17,Tryz.ntmps17
   go_wp2
   go_ret
   exact⟨.inl rfl,Below.refl _ _⟩
theorem zue (L:Nat) (hL:L≤1048576) (c n:Int) (a:Option Addr) (cap:Nat) (ps:List OpL) (w:World) (hl:ps.length≤9223372036854775807) (hm:∀ p∈ps,p.1.length≤9223372036854775807∧p.2.1.length≤9223372036854775807) (hs:IsOps w a ps) :
 Calls Tryz.prog 5 #[.agg #[.int .i64 c,.int .i64 n,.slice a ps.length cap],.int .i64 (L:Int)] w fun e w'=>(e=.returned (.int .i64 (-1))∨(ps.length+zbd ps≤L∧∃ n:Nat,n≤L∧e=.returned (.int .i64 (n:Int))))∧Below w.heap.size w w':=by
 have B0:Below w.heap.size w (w.alloc (.cells #[.int .i64 c,.int .i64 n,.slice a ps.length cap] 28)):=(Below.refl _ _).alloc (Nat.le_refl _) _
 have BB:Hid (Below w.heap.size w (w.alloc (.cells #[.int .i64 c,.int .i64 n,.slice a ps.length cap] 28))):=B0
 have K:=zud L hL a cap ps (w.alloc (.cells #[.int .i64 c,.int .i64 n,.slice a ps.length cap] 28)) hl hm (hs.later B0)
 clear hs hm B0
 go_enter Tryz.func5,Tryz.ntmps5
 go_wp2_with fail
 refine K.mono ?_
 rintro e w1 ⟨he,b1⟩
 have B1:=BB.out.trans (b1.mono BB.out.size)
 clear K b1
 rcases he with rfl | ⟨hle,q,hqL,rfl⟩
 · go_wp2
   go_ret
   exact⟨.inl rfl,B1⟩
 · have HL:Hid (ps.length+zbd ps≤L∧q≤L):=⟨hle,hqL⟩
   clear hle hqL
   go_wp2
   go_ret
   exact⟨.inr ⟨HL.out.1,q,HL.out.2,rfl⟩,B1⟩
theorem zuf (c n:Int) (ps:List OpL) (a:Option Addr) (m cap b1 k:Nat) (w:World) (hl:ps.length≤4000000) (hk:0<k) (hk2:k≤8000000) (hv:w.ownsRow b1 94 3 (.slice a m cap) ps.length (zam ps)) :
 Calls Tryz.prog 13 #[.agg #[.int .i64 c,.int .i64 n,(.slice a m cap)],.int .i64 (k:Int)] w fun e w'=>e=.returned (.int .i64 ((k:Int)+3*(ps.length:Int)))∧w'.ownsRow b1 94 3 (.slice a m cap) ps.length (zam (zd0 k ps.length))∧w.grownBy w' (Value.slice a m cap).ownBlock:=by
 have K:=zu3 ps a m cap b1 k (w.alloc (.cells #[.int .i64 c,.int .i64 n,(.slice a m cap)] 40)) hl hk hk2 (hv.alloc _)
 have G:Hid (w.grownBy (w.alloc (.cells #[.int .i64 c,.int .i64 n,(.slice a m cap)] 40)) (Value.slice a m cap).ownBlock):=zuc _ _ _
 clear hv
 go_enter Tryz.func13,Tryz.ntmps13
 go_wp2_with fail
 refine K.mono ?_
 rintro e w1 ⟨rfl,o1,g1⟩
 have O1:=zc o1
 have G1:Hid (w.grownBy w1 (Value.slice a m cap).ownBlock):=G.out.trans g1
 clear K o1 g1
 go_wp2
 go_ret
 exact⟨rfl,O1.out,G1.out⟩
end Go.Proofs.YtppljdnbhoeeoaaGreatDoor
