import Derived.Test.YtahocpjieffbaaaGreatDoorMathAll
import Derived.Test.YtahocpjieffbaaaGreatDoorHexAll
import Derived.Deep.QuietTactic
import Derived.BigQuiet
namespace Go.Proofs.YtahocpjieffbaaaGreatDoor
open Go.RowKit
set_option linter.unusedVariables false
def readL:List UInt8→Option (List UInt8 × Bool)
 | []=>none
 | b :: r =>
   if 64≤b.toNat then none
   else if b.toNat / 16 % 2=1 then some (b % 16 :: nibs r,decide (2≤b.toNat / 16))
   else if b.toNat % 16≠0 then none
   else some (nibs r,decide (2≤b.toNat / 16))
def rdV:Option (List UInt8 × Bool)→Value
 | none=>.tuple #[.string ⟨#[]⟩,.bool false,.bool false]
 | some (x,leaf)=>.tuple #[.string ⟨x.toArray⟩,.bool leaf,.bool true]
theorem nibs_cons (b:UInt8) (r:List UInt8):nibs (b :: r)=b / 16 :: b % 16 :: nibs r:=rfl
theorem pack_nibs:∀ l:List UInt8,pack (nibs l)=l
 | []=>rfl
 | b :: r => by
   rw[nibs_cons,pack,pack_nibs r]
   congr 1
   apply UInt8.toNat_inj.1
   have:=b.toNat_lt
   simp;omega
theorem u8_div (a b:UInt8) (ha:a.toNat≤15) (hb:b.toNat≤15):(16*a+b) / 16=a:=by
 apply UInt8.toNat_inj.1;simp;omega
theorem u8_mod (a b:UInt8) (ha:a.toNat≤15) (hb:b.toNat≤15):(16*a+b) % 16=b:=by
 apply UInt8.toNat_inj.1;simp;omega
theorem nibs_pack:∀ l:List UInt8,l.length % 2=0→isNibs l=true→nibs (pack l)=l
 | [],_,_=>rfl
 | [_],h,_=>by simp at h
 | a :: b :: r, h, hq => by
   simp only[isNibs,List.all_cons,Bool.and_eq_true,decide_eq_true_eq] at hq
   rw[pack,nibs_cons,u8_div a b hq.1 hq.2.1,u8_mod a b hq.1 hq.2.1,nibs_pack r (by simp at h;omega) (by simpa [isNibs] using hq.2.2)]
theorem nibs_nibs (l:List UInt8):isNibs (nibs l)=true:=by
 induction l with
 | nil=>rfl
 | cons b r ih =>
   rw[nibs_cons]
   simp only[isNibs,List.all_cons,Bool.and_eq_true,decide_eq_true_eq] at ih ⊢
   have:=b.toNat_lt
   refine⟨by simp;omega,by simp;omega,ih⟩
theorem readL_pack (n:List UInt8) (leaf:Bool) (hq:isNibs n=true):readL (pack (withFlag n leaf))=some (n,leaf):=by
 by_cases h:n.length % 2=1
 · rw [withFlag_odd n leaf h]
   match n,h,hq with
   | [],h,_=>simp at h
   | a :: r, h, hq =>
     simp only[isNibs,List.all_cons,Bool.and_eq_true,decide_eq_true_eq] at hq
     have hr:nibs (pack r)=r:=nibs_pack r (by simp at h;omega) (by simpa [isNibs] using hq.2)
     have ha:=hq.1
     have hm:(16*(if leaf=true then (3:UInt8) else 1)+a) % 16=a:=u8_mod _ _ (by cases leaf <;> decide) ha
     have hn:(16*(if leaf=true then (3:UInt8) else 1)+a).toNat=(if leaf then 48 else 16)+a.toNat:=by cases leaf <;> simp <;> omega
     rw[pack]
     simp only[readL,hm,hr,hn]
     cases leaf
     · simp only[Bool.false_eq_true,if_false]
       rw[if_neg (by omega),if_pos (by omega)]
       simp;omega
     · simp only[if_true]
       rw[if_neg (by omega),if_pos (by omega)]
       simp;omega
 · have h0:n.length % 2=0:=by omega
   rw[withFlag_even n leaf h0,pack]
   have hr:nibs (pack n)=n:=nibs_pack n h0 hq
   have hn:(16*(if leaf=true then (2:UInt8) else 0)+0).toNat=(if leaf then 32 else 0):=by cases leaf <;> rfl
   simp only[readL,hr,hn]
   cases leaf <;> simp
theorem pack_readL (b x:List UInt8) (leaf:Bool) (h:readL b=some (x,leaf)):isNibs x=true∧pack (withFlag x leaf)=b∧x.length≤2*b.length:=by
 match b,h with
 | [],h=>cases h
 | c :: r, h =>
   have hc:=c.toNat_lt
   simp only[readL] at h
   by_cases h1:64≤c.toNat
   · rw[if_pos h1] at h;cases h
   · rw [if_neg h1] at h
     by_cases h2:c.toNat / 16 % 2=1
     · rw[if_pos h2] at h
       cases h
       have hl:(c % 16 :: nibs r).length % 2=1:=by simp[nibs_length]
       refine⟨?_,?_,by simp[nibs_length];omega⟩
       · have:=nibs_nibs r
         simp only[isNibs,List.all_cons,Bool.and_eq_true,decide_eq_true_eq] at this ⊢
         exact⟨by simp;omega,this⟩
       · rw[withFlag_odd _ _ hl,pack,pack_nibs]
         congr 1
         apply UInt8.toNat_inj.1
         by_cases h3:2≤c.toNat / 16
         · simp[h3];omega
         · simp[h3];omega
     · rw[if_neg h2] at h
       by_cases h3:c.toNat % 16≠0
       · rw[if_pos h3] at h;cases h
       · rw[if_neg h3] at h
         cases h
         have hl:(nibs r).length % 2=0:=by simp[nibs_length]
         refine⟨nibs_nibs r,?_,by simp[nibs_length];omega⟩
         rw[withFlag_even _ _ hl,pack,pack_nibs]
         congr 1
         apply UInt8.toNat_inj.1
         by_cases h4:2≤c.toNat / 16
         · simp[h4];omega
         · simp[h4];omega
theorem pack_len (l:List UInt8) (h:l.length % 2=0):(pack l).length=l.length / 2:=by
 have:=pack_length (l.length / 2) l (by omega)
 rw[List.take_of_length_le (by omega)] at this
 exact this
theorem hexlen (n:List UInt8) (leaf:Bool):(pack (withFlag n leaf)).length=n.length / 2+1:=by
 by_cases h:n.length % 2=1
 · rw[withFlag_odd n leaf h,pack_len _ (by simp;omega)];simp;omega
 · rw[withFlag_even n leaf (by omega),pack_len _ (by simp;omega)];simp;omega
theorem fst_ix (b:UInt8) (r:List UInt8) (x:Int) (h:(b.toNat:Int)=x) (W:World) :
 (Instr.index 9 (.string ⟨(b :: r).toArray⟩) (.int .i64 0)).run Tryz.prog W=.ok (.int .u8 x) W:=by
 rw[ix_at (P:=Tryz.prog) Tryz.underlying9 (b :: r) 0 0 rfl (by simp) W]
 simp[h]
theorem spec_nibL (l:List UInt8) (w:World) (hl:l.length≤1048576) :
 Calls Tryz.prog 78 #[.string ⟨l.toArray⟩] w fun e w'=>e=.returned (.string ⟨(nibs l).toArray⟩)∧Below w.heap.size w w':=by
 have:=spec_nibbles ⟨l.toArray⟩ w (by simpa [ByteArray.size] using hl)
 simpa using this
theorem impl_nibL (l:List UInt8) (w:World) (hl:l.length≤1048576) :
 Calls Tryz.prog 70 #[.string ⟨l.toArray⟩] w fun e w'=>e=.returned (.string ⟨(nibs l).toArray⟩)∧Below w.heap.size w w':=by
 have:=impl_nibbles ⟨l.toArray⟩ w (by simpa [ByteArray.size] using hl)
 simpa using this
theorem flag_cases (b:UInt8) (h:¬ 64≤b.toNat):∃ g:Nat,g≤15∧(b % 16).toNat=g ∧
 ((b.toNat=g∧(b / 16).toNat=0)∨(b.toNat=16+g∧(b / 16).toNat=1)∨(b.toNat=32+g∧(b / 16).toNat=2)∨(b.toNat=48+g∧(b / 16).toNat=3)):=by
 have:=b.toNat_lt
 exact⟨b.toNat % 16,by omega,by simp,by simp;omega⟩
set_option maxRecDepth 100000 in
set_option maxHeartbeats 1000000 in
theorem impl_read_cons (b : UInt8) (r : List UInt8) (w : World) (hl : r.length < 30000) :
 Calls Tryz.prog 106 #[.string ⟨(b :: r).toArray⟩] w fun e w'=>e=.returned (rdV (readL (b :: r)))∧Below w.heap.size w w':=by
 have hn:=fun W=>impl_nibL (b :: r) W (by simp;omega)
 obtain⟨s,hs⟩:∃ s,s=ByteArray.mk (b :: r).toArray:=⟨_,rfl⟩
 have hsz:s.size≤30000:=by rw[hs];simp[ByteArray.size];omega
 have hne:s.toList.isEmpty=false:=by rw[hs,ByteArray.toList_mk];rfl
 rw[←hs] at hn ⊢
 obtain⟨out,hout⟩:∃ out,out=readL (b :: r):=⟨_,rfl⟩
 rw[←hout]
 clear hs
 obtain⟨f8,hf8⟩:∃ f8,f8=b / 16:=⟨_,rfl⟩
 obtain⟨g8,hg8⟩:∃ g8,g8=b % 16:=⟨_,rfl⟩
 obtain⟨nr,hnr⟩:∃ nr,nr=nibs r:=⟨_,rfl⟩
 rw[nibs_cons,←hf8,←hg8,←hnr] at hn
 have hnl:nr.length<60000:=by rw[hnr,nibs_length];omega
 have hs1:=ext_from (f8 :: g8 :: nr) 1 (by simp)
 have hs2:=ext_from (g8 :: nr) 1 (by simp)
 simp only[List.length_cons,List.drop_succ_cons,List.drop_zero] at hs1 hs2
 obtain⟨t1,ht1⟩:∃ t1,t1=ByteArray.mk (g8 :: nr).toArray:=⟨_,rfl⟩
 have hk:=fun x hx=>fst_ix g8 nr x hx
 have ht1s:t1.size≤60000:=by rw[ht1];simp[ByteArray.size];omega
 have ht1e : t1.extract 1 t1.size = ⟨nr.toArray⟩ := by rw [ht1]; have : (ByteArray.mk (g8 :: nr).toArray).size = nr.length + 1 := by simp [ByteArray.size]
                                                       rw[this];exact hs2
 have ht1n:0<t1.size:=by rw[ht1];simp[ByteArray.size]
 rw[←ht1] at hs1 hk
 clear hs2
 have hbt:=b.toNat_lt
 by_cases h64:64≤b.toNat
 · have HR:Hid (out=none):=by rw[Hid,hout];simp only[readL];rw[if_pos h64]
   have hj:=fst_ix f8 (g8 :: nr) (b.toNat / 16:Int) (by rw[hf8];simp)
   have h64':(4:Int)≤(b.toNat:Int) / 16:=by omega
   have h64'':(b.toNat:Int) / 16≤15:=by omega
   clear hout hf8 hg8 hnr ht1
   go_enter Tryz.func106,Tryz.ntmps106
   go_wp2_with fail
   refine (hn _).mono ?_
   rintro e w1 ⟨rfl,hb1⟩
   go_wp2
   go_quiet (fail)
   go_wp2
   go_ret3
   exact⟨by rw[HR.out];rfl,below_drewN hb1 _⟩
 · obtain⟨g,hg,hbg,hcs⟩:=flag_cases b h64
   rw[←hf8] at hcs
   have HE:∀ (lf:Bool),decide (2≤b.toNat / 16)=lf→(b.toNat / 16 % 2=1→out=some (g8 :: nr,lf))∧(b.toNat / 16 % 2≠1→b.toNat % 16≠0→out=none)∧(b.toNat / 16 % 2≠1→b.toNat % 16=0→out=some (nr,lf)):=by
    intro lf hlf
    rw[hout]
    simp only[readL]
    rw[if_neg h64,hlf,←hg8,←hnr]
    refine⟨fun h=>by rw[if_pos h],fun h h'=>by rw[if_neg h,if_pos h'],fun h h'=>by rw[if_neg h,if_neg (by omega)]⟩
   have a01:bits BinOp.and IntKind.u8 0 1=0:=by decide
   have a02:bits BinOp.and IntKind.u8 0 2=0:=by decide
   have a11:bits BinOp.and IntKind.u8 1 1=1:=by decide
   have a12:bits BinOp.and IntKind.u8 1 2=0:=by decide
   have a21:bits BinOp.and IntKind.u8 2 1=0:=by decide
   have a22:bits BinOp.and IntKind.u8 2 2=2:=by decide
   have a31:bits BinOp.and IntKind.u8 3 1=1:=by decide
   have a32:bits BinOp.and IntKind.u8 3 2=2:=by decide
   have hg8n:g8.toNat=g:=by rw[hg8];exact hbg
   have hT:Value.string t1=.string ⟨(g8 :: nr).toArray⟩:=by rw[ht1]
   have HT:Hid (Value.string t1=.string ⟨(g8 :: nr).toArray⟩):=hT
   clear hout hf8 hnr hT ht1
   rcases hcs with ⟨hb,hf⟩ | ⟨hb,hf⟩ | ⟨hb,hf⟩ | ⟨hb,hf⟩
   · have hj:=fst_ix f8 (g8 :: nr) 0 (by omega)
     have HF:=HE false (by simp;omega)
     by_cases h0:g=0
     · have HZ:Hid (out=some (nr,false)):=HF.2.2 (by omega) (by omega)
       have hi:=hk 0 (by omega)
       clear HF HE hb hbg hf hg8 h0 hg hk h64 hg8n
       go_enter Tryz.func106,Tryz.ntmps106
       go_wp2_with fail
       refine (hn _).mono ?_
       rintro e w1 ⟨rfl,hb1⟩
       go_wp2
       go_quiet (fail)
       go_wp2
       go_ret3
       exact⟨by rw[HZ.out];rfl,below_drewN hb1 _⟩
     · have HZ:Hid (out=none):=HF.2.1 (by omega) (by omega)
       have hi:=hk (g:Int) (by omega)
       have h0':1≤(g:Int):=by omega
       have hg':(g:Int)≤15:=by omega
       clear HF HE hb hbg hf hg8 hk h64 hg8n
       go_enter Tryz.func106,Tryz.ntmps106
       go_wp2_with fail
       refine (hn _).mono ?_
       rintro e w1 ⟨rfl,hb1⟩
       go_wp2
       go_quiet (fail)
       go_wp2
       go_ret3
       exact⟨by rw[HZ.out];rfl,below_drewN hb1 _⟩
   · have hj:=fst_ix f8 (g8 :: nr) 1 (by omega)
     have HF:=HE false (by simp;omega)
     have HZ:Hid (out=some (g8 :: nr,false)):=HF.1 (by omega)
     clear HF HE hb hbg hf hg8 hk h64 hg8n
     go_enter Tryz.func106,Tryz.ntmps106
     go_wp2_with fail
     refine (hn _).mono ?_
     rintro e w1 ⟨rfl,hb1⟩
     go_wp2
     go_quiet (fail)
     go_wp2
     go_ret3
     exact⟨by rw[HZ.out,rdV,←HT.out];rfl,below_drewN hb1 _⟩
   · have hj:=fst_ix f8 (g8 :: nr) 2 (by omega)
     have HF:=HE true (by simp;omega)
     by_cases h0:g=0
     · have HZ:Hid (out=some (nr,true)):=HF.2.2 (by omega) (by omega)
       have hi:=hk 0 (by omega)
       clear HF HE hb hbg hf hg8 h0 hg hk h64 hg8n
       go_enter Tryz.func106,Tryz.ntmps106
       go_wp2_with fail
       refine (hn _).mono ?_
       rintro e w1 ⟨rfl,hb1⟩
       go_wp2
       go_quiet (fail)
       go_wp2
       go_ret3
       exact⟨by rw[HZ.out];rfl,below_drewN hb1 _⟩
     · have HZ:Hid (out=none):=HF.2.1 (by omega) (by omega)
       have hi:=hk (g:Int) (by omega)
       have h0':1≤(g:Int):=by omega
       have hg':(g:Int)≤15:=by omega
       clear HF HE hb hbg hf hg8 hk h64 hg8n
       go_enter Tryz.func106,Tryz.ntmps106
       go_wp2_with fail
       refine (hn _).mono ?_
       rintro e w1 ⟨rfl,hb1⟩
       go_wp2
       go_quiet (fail)
       go_wp2
       go_ret3
       exact⟨by rw[HZ.out];rfl,below_drewN hb1 _⟩
   · have hj:=fst_ix f8 (g8 :: nr) 3 (by omega)
     have HF:=HE true (by simp;omega)
     have HZ:Hid (out=some (g8 :: nr,true)):=HF.1 (by omega)
     clear HF HE hb hbg hf hg8 hk h64 hg8n
     go_enter Tryz.func106,Tryz.ntmps106
     go_wp2_with fail
     refine (hn _).mono ?_
     rintro e w1 ⟨rfl,hb1⟩
     go_wp2
     go_quiet (fail)
     go_wp2
     go_ret3
     exact⟨by rw[HZ.out,rdV,←HT.out];rfl,below_drewN hb1 _⟩
set_option maxRecDepth 100000 in
theorem impl_read_nil (w:World) :
 Calls Tryz.prog 106 #[.string ⟨#[]⟩] w fun e w'=>e=.returned (rdV none)∧Below w.heap.size w w':=by
 go_enter Tryz.func106,Tryz.ntmps106
 go_wp2
 go_ret3
 exact⟨rfl,Below.refl _ _⟩
theorem impl_read (l:List UInt8) (w:World) (hl:l.length≤30000) :
 Calls Tryz.prog 106 #[.string ⟨l.toArray⟩] w fun e w'=>e=.returned (rdV (readL l))∧Below w.heap.size w w':=by
 match l,hl with
 | [],_=>exact impl_read_nil w
 | b :: r,hl=>exact impl_read_cons b r w (by simp at hl;omega)
def readE:List UInt8→Option (List UInt8 × Bool)
 | []=>none
 | b :: r =>
   if 64≤b.toNat then none
   else if b.toNat / 16 % 2=1 then none
   else if b.toNat % 16≠0 then none
   else some (nibs r,decide (2≤b.toNat / 16))
set_option maxRecDepth 100000 in
set_option maxHeartbeats 1000000 in
theorem impl_read_edge (b : UInt8) (r : List UInt8) (w : World) (hl : r.length = 30000) :
 Calls Tryz.prog 106 #[.string ⟨(b :: r).toArray⟩] w fun e w'=>e=.returned (rdV (readE (b :: r)))∧Below w.heap.size w w':=by
 have hn:=fun W=>impl_nibL (b :: r) W (by simp;omega)
 obtain⟨s,hs⟩:∃ s,s=ByteArray.mk (b :: r).toArray:=⟨_,rfl⟩
 have hsz:s.size≤30001:=by rw[hs];simp[ByteArray.size];omega
 have hne:s.toList.isEmpty=false:=by rw[hs,ByteArray.toList_mk];rfl
 rw[←hs] at hn ⊢
 obtain⟨out,hout⟩:∃ out,out=readE (b :: r):=⟨_,rfl⟩
 rw[←hout]
 clear hs
 obtain⟨f8,hf8⟩:∃ f8,f8=b / 16:=⟨_,rfl⟩
 obtain⟨g8,hg8⟩:∃ g8,g8=b % 16:=⟨_,rfl⟩
 obtain⟨nr,hnr⟩:∃ nr,nr=nibs r:=⟨_,rfl⟩
 rw[nibs_cons,←hf8,←hg8,←hnr] at hn
 have hnl:nr.length=60000:=by rw[hnr,nibs_length];omega
 have hs1:=ext_from (f8 :: g8 :: nr) 1 (by simp)
 have hs2:=ext_from (g8 :: nr) 1 (by simp)
 simp only[List.length_cons,List.drop_succ_cons,List.drop_zero] at hs1 hs2
 obtain⟨t1,ht1⟩:∃ t1,t1=ByteArray.mk (g8 :: nr).toArray:=⟨_,rfl⟩
 have hk:=fun x hx=>fst_ix g8 nr x hx
 have ht1s:t1.size=60001:=by rw[ht1];simp[ByteArray.size];omega
 have hT1:Hid (t1.size=60001):=ht1s
 have hNL:Hid (nr.length=60000):=hnl
 have ht1e : t1.extract 1 t1.size = ⟨nr.toArray⟩ := by rw [ht1]; have : (ByteArray.mk (g8 :: nr).toArray).size = nr.length + 1 := by simp [ByteArray.size]
                                                       rw[this];exact hs2
 have ht1n:0<t1.size:=by rw[ht1];simp[ByteArray.size]
 rw[←ht1] at hs1 hk
 clear hs2
 clear ht1s hnl
 have ht1s:t1.size≤60001:=by have:=hT1.out;omega
 have ht1b:60000<t1.size:=by have:=hT1.out;omega
 have hnl:nr.length≤60000:=by have:=hNL.out;omega
 have hbt:=b.toNat_lt
 by_cases h64:64≤b.toNat
 · have HR:Hid (out=none):=by rw[Hid,hout];simp only[readE];rw[if_pos h64]
   have hj:=fst_ix f8 (g8 :: nr) (b.toNat / 16:Int) (by rw[hf8];simp)
   have h64':(4:Int)≤(b.toNat:Int) / 16:=by omega
   have h64'':(b.toNat:Int) / 16≤15:=by omega
   clear hout hf8 hg8 hnr ht1
   go_enter Tryz.func106,Tryz.ntmps106
   go_wp2_with fail
   refine (hn _).mono ?_
   rintro e w1 ⟨rfl,hb1⟩
   go_wp2
   go_quiet (fail)
   go_wp2
   go_ret3
   exact⟨by rw[HR.out];rfl,below_drewN hb1 _⟩
 · obtain⟨g,hg,hbg,hcs⟩:=flag_cases b h64
   rw[←hf8] at hcs
   have HE:∀ (lf:Bool),decide (2≤b.toNat / 16)=lf→(b.toNat / 16 % 2=1→out=none)∧(b.toNat / 16 % 2≠1→b.toNat % 16≠0→out=none)∧(b.toNat / 16 % 2≠1→b.toNat % 16=0→out=some (nr,lf)):=by
    intro lf hlf
    rw[hout]
    simp only[readE]
    rw[if_neg h64,hlf,←hnr]
    refine⟨fun h=>by rw[if_pos h],fun h h'=>by rw[if_neg h,if_pos h'],fun h h'=>by rw[if_neg h,if_neg (by omega)]⟩
   have a01:bits BinOp.and IntKind.u8 0 1=0:=by decide
   have a02:bits BinOp.and IntKind.u8 0 2=0:=by decide
   have a11:bits BinOp.and IntKind.u8 1 1=1:=by decide
   have a12:bits BinOp.and IntKind.u8 1 2=0:=by decide
   have a21:bits BinOp.and IntKind.u8 2 1=0:=by decide
   have a22:bits BinOp.and IntKind.u8 2 2=2:=by decide
   have a31:bits BinOp.and IntKind.u8 3 1=1:=by decide
   have a32:bits BinOp.and IntKind.u8 3 2=2:=by decide
   have hg8n:g8.toNat=g:=by rw[hg8];exact hbg
   have hT:Value.string t1=.string ⟨(g8 :: nr).toArray⟩:=by rw[ht1]
   have HT:Hid (Value.string t1=.string ⟨(g8 :: nr).toArray⟩):=hT
   clear hout hf8 hnr hT ht1
   rcases hcs with ⟨hb,hf⟩ | ⟨hb,hf⟩ | ⟨hb,hf⟩ | ⟨hb,hf⟩
   · have hj:=fst_ix f8 (g8 :: nr) 0 (by omega)
     have HF:=HE false (by simp;omega)
     by_cases h0:g=0
     · have HZ:Hid (out=some (nr,false)):=HF.2.2 (by omega) (by omega)
       have hi:=hk 0 (by omega)
       clear HF HE hb hbg hf hg8 h0 hg hk h64 hg8n
       go_enter Tryz.func106,Tryz.ntmps106
       go_wp2_with fail
       refine (hn _).mono ?_
       rintro e w1 ⟨rfl,hb1⟩
       go_wp2
       go_quiet (fail)
       go_wp2
       go_ret3
       exact⟨by rw[HZ.out];rfl,below_drewN hb1 _⟩
     · have HZ:Hid (out=none):=HF.2.1 (by omega) (by omega)
       have hi:=hk (g:Int) (by omega)
       have h0':1≤(g:Int):=by omega
       have hg':(g:Int)≤15:=by omega
       clear HF HE hb hbg hf hg8 hk h64 hg8n
       go_enter Tryz.func106,Tryz.ntmps106
       go_wp2_with fail
       refine (hn _).mono ?_
       rintro e w1 ⟨rfl,hb1⟩
       go_wp2
       go_quiet (fail)
       go_wp2
       go_ret3
       exact⟨by rw[HZ.out];rfl,below_drewN hb1 _⟩
   · have hj:=fst_ix f8 (g8 :: nr) 1 (by omega)
     have HF:=HE false (by simp;omega)
     have HZ:Hid (out=none):=HF.1 (by omega)
     clear HF HE hb hbg hf hg8 hk h64 hg8n
     go_enter Tryz.func106,Tryz.ntmps106
     go_wp2_with fail
     refine (hn _).mono ?_
     rintro e w1 ⟨rfl,hb1⟩
     go_wp2
     go_quiet (fail)
     go_wp2
     go_ret3
     exact⟨by rw[HZ.out];rfl,below_drewN hb1 _⟩
   · have hj:=fst_ix f8 (g8 :: nr) 2 (by omega)
     have HF:=HE true (by simp;omega)
     by_cases h0:g=0
     · have HZ:Hid (out=some (nr,true)):=HF.2.2 (by omega) (by omega)
       have hi:=hk 0 (by omega)
       clear HF HE hb hbg hf hg8 h0 hg hk h64 hg8n
       go_enter Tryz.func106,Tryz.ntmps106
       go_wp2_with fail
       refine (hn _).mono ?_
       rintro e w1 ⟨rfl,hb1⟩
       go_wp2
       go_quiet (fail)
       go_wp2
       go_ret3
       exact⟨by rw[HZ.out];rfl,below_drewN hb1 _⟩
     · have HZ:Hid (out=none):=HF.2.1 (by omega) (by omega)
       have hi:=hk (g:Int) (by omega)
       have h0':1≤(g:Int):=by omega
       have hg':(g:Int)≤15:=by omega
       clear HF HE hb hbg hf hg8 hk h64 hg8n
       go_enter Tryz.func106,Tryz.ntmps106
       go_wp2_with fail
       refine (hn _).mono ?_
       rintro e w1 ⟨rfl,hb1⟩
       go_wp2
       go_quiet (fail)
       go_wp2
       go_ret3
       exact⟨by rw[HZ.out];rfl,below_drewN hb1 _⟩
   · have hj:=fst_ix f8 (g8 :: nr) 3 (by omega)
     have HF:=HE true (by simp;omega)
     have HZ:Hid (out=none):=HF.1 (by omega)
     clear HF HE hb hbg hf hg8 hk h64 hg8n
     go_enter Tryz.func106,Tryz.ntmps106
     go_wp2_with fail
     refine (hn _).mono ?_
     rintro e w1 ⟨rfl,hb1⟩
     go_wp2
     go_quiet (fail)
     go_wp2
     go_ret3
     exact⟨by rw[HZ.out];rfl,below_drewN hb1 _⟩
set_option maxRecDepth 100000 in
set_option maxHeartbeats 1000000 in
theorem impl_read_far (l:List UInt8) (w:World) (hl:30001<l.length) (hl2:l.length≤60001) :
 Calls Tryz.prog 106 #[.string ⟨l.toArray⟩] w fun e w'=>e=.returned (rdV none)∧Below w.heap.size w w':=by
 obtain⟨s,hs⟩:∃ s,s=ByteArray.mk l.toArray:=⟨_,rfl⟩
 have hsz:30001<s.size:=by rw[hs];simp[ByteArray.size];omega
 have hsz2:s.size≤60001:=by rw[hs];simp[ByteArray.size];omega
 have hne:s.toList.isEmpty=false:=by
  rw[hs,ByteArray.toList_mk]
  cases l with
  | nil=>simp at hl
  | cons b r=>rfl
 rw[←hs]
 clear hs
 go_enter Tryz.func106,Tryz.ntmps106
 go_wp2
 go_ret3
 exact⟨rfl,Below.refl _ _⟩
def readS (l:List UInt8):Option (List UInt8 × Bool):=if l.length≤30001 then readL l else none
def readI (l:List UInt8):Option (List UInt8 × Bool):=if l.length≤30000 then readL l else if l.length=30001 then readE l else none
theorem impl_readI (l:List UInt8) (w:World) (hl:l.length≤60000) :
 Calls Tryz.prog 106 #[.string ⟨l.toArray⟩] w fun e w'=>e=.returned (rdV (readI l))∧Below w.heap.size w w':=by
 rw[readI]
 split
 · exact impl_read l w (by assumption)
 · split
   · match l,hl with
     | [],_=>simp at *
     | b :: r,hl=>exact impl_read_edge b r w (by simp at *;omega)
   · exact impl_read_far l w (by omega) (by omega)
theorem read_part (l:List UInt8):readS l=readI l∨(∀ x lf,readS l=some (x,lf)→24<x.length)∧(∀ x lf,readI l=some (x,lf)→24<x.length):=by
 unfold readS readI
 by_cases h1:l.length≤30000
 · left;rw[if_pos (by omega),if_pos h1]
 · rw [if_neg h1]
   by_cases h2:l.length=30001
   · right
     rw[if_pos (by omega),if_pos h2]
     match l,h2 with
     | b :: r, h2 =>
       simp at h2
       constructor
       · intro x lf h
         simp only[readL] at h
         split at h
         · cases h
         · split at h
           · cases h;rw[List.length_cons,nibs_length];omega
           · split at h
             · cases h
             · cases h;rw[nibs_length];omega
       · intro x lf h
         simp only[readE] at h
         split at h
         · cases h
         · split at h
           · cases h
           · split at h
             · cases h
             · cases h;rw[nibs_length];omega
   · left;rw[if_neg (by omega),if_neg h2]
end Go.Proofs.YtahocpjieffbaaaGreatDoor
