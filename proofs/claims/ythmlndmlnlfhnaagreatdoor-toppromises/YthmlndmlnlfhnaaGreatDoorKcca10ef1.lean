import Derived.Test.YthmlndmlnlfhnaaGreatDoorKf7ecf828
set_option maxRecDepth 100000
set_option maxHeartbeats 16000000
namespace Go.Proofs.YthmlndmlnlfhnaaGreatDoor
open Go.RowKit Go.Shelf
theorem yer (b:BookD) (l:List Int) (v vl:Value) (w:World) (h:jar w (Old w) b v) (hl:Sl Enc.int w (Old w) l vl) (hd4:b.doms.length≤4) :
  Calls Tryz.prog 22 #[v,vl] w (jji Enc.int (jdy b.doms l) w):=by
 have HL:=Lib.hid hl
 obtain ⟨vd,vt,rfl,h1,h2⟩:=h
 have HD:=Lib.hid h1
 obtain ⟨A,c,rfl,hc1,hc2,-⟩:=h1
 obtain ⟨B,d,rfl,hd1,hd2,-⟩:=h2
 obtain ⟨L,e,rfl,he1,he2,-⟩:=hl
 unfold maxLen at hc2 hd2 he2
 have hb0:=jac w (.cells #[.slice A b.doms.length c,.slice B b.tabs.length d] 38)
 have C0:=Lib.hid (Cs.new w [.slice A b.doms.length c,.slice B b.tabs.length d] 38)
 change Hid (Cs (w.alloc (.cells #[.slice A b.doms.length c,.slice B b.tabs.length d] 38)) _ _) at C0
 generalize hw0:w.alloc (.cells #[.slice A b.doms.length c,.slice B b.tabs.length d] 38)=w0 at *
 have k0:=C0.out.at 0 rfl
 go_enter Tryz.func22,Tryz.ntmps22
 go_wp2
 go_loopw [5,12] (fun u i wr=>∃ k:Nat,k≤b.doms.length∧i = .int .i64 k∧Hid (OwnG Enc.int wr w0.heap.size w0.heap.size 3 u ((jdy b.doms l).take k))∧Below w0.heap.size w0 wr) (fun _ i _=>b.doms.length-(intOf i).toNat)
 case atStart=>exact ⟨0,Nat.zero_le _,rfl,OwnG.nil,Below.refl _ _⟩
 case round =>
  clear hw0 k0
  obtain ⟨k,hk,rfl,HO,hbl⟩:=hrel
  have hb:=bx hb0 hbl
  by_cases hlt:k<b.doms.length
  ·obtain ⟨bb,o,nm,lo,hi,rfl,hSb,hx,c1,c2,c3⟩:=(HD.out.onOld hb).dom_at hlt
   have hbz:=jac wr (.cells #[.string nm,.int .i64 lo,.int .i64 hi] 58)
   have CN:=Lib.hid (Cs.new wr [.string nm,.int .i64 lo,.int .i64 hi] 58)
   change Hid (Cs (wr.alloc (.cells #[.string nm,.int .i64 lo,.int .i64 hi] 58)) _ _) at CN
   have hblz:=bx hbl hbz
   have HOz:=Lib.hid (HO.out.next hbz)
   have q1:=CN.out.at 1 rfl
   have q2:=CN.out.at 2 rfl
   have HCA:=Lib.hid (yfb (l:=l) hx.out)
   have hlen:((jdy b.doms l).take k).length≤4:=by rw [List.length_take,jf1];omega
   generalize hwa:wr.alloc (.cells #[.string nm,.int .i64 lo,.int .i64 hi] 58)=wa at *
   by_cases hkl:k<l.length
   ·obtain ⟨bi,oi,nn,rfl,hSi,hxn,ci⟩:=(HL.out.onOld hb).num_at (k:=k) hkl
    have hk1:(k:Int)<l.length:=by omega
    have hk0:(0:Int)≤k:=by omega
    have cia:=(hbz.cell (p:=⟨bi,oi+k,none⟩) hSi).trans ci
    have hbb:=jac wa (.cells #[.int .i64 (max lo (min nn hi))] 3)
    have HOb:=Lib.hid (HOz.out.next hbb)
    have hblb:=bx hblz hbb
    have hszb:=hblb.size
    have HTK:Hid ((jdy b.doms l).take (k+1)=(jdy b.doms l).take k ++ [max lo (min nn hi)]):=by
     show _=_
     rw [jai HCA.out]
     unfold yak
     rw [List.getD_eq_getElem?_getD,hxn.out];rfl
    go_wp2_with (at_builtin;refine jaf (E:=Enc.int) _ rfl _ _ 22 rfl w0.heap.size w0.heap.size 3 8 (.int .i64 0) jc6 jfy rfl (by decide) _ _ rfl HOb.out ⟨wa.heap.size,0,none⟩ (max lo (min nn hi)) [.int .i64 (max lo (min nn hi))] rfl rfl (cell_one_new _ _ _) (by omega) (by unfold maxLen;omega) hszb ?_;intro v' wz hown' hgrowz hmvz)
    refine ⟨⟨k+1,by omega,by go_num,?_,hblb.grown hgrowz hszb (fun _ hr=>(HOb.out.lt _ hr).1)⟩,by simp [intOf];omega⟩
    show OwnG _ _ _ _ _ _ _
    rw [HTK.out]
    exact hown'
   ·have hk1:(l.length:Int)≤k:=by omega
    have hbb:=jac wa (.cells #[.int .i64 (max lo (min 0 hi))] 3)
    have HOb:=Lib.hid (HOz.out.next hbb)
    have hblb:=bx hblz hbb
    have hszb:=hblb.size
    have HTK:Hid ((jdy b.doms l).take (k+1)=(jdy b.doms l).take k ++ [max lo (min 0 hi)]):=by
     show _=_
     rw [jai HCA.out]
     unfold yak
     rw [List.getD_eq_getElem?_getD,List.getElem?_eq_none (by omega)];rfl
    go_wp2_with (at_builtin;refine jaf (E:=Enc.int) _ rfl _ _ 22 rfl w0.heap.size w0.heap.size 3 8 (.int .i64 0) jc6 jfy rfl (by decide) _ _ rfl HOb.out ⟨wa.heap.size,0,none⟩ (max lo (min 0 hi)) [.int .i64 (max lo (min 0 hi))] rfl rfl (cell_one_new _ _ _) (by omega) (by unfold maxLen;omega) hszb ?_;intro v' wz hown' hgrowz hmvz)
    refine ⟨⟨k+1,by omega,by go_num,?_,hblb.grown hgrowz hszb (fun _ hr=>(HOb.out.lt _ hr).1)⟩,by simp [intOf];omega⟩
    show OwnG _ _ _ _ _ _ _
    rw [HTK.out]
    exact hown'
  ·have e:(jdy b.doms l).take k=jdy b.doms l:=List.take_of_length_le (by rw [jf1];omega)
   rw [e] at HO
   go_wp2
   go_ret
   exact ⟨_,rfl,(HO.out.sl (Nat.le_refl _)).more (fun k hk=>⟨Nat.le_trans hb0.size hk.1,hk.2⟩),hb⟩
theorem law_TopPromises (l:List ActD) (nums:List Int) (v vn:Value) (w:World) (hl:Sl Enc.act w (Old w) l v) (hnm:Sl Enc.int w (Old w) nums vn) (hsz:∀ a∈l,a.name.size≤140737488355328∧a.text.size≤140737488355328) (hv:VarsOk w) :
  Calls Tryz.prog 5 #[v,vn] w fun e w'=>e = .returned (.bool true)∧Below w.heap.size w w':=by
 have HL:=Lib.hid hl
 have HSZ:=Lib.hid hsz
 have HV:=Lib.hid hv
 have HNM:=Lib.hid hnm
 obtain ⟨A,cp,rfl,-,-,-⟩:=hl
 obtain ⟨An,cn,rfl,-,-⟩:=hnm.form
 clear hv hsz hnm
 go_enter Tryz.func5,Tryz.ntmps5
 go_wp2_with fail
 refine (jj2 l _ _ HL.out HSZ.out HV.out).mono ?_
 rintro e w1 ⟨g,c,vs,vl,rfl,m1⟩
 have M1:=Lib.hid m1
 clear m1
 have HI:Hid (Inv (runV newV (l.take 50))):=jtj Inv.new
 generalize runV newV (l.take 50) = σ at *
 go_wp2_with fail
 refine (jhq σ c g vs vl _ M1.out.st).mono ?_
 rintro e w2 ⟨v2,rfl,hs2,hb2⟩
 have HS2:=Lib.hid hs2
 obtain ⟨A2,k2,rfl,-,-⟩:=hs2.form
 have hb02:=bx M1.out.below hb2
 clear hs2
 have hSL:=jmc σ
 have hl39:σ.last≤39:=HI.out.some_
 generalize hNN:σ.states.length=NN at *
 have hN40:NN≤40:=by omega
 clear hSL hl39
 go_wp2
 go_loopw [31] (fun i wr=>∃ k:Nat,k≤NN∧i = .int .i64 k∧Below w2.heap.size w2 wr) (fun i _=>NN-(intOf i).toNat)
 case atStart=>exact ⟨0,Nat.zero_le _,rfl,Below.refl _ _⟩
 case round =>
  obtain ⟨k,hk,rfl,hbl⟩:=hrel
  by_cases hlt:k<NN
  ·have hi1:(k:Int)<NN:=by omega
   obtain ⟨b,o,x,vd,vt,rfl,hSb,hx,a0,a1,s1,s2⟩:=(HS2.out.keep (w':=wr) (fun p hp=>hbl.cell hp.2)).book_at (k:=k) (by rw [hNN];exact hlt)
   have hck:Hid ((ja6 x).2.2=0):=jn1 HI.out (List.mem_of_getElem? hx.out)
   have HB:Hid (jar wr (From w1.heap.size w2) x (.agg #[vd,vt])):=⟨_,_,rfl,s1,s2⟩
   obtain ⟨Ad,cd,rfl,-,-⟩:=s1.form
   obtain ⟨At,ct,rfl,-,-⟩:=s2.form
   clear s1 s2
   have hb3:=jac wr (.cells #[.slice Ad x.doms.length cd,.slice At x.tabs.length ct] 38)
   have C3:=Lib.hid (Cs.new wr [.slice Ad x.doms.length cd,.slice At x.tabs.length ct] 38)
   change Hid (Cs (wr.alloc (.cells #[.slice Ad x.doms.length cd,.slice At x.tabs.length ct] 38)) _ _) at C3
   have hsl:=hbl.size
   have HB3:Hid (jar (wr.alloc (.cells #[.slice Ad x.doms.length cd,.slice At x.tabs.length ct] 38)) (Old (wr.alloc (.cells #[.slice Ad x.doms.length cd,.slice At x.tabs.length ct] 38))) x (.agg #[.slice Ad x.doms.length cd,.slice At x.tabs.length ct])):=(HB.out.keepS (fun q hq=>hb3.block q (by have:=hq.2;omega))).moreS (fun q hq=>by have:=hq.2;have:=hb3.size;show q<_;omega)
   have q0:=C3.out.at 0 rfl
   have q1:=C3.out.at 1 rfl
   have hd4:=(jfx hck.out).1
   have ht4:=(jfx hck.out).2.1
   have HAC:=Lib.hid (ye2 hck.out nums)
   have hwn:=bx hb02 (bx hbl hb3)
   have HN3:=Lib.hid (HNM.out.onOld hwn)
   go_wp2_with fail
   generalize wr.alloc (.cells #[.slice Ad x.doms.length cd,.slice At x.tabs.length ct] 38)=w3 at *
   clear q0 q1
   refine (yer x nums _ _ _ HB3.out HN3.out hd4).mono ?_
   rintro e w4 ⟨v4,rfl,hs4,hb4⟩
   have HIN:=Lib.hid (jyi (l:=nums) (fun d hd=>js8 (jfx hck.out).2.2.1 hd))
   have HLN:Hid ((jdy x.doms nums).length=x.doms.length):=jf1
   generalize hOW:jdy x.doms nums=own at *
   have HO4:=Lib.hid (hs4.more fun _ h=>h.2:Sl Enc.int w4 (Old w4) own v4)
   obtain ⟨A4,k4,e4,-,-⟩:=hs4.form
   rw [HLN.out] at e4
   subst e4
   clear hs4
   have C4:=Lib.hid (C3.out.next hb4)
   have HB4:=Lib.hid ((HB3.out.keepS (w':=w4) (fun q hq=>hb4.block q hq)).moreS (S':=Old w4) (fun _ hq=>Nat.lt_of_lt_of_le hq hb4.size))
   have q0:=C4.out.at 0 rfl
   have q1:=C4.out.at 1 rfl
   go_wp2_with fail
   clear q0 q1
   refine (jmg x own _ _ _ HB4.out HO4.out (jh6 (jnn hck.out))).mono ?_
   rintro e w5 ⟨v5,rfl,hn5,hb5⟩
   rw [HAC.out]
   rw [HAC.out] at hn5
   have HA5:Hid (Sl Enc.ans w5 (From w4.heap.size w5) (ansL x own) v5):=hn5
   have HAL:Hid ((ansL x own).length=x.tabs.length):=by show _=_;simp [ansL]
   obtain ⟨A5,k5,e5,-,-⟩:=hn5.form
   rw [HAL.out] at e5
   subst e5
   clear hn5
   have C5:=Lib.hid (C4.out.next hb5)
   have r0:=C5.out.at 0 rfl
   have r1:=C5.out.at 1 rfl
   have hb35:=bx hb4 hb5
   have hbr5:=bx hb3 hb35
   have m1:((x.tabs.length:Int) != (x.tabs.length:Int))=false:=by simp
   have HB5:=Lib.hid ((HB4.out.keepS (w':=w5) (fun q hq=>hb5.block q hq)).moreS (S':=Old w5) (fun _ hq=>Nat.lt_of_lt_of_le hq hb5.size))
   have HO5:=Lib.hid (HO4.out.onOld hb5)
   have HPR:=Lib.hid (fun (i:Nat) (t:TabD) (ht:x.tabs[i]? = some t) (ho:t.ins.all (isZ (x.doms.zip own))=true)=>jza hck.out HLN.out HIN.out ht ho)
   obtain ⟨HD5,HT5⟩:Hid (Sl Enc.dom w5 (Old w5) x.doms (.slice Ad x.doms.length cd))∧Hid (Sl Enc.tab w5 (Old w5) x.tabs (.slice At x.tabs.length ct)):=by
    obtain ⟨qd,qt,eq,s1,s2⟩:=HB5.out
    injection eq with eq
    injection eq with eq
    injection eq with eq1 eq2
    injection eq2 with eq2 _
    subst eq1 eq2
    exact ⟨s1,s2⟩
   have hgT:=Lib.hid (fun (t:TabD) (ht:t∈x.tabs)=>jg6 (jfx hck.out).2.2.2.1 ht)
   have HZL:Hid (∀ q d n,x.doms[q]? = some d→own[q]? = some n→(x.doms.zip own)[q]? = some (d,n)):=fun q d n h1 h2=>by rw [List.getElem?_zip_eq_some];exact ⟨h1,h2⟩
   have HZN:Hid ((x.doms.zip own).length=x.doms.length):=by show _=_;rw [List.length_zip,HLN.out,Nat.min_self]
   generalize hZ:x.doms.zip own=Z at *
   clear HB HB3 HB4 HB5 HO4 C3 C4 HN3 HIN hOW HAC a0 a1
   go_wp2
   go_loopw [57] (fun i w6=>∃ j:Nat,j≤x.tabs.length∧i = .int .i64 j∧Below w5.heap.size w5 w6) (fun i _=>x.tabs.length-(intOf i).toNat)
   case atStart=>exact ⟨0,Nat.zero_le _,rfl,Below.refl _ _⟩
   case round =>
    clear r0 r1
    rename World=>w6
    obtain ⟨j,hj,rfl,hb6⟩:=hrel
    have C6:=Lib.hid (C5.out.next hb6)
    have hs6:=hb6.size
    have r0:=C6.out.at 0 rfl
    by_cases hjt:j<x.tabs.length
    ·have hj1:(j:Int)<x.tabs.length:=by omega
     have hj0:(0:Int)≤j:=by omega
     obtain ⟨bt,ot,nm,pol,comp,ins,rules,vi,vr,rfl,_,hxt,c1,c2,c3,c4,c5,hi,hr⟩:=(HT5.out.onOld hb6).tab_at hjt
     have HG:=Lib.hid (hgT.out _ (List.mem_of_getElem? hxt.out))
     have HTI:=Lib.hid hi
     have HTT:Hid (ja9 w6 (Old w6) ⟨nm,pol,comp,ins,rules⟩ (.agg #[.string nm,.int .i64 pol,.bool comp,vi,vr])):=⟨_,_,rfl,hi,hr⟩
     have HPJ:=Lib.hid (HPR.out j _ hxt.out)
     obtain ⟨Ai,ci,rfl,-,-⟩:=hi.form
     obtain ⟨Ar,cr,rfl,-,-⟩:=hr.form
     clear hi hr
     have hi3:ins.length≤3:=(jf4.1 (jbi.1 HG.out).2.2.2.1).2.1
     have hb7:=jac w6 (.cells #[.string nm,.int .i64 pol,.bool comp,.slice Ai ins.length ci,.slice Ar rules.length cr] 56)
     have T7:=Lib.hid (Cs.new w6 [.string nm,.int .i64 pol,.bool comp,.slice Ai ins.length ci,.slice Ar rules.length cr] 56)
     change Hid (Cs (w6.alloc (.cells #[.string nm,.int .i64 pol,.bool comp,.slice Ai ins.length ci,.slice Ar rules.length cr] 56)) _ _) at T7
     have q3:=T7.out.at 3 rfl
     go_wp2_with fail
     generalize w6.alloc (.cells #[.string nm,.int .i64 pol,.bool comp,.slice Ai ins.length ci,.slice Ar rules.length cr] 56)=w7 at *
     clear q3 c1 c2 c3 c4 c5
     have hb67:=bx hb6 hb7
     have hs7:=hb7.size
     go_loopw [14,15,65] (fun oo u i w8=>∃ p:Nat,p≤ins.length∧i = .int .i64 p∧oo = .bool ((ins.take p).all (isZ Z))∧Hid (OwnG Enc.int w8 w7.heap.size w7.heap.size 3 u ((ins.take p).flatMap (jjl Z)))∧Hid (((ins.take p).flatMap (jjl Z)).length≤4*p)∧Below w7.heap.size w7 w8) (fun _ _ i _=>ins.length-(intOf i).toNat)
     case atStart=>exact ⟨0,Nat.zero_le _,rfl,rfl,OwnG.nil,Nat.le_refl _,Below.refl _ _⟩
     case round =>
      clear r0
      rename World=>w8
      obtain ⟨p,hp,rfl,rfl,HO,HLE,hb8⟩:=hrel
      have C8:=Lib.hid ((C6.out.next hb7).next hb8)
      have r0:=C8.out.at 0 rfl
      have hb68:=bx hb7 hb8
      have hs8:=hb8.size
      by_cases hpi:p<ins.length
      ·have hp1:(p:Int)<ins.length:=by omega
       obtain ⟨bi,oi,s,rfl,_,hxs,cs⟩:=(HTI.out.onOld hb68).str_at hpi
       have HT1:Hid ((ins.take (p+1)).flatMap (jjl Z)=(ins.take p).flatMap (jjl Z) ++ jjl Z s):=by show _=_;rw [jai hxs.out,List.flatMap_append];simp
       have HT2:Hid ((ins.take (p+1)).all (isZ Z)=((ins.take p).all (isZ Z) && isZ Z s)):=by show _=_;rw [jai hxs.out,List.all_append];simp
       generalize hTP:(ins.take p).flatMap (jjl Z)=TP at *
       generalize hOP:(ins.take p).all (isZ Z)=OP at *
       go_wp2
       go_loopw [15,18,72] (fun u isv i w9=>∃ q:Nat,q≤x.doms.length∧i = .int .i64 q∧isv = .bool (isZ (Z.take q) s)∧Hid (OwnG Enc.int w9 w7.heap.size w7.heap.size 3 u (TP ++ jjl (Z.take q) s))∧Hid ((TP ++ jjl (Z.take q) s).length≤4*p+q)∧Below w7.heap.size w7 w9) (fun _ _ i _=>x.doms.length-(intOf i).toNat)
       case atStart=>exact ⟨0,Nat.zero_le _,rfl,rfl,by simpa [jjl] using HO,(show _≤_ from by simpa [jjl] using HLE.out),hb8⟩
       case round =>
        clear r0
        rename World=>w9
        obtain ⟨q,hq,rfl,rfl,HO9,HL9,hb9⟩:=hrel
        have hb69:=bx hb67 hb9
        have hs9:=hb9.size
        have hl9:=HL9.out
        by_cases hqd:q<x.doms.length
        ·have hq1:(q:Int)<x.doms.length:=by omega
         have hq0:(0:Int)≤q:=by omega
         obtain ⟨bd,od,dn,lo,hi,rfl,_,hxd,d1,d2,d3⟩:=(HD5.out.onOld hb69).dom_at hqd
         obtain ⟨bo,oo,nn,rfl,hSo,hxo,co⟩:=(HO5.out.onOld hb69).num_at (k:=q) (by rw [HLN.out];exact hqd)
         have HZQ:=Lib.hid (HZL.out q _ _ hxd.out hxo.out)
         have HTN:=Lib.hid (ynb HZQ.out s)
         have HSN:=Lib.hid (yrl HZQ.out s)
         have hbA:=jac w9 (.cells #[.string dn,.int .i64 lo,.int .i64 hi] 58)
         have CN:=Lib.hid (Cs.new w9 [.string dn,.int .i64 lo,.int .i64 hi] 58)
         change Hid (Cs (w9.alloc (.cells #[.string dn,.int .i64 lo,.int .i64 hi] 58)) _ _) at CN
         have e0:=CN.out.at 0 rfl
         have coA:=(hbA.cell (p:=⟨bo,oo+q,none⟩) hSo).trans co
         have hb9A:=bx hb9 hbA
         by_cases hsame:(dn.toList == s.toList)=true
         ·have HTN2:Hid (TP ++ jjl (Z.take (q+1)) s=(TP ++ jjl (Z.take q) s) ++ [nn]):=by
           show _=_
           rw [HTN.out]
           have:jap dn s=true:=hsame
           simp [this]
          have HSN2:Hid (isZ (Z.take (q+1)) s=true):=by
           show _=_
           rw [HSN.out]
           have:jap dn s=true:=hsame
           simp [this]
          have hbB:=jac (w9.alloc (.cells #[.string dn,.int .i64 lo,.int .i64 hi] 58)) (.cells #[.int .i64 nn] 3)
          have HOB:=Lib.hid ((HO9.out.next hbA).next hbB)
          have hb9B:=bx hb9A hbB
          have hszB:=hb9B.size
          have hltO:=HO9.out.lt
          go_wp2_with (at_builtin;refine jaf (E:=Enc.int) _ rfl _ _ 22 rfl w7.heap.size w7.heap.size 3 8 (.int .i64 0) jc6 jfy rfl (by decide) _ _ rfl HOB.out ⟨(w9.alloc (.cells #[.string dn,.int .i64 lo,.int .i64 hi] 58)).heap.size,0,none⟩ nn [.int .i64 nn] (by simp [Act.eval]) rfl (cell_one_new _ _ _) (by omega) (by unfold maxLen;omega) hszB ?_;intro vz wz hoz hgz hmz)
          refine ⟨⟨q+1,by omega,by go_num,by rw [HSN2.out],?_,?_,hb9B.grown hgz hszB (fun _ hr=>(hltO _ hr).1)⟩,by simp [intOf];omega⟩
          ·show OwnG _ _ _ _ _ _ _
           rw [HTN2.out];exact hoz
          ·show _≤_
           rw [HTN2.out,List.length_append,List.length_singleton];omega
         ·have hsame':(dn.toList == s.toList)=false:=by simpa using hsame
          have HTN2:Hid (jjl (Z.take (q+1)) s=jjl (Z.take q) s):=by
           show _=_
           rw [HTN.out]
           have:jap dn s=false:=hsame'
           simp [this]
          have HSN2:Hid (isZ (Z.take (q+1)) s=isZ (Z.take q) s):=by
           show _=_
           rw [HSN.out]
           have:jap dn s=false:=hsame'
           simp [this]
          clear hsame
          go_wp2
          refine ⟨⟨q+1,by omega,by go_num,by rw [HSN2.out],?_,?_,hb9A⟩,by simp [intOf];omega⟩
          ·show OwnG _ _ _ _ _ _ _
           rw [HTN2.out];exact HO9.out.next hbA
          ·show _≤_
           rw [HTN2.out];omega
        ·have hq1:¬ (q:Int)<x.doms.length:=by omega
         have eZ:Z.take q=Z:=List.take_of_length_le (by rw [HZN.out];omega)
         rw [eZ] at HO9 HL9
         rw [eZ]
         have hl9':=HL9.out
         clear eZ
         generalize hIS:isZ Z s=IS at *
         cases OP
         ·go_wp2
          refine ⟨⟨p+1,by omega,by go_num,by rw [HT2.out];rfl,?_,?_,hb9⟩,by simp [intOf];omega⟩
          ·show OwnG _ _ _ _ _ _ _
           rw [HT1.out];exact HO9.out
          ·show _≤_
           rw [HT1.out];omega
         ·go_wp2
          refine ⟨⟨p+1,by omega,by go_num,by rw [HT2.out];rfl,?_,?_,hb9⟩,by simp [intOf];omega⟩
          ·show OwnG _ _ _ _ _ _ _
           rw [HT1.out];exact HO9.out
          ·show _≤_
           rw [HT1.out];omega
      ·have hp1:¬ (p:Int)<ins.length:=by omega
       have eI:ins.take p=ins:=List.take_of_length_le (by omega)
       rw [eI] at HO HLE
       rw [eI]
       clear eI
       have T8:=Lib.hid (T7.out.next hb8)
       have t0:=T8.out.at 0 rfl
       have t1:=T8.out.at 1 rfl
       have t2:=T8.out.at 2 rfl
       have t3:=T8.out.at 3 rfl
       have t4:=T8.out.at 4 rfl
       generalize hTD:ins.flatMap (jjl Z)=TD at *
       cases hOA:ins.all (isZ Z)
       ·clear hOA
        go_wp2
        exact ⟨⟨j+1,by omega,by go_num,bx hb6 hb68⟩,by simp [intOf];omega⟩
       ·obtain ⟨an,hma,hcm,hun⟩:=HPJ.out hOA
        have hb58:=bx hb6 hb68
        obtain ⟨ba,oa,na,fa,ma,rfl,_,hxa,x1,x2,x3⟩:=(HA5.out.keep (w':=w8) (fun p hp=>hb58.cell hp.2)).ans_at (k:=j) (by rw [HAL.out];exact hjt)
        obtain rfl:an=(na,fa,ma):=Option.some.inj (hma.symm.trans hxa.out)
        have hcm':comp=true→fa=true:=hcm
        have hun':pol=1→(idxL 0 rules TD).length≤1:=hun
        have HUN:=Lib.hid hun'
        have HTT8:Hid (ja9 w8 (Old w8) ⟨nm,pol,comp,ins,rules⟩ (.agg #[.string nm,.int .i64 pol,.bool comp,.slice Ai ins.length ci,.slice Ar rules.length cr])):=HTT.out.onOld hb68
        have hsmall:=Lib.hid ((jh6 (jnn hck.out)).2 _ (List.mem_of_getElem? hxt.out))
        have HTS:Hid (Sl Enc.int w8 (Old w8) TD u15):=(HO.out.sl (Nat.le_refl _)).more fun _ h=>h.2
        obtain ⟨At8,ct8,e8,-,-⟩:=HTS.out.form
        subst e8
        clear hcm hun hun' hOA hma hxa HTI HPJ HG HO HTT
        by_cases hpol:pol=1
        ·subst hpol
         have hle:=HUN.out rfl
         clear HUN
         cases comp
         ·clear hcm'
          go_wp2_with fail
          refine (jjz ⟨nm,1,false,ins,rules⟩ TD _ _ _ HTT8.out HTS.out hsmall.out).mono ?_
          rintro e w9 ⟨v9,rfl,ho9,hb9⟩
          obtain ⟨A9,c9,rfl,-,-,-⟩:=ho9.form
          generalize (idxL 0 rules TD).length=LL at *
          have hL1:¬ (1:Int)<(LL:Int):=by omega
          clear ho9
          go_wp2
          exact ⟨⟨j+1,by omega,by go_num,bx hb58 hb9⟩,by simp [intOf];omega⟩
         ·obtain rfl:=hcm' rfl
          clear hcm'
          go_wp2_with fail
          refine (jjz ⟨nm,1,true,ins,rules⟩ TD _ _ _ HTT8.out HTS.out hsmall.out).mono ?_
          rintro e w9 ⟨v9,rfl,ho9,hb9⟩
          obtain ⟨A9,c9,rfl,-,-,-⟩:=ho9.form
          generalize (idxL 0 rules TD).length=LL at *
          have hL1:¬ (1:Int)<(LL:Int):=by omega
          clear ho9
          go_wp2
          exact ⟨⟨j+1,by omega,by go_num,bx hb58 hb9⟩,by simp [intOf];omega⟩
        ·have hpb:(pol == 1)=false:=by rw [beq_eq_false_iff_ne];exact hpol
         clear hpol HUN
         cases comp
         ·clear hcm'
          go_wp2
          exact ⟨⟨j+1,by omega,by go_num,hb58⟩,by simp [intOf];omega⟩
         ·obtain rfl:=hcm' rfl
          clear hcm'
          go_wp2
          exact ⟨⟨j+1,by omega,by go_num,hb58⟩,by simp [intOf];omega⟩
    ·have hj1:¬ (j:Int)<x.tabs.length:=by omega
     go_wp2
     exact ⟨⟨k+1,by omega,by go_num,bx hbl (bx hbr5 hb6)⟩,by simp [intOf];omega⟩
  ·have hi1:¬ (k:Int)<NN:=by omega
   go_wp2
   go_ret
   exact ⟨rfl,bx hb02 hbl⟩
end Go.Proofs.YthmlndmlnlfhnaaGreatDoor
