package tests

import (
	"encoding/binary"
	"fmt"
	"math"
	"math/rand"
	"slices"
	"strings"
	"testing"

	"loop.example/g00226/impl"
)

// plainFrame: by the document's words.
func plainFrame(data string) string {
	return string(binary.BigEndian.AppendUint32(nil, uint32(len(data)))) + librarySum(data)[:8] + data
}

// rowText: by the document's words; the batch need not be right.
func rowText(t *testing.T, index int64, b impl.Batch) string {
	t.Helper()
	return listOf(t, plainNumber(index), listOf(t, batchTexts(b)...))
}

func rowFrame(t *testing.T, index int64, b impl.Batch) string {
	t.Helper()
	return plainFrame(rowText(t, index, b))
}

// baseFrame: of a replica's text, by the document's words.
func baseFrame(t *testing.T, index int64, sessions []impl.Session, pairs []impl.Pair) string {
	t.Helper()
	return plainFrame(listOf(t, replicaTexts(stateOf{index, sessions, pairs})...))
}

func logAct(b impl.Batch) impl.Act { return impl.Act{Kind: impl.AcLog, Batch: b, Power: -1} }

func syncAct(b impl.Batch) impl.Act {
	return impl.Act{Kind: impl.AcLog, Batch: b, Sync: true, Power: -1}
}

func saveAct(power int64) impl.Act { return impl.Act{Kind: impl.AcSave, Power: power} }

func openAct(power int64) impl.Act { return impl.Act{Kind: impl.AcOpen, Power: power} }

func crashAct(power, torn int64, keep ...int64) impl.Act {
	return impl.Act{Kind: impl.AcCrash, Power: power, Torn: torn, Keep: keep}
}

func withPower(a impl.Act, power int64) impl.Act {
	a.Power = power
	return a
}

func shownAct(a impl.Act) string {
	return fmt.Sprintf("act %d of %s, sync %v, power %d, keep %.40v, torn %d", a.Kind, shownBatch(a.Batch), a.Sync, a.Power, a.Keep, a.Torn)
}

// numbered: the batch with this number, which nobody else has.
func numbered(n int64) impl.Batch {
	return batchOf(1, n, "k"+oneByte('a'+int(n%20)), fmt.Sprint("v", n))
}

func TestFrames(t *testing.T) {
	for _, c := range []struct{ data, frame string }{
		{"", "\x00\x00\x00\x00\xe3\xb0\xc4\x42\x98\xfc\x1c\x14"},
		{"abc", "\x00\x00\x00\x03\xba\x78\x16\xbf\x8f\x01\xcf\xeaabc"},
	} {
		if got := impl.FrameOf(c.data); got != c.frame {
			t.Errorf("FrameOf of %q: %q", c.data, got)
		}
	}
	for _, n := range []int{0, 1, 2, 12, 55, 56, 255, 256, 257, 4096, 59999, 60000} {
		for _, data := range []string{letters(n), strings.Repeat("\x00", n), strings.Repeat("\xff", n)} {
			got := impl.FrameOf(data)
			if got != plainFrame(data) || len(got) != 12+n {
				t.Errorf("FrameOf of %d bytes: %.30q", n, got)
			}
			if frames, end := impl.TakeFrames(got); len(frames) != 1 || frames[0] != data || end != int64(12+n) {
				t.Errorf("TakeFrames of the frame of %d bytes: %d frames, %d", n, len(frames), end)
			}
		}
	}
	for _, n := range []int{60001, 60002, 65536, 70000, 1 << 24, 1<<24 + 3} {
		if got := impl.FrameOf(letters(n)); got != "" {
			t.Errorf("FrameOf of %d bytes: %.30q", n, got)
		}
		wantFrames(t, "more than MaxRlp bytes", plainFrame(letters(n)), 0)
		wantFrames(t, "more than MaxRlp bytes behind one", plainFrame("a")+plainFrame(letters(n)), 13, "a")
	}
}

func wantFrames(t *testing.T, why, s string, wantEnd int64, want ...string) {
	t.Helper()
	got, end := impl.TakeFrames(s)
	if !slices.Equal(got, want) || end != wantEnd {
		t.Errorf("TakeFrames, %s: of %.60q: %.60q, %d; want %.60q, %d", why, s, got, end, want, wantEnd)
	}
	overwriteTexts(got)
	if again, _ := impl.TakeFrames(s); !slices.Equal(again, want) {
		t.Errorf("TakeFrames, %s: of %.60q, once more: %.60q", why, s, again)
	}
}

func overwriteTexts(list []string) {
	for i := range list {
		list[i] = "written"
	}
}

func TestTakeFrames(t *testing.T) {
	a, b, none := plainFrame("a"), plainFrame("bcd"), plainFrame("")
	wantFrames(t, "nothing", "", 0)
	wantFrames(t, "one", a, 13, "a")
	wantFrames(t, "one of nothing", none, 12, "")
	wantFrames(t, "several", a+none+b+b+none, 67, "a", "", "bcd", "bcd", "")
	wantFrames(t, "a frame in a frame", plainFrame(a), 25, a)
	for n := range b {
		wantFrames(t, "cut", b[:n], 0)
		wantFrames(t, "cut behind one", a+b[:n], 13, "a")
		if n > 0 {
			wantFrames(t, "cut, and one behind that", a+b[:n]+a, 13, "a")
		}
	}
	for n := range none {
		wantFrames(t, "cut behind two", a+b+none[:n], 28, "a", "bcd")
	}
	for _, rest := range []string{"?", "\x00", letters(11), letters(12), letters(13), strings.Repeat("\x00", 12), strings.Repeat("\x00", 40), strings.Repeat("\xff", 12), strings.Repeat("\xff", 100)} {
		wantFrames(t, "bytes behind the last frame", a+b+rest, 28, "a", "bcd")
		wantFrames(t, "bytes alone", rest, 0)
		wantFrames(t, "bytes between", a+rest+b, 13, "a")
	}
	for place := range b {
		for _, by := range []byte{1, 0x80, 0xff} {
			wrong := []byte(b)
			wrong[place] ^= by
			wantFrames(t, "a turned byte", string(wrong), 0)
			wantFrames(t, "a turned byte behind one", a+string(wrong)+a, 13, "a")
			wantFrames(t, "a turned byte, and many behind it", string(wrong)+letters(200), 0)
		}
	}
	for _, length := range []string{"\x00\x00\x00\x04", "\x00\x00\x00\x05", "\x00\x00\x01\x03", "\x00\x00\xea\x60", "\x00\x00\xea\x61", "\x00\x01\x00\x03", "\x01\x00\x00\x03", "\x7f\xff\xff\xff", "\x80\x00\x00\x03", "\xff\xff\xff\xff"} {
		wantFrames(t, "a length of more than there is", length+b[4:], 0)
		wantFrames(t, "a length of more than there is, behind one", a+length+b[4:], 13, "a")
	}
	wantFrames(t, "a length of less than there is", "\x00\x00\x00\x02"+b[4:], 0)
	wantFrames(t, "the length of less, with its digest", "\x00\x00\x00\x02"+librarySum("bc")[:8]+"bcd", 14, "bc")
	var all []string
	for i := range 300 {
		all = append(all, letters(i%70))
	}
	joined := ""
	for _, data := range all {
		joined += plainFrame(data)
	}
	wantFrames(t, "many", joined, int64(len(joined)), all...)
}

// plainView: by the document's words; chapter 10 is asked for what a batch makes.
func plainView(t *testing.T, d impl.Disk) (r impl.Replica, good, broken bool) {
	t.Helper()
	r = impl.ReplicaNew()
	log := ""
	for _, f := range d.Live {
		switch f.Name {
		case "base":
			read, ok := impl.ReadReplica(f.Data[min(12, len(f.Data)):])
			if !ok || plainFrame(impl.ReplicaText(read)) != f.Data {
				return impl.Replica{}, false, true
			}
			r = read
		case "log":
			log = f.Data
		}
	}
	for log != "" {
		n := int64(math.MaxInt64)
		if len(log) >= 12 {
			n = int64(binary.BigEndian.Uint32([]byte(log)))
		}
		if n > impl.MaxRlp || n > int64(len(log)-12) || plainFrame(log[12:12+n]) != log[:12+n] {
			return r, false, false
		}
		items, ok := impl.RlpItems(log[12 : 12+n])
		if !ok || len(items) != 2 {
			return r, false, false
		}
		_, text, _, _ := impl.TakeRlp(items[1])
		b, ok := impl.ReadBatch(text)
		kind, digits, _, _ := impl.TakeRlp(items[0])
		if !ok || kind != impl.RlText || len(digits) > 7 {
			return r, false, false
		}
		index := int64(binary.BigEndian.Uint64([]byte(strings.Repeat("\x00", 8-len(digits)) + digits)))
		if plainNumber(index) != digits || index > r.Index+1 || index > impl.MaxNumber {
			return r, false, false
		}
		if index == r.Index+1 {
			r, _ = impl.Applied(r, index, b)
		}
		log = log[12+n:]
	}
	return r, true, false
}

func wantView(t *testing.T, why string, d impl.Disk, want impl.Replica, wantCode int64) {
	t.Helper()
	given, room := diskRoom(d)
	_, kept := diskRoom(d)
	got, code := impl.DurableView(given)
	again, _ := impl.DurableView(given)
	if code != wantCode || !sameReplica(got, want) || !sameReplica(again, want) {
		t.Errorf("DurableView, %s: of a %s: a replica at %d, %d nodes, %d; want one at %d, %d", why, shownDisk(d), got.Index, len(got.Store), code, want.Index, wantCode)
		return
	}
	overwrite(got)
	if !sameDisk(room, kept) || !sameReplica(again, want) {
		t.Errorf("DurableView, %s: shares memory or writes into its argument", why)
	}
}

func TestViewOfBases(t *testing.T) {
	wantView(t, "an empty disk", impl.Disk{}, impl.ReplicaNew(), impl.StOk)
	wantView(t, "files of other names", syncedDisk("Base", "?", "bas", "?", "base.new", "?", "log.new", "?", "logs", "?"), impl.ReplicaNew(), impl.StOk)
	for _, s := range rightStates() {
		base := baseFrame(t, s.index, s.sessions, s.pairs)
		want := replicaOf(t, s.index, s.sessions, s.pairs)
		wantView(t, "a base", syncedDisk("base", base), want, impl.StOk)
		wantView(t, "a base, an empty log", syncedDisk("base", base, "log", ""), want, impl.StOk)
		wantView(t, "a base that is not synced", diskOf(nil, appendOp("base", base)), want, impl.StOk)
	}
	for _, c := range wrongDisks() {
		wantView(t, c.why, c.d, impl.Replica{}, impl.StDisk)
	}
}

// brokenBases: no base's data, one way or another.
func brokenBases(t *testing.T) map[string]string {
	t.Helper()
	base := baseFrame(t, 3, sessionsOf(1, 2), pairsOf("a", "1", "b", "2"))
	none := baseFrame(t, 0, nil, nil)
	list := map[string]string{
		"empty": "", "bytes": "?", "many bytes": letters(1000), "two frames": base + base, "two frames, others": none + base, "a byte behind": base + "\x00", "bytes behind": base + letters(20), "a piece of a frame behind": base + none[:11],
		"a byte ahead": "\x00" + base, "the text without a frame": base[12:], "a frame of nothing": plainFrame(""), "a frame of a frame": plainFrame(base), "a frame of a row": rowFrame(t, 1, numbered(1)), "a frame of a batch's text": plainFrame(impl.BatchText(batchOf(1, 9, "a", "1"))),
		"a frame of bytes": plainFrame("?"), "the text and a byte": plainFrame(base[12:] + "\x00"), "a text cut": plainFrame(base[12 : len(base)-1]), "a wrong length": "\x00\x00\x00\x01" + base[4:], "a wrong digest": turned(base, 5), "a wrong text": turned(base, len(base)-1),
		"the frame of another text": base[:12] + none[12:], "a list of nothing": plainFrame("\xc0"), "a nought ahead of the Index": plainFrame(listOf(t, "\x00", "")), "pairs that fall": baseFrame(t, 3, nil, pairsOf("b", "2", "a", "1")), "a value of 61": baseFrame(t, 3, nil, pairsOf("a", letters(61))),
		"seven sessions": baseFrame(t, 3, someSessions(7), nil), "an Index above MaxNumber": baseFrame(t, impl.MaxNumber+1, nil, nil), "61 pairs": baseFrame(t, 3, nil, numberPairs(61)), "more than MaxRlp bytes": plainFrame(letters(60001)),
	}
	for n := range base {
		list[fmt.Sprint("cut at ", n)] = base[:n]
	}
	return list
}

func TestViewOfBrokenDisks(t *testing.T) {
	for why, data := range brokenBases(t) {
		wantView(t, why, syncedDisk("base", data), impl.Replica{}, impl.StBad)
		wantView(t, why+", with a log", syncedDisk("base", data, "log", rowFrame(t, 1, numbered(1))), impl.Replica{}, impl.StBad)
		wantView(t, why+", a right one in Safe", impl.Disk{Live: filesOf("base", data), Safe: filesOf("base", "x"), Ops: []impl.DOp{removeOp("base"), appendOp("base", data)}}, impl.Replica{}, impl.StBad)
		wantView(t, why+", not right", impl.Disk{Live: filesOf("base", data)}, impl.Replica{}, impl.StDisk)
	}
}

// replicaBehind: what batches make of a replica, by chapter 10.
func replicaBehind(r impl.Replica, batches ...impl.Batch) impl.Replica {
	for _, b := range batches {
		r, _ = impl.Applied(r, r.Index+1, b)
	}
	return r
}

func TestViewOfLogs(t *testing.T) {
	fresh := impl.ReplicaNew()
	row := func(index int64) string { return rowFrame(t, index, numbered(index)) }
	one, two := replicaBehind(fresh, numbered(1)), replicaBehind(fresh, numbered(1), numbered(2))
	for _, c := range []struct {
		why, log string
		want     impl.Replica
	}{
		{"an empty log", "", fresh}, {"one row", row(1), one}, {"two rows", row(1) + row(2), two},
		{"a row again", row(1) + row(1), one}, {"rows again", row(1) + row(2) + row(1) + row(2), two}, {"a row again in between", row(1) + row(1) + row(2), two},
		{"another row of an index that was", row(1) + rowFrame(t, 1, numbered(7)) + row(2), two}, {"a row of the index 0", rowFrame(t, 0, numbered(7)) + row(1), one}, {"a row of the index 0 alone", rowFrame(t, 0, numbered(7)), fresh},
		{"a later index", row(2), fresh}, {"a later index, then the next", row(2) + row(1), fresh}, {"a later index behind one", row(1) + row(3), one}, {"a later index, the next behind it", row(1) + row(3) + row(2), one}, {"the greatest index", rowFrame(t, impl.MaxNumber, numbered(1)) + row(1), fresh},
		{"bytes behind", row(1) + "?", one}, {"bytes ahead", "?" + row(1), fresh}, {"bytes between", row(1) + "?" + row(2), one},
		{"no row, then one", plainFrame("?") + row(1), fresh}, {"no row behind one", row(1) + plainFrame("") + row(2), one}, {"a base's text", row(1) + baseFrame(t, 5, nil, nil), one},
	} {
		d := syncedDisk("log", c.log)
		wantView(t, c.why, d, c.want, impl.StOk)
		r, _, _ := plainView(t, d)
		wantView(t, c.why+", by the words", d, r, impl.StOk)
		wantView(t, c.why+", not synced", diskOf(nil, appendOp("log", c.log)), c.want, impl.StOk)
	}
	for n := range row(2) {
		wantView(t, "a cut row", syncedDisk("log", row(1)+row(2)[:n]), one, impl.StOk)
		wantView(t, "a turned row", syncedDisk("log", row(1)+turned(row(2), n)+row(2)), one, impl.StOk)
	}
}

// notRows: data of frames that are no rows, though 1 would come next.
func notRows(t *testing.T) map[string]string {
	t.Helper()
	b := numbered(1)
	text := impl.BatchText(b)
	list := map[string]string{
		"nothing": "", "bytes": "?", "a text": impl.RlpText("\x01"), "a list of nothing": "\xc0", "an index alone": listOf(t, "\x01"), "a batch alone": listOf(t, text), "a batch itself": text, "three texts": listOf(t, "\x01", text, ""), "three texts, two batches": listOf(t, "\x01", text, text),
		"the batch as a list": impl.RlpList([]string{impl.RlpText("\x01"), text}), "the index as a list": impl.RlpList([]string{"\xc1\x01", impl.RlpText(text)}), "a byte behind": rowText(t, 1, b) + "\x00", "cut": rowText(t, 1, b)[:10], "the other way": listOf(t, text, "\x01"),
		"a nought ahead of the index": listOf(t, "\x00\x01", text), "an index of a nought": listOf(t, "\x00", text), "an index above MaxNumber": rowText(t, impl.MaxNumber+1, b), "an index of 8 bytes": listOf(t, "\xff\xff\xff\xff\xff\xff\xff\xff", text), "an index of 9 bytes that would wrap to 1": listOf(t, "\x01\x00\x00\x00\x00\x00\x00\x00\x01", text), "an index of many bytes": listOf(t, letters(1000), text),
		"no batch": listOf(t, "\x01", ""), "a batch cut": listOf(t, "\x01", text[:len(text)-1]), "a batch and a byte": listOf(t, "\x01", text+"\x00"), "a replica's text": listOf(t, "\x01", "\xc2\x80\x80"),
	}
	for i, wrong := range wrongBatches() {
		if wrong.Client >= 0 && wrong.Number >= 0 && len(wrong.Ops) < 100 && !slices.ContainsFunc(wrong.Ops, func(op impl.Op) bool { return op.Cut && op.Value != "" || len(op.Value)+len(op.Key) > 1000 }) && !cutsWithoutSaying(wrong) {
			list[fmt.Sprint("a batch that is not right, ", i)] = rowText(t, 1, wrong)
		}
	}
	return list
}

// cutsWithoutSaying: its text is that of a right batch, which says Cut.
func cutsWithoutSaying(b impl.Batch) bool {
	read, ok := impl.ReadBatch(listOfQuietly(batchTexts(b)))
	return ok && !sameBatch(read, b)
}

func listOfQuietly(texts []string) string {
	var items []string
	for _, text := range texts {
		items = append(items, impl.RlpText(text))
	}
	return impl.RlpList(items)
}

func TestViewOfFramesThatAreNoRows(t *testing.T) {
	fresh := impl.ReplicaNew()
	row := func(index int64) string { return rowFrame(t, index, numbered(index)) }
	for why, data := range notRows(t) {
		frame := plainFrame(data)
		wantView(t, why, syncedDisk("log", frame+row(1)), fresh, impl.StOk)
		wantView(t, why+", behind one", syncedDisk("log", row(1)+frame+row(2)), replicaBehind(fresh, numbered(1)), impl.StOk)
		wantView(t, why+", where rows are passed over", syncedDisk("base", baseFrame(t, 9, nil, nil), "log", frame+row(10)), replicaOf(t, 9, nil, nil), impl.StOk)
		for _, act := range []impl.Act{logAct(numbered(1)), saveAct(-1)} {
			d := syncedDisk("log", frame)
			wantAct(t, why, d, act, d, impl.StTorn)
		}
		wantAct(t, why, syncedDisk("log", frame), openAct(-1), syncedDisk("base", baseFrame(t, 0, nil, nil)), impl.StOk)
	}
}

func TestViewOfBaseAndLog(t *testing.T) {
	base := replicaOf(t, 5, sessionsOf(1, 5, 9, 9), pairsOf("a", "1", "b", "2"))
	text := baseFrame(t, 5, sessionsOf(1, 5, 9, 9), pairsOf("a", "1", "b", "2"))
	log := ""
	for index := int64(1); index <= 5; index++ {
		log += rowFrame(t, index, numbered(index))
		wantView(t, "all passed over", syncedDisk("base", text, "log", log), base, impl.StOk)
	}
	six, seven := batchOf(1, 6, "a", "", "c", "3"), batchOf(2, 1, "b", "x")
	wantView(t, "passed over and then the next", syncedDisk("base", text, "log", log+rowFrame(t, 6, six)), replicaOf(t, 6, sessionsOf(1, 6, 9, 9), pairsOf("b", "2", "c", "3")), impl.StOk)
	wantView(t, "the next alone", syncedDisk("base", text, "log", rowFrame(t, 6, six)), replicaOf(t, 6, sessionsOf(1, 6, 9, 9), pairsOf("b", "2", "c", "3")), impl.StOk)
	wantView(t, "the next two", syncedDisk("base", text, "log", rowFrame(t, 6, six)+rowFrame(t, 7, seven)), replicaOf(t, 7, sessionsOf(1, 6, 2, 1, 9, 9), pairsOf("b", "x", "c", "3")), impl.StOk)
	wantView(t, "a later one", syncedDisk("base", text, "log", log+rowFrame(t, 7, seven)), base, impl.StOk)
	// What Applied refuses to do, but lets the index go on for, counts.
	old := rowFrame(t, 6, batchOf(1, 5, "a", "9")) + rowFrame(t, 7, seven)
	wantView(t, "a number that was", syncedDisk("base", text, "log", old), replicaOf(t, 7, sessionsOf(1, 5, 2, 1, 9, 9), pairsOf("a", "1", "b", "x")), impl.StOk)
	full := replicaOf(t, 5, someSessions(6), numberPairs(60))
	fullText := baseFrame(t, 5, someSessions(6), numberPairs(60))
	wantView(t, "a seventh client", syncedDisk("base", fullText, "log", rowFrame(t, 6, batchOf(7, 1, "0", "x"))), turnedTo(full, 6), impl.StOk)
	wantView(t, "a 61st pair", syncedDisk("base", fullText, "log", rowFrame(t, 6, batchOf(10, 2000, "x", "x"))+rowFrame(t, 7, batchOf(10, 2000, "0", ""))), replicaBehind(full, batchOf(10, 2000, "x", "x"), batchOf(10, 2000, "0", "")), impl.StOk)
	last := baseFrame(t, impl.MaxNumber-1, nil, nil)
	end := replicaOf(t, impl.MaxNumber, sessionsOf(1, 1), pairsOf("kb", "v1"))
	wantView(t, "the last index", syncedDisk("base", last, "log", rowFrame(t, impl.MaxNumber, numbered(1))), end, impl.StOk)
	wantView(t, "one behind the last index", syncedDisk("base", last, "log", rowFrame(t, impl.MaxNumber, numbered(1))+rowFrame(t, impl.MaxNumber+1, numbered(2))), end, impl.StOk)
}

// actRun makes an act's steps by the document's words, one by one.
type actRun struct {
	d    impl.Disk
	left int64
	code int64
}

func (r *actRun) step(made func(d impl.Disk) (impl.Disk, int64)) {
	if r.code != impl.StOk {
		return
	}
	if r.left == 0 {
		r.code = impl.StPower
		return
	}
	r.left--
	d, code := made(r.d)
	if code != impl.DkOk {
		r.code = impl.StFull
		return
	}
	r.d = d
}

func (r *actRun) do(op impl.DOp) {
	r.step(func(d impl.Disk) (impl.Disk, int64) { return plainDo(d, op) })
}

func (r *actRun) sync() {
	r.step(func(d impl.Disk) (impl.Disk, int64) { return impl.Disk{Live: d.Live, Safe: d.Live}, impl.DkOk })
}

func (r *actRun) gone(name string) {
	if slices.ContainsFunc(r.d.Live, func(f impl.File) bool { return f.Name == name }) {
		r.do(removeOp(name))
		r.sync()
	}
}

func (r *actRun) save(text string) {
	r.sync()
	r.gone("base.new")
	r.do(appendOp("base.new", plainFrame(text)))
	r.do(renameOp("base.new", "base"))
	r.sync()
	r.gone("log")
}

// plainAct: by the document's words, where d is right and Keep rises within Ops.
func plainAct(t *testing.T, d impl.Disk, a impl.Act) (impl.Disk, int64) {
	t.Helper()
	if a.Kind < 1 || a.Kind > 4 {
		return d, impl.StForm
	}
	if a.Kind == impl.AcCrash {
		left, ok := plainCrash(d, a.Keep, a.Torn)
		if !ok {
			return d, impl.StForm
		}
		d = left
	}
	r, good, broken := plainView(t, d)
	if broken {
		return d, impl.StBad
	}
	run := actRun{d: d, left: a.Power}
	switch {
	case a.Kind == impl.AcLog && (!impl.BatchOk(a.Batch) || r.Index == impl.MaxNumber):
		return d, impl.StForm
	case (a.Kind == impl.AcLog || a.Kind == impl.AcSave) && !good:
		return d, impl.StTorn
	case a.Kind == impl.AcLog:
		run.do(appendOp("log", rowFrame(t, r.Index+1, a.Batch)))
		if a.Sync {
			run.sync()
		}
	case a.Kind == impl.AcSave || !good:
		run.save(impl.ReplicaText(r))
	}
	if run.code == impl.StFull {
		return d, impl.StFull
	}
	return run.d, run.code
}

func wantAct(t *testing.T, why string, d impl.Disk, a impl.Act, want impl.Disk, wantCode int64) {
	t.Helper()
	ops, opsRoom := opsWithRoom(a.Batch.Ops)
	keepRoom := append(slices.Clone(a.Keep), -7, -7)
	keptOps, keptKeep := slices.Clone(opsRoom), slices.Clone(keepRoom)
	given := a
	given.Batch.Ops, given.Keep = ops, keepRoom[:len(a.Keep)]
	wantDisk(t, "DurableDo, "+why+", "+shownAct(a), d, want, func(d impl.Disk) impl.Disk {
		got, code := impl.DurableDo(d, given)
		if code != wantCode {
			t.Errorf("DurableDo, %s: of an %s on a %s: %d; want %d", why, shownAct(a), shownDisk(d), code, wantCode)
		}
		return got
	})
	if !slices.Equal(opsRoom, keptOps) || !slices.Equal(keepRoom, keptKeep) {
		t.Errorf("DurableDo, %s: writes into an act", why)
	}
	if wantCode != impl.StDisk {
		wantDiskOk(t, "behind DurableDo, "+why, want, true)
	}
}

// wantPlainAct: what the document's words make; told, for the next one.
func wantPlainAct(t *testing.T, why string, d impl.Disk, a impl.Act) (impl.Disk, int64) {
	t.Helper()
	want, code := plainAct(t, d, a)
	wantAct(t, why, d, a, want, code)
	return want, code
}

func TestActsOnWrongDisks(t *testing.T) {
	for _, c := range wrongDisks() {
		for _, kind := range []int64{impl.AcLog, impl.AcSave, impl.AcOpen, impl.AcCrash, 0, 5, -1} {
			wantAct(t, c.why, c.d, impl.Act{Kind: kind, Batch: numbered(1), Power: -1}, impl.Disk{}, impl.StDisk)
			wantAct(t, c.why, c.d, impl.Act{Kind: kind, Keep: []int64{-1}, Torn: -1}, impl.Disk{}, impl.StDisk)
		}
	}
}

func TestActsOfNoKind(t *testing.T) {
	broken := syncedDisk("base", "?", "log", "?")
	for _, d := range []impl.Disk{{}, syncedDisk("log", rowFrame(t, 1, numbered(1))), syncedDisk("log", "?"), broken, diskOf(nil, appendOp("log", "?")), diskOf(nil, manyOps(200)...)} {
		for _, kind := range []int64{0, 5, -1, 6, 9, -4, 1<<32 + 1, math.MaxInt64, math.MinInt64} {
			for _, a := range []impl.Act{{Kind: kind}, {Kind: kind, Batch: numbered(1), Power: -1}, {Kind: kind, Batch: numbered(1), Sync: true, Power: 0}, {Kind: kind, Keep: []int64{5, 5}, Torn: -1, Power: -1}} {
				wantAct(t, "no Kind", d, a, d, impl.StForm)
			}
		}
	}
}

func TestActsOnBrokenDisks(t *testing.T) {
	for why, data := range brokenBases(t) {
		for _, d := range []impl.Disk{syncedDisk("base", data), syncedDisk("base", data, "log", "?"), syncedDisk("base", data, "base.new", baseFrame(t, 1, nil, nil), "log", rowFrame(t, 1, numbered(1)))} {
			for _, a := range []impl.Act{logAct(numbered(1)), syncAct(numbered(1)), logAct(impl.Batch{}), withPower(logAct(numbered(1)), 0), saveAct(-1), saveAct(0), openAct(-1), openAct(0), crashAct(-1, 0), crashAct(0, 1000)} {
				wantAct(t, why, d, a, d, impl.StBad)
			}
			wantAct(t, why+", Torn", d, crashAct(-1, -1), d, impl.StForm)
		}
	}
}

func TestLogActs(t *testing.T) {
	row := func(index int64, b impl.Batch) impl.DOp { return appendOp("log", rowFrame(t, index, b)) }
	for i, b := range rightBatches() {
		if i%7 == 0 || i < 20 {
			wantAct(t, "each batch", impl.Disk{}, logAct(b), diskOf(nil, row(1, b)), impl.StOk)
			wantAct(t, "each batch, with Sync", impl.Disk{}, syncAct(b), diskOf(diskOf(nil, row(1, b)).Live), impl.StOk)
		}
	}
	one := diskOf(nil, row(1, numbered(1)))
	wantAct(t, "the next row", one, logAct(numbered(2)), diskOf(nil, row(1, numbered(1)), row(2, numbered(2))), impl.StOk)
	wantAct(t, "the same batch", one, logAct(numbered(1)), diskOf(nil, row(1, numbered(1)), row(2, numbered(1))), impl.StOk)
	wantAct(t, "the next row, both synced", one, syncAct(numbered(2)), syncedDisk("log", rowFrame(t, 1, numbered(1))+rowFrame(t, 2, numbered(2))), impl.StOk)
	for _, index := range []int64{0, 1, 127, 128, 255, 256, 65535, 1 << 32, impl.MaxNumber - 2, impl.MaxNumber - 1} {
		base := filesOf("base", baseFrame(t, index, nil, nil))
		wantAct(t, "behind a base", diskOf(base), logAct(numbered(1)), diskOf(base, row(index+1, numbered(1))), impl.StOk)
		then := diskOf(base, row(index+1, numbered(1)))
		if index == impl.MaxNumber-1 {
			wantAct(t, "Index of MaxNumber by the log", then, logAct(numbered(2)), then, impl.StForm)
		} else {
			wantAct(t, "behind a base and a row", then, logAct(numbered(2)), diskOf(base, row(index+1, numbered(1)), row(index+2, numbered(2))), impl.StOk)
		}
	}
	passed := syncedDisk("base", baseFrame(t, 2, nil, nil), "log", rowFrame(t, 1, numbered(1))+rowFrame(t, 2, numbered(2)))
	wantAct(t, "behind rows that are passed over", passed, logAct(numbered(3)), diskOf(passed.Safe, row(3, numbered(3))), impl.StOk)
	// What is not asked for with this Kind changes nothing.
	a := logAct(numbered(1))
	a.Keep, a.Torn = []int64{7, 7, -1}, -5
	wantAct(t, "Keep and Torn", impl.Disk{}, a, one, impl.StOk)
	kept := diskOf(filesOf("base.new", "?", "other", "x"), appendOp("other", "y"))
	wantAct(t, "other files", kept, logAct(numbered(1)), diskOf(kept.Safe, appendOp("other", "y"), row(1, numbered(1))), impl.StOk)
}

func TestLogActsThatAreRefused(t *testing.T) {
	good := syncedDisk("log", rowFrame(t, 1, numbered(1)))
	torn := syncedDisk("log", rowFrame(t, 1, numbered(1))+"?")
	end := syncedDisk("base", baseFrame(t, impl.MaxNumber, nil, nil))
	tornEnd := syncedDisk("base", baseFrame(t, impl.MaxNumber, nil, nil), "log", "?")
	fullOps := diskOf(nil, manyOps(200)...)
	for _, sync := range []bool{false, true} {
		for _, power := range []int64{-1, 0, 1, 2} {
			for _, b := range wrongBatches() {
				for _, d := range []impl.Disk{{}, good, torn, end, fullOps} {
					wantAct(t, "a batch that is not right", d, impl.Act{Kind: impl.AcLog, Batch: b, Sync: sync, Power: power}, d, impl.StForm)
				}
			}
			a := impl.Act{Kind: impl.AcLog, Batch: numbered(1), Sync: sync, Power: power}
			wantAct(t, "Index of MaxNumber", end, a, end, impl.StForm)
			wantAct(t, "Index of MaxNumber, ahead of a log that is not good", tornEnd, a, tornEnd, impl.StForm)
			wantAct(t, "a log that is not good", torn, a, torn, impl.StTorn)
			later := syncedDisk("log", rowFrame(t, 2, numbered(1)))
			wantAct(t, "a row of a later index", later, a, later, impl.StTorn)
		}
	}
	tornFull := diskOf(filesOf("log", "?"), slices.Repeat([]impl.DOp{renameOp("log", "log")}, 200)...)
	wantAct(t, "a log that is not good, ahead of a full disk", tornFull, logAct(numbered(1)), tornFull, impl.StTorn)
}

func TestPowerInLogActs(t *testing.T) {
	row := appendOp("log", rowFrame(t, 1, numbered(1)))
	for _, c := range []struct {
		sync  bool
		power int64
		want  impl.Disk
		code  int64
	}{
		{false, 0, impl.Disk{}, impl.StPower}, {false, 1, diskOf(nil, row), impl.StOk}, {false, 2, diskOf(nil, row), impl.StOk}, {false, -1, diskOf(nil, row), impl.StOk}, {false, -2, diskOf(nil, row), impl.StOk}, {false, math.MinInt64, diskOf(nil, row), impl.StOk},
		{true, 0, impl.Disk{}, impl.StPower}, {true, 1, diskOf(nil, row), impl.StPower}, {true, 2, syncedDisk("log", row.Data), impl.StOk}, {true, 3, syncedDisk("log", row.Data), impl.StOk}, {true, math.MaxInt64, syncedDisk("log", row.Data), impl.StOk}, {true, -1, syncedDisk("log", row.Data), impl.StOk},
	} {
		wantAct(t, "power", impl.Disk{}, impl.Act{Kind: impl.AcLog, Batch: numbered(1), Sync: c.sync, Power: c.power}, c.want, c.code)
	}
	for _, d := range []impl.Disk{diskOf(nil, appendOp("x", "1")), syncedDisk("base", baseFrame(t, 2, nil, nil))} {
		wantAct(t, "no power", d, withPower(syncAct(numbered(1)), 0), d, impl.StPower)
	}
}

// savedWith: the disk behind each step of a save, the first as it was.
func savedWith(t *testing.T, d impl.Disk, text string) []impl.Disk {
	t.Helper()
	has := func(name string) bool {
		return slices.ContainsFunc(d.Live, func(f impl.File) bool { return f.Name == name })
	}
	files := func(without ...string) []impl.File {
		return slices.DeleteFunc(slices.Clone(d.Live), func(f impl.File) bool { return slices.Contains(without, f.Name) })
	}
	list := []impl.Disk{d, diskOf(files())}
	if has("base.new") {
		list = append(list, diskOf(files(), removeOp("base.new")), diskOf(files("base.new")))
	}
	made, named := appendOp("base.new", plainFrame(text)), renameOp("base.new", "base")
	list = append(list, diskOf(files("base.new"), made), diskOf(files("base.new"), made, named))
	behind := list[len(list)-1].Live
	list = append(list, diskOf(behind))
	if has("log") {
		list = append(list, diskOf(behind, removeOp("log")), diskOf(diskOf(behind, removeOp("log")).Live))
	}
	return list
}

// wantSteps: the act with every Power, by the disks behind its steps.
func wantSteps(t *testing.T, why string, d impl.Disk, a impl.Act, list []impl.Disk) {
	t.Helper()
	last := len(list) - 1
	for _, power := range []int64{-1, -2, math.MinInt64, math.MaxInt64, int64(last), int64(last + 1), int64(last + 2)} {
		wantAct(t, why, d, withPower(a, power), list[last], impl.StOk)
	}
	for power := range last {
		wantAct(t, why, d, withPower(a, int64(power)), list[power], impl.StPower)
	}
}

type savedDisk struct {
	why   string
	d     impl.Disk
	text  string
	good  bool
	steps int
}

// disksToSave: with a log that is good and one that is not, with base.new and without.
func disksToSave(t *testing.T) []savedDisk {
	t.Helper()
	row := func(index int64) string { return rowFrame(t, index, numbered(index)) }
	text := func(n int64) string {
		var batches []impl.Batch
		for i := int64(1); i <= n; i++ {
			batches = append(batches, numbered(i))
		}
		return impl.ReplicaText(replicaBehind(impl.ReplicaNew(), batches...))
	}
	one := plainFrame(text(1))
	return []savedDisk{
		{"an empty disk", impl.Disk{}, text(0), true, 4},
		{"an empty log", syncedDisk("log", ""), text(0), true, 6},
		{"a log", syncedDisk("log", row(1)+row(2)), text(2), true, 6},
		{"a log that is not synced", diskOf(nil, appendOp("log", row(1)), appendOp("log", row(2))), text(2), true, 6},
		{"a base", syncedDisk("base", one), text(1), true, 4},
		{"a base and a log", syncedDisk("base", one, "log", row(2)), text(2), true, 6},
		{"a base and a log that is passed over", syncedDisk("base", one, "log", row(1)), text(1), true, 6},
		{"base.new", syncedDisk("base.new", "?"), text(0), true, 6},
		{"base.new, empty", syncedDisk("base.new", ""), text(0), true, 6},
		{"base, base.new and a log", diskOf(filesOf("base", one, "base.new", one[:9], "log", row(1)), appendOp("log", row(2))), text(2), true, 8},
		{"base.new in Live alone", diskOf(filesOf("base", one), appendOp("base.new", "x")), text(1), true, 6},
		{"base.new in Safe alone", diskOf(filesOf("base.new", "x", "log", row(1)), removeOp("base.new")), text(1), true, 6},
		{"log in Safe alone", diskOf(filesOf("base", one, "log", row(1)), removeOp("log")), text(1), true, 4},
		{"other files", diskOf(filesOf("a", "1", "base", one, "bases", "2", "log.new", "3", "logs", "4"), appendOp("z", "5")), text(1), true, 4},
		{"200 ops", diskOf(filesOf("log", row(1)), manyOps(200)...), text(1), true, 6},
		{"a log of bytes", syncedDisk("log", "?"), text(0), false, 6},
		{"a log that is cut", diskOf(nil, appendOp("log", row(1)), appendOp("log", row(2)[:20])), text(1), false, 6},
		{"a log of a later index", syncedDisk("base", one, "log", row(3)), text(1), false, 6},
		{"a log of a later index behind one", syncedDisk("base", one, "log", row(2)+row(4)), text(2), false, 6},
		{"a log of no row, and base.new", diskOf(filesOf("base", one, "base.new", one, "log", row(2)), appendOp("log", plainFrame(""))), text(2), false, 8},
		{"a log of bytes, others beside it", diskOf(filesOf("a", "1", "log.new", "2"), appendOp("log", letters(30))), text(0), false, 6},
	}
}

func TestSaveActs(t *testing.T) {
	for _, c := range disksToSave(t) {
		list := savedWith(t, c.d, c.text)
		if len(list) != c.steps+1 {
			t.Fatalf("%s: %d steps", c.why, len(list)-1)
		}
		if c.good {
			wantSteps(t, "save, "+c.why, c.d, saveAct(-1), list)
		} else {
			for _, power := range []int64{-1, 0, 1, 100} {
				wantAct(t, "save, "+c.why, c.d, saveAct(power), c.d, impl.StTorn)
			}
		}
		saved := list[c.steps]
		read, _ := impl.ReadReplica(c.text)
		wantView(t, "behind a save, "+c.why, saved, read, impl.StOk)
		wantFile(t, saved, "base", plainFrame(c.text))
		wantNoFile(t, c.why, saved, "log")
		wantNoFile(t, c.why, saved, "base.new")
		for power := range c.steps {
			wantView(t, "in a save, "+c.why, list[power], read, impl.StOk)
		}
	}
}

func TestOpenActs(t *testing.T) {
	for _, c := range disksToSave(t) {
		if !c.good {
			wantSteps(t, "open, "+c.why, c.d, openAct(-1), savedWith(t, c.d, c.text))
			continue
		}
		for _, power := range []int64{-1, 0, 1, 100} {
			wantAct(t, "open, "+c.why, c.d, openAct(power), c.d, impl.StOk)
		}
	}
}

func TestCrashActs(t *testing.T) {
	for _, c := range disksToSave(t) {
		n := len(c.d.Ops)
		left := diskOf(c.d.Live)
		if c.good {
			for _, power := range []int64{-1, 0, 1, 100} {
				wantAct(t, "crash, all kept, "+c.why, c.d, crashAct(power, 1000, places(n)...), left, impl.StOk)
			}
		} else {
			wantSteps(t, "crash, all kept, "+c.why, c.d, crashAct(-1, 1000, places(n)...), savedWith(t, left, c.text))
		}
		for _, a := range []impl.Act{crashAct(-1, -1), crashAct(0, -1), crashAct(-1, 0, -1), crashAct(-1, 0, int64(n)), crashAct(-1, 0, 0, 0), crashAct(-1, 0, 1, 0), crashAct(-1, math.MinInt64, places(n)...)} {
			wantAct(t, "crash that is refused, "+c.why, c.d, a, c.d, impl.StForm)
		}
		if n > 10 {
			continue
		}
		for _, keep := range subsets(n) {
			for _, torn := range []int64{0, 1, 12, 20, 1000} {
				for _, power := range []int64{-1, 0, 1, 3, 5, 6, 8} {
					wantPlainAct(t, "crash, "+c.why, c.d, crashAct(power, torn, keep...))
				}
			}
		}
	}
	// What is not asked for with this Kind changes nothing.
	a := crashAct(-1, 0)
	a.Batch, a.Sync = impl.Batch{Client: -1}, true
	wantAct(t, "Batch and Sync", diskOf(nil, appendOp("log", "?")), a, impl.Disk{}, impl.StOk)
}

func TestCrashActsOnBrokenDisks(t *testing.T) {
	base, row := baseFrame(t, 1, nil, pairsOf("a", "1")), rowFrame(t, 2, numbered(2))
	broken := diskOf(filesOf("base", base, "log", row), appendOp("base", "?"))
	wantAct(t, "broken ahead, right behind", broken, crashAct(-1, 0), diskOf(broken.Safe), impl.StOk)
	wantAct(t, "broken ahead, right behind, no power", broken, crashAct(0, 0), diskOf(broken.Safe), impl.StOk)
	wantAct(t, "broken ahead and behind", broken, crashAct(-1, 1, 0), diskOf(broken.Live), impl.StBad)
	wantAct(t, "broken ahead and behind, no power", broken, crashAct(0, 1, 0), diskOf(broken.Live), impl.StBad)
	wantAct(t, "broken, and torn to what it was", broken, crashAct(-1, 0, 0), diskOf(broken.Safe), impl.StOk)
	wantAct(t, "broken, and Keep", broken, crashAct(-1, 0, 1), broken, impl.StForm)
	wantAct(t, "broken, and Torn", broken, crashAct(-1, -1, 0), broken, impl.StForm)
	mended := diskOf(filesOf("base", "?", "log", "x"), removeOp("base"), appendOp("base", base))
	wantAct(t, "right ahead, broken behind", mended, crashAct(-1, 0), diskOf(mended.Safe), impl.StBad)
	wantAct(t, "right ahead, broken behind, torn", mended, crashAct(-1, 5, 0, 1), syncedDisk("base", base[:5], "log", "x"), impl.StBad)
	wantAct(t, "right ahead, both together", mended, crashAct(-1, 1000, 1), syncedDisk("base", "?"+base, "log", "x"), impl.StBad)
	wantSteps(t, "right ahead, saved behind", mended, crashAct(-1, 1000, 0, 1), savedWith(t, syncedDisk("base", base, "log", "x"), base[12:]))
	torn := diskOf(filesOf("base", "?", "log", "x"), removeOp("base"))
	wantSteps(t, "no base left", torn, crashAct(-1, 0, 0), savedWith(t, syncedDisk("log", "x"), "\xc2\x80\x80"))
	full := diskOf(filesOf("a", letters(150000)), removeOp("a"), appendOp("log", letters(60000)))
	wantAct(t, "too many bytes behind", full, crashAct(-1, 100000, 1), full, impl.StForm)
}

// Where a disk is full, at each place where a step can be refused.
func TestStepsThatAreRefused(t *testing.T) {
	row := rowFrame(t, 1, numbered(1))
	base := baseFrame(t, 0, nil, nil)
	saved := plainFrame(impl.ReplicaText(replicaBehind(impl.ReplicaNew(), numbered(1))))
	refused := func(why string, d impl.Disk, a impl.Act, at int64, left impl.Disk) {
		t.Helper()
		wantDiskOk(t, why, d, true)
		for _, power := range []int64{-1, at, at + 1, 100} {
			wantAct(t, why, d, withPower(a, power), left, impl.StFull)
		}
		for power := range at {
			want, code := plainAct(t, d, withPower(a, power))
			wantAct(t, why+", power is lost ahead", d, withPower(a, power), want, code)
			if code != impl.StPower {
				t.Errorf("%s: %d with power %d", why, code, power)
			}
		}
	}
	for _, a := range []impl.Act{logAct(numbered(1)), syncAct(numbered(1))} {
		for _, d := range []impl.Disk{diskOf(nil, manyOps(200)...), diskOf(someFiles(60, 0)), syncedDisk("a", letters(200001-len(row))), diskOf(nil, appendOp("a", letters(200000)))} {
			refused("a row", d, a, 1, d)
		}
		for _, d := range []impl.Disk{diskOf(nil, manyOps(199)...), diskOf(someFiles(59, 0)), diskOf(append(someFiles(59, 0), filesOf("log", "")...)), syncedDisk("a", letters(200000-len(row)))} {
			if _, code := wantPlainAct(t, "just room for a row", d, a); code != impl.StOk {
				t.Errorf("just room for a row: %d", code)
			}
		}
	}
	files := append(someFiles(59, 0), filesOf("log", row)...)
	bytes := syncedDisk("a", letters(200001-len(row)-len(saved)), "log", row)
	for _, d := range []impl.Disk{diskOf(files), bytes, diskOf(filesOf("a", letters(100)), appendOp("log", row), appendOp("z", letters(199900-len(row)))), diskOf(someFiles(58, 0), appendOp("log", row), appendOp("other", ""))} {
		refused("a base", d, saveAct(-1), 2, d)
		wantAct(t, "a base, with open there is none", d, openAct(-1), d, impl.StOk)
	}
	stale := syncedDisk("a", letters(200001-len(row)-len(saved)), "base.new", "", "log", row)
	refused("a base behind base.new", stale, saveAct(-1), 4, stale)
	for _, d := range []impl.Disk{diskOf(files[1:]), diskOf(append(filesOf("base.new", "?"), files[1:]...)), syncedDisk("a", letters(200000-len(row)-len(saved)), "log", row), syncedDisk("a", letters(199999-len(row)-len(saved)), "base.new", "?", "log", row), diskOf(filesOf("log", row), manyOps(200)...)} {
		if _, code := wantPlainAct(t, "just room for a base", d, saveAct(-1)); code != impl.StOk {
			t.Errorf("just room for a base: %d", code)
		}
	}
	torn := syncedDisk("a", letters(200001-30-len(base)), "log", letters(30))
	refused("open", torn, openAct(-1), 2, torn)
	refused("crash, nothing to lose", torn, crashAct(-1, 0), 2, torn)
	unsynced := diskOf(filesOf("a", letters(200001-30-len(base))), appendOp("log", letters(30)))
	refused("open, not synced", unsynced, openAct(-1), 2, unsynced)
	refused("crash: the disk as Crash left it", unsynced, crashAct(-1, 30, 0), 2, torn)
	wantPlainAct(t, "crash, a byte less", unsynced, crashAct(-1, 29, 0))
	if _, code := plainAct(t, unsynced, crashAct(-1, 29, 0)); code != impl.StOk {
		t.Error("no room behind a crash with a byte less")
	}
	many := diskOf(append(someFiles(59, 0), filesOf("log", "?")...))
	refused("open, 60 files", many, openAct(-1), 2, many)
	both := diskOf(someFiles(59, 0), appendOp("log", letters(200)))
	refused("crash, 60 files", both, crashAct(-1, 7, 0), 2, diskOf(append(someFiles(59, 0), filesOf("log", letters(7))...)))
}

// diskText: all of a disk, for digests that were worked out apart from the program.
func diskText(d impl.Disk) string {
	text := ""
	for _, files := range [][]impl.File{d.Live, d.Safe} {
		text += fmt.Sprintf("F%d;", len(files))
		for _, f := range files {
			text += fmt.Sprintf("%d:%s%d:%s", len(f.Name), f.Name, len(f.Data), f.Data)
		}
	}
	text += fmt.Sprintf("O%d;", len(d.Ops))
	for _, op := range d.Ops {
		text += fmt.Sprintf("%d;%d:%s%d:%s%d:%s", op.Kind, len(op.Name), op.Name, len(op.To), op.To, len(op.Data), op.Data)
	}
	return text
}

func TestPlay(t *testing.T) {
	for _, c := range wrongDisks() {
		for _, list := range [][]impl.Act{nil, {openAct(-1)}, {{Kind: 9}, saveAct(-1)}} {
			wantPlay(t, c.why, c.d, list, impl.Disk{})
		}
	}
	for _, d := range rightDisks() {
		wantPlay(t, "no act", d, nil, d)
		wantPlay(t, "no act", d, []impl.Act{}, d)
		wantPlay(t, "no Kind", d, []impl.Act{{Kind: 9}, {}, {Kind: -1}}, d, impl.StForm, impl.StForm, impl.StForm)
	}
	row := func(index int64) impl.DOp { return appendOp("log", rowFrame(t, index, numbered(index))) }
	wantPlay(t, "two rows", impl.Disk{}, []impl.Act{logAct(numbered(1)), logAct(numbered(2))}, diskOf(nil, row(1), row(2)), impl.StOk, impl.StOk)
	// What is refused, or has lost power, does not end the play.
	wantPlay(t, "refusals between", impl.Disk{}, []impl.Act{logAct(impl.Batch{}), logAct(numbered(1)), {Kind: 7}, withPower(logAct(numbered(9)), 0), crashAct(-1, -1), logAct(numbered(2)), withPower(syncAct(numbered(3)), 1), openAct(-1)}, diskOf(nil, row(1), row(2), row(3)),
		impl.StForm, impl.StOk, impl.StForm, impl.StPower, impl.StForm, impl.StOk, impl.StPower, impl.StOk)
	torn := diskOf(filesOf("log", row(1).Data), appendOp("log", "?"))
	wantPlay(t, "a log that is not good", torn, []impl.Act{logAct(numbered(2)), saveAct(-1), openAct(0), logAct(numbered(2)), crashAct(-1, 0), logAct(numbered(2))}, diskOf(torn.Safe, row(2)), impl.StTorn, impl.StTorn, impl.StPower, impl.StTorn, impl.StOk, impl.StOk)
	broken := syncedDisk("base", "?")
	wantPlay(t, "a broken disk", broken, []impl.Act{saveAct(-1), logAct(numbered(1)), {Kind: 0}, crashAct(-1, 0), openAct(-1)}, broken, impl.StBad, impl.StBad, impl.StForm, impl.StBad, impl.StBad)
}

func wantPlay(t *testing.T, why string, d impl.Disk, list []impl.Act, want impl.Disk, codes ...int64) {
	t.Helper()
	room := append(slices.Clone(list), impl.Act{Kind: -7}, impl.Act{Kind: -7})
	shown := func(list []impl.Act) string { return fmt.Sprint(list) }
	kept := shown(room)
	wantDisk(t, "DurablePlay, "+why, d, want, func(d impl.Disk) impl.Disk {
		got, played := impl.DurablePlay(d, room[:len(list)])
		if !slices.Equal(played, codes) {
			t.Errorf("DurablePlay, %s: on a %s: %v; want %v", why, shownDisk(d), played, codes)
		}
		for i := range played {
			played[i] = -7
		}
		if _, again := impl.DurablePlay(d, room[:len(list)]); !slices.Equal(again, codes) {
			t.Errorf("DurablePlay, %s: on a %s, once more: %v; want %v", why, shownDisk(d), again, codes)
		}
		return got
	})
	if shown(room) != kept {
		t.Errorf("DurablePlay, %s: writes into its acts", why)
	}
}

func randomAct(source *rand.Rand, d impl.Disk) impl.Act {
	a := impl.Act{Kind: []int64{1, 1, 1, 1, 2, 3, 4, 4, int64(source.Intn(8)) - 1}[source.Intn(9)], Sync: source.Intn(3) == 0, Power: int64(source.Intn(10)) - 1, Torn: []int64{0, 1, 12, 25, 1000}[source.Intn(5)]}
	if source.Intn(2) == 0 {
		a.Power = -1
	}
	a.Batch = withNumbers(1+source.Int63n(8), 1+source.Int63n(9), randomOps(source, 1+source.Intn(3)))
	if source.Intn(20) == 0 {
		a.Batch.Client = 0
	}
	for place := range int64(len(d.Ops)) {
		if source.Intn(3) > 0 {
			a.Keep = append(a.Keep, place)
		}
	}
	return a
}

// Acts against the document's words, one by one; and in two pieces.
func TestActsByTheWords(t *testing.T) {
	source := rand.New(rand.NewSource(22))
	counts := map[int64]int{}
	starts := []impl.Disk{{}, {}, {}, {}, syncedDisk("base.new", "?", "log", "?"), diskOf(someFiles(59, 10)), syncedDisk("a", letters(199800)), syncedDisk("base", baseFrame(t, impl.MaxNumber-2, someSessions(5), numberPairs(3)), "other", "x"), diskOf(filesOf("base", "?"), removeOp("base")), diskOf(filesOf("base", baseFrame(t, 7, nil, pairsOf("a", "1"))), appendOp("base", "?"))}
	for round := range 40 {
		start := starts[round%len(starts)]
		d := start
		var acts []impl.Act
		var codes []int64
		disks := []impl.Disk{start}
		for range 14 {
			a := randomAct(source, d)
			then, code := wantPlainAct(t, "by the words", d, a)
			if code != impl.StOk && code != impl.StPower && a.Kind != impl.AcCrash && !sameDisk(then, d) {
				t.Errorf("an %s that is refused (%d) leaves another disk", shownAct(a), code)
			}
			if r, _, broken := plainView(t, then); broken {
				wantView(t, "by the words", then, impl.Replica{}, impl.StBad)
			} else {
				wantView(t, "by the words", then, r, impl.StOk)
			}
			d = then
			counts[code]++
			acts, codes, disks = append(acts, a), append(codes, code), append(disks, d)
		}
		for _, cut := range []int{0, 1, 7, 13, 14} {
			wantPlay(t, "the first piece", start, acts[:cut], disks[cut], codes[:cut]...)
			wantPlay(t, "the second piece", disks[cut], acts[cut:], d, codes[cut:]...)
		}
	}
	for _, code := range []int64{impl.StOk, impl.StBad, impl.StForm, impl.StFull, impl.StPower, impl.StTorn} {
		if counts[code] < 5 {
			t.Errorf("codes: %v", counts)
		}
	}
}

// The digests were worked out apart from the program.
func TestKnownJournal(t *testing.T) {
	d := impl.Disk{}
	for i, c := range []struct {
		a     impl.Act
		code  int64
		all   string
		index int64
		root  string
	}{
		{syncAct(batchOf(7, 1, "dog", "puppy", "do", "verb")), impl.StOk, "4846403ca80707f803b8048a", 1, "b804ed1ea4c7b8b2"},
		{logAct(batchOf(3, 5, "doge", "coin", "", "root", "horse", "stallion")), impl.StOk, "5741ca7ae547c8715be9c6e4", 2, "24e87a564854ef3f"},
		{logAct(batchOf(7, 1, "dog", "again")), impl.StOk, "9e3f1d0f4708d2b4ed28c6ba", 3, "24e87a564854ef3f"},
		{crashAct(-1, 30, 0, 1), impl.StOk, "4cafd24061b16d4c7358e6a7", 3, "24e87a564854ef3f"},
		{withPower(syncAct(batchOf(7, 2, "do", "", "none", "", "dog", "hound")), 1), impl.StPower, "04037ebe52873c3b25dd06ba", 4, "1533db74344eee1e"},
		{crashAct(-1, 1000, 0), impl.StOk, "c4369385968df3b734b519b4", 4, "1533db74344eee1e"},
		{saveAct(2), impl.StPower, "e369e13befa72bd2f05088a0", 4, "1533db74344eee1e"},
		{logAct(batchOf(1, 9, "a", strings.Repeat("x", 60))), impl.StOk, "d625378578796d23e3ef0253", 5, "31c1bc1b60a81e01"},
		{crashAct(-1, 11, 0, 1), impl.StOk, "592968c7b1adb30cc227e529", 4, "1533db74344eee1e"},
		{syncAct(batchOf(1, 9, "a", "y")), impl.StOk, "1b71a011cd057cfaaf3144aa", 5, "4038d018085c7cac"},
		{saveAct(4), impl.StPower, "3c5c0c09640bd0dd44642a90", 5, "4038d018085c7cac"},
		{logAct(batchOf(impl.MaxNumber, impl.MaxNumber, "", "", "aaaaaaaaaaaa", strings.Repeat("z", 60))), impl.StOk, "87e1258fb35ebc177d2ad7dd", 6, "b8a7dcd1b4a96410"},
		{crashAct(2, 0), impl.StOk, "3c5c0c09640bd0dd44642a90", 5, "4038d018085c7cac"},
		{logAct(batchOf(2, 1, "b", "2")), impl.StOk, "0c1ba33e8046209788a481c8", 6, "a44deae877d84916"},
		{openAct(1), impl.StOk, "0c1ba33e8046209788a481c8", 6, "a44deae877d84916"},
		{openAct(-1), impl.StOk, "0c1ba33e8046209788a481c8", 6, "a44deae877d84916"},
		{logAct(batchOf(0, 1, "b", "2")), impl.StForm, "0c1ba33e8046209788a481c8", 6, "a44deae877d84916"},
		{logAct(batchOf(2, 1, "b", "2")), impl.StOk, "3802c35f8659188f1141778b", 7, "a44deae877d84916"},
		{logAct(batchOf(2, 2, "b", "3")), impl.StOk, "06a28f96ef51f6bafa2d3e45", 8, "ea1744c2c164813f"},
		{crashAct(0, 1000, 1), impl.StPower, "6d2e0151d15dedc0f6b4ce8b", 5, "4038d018085c7cac"},
		{logAct(batchOf(2, 3, "b", "4")), impl.StTorn, "6d2e0151d15dedc0f6b4ce8b", 5, "4038d018085c7cac"},
		{saveAct(-1), impl.StTorn, "6d2e0151d15dedc0f6b4ce8b", 5, "4038d018085c7cac"},
		{openAct(3), impl.StPower, "6d863344772d53bab65c331d", 5, "4038d018085c7cac"},
		{crashAct(2, 1, 0), impl.StPower, "9154bf934384d9c6fec931ff", 5, "4038d018085c7cac"},
		{openAct(-1), impl.StOk, "c65280d78679b737daaf0aa2", 5, "4038d018085c7cac"},
		{saveAct(3), impl.StPower, "f90db7aeb8ee43db439add9c", 5, "4038d018085c7cac"},
		{saveAct(5), impl.StOk, "c65280d78679b737daaf0aa2", 5, "4038d018085c7cac"},
		{crashAct(-1, 5, 2), impl.StForm, "c65280d78679b737daaf0aa2", 5, "4038d018085c7cac"},
		{crashAct(-1, 0, 0, 0), impl.StForm, "c65280d78679b737daaf0aa2", 5, "4038d018085c7cac"},
		{logAct(batchOf(2, 1, "b", "2")), impl.StOk, "abab4fc2fb88545b128002b6", 6, "a44deae877d84916"},
		{saveAct(5), impl.StPower, "78f8f1982827d3f1e5904503", 6, "a44deae877d84916"},
		{logAct(batchOf(2, 4, "b", "5")), impl.StOk, "abc0197d6ba135a03b14f215", 7, "cd386e132a22304f"},
		{crashAct(-1, 1000, 1), impl.StOk, "6fae8d1b2b18365de582cc4e", 7, "cd386e132a22304f"},
		{saveAct(-1), impl.StOk, "27c3f92c159c75c7564a1fd5", 7, "cd386e132a22304f"},
	} {
		var code int64
		d, code = impl.DurableDo(d, c.a)
		r, viewed := impl.DurableView(d)
		all := impl.Hex(librarySum(diskText(d)))
		if code != c.code || all[:24] != c.all || viewed != impl.StOk || r.Index != c.index || impl.Hex(r.Root)[:16] != c.root {
			t.Fatalf("act %d, an %s: %d, a %s (%s), a %s (%d)", i, shownAct(c.a), code, shownDisk(d), all[:24], shownReplica(r), viewed)
		}
	}
}

// world: a disk that came to be from an empty one; the batches that were logged on it and not lost; how many of these were synced or saved; how many were ever logged.
type world struct {
	d      impl.Disk
	logged []impl.Batch
	sure   int
	tries  int64
}

func (w world) key() string {
	key := fmt.Sprint(w.sure, w.tries)
	for _, b := range w.logged {
		key += fmt.Sprint(" ", b.Number)
	}
	return key + diskText(w.d)
}

// replicasMade: what beginnings of batches make, kept by their numbers.
type replicasMade map[string]impl.Replica

func (made replicasMade) behind(batches []impl.Batch) impl.Replica {
	key := ""
	for _, b := range batches {
		key += fmt.Sprint(" ", b.Number)
	}
	r, ok := made[key]
	if !ok {
		r = replicaBehind(impl.ReplicaNew(), batches...)
		made[key] = r
	}
	return r
}

// wantWorld does an act that the promise allows in a world, and tells the world behind it.
func wantWorld(t *testing.T, w world, a impl.Act, made replicasMade) world {
	t.Helper()
	_, good, _ := plainView(t, w.d)
	d, code := impl.DurableDo(w.d, a)
	r, viewed := impl.DurableView(d)
	n := len(w.logged)
	then := world{d: d, logged: w.logged, sure: w.sure, tries: w.tries}
	switch {
	case a.Kind == impl.AcCrash:
		kept := int(min(r.Index, int64(n)))
		then.logged, then.sure = slices.Clone(w.logged[:kept]), kept
	case code == impl.StTorn && !good:
	case a.Kind == impl.AcLog && a.Power != 0:
		then.logged = append(slices.Clone(w.logged), a.Batch)
		then.tries++
		if a.Sync && code == impl.StOk {
			then.sure = n + 1
		}
	case (a.Kind == impl.AcSave || !good) && a.Power != 0:
		then.sure = n
	}
	wrong := code != impl.StOk && code != impl.StPower && (code != impl.StTorn || good || !sameDisk(d, w.d))
	if wrong || viewed != impl.StOk || len(then.logged) < w.sure || !sameReplica(r, made.behind(then.logged)) || !impl.DiskOk(d) {
		t.Fatalf("an %s on a %s, %d batches, %d sure: %d, a %s, a %s (%d)", shownAct(a), shownDisk(w.d), n, w.sure, code, shownDisk(d), shownReplica(r), viewed)
	}
	return then
}

// actsIn: what can be done in a world, with each loss of power that can matter, and each choice of what is kept.
func actsIn(w world, torn []int64) []impl.Act {
	b := numbered(w.tries + 1)
	list := []impl.Act{logAct(b), syncAct(b), withPower(syncAct(b), 1), withPower(syncAct(b), 0)}
	for power := int64(-1); power < 8; power++ {
		list = append(list, saveAct(power), openAct(power))
	}
	for _, keep := range subsets(len(w.d.Ops)) {
		some := torn[:1]
		if len(keep) > 0 && w.d.Ops[keep[len(keep)-1]].Kind == impl.DkAppend {
			some = torn
		}
		for _, bytes := range some {
			for power := int64(-1); power < 8; power++ {
				list = append(list, crashAct(power, bytes, keep...))
			}
		}
	}
	return list
}

// From an empty disk on: each act with each loss of power and each choice of what is kept, and from each disk that comes of that again.
func TestEachLossOfPower(t *testing.T) {
	made := replicasMade{}
	seen := map[string]bool{}
	now := []world{{}}
	lost, later := 0, 0
	for range 5 {
		var next []world
		for _, w := range now {
			for _, a := range actsIn(w, []int64{1000, 0, 15}) {
				then := wantWorld(t, w, a, made)
				if len(then.logged) < len(w.logged) {
					lost++
				}
				if then.tries > int64(len(then.logged)) && a.Kind == impl.AcLog {
					later++
				}
				if key := then.key(); !seen[key] {
					seen[key] = true
					next = append(next, then)
				}
			}
		}
		now = next
	}
	if len(seen) < 500 || lost < 100 || later < 100 {
		t.Errorf("%d worlds, %d losses, %d rows behind a loss", len(seen), lost, later)
	}
}

// Longer ways, each by chance.
func TestLossesOfPowerByChance(t *testing.T) {
	source := rand.New(rand.NewSource(23))
	made := replicasMade{}
	for range 60 {
		w := world{}
		for range 30 {
			if len(w.d.Ops) > 5 {
				w = wantWorld(t, w, crashAct(-1, source.Int63n(60), subsets(len(w.d.Ops))[source.Intn(1<<len(w.d.Ops))]...), made)
			}
			acts := actsIn(w, []int64{source.Int63n(60)})
			a := acts[source.Intn(len(acts))]
			if source.Intn(2) == 0 {
				a = acts[source.Intn(4)]
			}
			w = wantWorld(t, w, a, made)
		}
	}
}

// Each byte at which an append can be torn, in a row and in a base.
func TestEachTornByte(t *testing.T) {
	made := replicasMade{}
	for _, acts := range [][]impl.Act{
		{logAct(numbered(1))},
		{syncAct(numbered(1)), logAct(numbered(2)), logAct(numbered(3))},
		{syncAct(numbered(1)), saveAct(2)},
		{syncAct(numbered(1)), saveAct(3)},
		{syncAct(numbered(1)), saveAct(-1), logAct(numbered(2)), saveAct(2)},
		{syncAct(numbered(1)), saveAct(5), logAct(numbered(2))},
		{logAct(numbered(1)), saveAct(2), crashAct(-1, 20, 0), saveAct(4), logAct(numbered(2))},
		{logAct(numbered(1)), logAct(numbered(2)), crashAct(2, 20, 1)},
	} {
		w := world{}
		for _, a := range acts {
			w = wantWorld(t, w, a, made)
		}
		longest := 0
		for _, op := range w.d.Ops {
			longest = max(longest, len(op.Data))
		}
		for _, keep := range subsets(len(w.d.Ops)) {
			for torn := range longest + 2 {
				for _, power := range []int64{-1, 0, 3} {
					then := wantWorld(t, w, crashAct(power, int64(torn), keep...), made)
					if power < 0 {
						wantWorld(t, then, syncAct(numbered(9)), made)
					}
				}
			}
		}
	}
}
