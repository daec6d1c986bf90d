package tests

import (
	"encoding/binary"
	"fmt"
	"math"
	"math/rand"
	"slices"
	"strings"
	"testing"

	"loop.example/g00226/impl"
)

// opsOf: keys and values by turns; one without a value is cut.
func opsOf(texts ...string) []impl.Op {
	var ops []impl.Op
	for _, pair := range pairsOf(texts...) {
		ops = append(ops, impl.Op{Key: pair.Key, Value: pair.Value, Cut: pair.Value == ""})
	}
	return ops
}

func batchOf(client, number int64, texts ...string) impl.Batch {
	return impl.Batch{Client: client, Number: number, Ops: opsOf(texts...)}
}

// withOps: a batch that is right as far as these ops are.
func withOps(ops ...impl.Op) impl.Batch {
	return impl.Batch{Client: 1, Number: 1, Ops: ops}
}

// someOps: n ops on keys that are not alike, with a cut here and there.
func someOps(n int) []impl.Op {
	var ops []impl.Op
	for i := range n {
		op := impl.Op{Key: "k" + oneByte('a'+i), Value: "v" + oneByte(i)}
		if i%5 == 3 {
			op = impl.Op{Key: op.Key, Cut: true}
		}
		ops = append(ops, op)
	}
	return ops
}

// rightNumbers: each end of what a Client or a Number may be, and some in between.
func rightNumbers() []int64 {
	return []int64{1, 2, 49, 127, 128, 255, 256, 65535, 65536, 1 << 32, 0xe7ffffffff, impl.MaxNumber - 1, impl.MaxNumber}
}

func wrongNumbers() []int64 {
	return []int64{0, -1, -2, -impl.MaxNumber, impl.MaxNumber + 1, impl.MaxNumber + 2, 1 << 40, 1<<40 + 1, 1<<56 + 1, math.MaxInt64, math.MinInt64, math.MinInt64 + 1}
}

func rightBatches() []impl.Batch {
	list := []impl.Batch{
		batchOf(1, 1, "a", "1"),
		batchOf(1, 1, "a", ""),
		batchOf(1, 1, "", "1"),
		batchOf(1, 1, "", ""),
		batchOf(7, 300, "a", "1", "a", "", "a", "2", "a", "2"),
		batchOf(1, 2, "\x00", "\x00", "\x80", "\x80", "\x7f", "\xff"),
		batchOf(1, 2, "\xc0\xc1", "\xc0", "\x81", "\x80\x80"),
	}
	for _, a := range rightNumbers() {
		for _, b := range rightNumbers() {
			list = append(list, impl.Batch{Client: a, Number: b, Ops: someOps(2)})
		}
	}
	for n := 1; n <= impl.MaxBatch; n++ {
		list = append(list, withOps(someOps(n)...))
	}
	for _, key := range []string{"", letters(1), letters(11), letters(12), strings.Repeat("\x00", 12), strings.Repeat("\xff", 12)} {
		for _, value := range []string{"", letters(1), "\x00", letters(2), letters(55), letters(56), letters(59), letters(60)} {
			list = append(list, batchOf(3, 4, key, value), batchOf(3, 4, slices.Repeat([]string{key, value}, 12)...))
		}
	}
	return list
}

// wrongOps: not right, one way or another.
func wrongOps() []impl.Op {
	return []impl.Op{
		{}, {Key: "a"}, {Key: letters(12)}, {Key: letters(13), Value: "1"}, {Key: letters(13), Cut: true}, {Key: letters(1000), Value: "1"},
		{Key: "a", Value: letters(61)}, {Value: letters(61)}, {Key: "a", Value: letters(1000)}, {Key: "a", Value: letters(impl.MaxRlp + 1)},
		{Key: letters(impl.MaxRlp + 1), Cut: true}, {Key: letters(13)},
		{Key: "a", Value: "1", Cut: true}, {Value: "1", Cut: true}, {Key: "a", Value: letters(60), Cut: true}, {Key: "a", Value: letters(61), Cut: true},
	}
}

func wrongBatches() []impl.Batch {
	list := []impl.Batch{
		{}, {Client: 1, Number: 1}, {Client: 1, Number: 1, Ops: []impl.Op{}}, {Ops: opsOf("a", "1")},
		withOps(someOps(13)...), withOps(someOps(14)...), withOps(slices.Repeat(opsOf("a", "1"), 13)...), withOps(slices.Repeat(opsOf("a", ""), 1000)...),
	}
	for _, n := range wrongNumbers() {
		list = append(list, batchOf(n, 1, "a", "1"), batchOf(1, n, "a", "1"), batchOf(n, n, "a", "1"))
	}
	for _, op := range wrongOps() {
		list = append(list, withOps(op))
		for _, place := range []int{0, 1, 11} {
			ops := someOps(12)
			ops[place] = op
			list = append(list, withOps(ops...))
		}
	}
	return list
}

// shownOps: for what a test tells; not the whole of long ones.
func shownOps(ops []impl.Op) string {
	var all []string
	for _, op := range ops[:min(len(ops), 14)] {
		all = append(all, fmt.Sprintf("%.14q=%.14q %v", op.Key, op.Value, op.Cut))
	}
	return fmt.Sprintf("%d ops %s", len(ops), strings.Join(all, ", "))
}

func shownBatch(b impl.Batch) string {
	return fmt.Sprintf("batch %d/%d of %s", b.Client, b.Number, shownOps(b.Ops))
}

func sameBatch(a, b impl.Batch) bool {
	return a.Client == b.Client && a.Number == b.Number && slices.Equal(a.Ops, b.Ops)
}

// plainNumber: a number's text, by the document's words.
func plainNumber(n int64) string {
	return strings.TrimLeft(string(binary.BigEndian.AppendUint64(nil, uint64(n))), "\x00")
}

// batchTexts: the texts whose list a batch's text is.
func batchTexts(b impl.Batch) []string {
	texts := []string{plainNumber(b.Client), plainNumber(b.Number)}
	for _, op := range b.Ops {
		texts = append(texts, op.Key, op.Value)
	}
	return texts
}

func wantBatch(t *testing.T, s string, want impl.Batch) {
	t.Helper()
	if b, ok := impl.ReadBatch(s); !ok || !sameBatch(b, want) {
		t.Errorf("ReadBatch of %.60q: %s, %v; want %s", s, shownBatch(b), ok, shownBatch(want))
	}
}

func wantNoBatch(t *testing.T, why, s string) {
	t.Helper()
	if b, ok := impl.ReadBatch(s); ok || !sameBatch(b, impl.Batch{}) {
		t.Errorf("ReadBatch, %s: %.60q: %s, %v", why, s, shownBatch(b), ok)
	}
}

// wantBatchAgain: what is read is right, and written again to just its bytes.
func wantBatchAgain(t *testing.T, s string) {
	t.Helper()
	b, ok := impl.ReadBatch(s)
	if !ok {
		wantNoBatch(t, "refused", s)
		return
	}
	if again := impl.BatchText(b); !impl.BatchOk(b) || again != s {
		t.Errorf("%.60q is read as %s, whose text is %.60q", s, shownBatch(b), again)
	}
}

func TestBatchesThatAreRight(t *testing.T) {
	for _, b := range rightBatches() {
		if !impl.BatchOk(b) {
			t.Errorf("BatchOk of %s", shownBatch(b))
		}
	}
	for _, b := range wrongBatches() {
		if impl.BatchOk(b) {
			t.Errorf("BatchOk of %s", shownBatch(b))
		}
		if s := impl.BatchText(b); s != "" {
			t.Errorf("BatchText of %s: %.40q", shownBatch(b), s)
		}
	}
	if impl.MaxNumber != 1000000000000 || impl.MaxBatch != 12 {
		t.Error("another limit")
	}
}

func TestKnownBatchTexts(t *testing.T) {
	for _, c := range []struct {
		b    impl.Batch
		text string
	}{
		{batchOf(1, 1, "a", "1"), "\xc4\x01\x01a1"},
		{batchOf(127, 128, "", ""), "\xc5\x7f\x81\x80\x80\x80"},
		{batchOf(7, 1, "dog", "puppy", "do", "verb"), "\xd4\x07\x01\x83dog\x85puppy\x82do\x84verb"},
		{batchOf(256, 300, "do", "", "\x80", "\x00"), "\xcd\x82\x01\x00\x82\x01\x2c\x82do\x80\x81\x80\x00"},
		{batchOf(impl.MaxNumber, impl.MaxNumber, "", "", strings.Repeat("a", 12), letters(60)), "\xf8\x59\x85\xe8\xd4\xa5\x10\x00\x85\xe8\xd4\xa5\x10\x00\x80\x80\x8caaaaaaaaaaaa\xb8\x3c" + letters(60)},
	} {
		if s := impl.BatchText(c.b); s != c.text {
			t.Errorf("BatchText of %s: %q", shownBatch(c.b), s)
		}
		wantBatch(t, c.text, c.b)
	}
}

func TestBatchesComeBack(t *testing.T) {
	seen := map[string]impl.Batch{}
	for _, b := range rightBatches() {
		text := listOf(t, batchTexts(b)...)
		if s := impl.BatchText(b); s != text {
			t.Errorf("BatchText of %s: %.60q", shownBatch(b), s)
		}
		wantBatch(t, text, b)
		if other, ok := seen[text]; ok && !sameBatch(other, b) {
			t.Errorf("%.60q is the text of %s and of %s", text, shownBatch(b), shownBatch(other))
		}
		seen[text] = b
	}
}

// textsOfNoNumber: such as no Client and no Number from 1 on has.
func textsOfNoNumber() []string {
	return []string{
		"", "\x00", "\x00\x01", "\x00\x80", "\x00\x00", "\x00\xe8\xd4\xa5\x10\x00", "\x00\x00\x00\x00\x00\x00\x00\x01",
		"\xe8\xd4\xa5\x10\x01", "\xe8\xd4\xa5\x11\x00", "\xe9\xd4\xa5\x10\x00", "\xff\xff\xff\xff\xff", "\x01\x00\x00\x00\x00\x00",
		"\x7f\xff\xff\xff\xff\xff\xff\xff", "\x80\x00\x00\x00\x00\x00\x00\x00", "\x80\x00\x00\x00\x00\x00\x00\x01", "\xff\xff\xff\xff\xff\xff\xff\xff",
		"\x01\x00\x00\x00\x00\x00\x00\x00\x00", "\x01\x00\x00\x00\x00\x00\x00\x00\x01", "\x01\x00\x00\x00\x00\x00\x00\x00\x00\x00\x00\x00\x00\x00\x00\x00\x01",
		"1000000000000", "12345678901234567890", strings.Repeat("\x01", 20), strings.Repeat("\x00", 19) + "\x01", strings.Repeat("9", 1000), strings.Repeat("\x00", 50000),
		"-12345", "+12345",
	}
}

func TestNoBatchIsRead(t *testing.T) {
	for _, text := range textsOfNoNumber() {
		wantNoBatch(t, "no Client", listOf(t, text, "\x01", "a", "1"))
		wantNoBatch(t, "no Number", listOf(t, "\x01", text, "a", "1"))
	}
	for _, c := range []struct{ why, s string }{
		{"nothing", ""}, {"a text", "a"}, {"an empty text", "\x80"}, {"no texts", "\xc0"},
		{"a Client alone", "\xc1\x01"}, {"no op", "\xc2\x01\x01"}, {"a Key without its Value", "\xc3\x01\x01a"},
		{"a Key without its Value", "\xc5\x01\x01a1b"}, {"a Key without its Value", "\xc7\x01\x01a1b2c"},
		{"13 ops", listOf(t, batchTexts(withOps(someOps(13)...))...)}, {"13 cuts", listOf(t, append([]string{"\x01", "\x01"}, make([]string, 26)...)...)},
		{"12 ops and a Key", listOf(t, append(batchTexts(withOps(someOps(12)...)), "a")...)},
		{"many ops", listOf(t, strings.Split(strings.Repeat("\x01", impl.MaxRlp), "")...)},
		{"a Key of 13", listOf(t, "\x01", "\x01", letters(13), "1")}, {"a Key of 13 that is cut", listOf(t, "\x01", "\x01", letters(13), "")},
		{"a Value of 61", listOf(t, "\x01", "\x01", "a", letters(61))}, {"a second Value of 61", listOf(t, "\x01", "\x01", "a", "1", "a", letters(61))},
		{"a long Key", listOf(t, "\x01", "\x01", letters(50000), "1")}, {"a long Value", listOf(t, "\x01", "\x01", "a", letters(50000))},
		{"a byte with a head", "\xc5\x81\x01\x01a1"}, {"a long form", "\xf8\x04\x01\x01a1"}, {"a list in a list", "\xc5\xc4\x01\x01a1"},
		{"too long", letters(1 << 20)},
	} {
		wantNoBatch(t, c.why, c.s)
	}
	items := []string{}
	for _, text := range batchTexts(batchOf(5, 6, "a", "1", "b", "")) {
		items = append(items, impl.RlpText(text))
	}
	for place := range items {
		for _, list := range []string{"\xc0", "\xc1\x01", "\xc2\x01\x01"} {
			wantNoBatch(t, "a list in place of a text", impl.RlpList(changedAt(items, place, list)))
		}
	}
}

// Numbers are bytes, not digits: a sign and figures are a number like others.
func TestNumbersAreBytes(t *testing.T) {
	for text, n := range map[string]int64{"\x01": 1, "1": 49, "-": 45, "-1": 45*256 + 49, "12": 49*256 + 50, "-1234": 45<<32 + 49<<24 + 50<<16 + 51<<8 + 52, "\xe8\xd4\xa5\x10\x00": impl.MaxNumber, "\xe8\xd4\xa5\x0f\xff": impl.MaxNumber - 1, "\x01\x00": 256} {
		wantBatch(t, listOf(t, text, "\x01", "a", "1"), batchOf(n, 1, "a", "1"))
		wantBatch(t, listOf(t, "\x01", text, "a", "1"), batchOf(1, n, "a", "1"))
	}
}

// turnedTexts asks of a text with a byte turned, one left out or one more, in each of its first hundred places.
func turnedTexts(text string, ask func(s string)) {
	for i := range min(len(text), 100) {
		for _, turn := range []byte{1, 2, 0x10, 0x40, 0x80, 0xff} {
			ask(text[:i] + oneByte(int(text[i]^turn)) + text[i+1:])
		}
		ask(text[:i] + text[i+1:])
		for _, more := range []string{"\x00", "\x01", "\x80", "\xc0"} {
			ask(text[:i] + more + text[i:])
		}
	}
}

// shortTexts asks of many texts of these bytes.
func shortTexts(seed int64, bytes string, ask func(s string)) {
	source := rand.New(rand.NewSource(seed))
	for range 50000 {
		s := make([]byte, 1+source.Intn(9))
		for i := range s {
			s[i] = bytes[source.Intn(len(bytes))]
		}
		ask(string(s))
	}
}

// notWhole asks of a text with something behind it, and of what it begins with.
func notWhole(text string, ask func(why, s string)) {
	for _, behind := range behinds[1:] {
		ask("something behind", text+behind)
	}
	for i := range min(len(text), 100) {
		ask("cut off", text[:i])
	}
	ask("cut off", text[:len(text)-1])
}

func TestTurnedTextsOfBatches(t *testing.T) {
	again := func(s string) { wantBatchAgain(t, s) }
	for i, b := range rightBatches() {
		text := impl.BatchText(b)
		notWhole(text, func(why, s string) { wantNoBatch(t, why, s) })
		if i%4 == 0 { // the others have the same shapes
			turnedTexts(text, again)
		}
	}
	shortTexts(10, "\x00\x01\x02a1\x80\x81\x82\xc0\xc1\xc4\xc5\xc6\xc7\xc8", again)
}

// plainOps: the pairs behind these ops, however many there are.
func plainOps(pairs []impl.Pair, ops []impl.Op) []impl.Pair {
	for _, op := range ops {
		pairs = plainSet(pairs, op.Key, op.Value)
	}
	return pairs
}

// opsWithRoom: a copy of the ops with spare room behind it, and all of that room.
func opsWithRoom(ops []impl.Op) (copied, room []impl.Op) {
	room = append(slices.Clone(ops), impl.Op{Key: "spare"}, impl.Op{Key: "spare"})
	return room[:len(ops)], room
}

// wantPairsBehind: what the ops make of the pairs one by one, or a refusal where that is not right.
func wantPairsBehind(t *testing.T, list []impl.Pair, ops []impl.Op) {
	t.Helper()
	want := plainOps(list, ops)
	ok := len(want) <= impl.MaxPairs
	if !ok {
		want = nil
	}
	room := append(slices.Clone(list), pairsOf("spare", "", "spare", "")...)
	given, opsRoom := opsWithRoom(ops)
	kept, keptOps := slices.Clone(room), slices.Clone(opsRoom)
	behind, done := impl.ApplyPairs(room[:len(list)], withOps(given...))
	if done != ok || !slices.Equal(behind, want) {
		t.Errorf("ApplyPairs of %d pairs %.60q, %s: %d pairs %.60q, %v; want %d %.60q, %v", len(list), list, shownOps(ops), len(behind), behind, done, len(want), want, ok)
	}
	for i := range behind {
		behind[i] = impl.Pair{Key: "written"}
	}
	behind = append(behind, impl.Pair{Key: "written"})
	if !slices.Equal(room, kept) || !slices.Equal(opsRoom, keptOps) {
		t.Error("ApplyPairs shares memory or writes into an argument")
	}
}

func wantNotDone(t *testing.T, why string, list []impl.Pair, b impl.Batch) {
	t.Helper()
	if behind, ok := impl.ApplyPairs(list, b); ok || len(behind) != 0 {
		t.Errorf("ApplyPairs, %s: %d pairs %.60q, %s: %.60q, %v", why, len(list), list, shownBatch(b), behind, ok)
	}
}

func TestOpsOneBehindTheOther(t *testing.T) {
	list := pairsOf("b", "1", "d", "2")
	for _, c := range []struct {
		ops  []impl.Op
		want []impl.Pair
	}{
		{opsOf("a", "x"), pairsOf("a", "x", "b", "1", "d", "2")},
		{opsOf("c", "x"), pairsOf("b", "1", "c", "x", "d", "2")},
		{opsOf("e", "x"), pairsOf("b", "1", "d", "2", "e", "x")},
		{opsOf("b", "x"), pairsOf("b", "x", "d", "2")},
		{opsOf("b", ""), pairsOf("d", "2")},
		{opsOf("d", ""), pairsOf("b", "1")},
		{opsOf("b", "", "d", ""), nil},
		{opsOf("a", ""), list},
		{opsOf("", ""), list},
		{opsOf(letters(12), ""), list},
		{opsOf("b", "1"), list},
		{opsOf("a", "x", "a", "y"), pairsOf("a", "y", "b", "1", "d", "2")},
		{opsOf("a", "x", "a", "y", "a", ""), list},
		{opsOf("a", "x", "a", "y", "a", "", "a", "z"), pairsOf("a", "z", "b", "1", "d", "2")},
		{opsOf("b", "x", "b", "y", "b", "", "b", "z"), pairsOf("b", "z", "d", "2")},
		{opsOf("b", "", "b", "1"), list},
		{opsOf("b", "", "b", ""), pairsOf("d", "2")},
		{opsOf("a", "", "a", "x"), pairsOf("a", "x", "b", "1", "d", "2")},
		{opsOf("", "x", "\x00", "y", "", "", "\xff", letters(60)), pairsOf("\x00", "y", "b", "1", "d", "2", "\xff", letters(60))},
		{opsOf("d", "", "c", "3", "b", "4", "d", "5", "c", "", "a", "6"), pairsOf("a", "6", "b", "4", "d", "5")},
	} {
		behind, ok := impl.ApplyPairs(list, withOps(c.ops...))
		if !ok || !slices.Equal(behind, c.want) {
			t.Errorf("ApplyPairs of %s: %q, %v; want %q", shownOps(c.ops), behind, ok, c.want)
		}
		wantPairsBehind(t, list, c.ops)
		wantPairsBehind(t, nil, c.ops)
	}
	for _, pairs := range pairSets() {
		for n := 1; n <= impl.MaxBatch; n++ {
			wantPairsBehind(t, pairs, someOps(n))
		}
		for _, pair := range pairs {
			wantPairsBehind(t, pairs, opsOf(pair.Key, ""))
			wantPairsBehind(t, pairs, opsOf(pair.Key, "another one"))
			wantPairsBehind(t, pairs, opsOf(pair.Key, "", pair.Key, pair.Value))
		}
	}
}

// Who sends a batch, and its number, say nothing about the pairs.
func TestPairsBehindWhateverNumber(t *testing.T) {
	for _, b := range rightBatches() {
		behind, ok := impl.ApplyPairs(pairsOf("a", "1", "b", "2"), b)
		if want := plainOps(pairsOf("a", "1", "b", "2"), b.Ops); !ok || !slices.Equal(behind, want) {
			t.Errorf("ApplyPairs of %s: %.60q, %v; want %.60q", shownBatch(b), behind, ok, want)
		}
	}
}

func TestPairsBeyondTheLimitInBetween(t *testing.T) {
	full := numberPairs(60)
	more := func(n int) []impl.Op {
		var ops []impl.Op
		for i := range n {
			ops = append(ops, impl.Op{Key: "x" + oneByte(i), Value: "1"})
		}
		return ops
	}
	var cuts []impl.Op
	for _, pair := range full {
		cuts = append(cuts, impl.Op{Key: pair.Key, Cut: true})
	}
	for n := 1; n <= 6; n++ {
		wantPairsBehind(t, full, append(more(n), cuts[:n]...))
		wantPairsBehind(t, full, append(more(n), cuts[60-n:]...))
		wantPairsBehind(t, full, append(slices.Clone(cuts[:n]), more(n)...))
		if behind, ok := impl.ApplyPairs(full, withOps(append(more(n), cuts[:n]...)...)); !ok || len(behind) != 60 {
			t.Errorf("ApplyPairs with %d pairs more and %d less: %d, %v", n, n, len(behind), ok)
		}
		wantNotDone(t, "61 at the end", full, withOps(append(more(n), cuts[:n-1]...)...))
		wantNotDone(t, "61 at the end", full, withOps(append(slices.Clone(cuts[:n-1]), more(n)...)...))
		wantNotDone(t, "more than 60 at the end", full, withOps(more(n)...))
		wantPairsBehind(t, full[n:], more(n))
		wantNotDone(t, "61 at the end", full[n:], withOps(more(n+1)...))
	}
	wantPairsBehind(t, full[12:], more(12))
	wantNotDone(t, "61 at the end", full[11:], withOps(more(12)...))
	wantPairsBehind(t, full, opsOf("x", "1", "y", "1", "x", "", "y", ""))
	wantPairsBehind(t, full, opsOf("0", "x", "59", "y"))
	wantNotDone(t, "61 at the end", full, withOps(opsOf("none", "", "x", "1")...))
	wantNotDone(t, "61 at the end", full, withOps(opsOf("0", "", "0", "", "x", "1", "y", "2")...))
}

func TestNothingIsDone(t *testing.T) {
	for _, list := range wrongPairs() {
		wantNotDone(t, "wrong pairs", list, withOps(opsOf("a", "1")...))
		wantNotDone(t, "wrong pairs", list, withOps(opsOf("none", "")...))
		// What is wrong now is refused, though it would be right then.
		last := list[len(list)-1].Key
		wantNotDone(t, "wrong pairs", list, withOps(impl.Op{Key: last[:min(len(last), 12)], Value: "1"}))
		wantNotDone(t, "wrong pairs", list, withOps(impl.Op{Key: last[:min(len(last), 12)], Cut: true}))
	}
	for _, b := range wrongBatches() {
		for _, list := range [][]impl.Pair{nil, pairsOf("a", "1", "b", "2"), numberPairs(60), numberPairs(61)} {
			wantNotDone(t, "a wrong batch", list, b)
		}
	}
}

// wantParted: the ops in two batches, wherever they are parted, and one by one, come to what they come to in one.
func wantParted(t *testing.T, list []impl.Pair, ops []impl.Op) {
	t.Helper()
	whole, ok := impl.ApplyPairs(list, withOps(ops...))
	if !ok {
		t.Fatalf("ApplyPairs of %.60q, %s refuses", list, shownOps(ops))
	}
	for place := 1; place < len(ops); place++ {
		half, ok := impl.ApplyPairs(list, withOps(ops[:place]...))
		if !ok {
			t.Fatalf("ApplyPairs of %.60q, %s refuses", list, shownOps(ops[:place]))
		}
		both, ok := impl.ApplyPairs(half, withOps(ops[place:]...))
		if !ok || !slices.Equal(both, whole) {
			t.Errorf("ApplyPairs of %.60q, %s, parted at %d: %.60q, %v; want %.60q", list, shownOps(ops), place, both, ok, whole)
		}
	}
	single, set := list, list
	for _, op := range ops {
		single, ok = impl.ApplyPairs(single, withOps(op))
		set = withPair(t, set, op.Key, op.Value)
		if !ok || !slices.Equal(single, set) {
			t.Errorf("ApplyPairs of %s alone: %.60q, %v; SetPair: %.60q", shownOps([]impl.Op{op}), single, ok, set)
		}
	}
	if !slices.Equal(single, whole) {
		t.Errorf("ApplyPairs of %.60q, %s, one by one: %.60q; want %.60q", list, shownOps(ops), single, whole)
	}
}

// randomOps: n ops on few keys, so that some meet.
func randomOps(source *rand.Rand, n int) []impl.Op {
	var ops []impl.Op
	for range n {
		key := make([]byte, source.Intn(4))
		for i := range key {
			key[i] = "\x00\x01\x10ab"[source.Intn(5)]
		}
		op := impl.Op{Key: string(key), Value: letters(1 + source.Intn(60))}
		if source.Intn(3) == 0 {
			op = impl.Op{Key: string(key), Cut: true}
		}
		ops = append(ops, op)
	}
	return ops
}

func TestBatchesInTwoParts(t *testing.T) {
	source := rand.New(rand.NewSource(11))
	for _, pairs := range pairSets() {
		if len(pairs) > 48 {
			pairs = pairs[:48]
		}
		wantParted(t, pairs, opsOf("a", "1", "a", "2", "a", "", "a", "3"))
		wantParted(t, pairs, someOps(12))
		for range 20 {
			wantParted(t, pairs, randomOps(source, 1+source.Intn(12)))
		}
	}
	// Where a part by itself passes the limit it is refused, though the whole is not.
	full := numberPairs(60)
	ops := opsOf("x", "1", "0", "")
	wantPairsBehind(t, full, ops)
	wantNotDone(t, "61 at the end", full, withOps(ops[:1]...))
}

// wantStoreBehind: the store with the nodes of the pairs behind the ops, and their root.
func wantStoreBehind(t *testing.T, list []impl.Stored, pairs []impl.Pair, b impl.Batch) ([]impl.Stored, []impl.Pair, string) {
	t.Helper()
	_, root := plainTexts(t, pairs)
	then := plainOps(pairs, b.Ops)
	texts, want := plainTexts(t, then)
	wanted := storeOf(append(texts, textsIn(list)...)...)
	given, room := withRoom(list)
	ops, opsRoom := opsWithRoom(b.Ops)
	kept, keptOps := slices.Clone(room), slices.Clone(opsRoom)
	all, next, ok := impl.ApplyStore(given, root, impl.Batch{Client: b.Client, Number: b.Number, Ops: ops})
	if !ok || next != want || !slices.Equal(all, wanted) {
		t.Errorf("ApplyStore of %.60q, %s: %x, %d nodes, %v; want %x, %d", pairs, shownBatch(b), next, len(all), ok, want, len(wanted))
	}
	behind, ok := impl.ApplyPairs(pairs, b)
	if again, _ := impl.RootOf(behind); !ok || again != next {
		t.Errorf("ApplyPairs of %.60q, %s: %x, %v; ApplyStore: %x", pairs, shownBatch(b), again, ok, next)
	}
	wantPairsAt(t, all, next, behind)
	wantPairsAt(t, all, root, pairs)
	for i := range all {
		all[i] = impl.Stored{}
	}
	if !slices.Equal(room, kept) || !slices.Equal(opsRoom, keptOps) {
		t.Error("ApplyStore shares memory or writes into an argument")
	}
	return wanted, then, want
}

func wantNoStoreBehind(t *testing.T, why string, list []impl.Stored, root string, b impl.Batch) {
	t.Helper()
	if all, next, ok := impl.ApplyStore(list, root, b); ok || next != "" || len(all) != 0 {
		t.Errorf("ApplyStore, %s: %d nodes, %x, %s: %d nodes, %x, %v", why, len(list), root, shownBatch(b), len(all), next, ok)
	}
}

// The digests were worked out apart from the program.
func TestKnownStoresBehindBatches(t *testing.T) {
	var list []impl.Stored
	root := impl.EmptyRoot()
	for _, c := range []struct {
		b     impl.Batch
		root  string
		count int
		all   string
	}{
		{batchOf(7, 1, "dog", "puppy", "do", "verb"), "b804ed1ea4c7b8b2de8c4355823111cb1a2ee4b32bf5a4ca6ab534efea623963", 3, "0e64b5912e157b95a299a2d4a59bb9a56221f55619cfa348e9e844c56520604a"},
		{batchOf(3, 5, "doge", "coin", "", "root", "horse", "stallion"), "24e87a564854ef3fd118611057c27a6cd793fd0a418cf7961f11c807f48e8254", 11, "a82e6caaf86b172d4ae27000128888f30b1a2ae692fb33df492b2a2854790c5f"},
		{batchOf(7, 2, "do", "", "none", "", "dog", "hound"), "1533db74344eee1e86df22651c02ddd5dd49fad67fe815ca14401fa8d938a0d5", 15, "caf4778ab53a91eec99c865d2fb766504b105477ef4acb5616c5058ce87c4b0c"},
		{batchOf(impl.MaxNumber, impl.MaxNumber, "x", "1", "x", "2", "x", "", "x", "3", "", "", "dog", ""), "4296e45c9438685e1db3c3c426cb29b0f7e5237ffa790eb68137ff448aa43fde", 19, "b198267302d955df997e28bfea7b9d2e43b2d1d6e8a657ecb0c4430068384b42"},
		{batchOf(1, 1, strings.Repeat("a", 12), letters(60), "doge", "", "horse", "", "x", ""), "83df7a257cb2ac7695e1e34cb3af5f18520449bb0a5849f010daa11d96dfd3d9", 20, "b29d48faab1e4df409f2a92bb189b0a4ad305e8e3058d6bd3dd985be3bad8781"},
		{batchOf(1, 2, strings.Repeat("a", 12), ""), "76be8b528d0075f7aae98d6fa57a6d3c83ae480a8469e668d7b0af968995ac71", 20, "b29d48faab1e4df409f2a92bb189b0a4ad305e8e3058d6bd3dd985be3bad8781"},
	} {
		var ok bool
		list, root, ok = impl.ApplyStore(list, root, c.b)
		if !ok || impl.Hex(root) != c.root || len(list) != c.count || shownStore(list) != c.all {
			t.Fatalf("ApplyStore of %s: %x, %d nodes %s, %v", shownBatch(c.b), root, len(list), shownStore(list), ok)
		}
	}
}

func TestStoresBehindBatches(t *testing.T) {
	source := rand.New(rand.NewSource(12))
	for _, pairs := range pairSets() {
		list := trieNodes(t, pairs)
		for _, ops := range [][]impl.Op{opsOf("a", "1"), opsOf("none", ""), opsOf("a", "1", "a", ""), opsOf("a", "1", "a", "2", "a", "", "a", "3"), someOps(12), randomOps(source, 12), randomOps(source, 5)} {
			if len(plainOps(pairs, ops)) > impl.MaxPairs {
				wantNoStoreBehind(t, "more than 60 pairs", list, trieRoot(t, pairs), withOps(ops...))
				continue
			}
			wantStoreBehind(t, list, pairs, withOps(ops...))
			wantStoreBehind(t, storeOf(append(leafTexts(0, 50), textsIn(list)...)...), pairs, withOps(ops...))
		}
		var cuts []impl.Op
		for _, pair := range pairs {
			cuts = append(cuts, impl.Op{Key: pair.Key, Cut: true})
		}
		if len(cuts) > 0 && len(cuts) <= impl.MaxBatch {
			if _, _, root := wantStoreBehind(t, list, pairs, withOps(cuts...)); root != impl.EmptyRoot() {
				t.Errorf("ApplyStore, all pairs cut: %x", root)
			}
		}
	}
	for _, b := range rightBatches()[:40] {
		wantStoreBehind(t, nil, nil, b)
	}
	// One store behind many batches: each root that there was still has its pairs.
	for range 3 {
		var list []impl.Stored
		var pairs []impl.Pair
		past := map[string][]impl.Pair{}
		root := impl.EmptyRoot()
		for number := int64(1); len(list) < 200; number++ {
			b := impl.Batch{Client: 1 + number%7, Number: number, Ops: randomOps(source, 1+source.Intn(4))}
			list, pairs, root = wantStoreBehind(t, list, pairs, b)
			past[root] = pairs
		}
		for root, pairs := range past {
			wantPairsAt(t, list, root, pairs)
		}
	}
}

func TestStoresUpTo400NodesBehindABatch(t *testing.T) {
	pairs := pairsOf("do", "verb", "dog", "puppy")
	root, old := trieRoot(t, pairs), textsIn(trieNodes(t, pairs))
	filled := func(n int) []impl.Stored { return storeOf(append(leafTexts(0, n-len(old)), old...)...) }
	for _, c := range []struct {
		b     impl.Batch
		makes int
	}{
		{batchOf(1, 1, "dog", "hound"), 3}, {batchOf(1, 1, "a", "1"), 4}, {batchOf(1, 1, "do", ""), 1}, {batchOf(1, 1, "none", ""), 0},
		{batchOf(1, 1, "a", "1", "a", ""), 0}, {batchOf(1, 1, "dog", "x", "dog", "puppy"), 0}, {batchOf(1, 1, "do", "", "dog", ""), 0}, {batchOf(1, 1, "dog", "", "do", "", "a", "1"), 1},
	} {
		all, _, _ := wantStoreBehind(t, filled(400-c.makes), pairs, c.b)
		if len(all) != 400 {
			t.Errorf("%s: %d nodes", shownBatch(c.b), len(all))
		}
		if c.makes > 0 {
			wantNoStoreBehind(t, "401 nodes", filled(401-c.makes), root, c.b)
		}
	}
	wantStoreBehind(t, storeOf(leafTexts(0, 399)...), nil, batchOf(1, 1, "a", "1"))
	wantNoStoreBehind(t, "401 nodes", storeOf(leafTexts(0, 400)...), impl.EmptyRoot(), batchOf(1, 1, "a", "1"))
	wantStoreBehind(t, storeOf(leafTexts(0, 400)...), nil, batchOf(1, 1, "a", "1", "a", ""))
}

func TestNoStoreBehindABatch(t *testing.T) {
	lostRoots(t, func(why string, list []impl.Stored, root string) {
		t.Helper()
		for _, b := range []impl.Batch{batchOf(1, 1, "a", "1"), batchOf(1, 1, "do", ""), batchOf(1, 1, "none", ""), batchOf(1, 1, "do", "", "dog", "", "horse", "")} {
			wantNoStoreBehind(t, why, list, root, b)
		}
	})
	pairs := pairsOf("do", "verb", "dog", "puppy", "horse", "stallion")
	list, root := trieNodes(t, pairs), trieRoot(t, pairs)
	for _, b := range wrongBatches() {
		wantNoStoreBehind(t, "a wrong batch", list, root, b)
		wantNoStoreBehind(t, "a wrong batch", nil, impl.EmptyRoot(), b)
	}
	full := numberPairs(60)
	wantStoreBehind(t, trieNodes(t, full), full, batchOf(1, 1, "x", "1", "0", ""))
	wantNoStoreBehind(t, "61 pairs", trieNodes(t, full), trieRoot(t, full), batchOf(1, 1, "x", "1"))
}

func TestBatchesAreNewMemory(t *testing.T) {
	ops, room := opsWithRoom(someOps(12))
	kept := slices.Clone(room)
	text := impl.BatchText(withOps(ops...))
	impl.BatchOk(withOps(ops...))
	if !slices.Equal(room, kept) {
		t.Error("BatchText or BatchOk writes into its argument")
	}
	first, _ := impl.ReadBatch(text)
	first.Ops[0] = impl.Op{}
	first.Ops = append(first.Ops, impl.Op{})
	wantBatch(t, text, withOps(someOps(12)...))
}
